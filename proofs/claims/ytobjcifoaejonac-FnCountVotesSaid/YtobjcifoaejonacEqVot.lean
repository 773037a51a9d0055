/- laws.equalVoters, where both lists read the same. -/
import Derived.Test.YtobjcifoaejonacVotMem
import Derived.Test.YtobjcifoaejonacLawAskM
import Derived.Deep.RegionHeld3
set_option linter.unusedSimpArgs false
set_option linter.unusedVariables false
namespace Go.Proofs.Ytobjcifoaejonac
open Go.RowKit

set_option maxRecDepth 100000 in
set_option maxHeartbeats 1600000 in
theorem equalVoters_same (lo hi n c lo' hi' c' : Nat) (A A' : Option Addr) (fs : List Flw) (w : World) (hr : Vls w lo hi A n fs) (hB : hi ≤ w.heap.size) (hn : n ≤ 1048576) (hr' : Vls w lo' hi' A' n fs) (hB' : hi' ≤ w.heap.size) :
    Calls Try.prog 31 #[.slice A n c, .slice A' n c'] w fun e w' => e = .returned (.bool true) ∧ Below w.heap.size w w' := by
  have HR := Lib.hid hr
  have HR' := Lib.hid hr'
  have hnn : ((n : Int) != (n : Int)) = false := by simp
  clear hr hr'
  go_enter Try.func31, Try.ntmps31
  go_wp2
  go_loopw [5] (fun iv wr => ∃ (k : Nat), k ≤ n ∧ iv = .int .i64 k ∧ Hid (Below w.heap.size w wr))
     (fun iv _ => n - (intOf iv).toNat)
  case atStart => exact ⟨0, by omega, rfl, Below.refl _ _⟩
  case round =>
    obtain ⟨k, hk, rfl, HB⟩ := hrel
    have hsz := HB.out.size
    by_cases hlt : k < n
    case neg =>
      obtain rfl : k = n := by omega
      go_wp2
      go_ret
      exact ⟨rfl, HB.out⟩
    case pos =>
      obtain ⟨b, off, x, y, ps, Ap, m, cp, hA, hbl, _, hg, hc0, hc1, hc2, hrp, hm, _⟩ := (HR.out.keep HB.out hB).at hlt
      obtain ⟨b', off', x', y', ps', Aq, m', cq, hA', hbl', _, hg', hd0, hd1, hd2, hrq, _, _⟩ := (HR'.out.keep HB.out hB').at hlt
      subst hA
      subst hA'
      have hee := Option.some.inj (hg.symm.trans hg')
      injection hee with hx1 hee
      injection hee with hx2 hx3
      subst hx1
      subst hx2
      subst hx3
      have hmm : m' = m := by rw [← hrp.len2, ← hrq.len2]
      subst hmm
      have HRP := Lib.hid hrp
      have HRQ := Lib.hid hrq
      clear hg hg' hrp hrq
      have hkn : (k : Int) < (n : Int) := by omega
      have hk0 : (0 : Int) ≤ (k : Int) := by omega
      have HS := Lib.hid (show ∀ wx, Below wr.heap.size wr wx → wx.cell? ⟨b, off + k * 3, none⟩ = some (.int .i64 x) ∧ wx.cell? ⟨b, off + k * 3 + 1, none⟩ = some (.int .i64 y) ∧ wx.cell? ⟨b, off + k * 3 + 2, none⟩ = some (.slice Ap m' cp) ∧ wx.cell? ⟨b', off' + k * 3, none⟩ = some (.int .i64 x) ∧ wx.cell? ⟨b', off' + k * 3 + 1, none⟩ = some (.int .i64 y) ∧ wx.cell? ⟨b', off' + k * 3 + 2, none⟩ = some (.slice Aq m' cq) from fun wx hb =>
        ⟨(hb.cell (show b < wr.heap.size by omega)).trans hc0, (hb.cell (show b < wr.heap.size by omega)).trans hc1, (hb.cell (show b < wr.heap.size by omega)).trans hc2, (hb.cell (show b' < wr.heap.size by omega)).trans hd0, (hb.cell (show b' < wr.heap.size by omega)).trans hd1, (hb.cell (show b' < wr.heap.size by omega)).trans hd2⟩)
      have HC := Lib.hid (show ∀ wx, Below wr.heap.size wr wx → Calls Try.prog 18 #[.agg #[.int .i64 x, .int .i64 y, .slice Ap m' cp], .agg #[.int .i64 x, .int .i64 y, .slice Aq m' cq]] wx fun e w' => e = .returned (.bool true) ∧ Below wr.heap.size wr w' from fun wx hb =>
        (equalVoter_same x y lo hi m' cp lo' hi' cq Ap Aq ps wx (HRP.out.keep hb (by omega)) (Nat.le_trans (by omega) hb.size) hm (HRQ.out.keep hb (by omega)) (Nat.le_trans (by omega) hb.size)).mono fun e w' ⟨h1, h2⟩ => ⟨h1, up hb h2⟩)
      go_wp2_with (fail)
      go_region_held3 (fun wx => wx.cell? ⟨b, off + k * 3, none⟩ = some (.int .i64 x) ∧ wx.cell? ⟨b, off + k * 3 + 1, none⟩ = some (.int .i64 y) ∧ wx.cell? ⟨b, off + k * 3 + 2, none⟩ = some (.slice Ap m' cp) ∧ wx.cell? ⟨b', off' + k * 3, none⟩ = some (.int .i64 x) ∧ wx.cell? ⟨b', off' + k * 3 + 1, none⟩ = some (.int .i64 y) ∧ wx.cell? ⟨b', off' + k * 3 + 2, none⟩ = some (.slice Aq m' cq))
        (first | exact HS.out _ (Below.refl _ _) | exact HS.out _ (up_drew (Below.refl _ _)) | exact HS.out _ HB6.out)
        ((first
          | (go_at_call 18; (with_reducible refine (HC.out _ (up_drew (Below.refl _ _))).mono ?_); rintro e w6 ⟨rfl, hb6⟩; have HB6 := Lib.hid hb6; clear hb6)
          | fail "no arm"))
      all_goals
        have HB7 := Lib.hid (up HB.out HB6.out)
        go_wp2
        go_roundw
        case rel => exact ⟨k + 1, by omega, by go_num, HB7⟩
        case measure => simp [intOf]; omega
end Go.Proofs.Ytobjcifoaejonac
