/- The arguments of CountVotes. -/
import Derived.Test.YtobjcifoaejonacDrawV
import Derived.Test.YtobjcifoaejonacVotMem
set_option linter.unusedSimpArgs false
set_option linter.unusedVariables false
namespace Go.Proofs.Ytobjcifoaejonac
open Go.RowKit

theorem VlsO.but {w w' : World} {base r : Nat} {v : Value} {n : Nat} {fs : List Flw} (h : VlsO w base v n fs) (hG : But r w w') (hr : r < base) : VlsO w' base v n fs := by
  obtain ⟨hl, hs, hl', ho, hc⟩ := h
  exact ⟨hl, hs, hl', own_but ho hG hr, fun k f x e e' => ⟨((hc k f x e e').1.but hG (Nat.le_refl _) hr).wide (Nat.le_refl _) hG.size, (hc k f x e e').2⟩⟩
/-- Drawn voters, a candidate, a term, and the candidate's log. -/
def DrawCV (w : World) (e : Ending) (w' : World) : Prop :=
  ∃ (A1 : Option Addr) (m c1 : Nat) (fs : List Flw) (cand term : Int) (A2 : Option Addr) (m2 c2 : Nat) (qs : List En), e = .returned (.tuple #[.slice A1 m c1, .int .i64 cand, .int .i64 term, .slice A2 m2 c2]) ∧ m ≤ 8 ∧ Vls w' w.heap.size w'.heap.size A1 m fs ∧ (-10000 ≤ cand ∧ cand ≤ 10000) ∧ (-10000 ≤ term ∧ term ≤ 10000) ∧ m2 ≤ 20 ∧ m2 ≤ c2 ∧ Rd w' w.heap.size w'.heap.size 2 A2 m2 (pvs qs) ∧ Below w.heap.size w w'
set_option maxRecDepth 100000 in
set_option maxHeartbeats 3200000 in
theorem drawCountVotes_any (n c : Nat) (A : Option Addr) (xs : List Int) (w : World) (hr : Rd w 0 w.heap.size 1 A n (bvs xs)) (hby : Bytes xs) (hn : n ≤ 1048576) (hc : n ≤ c) (hc2 : c ≤ 9223372036854775807) :
    Calls Try.prog 28 #[.slice A n c] w (DrawCV w) := by
  obtain ⟨i0, hi0, hz0, hz1, hz2⟩ := info_parts infoVoter
  go_enter Try.func28, Try.ntmps28
  go_wp2_with (fail)
  (with_reducible refine (newReader_any n c A xs _ hr hby hn hc hc2).mono ?_)
  rintro e w1 ⟨r, n', c', xs', rfl, hrw, hR1, hb1⟩
  have hrl := hR1.lt
  have HB1 := Lib.hid hb1
  have hs1 := hb1.size
  have hown0 : (w1.alloc (.cells #[] 25)).ownsRow w1.heap.size 25 3 (.slice (some ⟨w1.heap.size, 0, none⟩) 0 0) 0 [] := World.ownsRow_made w1 #[] 0 (Nat.le_refl _) (by unfold maxLen; omega) (by simp)
  have HV2 := Lib.hid (VlsO.made hown0)
  have HR2 := Lib.hid (rdr_alloc hR1 (.cells #[] 25))
  have HG2 := Lib.hid (but_alloc (but_refl r w1) (.cells #[] 25))
  have HS2 := Lib.hid (show w1.heap.size + 1 = (w1.alloc (.cells #[] 25)).heap.size by simp)
  clear hr hb1 hown0 hR1
  go_wp2_with (fail)
  generalize w1.alloc (.cells #[] 25) = w2 at *
  (with_reducible refine (one_mem r A n' c' xs' 0 [3, 5, 2, 1, 0, 7, 8] 7 (w1.heap.size + 1) _ w2 HR2.out (by omega) rfl (by omega) (by omega) HS2.out (by simp)).mono ?_)
  rintro e w3 ⟨q, rfl, hq, hR3, hG3⟩
  obtain ⟨j0, rfl, hj0⟩ : ∃ j0 : Nat, q = (j0 : Int) ∧ j0 ≤ 8 := ⟨q.toNat, by simp at hq; omega, by simp at hq; omega⟩
  have HV3 := Lib.hid (HV2.out.but hG3 hrl)
  have HR3 := Lib.hid hR3
  have HG3 := Lib.hid (but_trans HG2.out hG3)
  clear hR3 hG3 HV2 HR2 HG2 hq HS2
  go_wp2
  go_loopw [7, 8] (fun vv nv wr => ∃ (j m : Nat) (p : Int) (fs : List Flw), nv = .int .i64 j ∧ m + j ≤ 8 ∧ p ≤ 1 + 100 * (m : Int) ∧ Hid (VlsO wr w1.heap.size vv m fs) ∧ Hid (Rdr wr r A n' c' xs' p) ∧ Hid (But r w1 wr))
     (fun _ nv _ => (intOf nv).toNat)
  case atStart => exact ⟨j0, 0, 0 + 1, [], rfl, by omega, by omega, HV3.out, HR3.out, HG3.out⟩
  case round =>
    clear HV3 HR3 HG3
    obtain ⟨j, m, p, fs, rfl, hmj, hp, HV, HR, HG⟩ := hrel
    have hsz := HG.out.size
    by_cases hlt : 0 < j
    case pos =>
      have hjd : (0 : Int) < (j : Int) := by omega
      have hjw : IntKind.i64.wrap ((j : Int) - 1) = ((j - 1 : Nat) : Int) := by rw [IntWalk.i64_in _ (by omega)]; omega
      go_wp2_with (fail)
      (with_reducible refine (anyVoter_any r A n' c' xs' p wr HR.out (by omega)).mono ?_)
      rintro e w4 ⟨x, y, A3, m3, c3, ps, p4, rfl, hx, hy, hm3, hk3, hsm, ho4, hR4, hp4, hG4⟩
      have hz4 := hG4.size
      have HVLT := Lib.hid HV.out.lt
      have HVE := Lib.hid ((HV.out.but hG4 hrl).keep (up_alloc (Below.refl _ w4) (.cells #[.int .i64 x, .int .i64 y, .slice A3 m3 c3] 25)))
      obtain ⟨hvl, hs, hvl', hown, hcc⟩ := HVE.out
      have HCC := Lib.hid hcc
      have HA3 := Lib.hid (((Rd.of_own ho4).keep (up_alloc (Below.refl _ w4) (.cells #[.int .i64 x, .int .i64 y, .slice A3 m3 c3] 25)) (Nat.le_refl _)).wide (lo' := w1.heap.size) (hi' := (w4.alloc (.cells #[.int .i64 x, .int .i64 y, .slice A3 m3 c3] 25)).heap.size) (by omega) (by simp))
      have HAP := Lib.hid (show ∀ b off, A3 = some ⟨b, off, none⟩ → 0 < m3 → u7.ownBlock ≠ some b from by
        intro b2 off2 e hp e3
        obtain ⟨g9, c9, e4, h4, _⟩ := own_first ho4 (by omega)
        injection e4 with e4
        rw [e] at e4
        injection e4 with e4
        injection e4 with e5 _
        have := HVLT.out _ e3
        omega)
      have HR4 := Lib.hid (rdr_alloc hR4 (.cells #[.int .i64 x, .int .i64 y, .slice A3 m3 c3] 25))
      have HG4 := Lib.hid (but_alloc (but_trans HG.out hG4) (.cells #[.int .i64 x, .int .i64 y, .slice A3 m3 c3] 25))
      clear hcc HVE hsm ho4 hR4 hG4 HVLT
      go_wp2_with (at_builtin; refine wpList_append_own_at _ rfl _ _ 38 rfl w1.heap.size 25 i0 _ 3 40 Try.underlying38 hi0 hz0 hz1 hz2 rfl (by decide) _ _ _ rfl hown _ 1 1 [.int .i64 x, .int .i64 y, .slice A3 m3 c3] rfl rfl (World.news_of_block (heap_alloc_new _ _)) ?d2 ?d3 ?d4 ?d5 ?_)
      case d2 => first | exact ⟨rfl, rfl, rfl⟩ | (intro v hv; simp at hv; rcases hv with rfl | rfl | rfl <;> rfl)
      case d3 => unfold maxLen; omega
      case d4 => omega
      case d5 => first | omega | (simp; omega)
      intro v9 w9 hown9 hg9 _ hat9
      have HV9 := Lib.hid (VlsO.snoc (N := w4.heap.size + 1) (by simp) (x := x) (y := y) (ls := ps) hvl hvl' HCC.out hg9 hat9 hown9 HA3.out (by omega) hk3 HAP.out)
      have HR9 := Lib.hid (rdr_grown HR4.out hown hg9 hrl)
      have HG9 := Lib.hid (but_grown HG4.out hown hg9 (Nat.le_refl _))
      clear hown9 hg9 hat9 hown HCC HA3 hvl hvl' HR4 HG4
      go_wp2
      go_roundw
      case rel => exact ⟨j - 1, m + 1, p4, _, by first | rfl | go_num, by omega, by omega, HV9, HR9, HG9⟩
      case measure => simp [intOf]; omega
    case neg =>
      have hjd : decide ((0 : Int) < (j : Int)) = false := decide_eq_false (by omega)
      go_wp2_with (fail)
      (with_reducible refine (one_lits r A n' c' xs' p [0, 1, 2, 7] 4 _ _ wr HR.out (by omega) rfl (by omega) (by omega) (by simp) rfl (by simp)).mono ?_)
      rintro e w5 ⟨cand, p5, rfl, a0, a1, hR5, hp5, hG5⟩
      have HV5 := Lib.hid (HV.out.but hG5 hrl)
      have HR5 := Lib.hid hR5
      have HG5 := Lib.hid (but_trans HG.out hG5)
      have hz5 := hG5.size
      clear hR5 hG5 HV HR HG
      go_wp2_with (fail)
      (with_reducible refine (one_lits r A n' c' xs' p5 [1, 3, 5, 6, 0] 5 _ _ w5 HR5.out (by omega) rfl (by omega) (by omega) (by simp) rfl (by simp)).mono ?_)
      rintro e w6 ⟨term, p6, rfl, b0, b1, hR6, hp6, hG6⟩
      have HV6 := Lib.hid (HV5.out.but hG6 hrl)
      have HR6 := Lib.hid hR6
      have HG6 := Lib.hid (but_trans HG5.out hG6)
      have hz6 := hG6.size
      clear hR6 hG6 HV5 HR5 HG5
      go_wp2_with (fail)
      (with_reducible refine (anyLog_any r A n' c' xs' p6 w6 HR6.out (by omega)).mono ?_)
      rintro e w7 ⟨v7, m7, qs, p7, rfl, ho7, _, hm7, _, _, hG7⟩
      obtain ⟨A7, c7, rfl, hk7, _⟩ := own_cap ho7
      have hz7 := hG7.size
      have HV7 := Lib.hid (HV6.out.but hG7 hrl)
      have HRD := Lib.hid ((Rd.of_own ho7).wide (lo' := w.heap.size) (by omega) (Nat.le_refl _))
      have HBL := Lib.hid (but_mineK HB1.out (but_trans HG6.out hG7) hrw)
      obtain ⟨A9, c9, rfl, _, hvr⟩ := HV7.out.form
      have HVR := Lib.hid (hvr.wide hs1 (Nat.le_refl _))
      clear ho7 hG7 hvr
      go_wp2
      exact bodyPost_ret (v := .tuple #[.slice A9 m c9, .int .i64 cand, .int .i64 term, .slice A7 m7 c7]) (by simp [results, Try.results28, go_sem]) rfl ⟨A9, m, c9, fs, cand, term, A7, m7, c7, qs, rfl, by omega, HVR.out, ⟨a0, a1⟩, ⟨b0, b1⟩, by omega, hk7, HRD.out, HBL.out⟩
end Go.Proofs.Ytobjcifoaejonac
