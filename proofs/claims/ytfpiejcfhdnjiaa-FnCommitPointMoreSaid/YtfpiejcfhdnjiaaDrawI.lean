/- Drawing: slices of numbers; spoil. (Out of DrawVals and DrawMarks.) -/
import Derived.Test.YtfpiejcfhdnjiaaDrawR
import Derived.Deep.RegionLaw
set_option linter.unusedSimpArgs false
set_option linter.unusedVariables false
namespace Go.Proofs.Ytfpiejcfhdnjiaa
open Go.RowKit

/-- Drawn numbers, in memory of the call's own. -/
def IntsPost (r : Nat) (A : Option Addr) (n c : Nat) (xs : List Int) (p : Int) (K L : Nat) (w : World) (e : Ending) (w' : World) : Prop :=
  ∃ A' n' c' ys p', e = .returned (.slice A' n' c') ∧ n' ≤ L ∧ n' ≤ c' ∧ c' ≤ 9223372036854775807 ∧ Rd w' w.heap.size w'.heap.size 1 A' n' (ivs ys) ∧ Rdr w' r A n c xs p' ∧ p' ≤ p + K ∧ But r w w'

theorem ivs_tail (ps : List Int) : (ivs ps).drop 1 = ivs ps.tail := by
  cases ps <;> simp [ivs]

set_option maxHeartbeats 400000 in
theorem copyIntsN_any (lo hi n c : Nat) (A : Option Addr) (ys : List Int) (w : World) (hr : Rd w lo hi 1 A n (ivs ys)) (hB : hi ≤ w.heap.size) (hn : n ≤ 1048576) :
    Calls Try.prog 67 #[.slice A n c] w fun e w' => ∃ v, e = .returned v ∧ w'.ownsRow w.heap.size 3 1 v n (ivs ys) ∧ Below w.heap.size w w' := by
  obtain ⟨i0, hi0, hz0, hz1, hz2⟩ := info_parts infoIntD
  have hown1 : (w.alloc (.cells #[] 3)).ownsRow w.heap.size 3 1 (.slice (some ⟨w.heap.size, 0, none⟩) 0 0) 0 [] := World.ownsRow_made w #[] 0 (Nat.le_refl _) (by unfold maxLen; omega) (by simp)
  have hbl := up_alloc (Below.refl _ w) (.cells #[] 3)
  have hr1 := hr.keep hbl hB
  go_enter Try.func67, Try.ntmps67
  go_wp2_with (at_builtin; refine wpList_append_rd _ rfl _ _ 24 rfl w.heap.size 3 i0 (.int .i64 0) 1 8 Try.underlying24 hi0 hz0 hz1 hz2 rfl (by decide) _ _ _ rfl hown1 lo hi A n c (ivs ys) rfl hr1 (ivs_one ys) ?c3 ?c4 ?c5 ?_)
  case c3 => unfold maxLen; omega
  case c4 => omega
  case c5 => simp
  intro v2 w2 hown2 hg2 _
  have hb2 := up_grown hbl hown1 hg2 (Nat.le_refl _)
  try simp only [Nat.zero_add, List.nil_append] at hown2
  have HO := Lib.hid hown2
  clear hown1 hown2 hg2 hr1 hbl
  go_wp2
  go_ret
  exact ⟨v2, rfl, HO.out, hb2⟩

set_option maxRecDepth 100000 in
set_option maxHeartbeats 1600000 in
theorem spoilN_any (r : Nat) (A : Option Addr) (n c : Nat) (xs : List Int) (p : Int) (lo hi m c1 : Nat) (A1 : Option Addr) (ys : List Int) (u : Int) (w : World) (h : Rdr w r A n c xs p) (hp : p ≤ 900000)
    (hr : Rd w lo hi 1 A1 m (ivs ys)) (hB : hi ≤ w.heap.size) (hm : m ≤ 1000) :
    Calls Try.prog 36 #[.pointer (some ⟨r, 0, none⟩), .slice A1 m c1, .int .i64 u] w (IntsPost r A n c xs p 4 (m + 1) w) := by
  obtain ⟨i0, hi0, hz0, hz1, hz2⟩ := info_parts infoIntD
  have hrb := h.lt
  have hp0 := h.2.2.2.2
  have HL := Lib.hid hr.len1
  go_enter Try.func36, Try.ntmps36
  go_wp2_with (fail)
  (with_reducible refine (copyIntsN_any lo hi m c1 A1 ys w hr hB (by omega)).mono ?_)
  rintro e w1 ⟨v, rfl, hown1, hb1⟩
  obtain ⟨A2, c2, rfl, hgc, hcm⟩ := own_cap hown1
  have hR1 := h.below hb1
  have hG1 := but_below (but_refl r w) hb1
  clear hb1 h hr
  go_wp2_with (fail)
  (with_reducible refine (pick_any r A n c xs p 20 w1 hR1 (by omega) (by omega)).mono ?_)
  rintro e w2 ⟨q, rfl, q0, q1, _, hRX, hG2⟩
  have q1' := q1 (by omega)
  have hownX := own_but hown1 hG2 hrb
  have hGX := but_trans hG1 hG2
  clear hG2 hown1 hG1 hR1 q1
  by_cases hm0 : m = 0
  · subst hm0
    rcases (show q = 0 ∨ q = 1 ∨ q = 2 ∨ 3 ≤ q by omega) with rfl | rfl | rfl | hq3
    · go_wp2_with (at_builtin; refine wpList_append_own _ rfl _ _ 24 rfl w.heap.size 3 i0 (.int .i64 0) 1 8 Try.underlying24 hi0 hz0 hz1 hz2 rfl (by decide) _ _ _ rfl (hownX.alloc _) _ 1 1 [.int .i64 u] rfl rfl (cell_one_new _ _ _) ?c2 ?c3 ?c4 ?c5 ?_)
      case c2 => intro u hu; simp at hu; subst hu; rfl
      case c3 => unfold maxLen; omega
      case c4 => omega
      case c5 => have := hGX.size; simp; omega
      intro v' w4 hown4 hg4 _
      have hG4 := but_grown (but_alloc hGX _) (hownX.alloc _) hg4 (Nat.le_refl _)
      have hR4 := rdr_grown (rdr_alloc hRX _) (hownX.alloc _) hg4 hrb
      clear hg4 hownX hGX hRX
      obtain ⟨A', c', hv, hcc, hcm'⟩ := own_cap hown4
      rw [hv] at hown4
      have HO := Lib.hid (Rd.of_own hown4)
      clear hown4
      subst hv
      go_wp2
      go_ret
      exact ⟨A', 0 + 1, c', ys ++ [u], _, rfl, by omega, hcc, hcm', by rw [ivs_append]; exact HO.out, hR4, by omega, hG4⟩
    · have HO := Lib.hid (Rd.of_own hownX)
      clear hownX
      go_wp2
      go_ret
      exact ⟨_, 0, c2, ys, _, rfl, by omega, hgc, hcm, HO.out, hRX, by omega, hGX⟩
    · have HO := Lib.hid (Rd.of_own hownX)
      clear hownX
      go_wp2
      go_ret
      exact ⟨_, 0, c2, ys, _, rfl, by omega, hgc, hcm, HO.out, hRX, by omega, hGX⟩
    · have g0 : (q == 0) = false := by simp; omega
      have g1 : (q == 1) = false := by simp; omega
      have g2 : (q == 2) = false := by simp; omega
      have HO := Lib.hid (Rd.of_own hownX)
      clear hownX
      go_wp2
      go_ret
      exact ⟨_, 0, c2, ys, _, rfl, by omega, hgc, hcm, HO.out, hRX, by omega, hGX⟩
  obtain ⟨m, rfl⟩ : ∃ m', m = m' + 1 := ⟨m - 1, by omega⟩
  obtain ⟨g, rfl, hg1, hg2⟩ := own_long hownX (by omega)
  rcases (show q = 0 ∨ q = 1 ∨ q = 2 ∨ 3 ≤ q by omega) with rfl | rfl | rfl | hq3
  · go_wp2_with (at_builtin; refine wpList_append_own _ rfl _ _ 24 rfl w.heap.size 3 i0 (.int .i64 0) 1 8 Try.underlying24 hi0 hz0 hz1 hz2 rfl (by decide) _ _ _ rfl (hownX.alloc _) _ 1 1 [.int .i64 u] rfl rfl (cell_one_new _ _ _) ?c2 ?c3 ?c4 ?c5 ?_)
    case c2 => intro u hu; simp at hu; subst hu; rfl
    case c3 => unfold maxLen; omega
    case c4 => omega
    case c5 => have := hGX.size; simp; omega
    intro v' w4 hown4 hg4 _
    have hG4 := but_grown (but_alloc hGX _) (hownX.alloc _) hg4 (Nat.le_refl _)
    have hR4 := rdr_grown (rdr_alloc hRX _) (hownX.alloc _) hg4 hrb
    clear hg4 hownX hGX hRX
    obtain ⟨A', c', hv, hcc, hcm'⟩ := own_cap hown4
    rw [hv] at hown4
    have HO := Lib.hid (Rd.of_own hown4)
    clear hown4
    subst hv
    go_wp2
    go_ret
    exact ⟨A', m + 1 + 1, c', ys ++ [u], _, rfl, by omega, hcc, hcm', by rw [ivs_append]; exact HO.out, hR4, by omega, hG4⟩
  · have hm1 : (0 : Int) < ((m + 1 : Nat) : Int) := by omega
    by_cases hcap : c2 = 1
    · obtain rfl : m = 0 := by omega
      subst hcap
      clear hownX
      go_wp2
      go_ret
      exact ⟨_, 0, 0, [], _, rfl, by omega, by omega, by omega, Rd.nil _ _ _ _ _, hRX, by omega, hGX⟩
    · have HO := Lib.hid (Rd.of_own hownX).tail
      clear hownX
      go_wp2
      go_ret
      exact ⟨_, m, c2 - 1, ys.tail, _, rfl, by omega, by omega, by omega, by rw [← ivs_tail]; simpa using HO.out, hRX, by omega, hGX⟩
  · go_wp2_with (fail)
    (with_reducible refine (pick_any r A n c xs (p + 1) ((m : Int) + 1) w2 hRX (by omega) (by omega)).mono ?_)
    rintro e w3 ⟨k, rfl, k0, k1, _, hR3, hG3⟩
    have k1' := k1 (by omega)
    obtain ⟨k, rfl⟩ := Int.eq_ofNat_of_zero_le k0
    have hown3 := own_but hownX hG3 hrb
    have hG3' := but_trans hGX hG3
    clear hG3 hownX hGX hRX k1
    go_wp2_with (fail)
    have hb := Blk.new w3 3 #[.int .i64 (-1), .int .i64 u, .int .i64 0, .int .i64 1]
    (with_reducible refine (one_any r A n c xs (p + 1 + 1) w3.heap.size (w3.heap.size + 1) 4 4 _ [-1, u, 0, 1] _ (rdr_alloc hR3 _) (by omega) (Rd.of_blk hb rfl) (by simp) (by omega) (by omega) (.inl hR3.lt)).mono ?_)
    rintro e w4 ⟨x, rfl, _, hR4, hG4⟩
    have hown4 := own_but (hown3.alloc _) hG4 hrb
    have hG4' := but_trans (but_alloc hG3' _) hG4
    clear hb hG4 hown3 hG3' hR3
    have hkn : k < m + 1 := by omega
    have hd0 := hown4.cellAt k (by omega)
    obtain ⟨z0, e0⟩ : ∃ z, (ivs ys)[k]? = some z := ⟨_, List.getElem?_eq_getElem (by rw [ivs_length, HL.out]; exact hkn)⟩
    rw [e0] at hd0
    clear e0
    have hf0 := hown4.frozenAt k
    have hst := (hown4.stored k (.int .i64 x)).1
    rw [show (ivs ys).set k (.int .i64 x) = ivs (ys.set k x) by simp [ivs, List.map_set]] at hst
    have HST := Lib.hid hst
    have hne : r ≠ g := by omega
    have HRR := Lib.hid (show Rdr (w4.setCell ⟨g, k, none⟩ (.int .i64 x)) r A n c xs (p + 1 + 1 + 1) from
      ⟨hR4.1.far hne _, hR4.2.1.setCell (p := ⟨g, _, none⟩) (.inr (by show r ≤ g; omega)) _, hR4.2.2⟩)
    clear hst hown4
    go_wp2
    go_ret
    exact ⟨_, m + 1, c2, ys.set k x, _, rfl, by omega, hgc, hcm, Rd.of_own HST.out, HRR.out, by omega, but_put hG4' (p := ⟨g, _, none⟩) (.inr hg1) _⟩
  · have g0 : (q == 0) = false := by simp; omega
    have g1 : (q == 1) = false := by simp; omega
    have g2 : (q == 2) = false := by simp; omega
    have HO := Lib.hid (Rd.of_own hownX)
    clear hownX
    go_wp2
    go_ret
    exact ⟨_, m + 1, c2, ys, _, rfl, by omega, hgc, hcm, HO.out, hRX, by omega, hGX⟩
end Go.Proofs.Ytfpiejcfhdnjiaa
