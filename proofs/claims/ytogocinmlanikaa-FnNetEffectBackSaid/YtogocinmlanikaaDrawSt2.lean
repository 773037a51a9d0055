/- The arguments of the laws on sagas. -/
import Derived.Test.YtogocinmlanikaaDrawSt
set_option linter.unusedSimpArgs false
set_option linter.unusedVariables false
namespace Go.Proofs.Ytogocinmlanikaa
open Go.RowKit

/-- Drawn steps. -/
def DrawS (w : World) (e : Ending) (w' : World) : Prop :=
  ∃ (A1 : Option Addr) (m c1 : Nat) (ps : List St), e = .returned (.slice A1 m c1) ∧ m ≤ 11 ∧ m ≤ c1 ∧ c1 ≤ 9223372036854775807 ∧ SmallS ps ∧ Rd w' w.heap.size w'.heap.size 2 A1 m (pvs ps) ∧ Below w.heap.size w w'
/-- Drawn steps and the place of one. -/
def DrawSI (w : World) (e : Ending) (w' : World) : Prop :=
  ∃ (A1 : Option Addr) (m c1 : Nat) (ps : List St) (z : Int), e = .returned (.tuple #[.slice A1 m c1, .int .i64 z]) ∧ m ≤ 11 ∧ m ≤ c1 ∧ c1 ≤ 9223372036854775807 ∧ -1 ≤ z ∧ z ≤ 20 ∧ SmallS ps ∧ Rd w' w.heap.size w'.heap.size 2 A1 m (pvs ps) ∧ Below w.heap.size w w'
/-- Drawn effects. -/
def DrawN (w : World) (e : Ending) (w' : World) : Prop :=
  ∃ (A1 : Option Addr) (m c1 : Nat) (ys : List Int), e = .returned (.slice A1 m c1) ∧ m ≤ 22 ∧ m ≤ c1 ∧ c1 ≤ 9223372036854775807 ∧ SmallI ys ∧ Rd w' w.heap.size w'.heap.size 1 A1 m (ivs ys) ∧ Below w.heap.size w w'
set_option maxRecDepth 100000 in
set_option maxHeartbeats 1600000 in
theorem drawCanUndo_any (n c : Nat) (A : Option Addr) (xs : List Int) (w : World) (hr : Rd w 0 w.heap.size 1 A n (bvs xs)) (hby : Bytes xs) (hn : n ≤ 1048576) (hc : n ≤ c) (hc2 : c ≤ 9223372036854775807) :
    Calls Try.prog 13 #[.slice A n c] w (DrawS w) := by
  go_enter Try.func13, Try.ntmps13
  go_wp2_with (fail)
  (with_reducible refine (newReader_any n c A xs _ hr hby hn hc hc2).mono ?_)
  rintro e w1 ⟨r, n', c', xs', rfl, hrw, hR1, hb1⟩
  have hrl := hR1.lt
  have HB1 := Lib.hid hb1
  have hz1 := hb1.size
  clear hr hb1
  go_wp2_with (fail)
  (with_reducible refine (anySteps_any r A n' c' xs' 0 w1 hR1 (by omega)).mono ?_)
  rintro e w2 ⟨v, m, ps, p2, rfl, ho2, hs, hm, hR2, hp2, hG2⟩
  have HO2 := Lib.hid ho2
  have HS := Lib.hid hs
  have HR2 := Lib.hid hR2
  have HG2 := Lib.hid hG2
  have hz2 := hG2.size
  clear hR1 ho2 hs hR2 hG2
  obtain ⟨A1, c1, rfl, hk1, hk2⟩ := own_cap HO2.out
  have HRD := Lib.hid ((Rd.of_own HO2.out).wide HB1.out.size (Nat.le_refl _))
  have HBL := Lib.hid (but_mineK HB1.out HG2.out hrw)
  go_wp2
  go_ret
  exact ⟨A1, m, c1, ps, rfl, by omega, hk1, hk2, HS.out, HRD.out, HBL.out⟩
set_option maxRecDepth 100000 in
set_option maxHeartbeats 1600000 in
theorem drawRunSaga_any (n c : Nat) (A : Option Addr) (xs : List Int) (w : World) (hr : Rd w 0 w.heap.size 1 A n (bvs xs)) (hby : Bytes xs) (hn : n ≤ 1048576) (hc : n ≤ c) (hc2 : c ≤ 9223372036854775807) :
    Calls Try.prog 29 #[.slice A n c] w (DrawSI w) := by
  go_enter Try.func29, Try.ntmps29
  go_wp2_with (fail)
  (with_reducible refine (newReader_any n c A xs _ hr hby hn hc hc2).mono ?_)
  rintro e w1 ⟨r, n', c', xs', rfl, hrw, hR1, hb1⟩
  have hrl := hR1.lt
  have HB1 := Lib.hid hb1
  have hz1 := hb1.size
  clear hr hb1
  go_wp2_with (fail)
  (with_reducible refine (anySteps_any r A n' c' xs' 0 w1 hR1 (by omega)).mono ?_)
  rintro e w2 ⟨v, m, ps, p2, rfl, ho2, hs, hm, hR2, hp2, hG2⟩
  have HO2 := Lib.hid ho2
  have HS := Lib.hid hs
  have HR2 := Lib.hid hR2
  have HG2 := Lib.hid hG2
  have hz2 := hG2.size
  clear hR1 ho2 hs hR2 hG2
  obtain ⟨A1, c1, rfl, hk1, hk2⟩ := own_cap HO2.out
  have hw3 : IntKind.i64.wrap ((m : Int) + 3) = (m : Int) + 3 := IntWalk.i64_in _ (by omega)
  go_wp2_with (fail)
  (with_reducible refine (pick_any r A n' c' xs' p2 ((m : Int) + 3) w2 HR2.out (by omega) (by omega)).mono ?_)
  rintro e w3 ⟨q, rfl, q0, q1, _, hR3, hG3⟩
  have q2 := q1 (by omega)
  have HO3 := Lib.hid (own_but HO2.out hG3 hrl)
  have HG3 := Lib.hid (but_trans HG2.out hG3)
  have hz3 := HG3.out.size
  clear hR3 hG3 HO2 HR2 HG2 q1
  have HRD := Lib.hid ((Rd.of_own HO3.out).wide HB1.out.size (Nat.le_refl _))
  have HBL := Lib.hid (but_mineK HB1.out HG3.out hrw)
  have hwq : IntKind.i64.wrap (q - 1) = q - 1 := IntWalk.i64_in _ (by omega)
  go_wp2
  exact bodyPost_ret (v := .tuple #[.slice A1 m c1, .int .i64 (q - 1)]) (by simp [results, Try.results29, go_sem]) rfl ⟨A1, m, c1, ps, q - 1, rfl, by omega, hk1, hk2, by omega, by omega, HS.out, HRD.out, HBL.out⟩
set_option maxRecDepth 100000 in
set_option maxHeartbeats 1600000 in
theorem drawNetEffect_any (n c : Nat) (A : Option Addr) (xs : List Int) (w : World) (hr : Rd w 0 w.heap.size 1 A n (bvs xs)) (hby : Bytes xs) (hn : n ≤ 1048576) (hc : n ≤ c) (hc2 : c ≤ 9223372036854775807) :
    Calls Try.prog 28 #[.slice A n c] w (DrawN w) := by
  go_enter Try.func28, Try.ntmps28
  go_wp2_with (fail)
  (with_reducible refine (newReader_any n c A xs _ hr hby hn hc hc2).mono ?_)
  rintro e w1 ⟨r, n', c', xs', rfl, hrw, hR1, hb1⟩
  have hrl := hR1.lt
  have HB1 := Lib.hid hb1
  have hz1 := hb1.size
  clear hr hb1
  obtain ⟨i0, hi0, hz0, hz1', hz2⟩ := info_parts infoIntD
  have hown0 : (w1.alloc (.cells #[] 3)).ownsRow w1.heap.size 3 1 (.slice (some ⟨w1.heap.size, 0, none⟩) 0 0) 0 [] := World.ownsRow_made w1 #[] 0 (Nat.le_refl _) (by unfold maxLen; omega) (by simp)
  have HO0 := Lib.hid hown0
  have HR0 := Lib.hid (rdr_alloc hR1 (.cells #[] 3))
  have HG0 := Lib.hid (but_alloc (but_refl r w1) (.cells #[] 3))
  clear hown0 hR1
  go_wp2_with (fail)
  (with_reducible refine (one_mem r A n' c' xs' 0 [4, 8, 2, 0, 20, 21] 6 _ _ _ HR0.out (by omega) rfl (by omega) (by omega) (by simp) (by simp)).mono ?_)
  rintro e w2 ⟨a, rfl, ha, hR2, hG2⟩
  have ha2 : 0 ≤ a ∧ a ≤ 21 := by simp at ha; omega
  obtain ⟨a0, a1⟩ := ha2
  have HO2 := Lib.hid (own_but HO0.out hG2 hrl)
  have HR2 := Lib.hid hR2
  have HG2 := Lib.hid (but_trans HG0.out hG2)
  clear ha hR2 hG2 HO0 HR0 HG0
  go_wp2
  go_loopw [4, 5] (fun v iv wr => ∃ (m p1 : Int) (k : Nat) (ys : List Int), iv = .int .i64 m ∧ 0 ≤ m ∧ m ≤ 21 ∧ (k : Int) + m ≤ 21 ∧ p1 + m ≤ 22 ∧ Hid (SmallI ys) ∧ Hid (wr.ownsRow w1.heap.size 3 1 v k (ivs ys)) ∧ Hid (Rdr wr r A n' c' xs' p1) ∧ Hid (But r w1 wr))
     (fun _ iv _ => (intOf iv).toNat)
  case atStart => exact ⟨a, 0 + 1, 0, [], rfl, a0, a1, by omega, by omega, SmallI.nil, HO2.out, HR2.out, HG2.out⟩
  case round =>
    clear HO2 HR2 HG2 a0 a1
    obtain ⟨m, p1, k, ys, rfl, hm0, hm1, hkm, hpp, hS, hO, hR, hG⟩ := hrel
    have hp1 := hR.out.2.2.2.2
    by_cases hpos : 0 < m
    case neg =>
      obtain rfl : m = 0 := by omega
      obtain ⟨A1, c1, rfl, hc1, _⟩ := own_cap hO.out
      have HRD := Lib.hid (Rd.of_own hO.out)
      go_wp2_with (fail)
      (with_reducible refine (spoilB_any r A n' c' xs' p1 _ _ k c1 A1 ys 10000 _ hR.out (by omega) HRD.out (Nat.le_refl _) (by omega) hS.out (by omega)).mono ?_)
      rintro e w3 ⟨A3, n3, c3, zs, p3, rfl, hn3, hc3, hc4, hr3, hs3, hR3, hp3, hG3⟩
      have hzo := hG.out.size
      have HS3 := Lib.hid hs3
      have HR3 := Lib.hid (hr3.wide (Nat.le_trans HB1.out.size hzo) (Nat.le_refl _))
      have HBL := Lib.hid (but_mineK HB1.out (but_trans hG.out hG3) hrw)
      clear hr3 hs3 hR3 hG3 hO hR hG HRD
      go_wp2
      go_ret
      exact ⟨A3, n3, c3, zs, rfl, by omega, hc3, hc4, HS3.out, HR3.out, HBL.out⟩
    go_wp2_with (fail)
    (with_reducible refine (someValue_any r A n' c' xs' p1 _ hR.out (by omega)).mono ?_)
    rintro e w3 ⟨x, rfl, x0, x1, hR3, hG3⟩
    have HO3 := Lib.hid (own_but hO.out hG3 hrl)
    have HR3 := Lib.hid hR3
    have HG3 := Lib.hid (but_trans hG.out hG3)
    have hs3 := HG3.out.size
    clear hR3 hG3 hO hR hG
    have hwm : IntKind.i64.wrap (m - 1) = m - 1 := IntWalk.i64_in _ (by omega)
    go_wp2_with (at_builtin; refine wpList_append_own _ rfl _ _ 34 rfl w1.heap.size 3 i0 _ 1 8 Try.underlying34 hi0 hz0 hz1' hz2 rfl (by decide) _ _ _ rfl (HO3.out.alloc _) _ 1 1 [.int .i64 x] rfl rfl (World.news_of_block (heap_alloc_new _ _)) ?d2 ?d3 ?d4 ?d5 ?_)
    case d2 => first | (intro u hu; simp at hu; subst hu; rfl) | rfl
    case d3 => unfold maxLen; omega
    case d4 => omega
    case d5 => first | omega | (simp; omega)
    intro v8 w8 hown8 hg8 _
    have HR8 := Lib.hid (rdr_grown (rdr_alloc HR3.out _) (HO3.out.alloc _) hg8 hrl)
    have HG8 := Lib.hid (but_grown (but_alloc HG3.out _) (HO3.out.alloc _) hg8 (Nat.le_refl _))
    have HO8 := Lib.hid (show w8.ownsRow w1.heap.size 3 1 v8 (k + 1) (ivs (ys ++ [x])) by rw [ivs_append]; exact hown8)
    have HS8 := Lib.hid (hS.out.snoc (x := x) ⟨by omega, by omega⟩)
    clear hown8 hg8 HO3 HR3 HG3
    go_wp2
    go_roundw
    case rel => exact ⟨m - 1, p1 + 1, k + 1, _, by first | rfl | go_num, by omega, by omega, by omega, by omega, HS8, HO8, HR8, HG8⟩
    case measure => simp [intOf]; omega
end Go.Proofs.Ytogocinmlanikaa
