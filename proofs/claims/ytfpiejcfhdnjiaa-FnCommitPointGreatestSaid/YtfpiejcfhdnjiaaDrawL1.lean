/- Drawing logs: someLog, anyLog, nearLog. -/
import Derived.Test.YtfpiejcfhdnjiaaDrawN
import Derived.Test.YtfpiejcfhdnjiaaLogMath
import Derived.Test.YtfpiejcfhdnjiaaExEntry
import Derived.Lib.MinMax
set_option linter.unusedSimpArgs false
set_option linter.unusedVariables false
namespace Go.Proofs.Ytfpiejcfhdnjiaa
open Go.RowKit

def SmallE (ps : List En) : Prop := ∀ q ∈ ps, (-10000 ≤ q.1 ∧ q.1 ≤ 10000) ∧ (-10000 ≤ q.2 ∧ q.2 ≤ 10000)
theorem SmallE.snoc {ps : List En} {x y : Int} (h : SmallE ps) (hx : -10000 ≤ x ∧ x ≤ 10000) (hy : -10000 ≤ y ∧ y ≤ 10000) : SmallE (ps ++ [(x, y)]) := by
  intro q hq
  rcases List.mem_append.1 hq with h1 | h1
  · exact h q h1
  · obtain rfl := List.mem_singleton.1 h1; exact ⟨hx, hy⟩
theorem SmallE.nil : SmallE [] := fun q hq => by cases hq
theorem SmallE.take {ps : List En} (h : SmallE ps) (k : Nat) : SmallE (ps.take k) := fun q hq => h q (List.mem_of_mem_take hq)
/-- A drawn log. -/
def LgPost (d : Int) (M : Nat) (r : Nat) (A : Option Addr) (n c : Nat) (xs : List Int) (p : Int) (w : World) (e : Ending) (w' : World) : Prop :=
  ∃ (v : Value) (m : Nat) (ps : List En) (p' : Int), e = .returned v ∧ w'.ownsRow w.heap.size 29 2 v m (pvs ps) ∧ SmallE ps ∧ m ≤ M ∧ Rdr w' r A n c xs p' ∧ p' ≤ p + d ∧ But r w w'
set_option maxRecDepth 100000 in
set_option maxHeartbeats 1600000 in
theorem someLog_any (r : Nat) (A : Option Addr) (n c : Nat) (xs : List Int) (p : Int) (w : World) (h : Rdr w r A n c xs p) (hp : p ≤ 800000) :
    Calls Try.prog 66 #[.pointer (some ⟨r, 0, none⟩)] w (LgPost 40 16 r A n c xs p w) := by
  have hrl := h.lt
  obtain ⟨i0, hi0, hz0, hz1, hz2⟩ := info_parts infoEntry
  have hown0 : (w.alloc (.cells #[] 29)).ownsRow w.heap.size 29 2 (.slice (some ⟨w.heap.size, 0, none⟩) 0 0) 0 [] := World.ownsRow_made w #[] 0 (Nat.le_refl _) (by unfold maxLen; omega) (by simp)
  have HO0 := Lib.hid hown0
  have HR0 := Lib.hid (rdr_alloc h (.cells #[] 29))
  have HG0 := Lib.hid (but_alloc (but_refl r w) (.cells #[] 29))
  clear hown0 h
  go_enter Try.func66, Try.ntmps66
  go_wp2_with (fail)
  (with_reducible refine (pick_any r A n c xs p 2 _ HR0.out (by omega) (by omega)).mono ?_)
  rintro e w1 ⟨q, rfl, q0, q1, _, hR1, hG1⟩
  have q2 := q1 (by omega)
  have HO1 := Lib.hid (own_but HO0.out hG1 hrl)
  have HR1 := Lib.hid hR1
  have HG1 := Lib.hid (but_trans HG0.out hG1)
  clear hR1 hG1 q1 HO0 HR0 HG0
  have hwq : IntKind.i64.wrap (1 + q) = 1 + q := IntWalk.i64_in _ (by omega)
  go_wp2_with (fail)
  (with_reducible refine (one_mem r A n c xs (p + 1) [4, 6, 3, 8, 0, 16] 6 _ _ w1 HR1.out (by omega) rfl (by omega) (by omega) rfl (by simp)).mono ?_)
  rintro e w2 ⟨a, rfl, ha, hR2, hG2⟩
  have ha2 : 0 ≤ a ∧ a ≤ 16 := by simp at ha; omega
  obtain ⟨a0, a1⟩ := ha2
  have HO2 := Lib.hid (own_but HO1.out hG2 hrl)
  have HR2 := Lib.hid hR2
  have HG2 := Lib.hid (but_trans HG1.out hG2)
  clear ha hR2 hG2 HO1 HR1 HG1
  go_wp2
  go_loopw [3, 4, 5] (fun v tv iv wr => ∃ (m t p1 : Int) (k : Nat) (ps : List En), iv = .int .i64 m ∧ tv = .int .i64 t ∧ 0 ≤ m ∧ m ≤ 16 ∧ 1 ≤ t ∧ t ≤ 9 ∧ (k : Int) + m ≤ 16 ∧ p1 + 2 * m ≤ p + 38 ∧ Hid (SmallE ps) ∧ Hid (wr.ownsRow w.heap.size 29 2 v k (pvs ps)) ∧ Hid (Rdr wr r A n c xs p1) ∧ Hid (But r w wr))
     (fun _ _ iv _ => (intOf iv).toNat)
  case atStart => exact ⟨a, 1 + q, p + 1 + 1, 0, [], rfl, rfl, a0, a1, by omega, by omega, by omega, by omega, SmallE.nil, HO2.out, HR2.out, HG2.out⟩
  case round =>
    clear HO2 HR2 HG2 a0 a1 q0 q2 hwq
    obtain ⟨m, t, p1, k, ps, rfl, rfl, hm0, hm1, ht0, ht1, hkm, hpp, hS, hO, hR, hG⟩ := hrel
    by_cases hpos : 0 < m
    case neg =>
      obtain rfl : m = 0 := by omega
      go_wp2
      go_ret
      exact ⟨_, k, ps, p1, rfl, hO.out, hS.out, by omega, hR.out, by omega, hG.out⟩
    go_wp2_with (fail)
    (with_reducible refine (pick_any r A n c xs p1 4 _ hR.out (by omega) (by omega)).mono ?_)
    rintro e w3 ⟨y, rfl, y0, y1, _, hR3, hG3⟩
    have y2 := y1 (by omega)
    have HO3 := Lib.hid (own_but hO.out hG3 hrl)
    have HR3 := Lib.hid hR3
    have HG3 := Lib.hid (but_trans hG.out hG3)
    have hs3 := HG3.out.size
    clear hR3 hG3 hO hR hG y1
    go_wp2_with (at_builtin; refine wpList_append_own _ rfl _ _ 23 rfl w.heap.size 29 i0 _ 2 16 Try.underlying23 hi0 hz0 hz1 hz2 rfl (by decide) _ _ _ rfl (HO3.out.alloc _) _ 1 1 [.int .i64 t, .int .i64 y] rfl rfl (World.news_of_block (heap_alloc_new _ _)) ?d2 ?d3 ?d4 ?d5 ?_)
    case d2 => first | exact ⟨rfl, rfl⟩ | (intro u hu; simp at hu; rcases hu with rfl | rfl <;> rfl)
    case d3 => unfold maxLen; omega
    case d4 => omega
    case d5 => first | omega | (simp; omega)
    intro v4 w4 hown4 hg4 _
    have HR4 := Lib.hid (rdr_grown (rdr_alloc HR3.out _) (HO3.out.alloc _) hg4 hrl)
    have HG4 := Lib.hid (but_grown (but_alloc HG3.out _) (HO3.out.alloc _) hg4 (Nat.le_refl _))
    have HO4 := Lib.hid (show w4.ownsRow w.heap.size 29 2 v4 (k + 1) (pvs (ps ++ [(t, y)])) by rw [pvs_append]; exact hown4)
    have HS4 := Lib.hid (hS.out.snoc (x := t) (y := y) ⟨by omega, by omega⟩ ⟨by omega, by omega⟩)
    clear hown4 hg4 HO3 HR3 HG3
    go_wp2_with (fail)
    (with_reducible refine (pick_any r A n c xs (p1 + 1) 3 _ HR4.out (by omega) (by omega)).mono ?_)
    rintro e w5 ⟨z, rfl, z0, z1, _, hR5, hG5⟩
    have HO5 := Lib.hid (own_but HO4.out hG5 hrl)
    have HR5 := Lib.hid hR5
    have HG5 := Lib.hid (but_trans HG4.out hG5)
    clear hR5 hG5 HO4 HR4 HG4 z1
    have hwm : IntKind.i64.wrap (m - 1) = m - 1 := IntWalk.i64_in _ (by omega)
    by_cases hz : z = 0
    · subst hz
      have hwt : IntKind.i64.wrap (t + 1) = t + 1 := IntWalk.i64_in _ (by omega)
      go_wp2
      go_roundw
      case rel => exact ⟨m - 1, min (t + 1) 9, p1 + 1 + 1, k + 1, _, by first | rfl | go_num, by first | rfl | go_num, by omega, by omega, by omega, by omega, by omega, by omega, HS4, HO5.out, HR5.out, HG5.out⟩
      case measure => simp [intOf]; omega
    · have hzd : (z == 0) = false := by simpa using hz
      clear hz
      go_wp2
      go_roundw
      case rel => exact ⟨m - 1, t, p1 + 1 + 1, k + 1, _, by first | rfl | go_num, by first | rfl | go_num, by omega, by omega, by omega, by omega, by omega, by omega, HS4, HO5.out, HR5.out, HG5.out⟩
      case measure => simp [intOf]; omega
set_option maxRecDepth 100000 in
set_option maxHeartbeats 1600000 in
theorem anyLog_any (r : Nat) (A : Option Addr) (n c : Nat) (xs : List Int) (p : Int) (w : World) (h : Rdr w r A n c xs p) (hp : p ≤ 700000) :
    Calls Try.prog 33 #[.pointer (some ⟨r, 0, none⟩)] w (LgPost 50 17 r A n c xs p w) := by
  have hrl := h.lt
  obtain ⟨i0, hi0, hz0, hz1, hz2⟩ := info_parts infoEntry
  go_enter Try.func33, Try.ntmps33
  go_wp2_with (fail)
  (with_reducible refine (someLog_any r A n c xs p _ h (by omega)).mono ?_)
  rintro e w1 ⟨v1, m, ps, p1, rfl, ho1, hsm, hm, hR1, hp1, hG1⟩
  have HO1 := Lib.hid ho1
  have HS1 := Lib.hid hsm
  have HR1 := Lib.hid hR1
  have HG1 := Lib.hid hG1
  have hs1 := hG1.size
  clear ho1 hsm hR1 hG1 h
  go_wp2_with (fail)
  (with_reducible refine (pick_any r A n c xs p1 20 _ HR1.out (by omega) (by omega)).mono ?_)
  rintro e w2 ⟨q, rfl, q0, q1, _, hR2, hG2⟩
  have HO2 := Lib.hid (own_but HO1.out hG2 hrl)
  have HR2 := Lib.hid hR2
  have HG2 := Lib.hid (but_trans HG1.out hG2)
  have hs2 := HG2.out.size
  clear hR2 hG2 HO1 HR1 HG1 q1
  rcases (show q = 0 ∨ q = 1 ∨ 2 ≤ q by omega) with rfl | rfl | hq2
  · clear q0
    go_wp2_with (fail)
    (with_reducible refine (one_lits r A n c xs (p1 + 1) [0, 1, 9, 10] 4 _ _ w2 HR2.out (by omega) rfl (by omega) (by omega) (by simp) rfl (by simp)).mono ?_)
    rintro e w3 ⟨x, p3, rfl, x0, x1, hR3, hp3, hG3⟩
    have HO3 := Lib.hid (own_but HO2.out hG3 hrl)
    have HR3 := Lib.hid hR3
    have HG3 := Lib.hid (but_trans HG2.out hG3)
    have hs3 := HG3.out.size
    clear hR3 hG3 HO2 HR2 HG2 
    go_wp2_with (fail)
    (with_reducible refine (one_lits r A n c xs p3 [0, -1, 100] 3 _ _ w3 HR3.out (by omega) rfl (by omega) (by omega) (by simp) rfl (by simp)).mono ?_)
    rintro e w4 ⟨y, p4, rfl, y0, y1, hR4, hp4, hG4⟩
    have HO4 := Lib.hid (own_but HO3.out hG4 hrl)
    have HR4 := Lib.hid hR4
    have HG4 := Lib.hid (but_trans HG3.out hG4)
    have hs4 := HG4.out.size
    clear hR4 hG4 HO3 HR3 HG3 
    go_wp2_with (at_builtin; refine wpList_append_own _ rfl _ _ 23 rfl w.heap.size 29 i0 _ 2 16 Try.underlying23 hi0 hz0 hz1 hz2 rfl (by decide) _ _ _ rfl (HO4.out.alloc _) _ 1 1 [.int .i64 x, .int .i64 y] rfl rfl (World.news_of_block (heap_alloc_new _ _)) ?d2 ?d3 ?d4 ?d5 ?_)
    case d2 => first | exact ⟨rfl, rfl⟩ | (intro u hu; simp at hu; rcases hu with rfl | rfl <;> rfl)
    case d3 => unfold maxLen; omega
    case d4 => omega
    case d5 => first | omega | (simp; omega)
    intro v5 w5 hown5 hg5 _
    have HR5 := Lib.hid (rdr_grown (rdr_alloc HR4.out _) (HO4.out.alloc _) hg5 hrl)
    have HG5 := Lib.hid (but_grown (but_alloc HG4.out _) (HO4.out.alloc _) hg5 (Nat.le_refl _))
    have HO5 := Lib.hid (show w5.ownsRow w.heap.size 29 2 v5 (m + 1) (pvs (ps ++ [(x, y)])) by rw [pvs_append]; exact hown5)
    have HS5 := Lib.hid (HS1.out.snoc (x := x) (y := y) ⟨by omega, by omega⟩ ⟨by omega, by omega⟩)
    clear hown5 hg5 HO4 HR4 HG4
    go_wp2
    go_ret
    exact ⟨v5, m + 1, _, p4, rfl, HO5.out, HS5.out, by omega, HR5.out, by omega, HG5.out⟩
  · clear q0
    obtain ⟨A1, c1, rfl, hc1, _⟩ := own_cap HO2.out
    go_wp2
    go_loopw [3] (fun v wr => ∃ (A3 : Option Addr) (c3 k : Nat) (qs : List En), v = .slice A3 k c3 ∧ k ≤ 17 ∧ Hid (SmallE qs) ∧ Hid (wr.ownsRow w.heap.size 29 2 (.slice A3 k c3) k (pvs qs)) ∧ Hid (Rdr wr r A n c xs (p1 + 1)) ∧ Hid (But r w wr))
       (fun v _ => match v with | .slice _ k _ => 17 - k | _ => 0)
    case atStart => exact ⟨A1, c1, m, ps, rfl, by omega, HS1.out, HO2.out, HR2.out, HG2.out⟩
    case round =>
      clear HO2 HR2 HG2 HS1
      obtain ⟨A3, c3, k, qs, rfl, hk, HS2, HO2, HR2, HG2⟩ := hrel
      by_cases hlt : k < 17
      · have hkz : (k : Int) < 17 := by omega
        have hs3 := HG2.out.size
        go_wp2_with (at_builtin; refine wpList_append_own _ rfl _ _ 23 rfl w.heap.size 29 i0 _ 2 16 Try.underlying23 hi0 hz0 hz1 hz2 rfl (by decide) _ _ _ rfl (HO2.out.alloc _) _ 1 1 [.int .i64 9, .int .i64 0] rfl rfl (World.news_of_block (heap_alloc_new _ _)) ?d2 ?d3 ?d4 ?d5 ?_)
        case d2 => first | exact ⟨rfl, rfl⟩ | (intro u hu; simp at hu; rcases hu with rfl | rfl <;> rfl)
        case d3 => unfold maxLen; omega
        case d4 => omega
        case d5 => first | omega | (simp; omega)
        intro v5 w5 hown5 hg5 _
        have HR5 := Lib.hid (rdr_grown (rdr_alloc HR2.out _) (HO2.out.alloc _) hg5 hrl)
        have HG5 := Lib.hid (but_grown (but_alloc HG2.out _) (HO2.out.alloc _) hg5 (Nat.le_refl _))
        have HO5 := Lib.hid (show w5.ownsRow w.heap.size 29 2 v5 (k + 1) (pvs (qs ++ [(9, 0)])) by rw [pvs_append]; exact hown5)
        have HS5 := Lib.hid (HS2.out.snoc (x := 9) (y := 0) ⟨by omega, by omega⟩ ⟨by omega, by omega⟩)
        clear hown5 hg5 HO2 HR2 HG2
        obtain ⟨A5, c5, rfl, hc5, _⟩ := own_cap HO5.out
        go_wp2
        go_roundw
        case rel => exact ⟨A5, c5, k + 1, _, rfl, by omega, HS5, HO5, HR5, HG5⟩
        case measure => simp; omega
      · have hkz : decide ((k : Int) < 17) = false := decide_eq_false (by omega)
        go_wp2
        go_ret
        exact ⟨_, k, qs, p1 + 1, rfl, HO2.out, HS2.out, hk, HR2.out, by omega, HG2.out⟩
  · have g0 : (q == 0) = false := by simp; omega
    have g1 : (q == 1) = false := by simp; omega
    go_wp2
    go_ret
    exact ⟨v1, m, ps, p1 + 1, rfl, HO2.out, HS1.out, by omega, HR2.out, by omega, HG2.out⟩
theorem pvs_takeD : ∀ (ps : List (Int × Int)) (k : Nat), (pvs ps).take (k * 2) = pvs (ps.take k)
  | [], k => by simp [pvs]
  | p :: ps, 0 => by simp [pvs]
  | p :: ps, k + 1 => by
    rw [show (k + 1) * 2 = k * 2 + 1 + 1 by omega, List.take_succ_cons, show pvs (p :: ps) = .int .i64 p.1 :: .int .i64 p.2 :: pvs ps from rfl, List.take_succ_cons, List.take_succ_cons, pvs_takeD ps k]
    rfl
end Go.Proofs.Ytfpiejcfhdnjiaa
