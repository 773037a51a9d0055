/- Drawing steps and effects. (Written by gen/drawst.py.) -/
import Derived.Test.YtogocinmlanikaaDrawN
import Derived.Test.YtogocinmlanikaaDrawIB
import Derived.Test.YtogocinmlanikaaSagaMath
import Derived.Test.YtogocinmlanikaaExStep
set_option linter.unusedSimpArgs false
set_option linter.unusedVariables false
namespace Go.Proofs.Ytogocinmlanikaa
open Go.RowKit

def SmallS (ps : List St) : Prop := ∀ q ∈ ps, (-10000 ≤ q.1 ∧ q.1 ≤ 10000) ∧ (-10000 ≤ q.2 ∧ q.2 ≤ 10000)
theorem SmallS.snoc {ps : List St} {x y : Int} (h : SmallS ps) (hx : -10000 ≤ x ∧ x ≤ 10000) (hy : -10000 ≤ y ∧ y ≤ 10000) : SmallS (ps ++ [(x, y)]) := by
  intro q hq
  rcases List.mem_append.1 hq with h1 | h1
  · exact h q h1
  · obtain rfl := List.mem_singleton.1 h1; exact ⟨hx, hy⟩
theorem SmallS.nil : SmallS [] := fun q hq => by cases hq
theorem SmallS.set {ps : List St} {x y : Int} (h : SmallS ps) (k : Nat) (hx : -10000 ≤ x ∧ x ≤ 10000) (hy : -10000 ≤ y ∧ y ≤ 10000) : SmallS (ps.set k (x, y)) := fun q hq => by
  rcases List.mem_or_eq_of_mem_set hq with h1 | h1
  · exact h q h1
  · subst h1; exact ⟨hx, hy⟩
theorem pvs_set0 (p : St) (ps : List St) (x y : Int) : ((pvs (p :: ps)).set 0 (.int .i64 x)).set 1 (.int .i64 y) = pvs ((p :: ps).set 0 (x, y)) := rfl
theorem own_setS {w : World} {base : Nat} {e : TypeId} {size : Nat} {v : Value} {n : Nat} {xs : List Value} (h : w.ownsRow base e size v n xs) {p : Addr} (u : Value) (hne : ∀ g, v.ownBlock = some g → g ≠ p.block) : (w.setCell p u).ownsRow base e size v n xs :=
  World.ownsRow.kept h (grown_set w p u) (by
    cases hv : v.ownBlock with
    | none => exact .inl rfl
    | some k => exact .inr fun e => by injection e with e; exact hne k hv e)
/-- Drawn steps. -/
def StPost (d : Int) (M : Nat) (r : Nat) (A : Option Addr) (n c : Nat) (xs : List Int) (p : Int) (w : World) (e : Ending) (w' : World) : Prop :=
  ∃ (v : Value) (m : Nat) (ps : List St) (p' : Int), e = .returned v ∧ w'.ownsRow w.heap.size 28 2 v m (pvs ps) ∧ SmallS ps ∧ m ≤ M ∧ Rdr w' r A n c xs p' ∧ p' ≤ p + d ∧ But r w w'
set_option maxRecDepth 100000 in
set_option maxHeartbeats 3200000 in
theorem anySteps_any (r : Nat) (A : Option Addr) (n c : Nat) (xs : List Int) (p : Int) (w : World) (h : Rdr w r A n c xs p) (hp : p ≤ 800000) :
    Calls Try.prog 31 #[.pointer (some ⟨r, 0, none⟩)] w (StPost 60 11 r A n c xs p w) := by
  have hrl := h.lt
  obtain ⟨i0, hi0, hz0, hz1, hz2⟩ := info_parts infoStep
  have hown0 : (w.alloc (.cells #[] 28)).ownsRow w.heap.size 28 2 (.slice (some ⟨w.heap.size, 0, none⟩) 0 0) 0 [] := World.ownsRow_made w #[] 0 (Nat.le_refl _) (by unfold maxLen; omega) (by simp)
  have HO0 := Lib.hid hown0
  have HR0 := Lib.hid (rdr_alloc h (.cells #[] 28))
  have HG0 := Lib.hid (but_alloc (but_refl r w) (.cells #[] 28))
  clear hown0 h
  go_enter Try.func31, Try.ntmps31
  go_wp2_with (fail)
  (with_reducible refine (pick_any r A n c xs p 2 _ HR0.out (by omega) (by omega)).mono ?_)
  rintro e w1 ⟨q, rfl, q0, q1, _, hR1, hG1⟩
  have HO1 := Lib.hid (own_but HO0.out hG1 hrl)
  have HR1 := Lib.hid hR1
  have HG1 := Lib.hid (but_trans HG0.out hG1)
  clear hR1 hG1 q1 HO0 HR0 HG0
  go_wp2_with (fail)
  generalize hpl : (q == 0) = pl
  clear hpl
  (with_reducible refine (one_mem r A n c xs (p + 1) [3, 5, 2, 1, 0, 10, 11] 7 _ _ w1 HR1.out (by omega) rfl (by omega) (by omega) rfl (by simp)).mono ?_)
  rintro e w2 ⟨a, rfl, ha, hR2, hG2⟩
  have ha2 : 0 ≤ a ∧ a ≤ 11 := by simp at ha; omega
  obtain ⟨a0, a1⟩ := ha2
  have HO2 := Lib.hid (own_but HO1.out hG2 hrl)
  have HR2 := Lib.hid hR2
  have HG2 := Lib.hid (but_trans HG1.out hG2)
  clear ha hR2 hG2 HO1 HR1 HG1
  go_wp2
  go_loopw [3, 5] (fun v iv wr => ∃ (m p1 : Int) (k : Nat) (ps : List St), iv = .int .i64 m ∧ 0 ≤ m ∧ m ≤ 11 ∧ (k : Int) + m ≤ 11 ∧ p1 + 3 * m ≤ p + 40 ∧ Hid (SmallS ps) ∧ Hid (wr.ownsRow w.heap.size 28 2 v k (pvs ps)) ∧ Hid (Rdr wr r A n c xs p1) ∧ Hid (But r w wr))
     (fun _ iv _ => (intOf iv).toNat)
  case atStart => exact ⟨a, p + 1 + 1, 0, [], rfl, a0, a1, by omega, by omega, SmallS.nil, HO2.out, HR2.out, HG2.out⟩
  case round =>
    clear HO2 HR2 HG2 a0 a1
    obtain ⟨m, p1, k, ps, rfl, hm0, hm1, hkm, hpp, hS, hO, hR, hG⟩ := hrel
    by_cases hpos : 0 < m
    case neg =>
      obtain rfl : m = 0 := by omega
      rcases Nat.eq_zero_or_pos k with hk0 | hk0
      · subst hk0
        obtain ⟨A1, c1, rfl, hc1, _⟩ := own_cap hO.out
        go_wp2
        go_ret
        exact ⟨_, 0, ps, p1, rfl, hO.out, hS.out, by omega, hR.out, by omega, hG.out⟩
      · obtain ⟨g, c1, rfl, hg1, hg2, hc1⟩ := own_first hO.out hk0
        have hkz : decide ((0 : Int) < (k : Int)) = true := decide_eq_true (by omega)
        have hkz2 : (0 : Int) < (k : Int) := by omega
        go_wp2_with (fail)
        (with_reducible refine (pick_any r A n c xs p1 20 _ hR.out (by omega) (by omega)).mono ?_)
        rintro e w3 ⟨z, rfl, z0, z1, _, hR3, hG3⟩
        have HO3 := Lib.hid (own_but hO.out hG3 hrl)
        have HR3 := Lib.hid hR3
        have HG3 := Lib.hid (but_trans hG.out hG3)
        have hs3 := HG3.out.size
        clear hR3 hG3 hO hR hG z1
        by_cases hz : z = 0
        case neg =>
          have hzd : (z == 0) = false := by simpa using hz
          clear hz
          go_wp2
          go_ret
          exact ⟨_, k, ps, p1 + 1, rfl, HO3.out, hS.out, by omega, HR3.out, by omega, HG3.out⟩
        subst hz
        go_wp2_with (fail)
        (with_reducible refine (one_lits r A n c xs (p1 + 1) [10000, 0] 2 _ _ w3 HR3.out (by omega) rfl (by omega) (by omega) (by simp) rfl (by simp)).mono ?_)
        rintro e w4 ⟨x, p4, rfl, x0, x1, hR4, hp4, hG4⟩
        have HO4 := Lib.hid (own_but HO3.out hG4 hrl)
        have HR4 := Lib.hid hR4
        have HG4 := Lib.hid (but_trans HG3.out hG4)
        have hs4 := HG4.out.size
        clear hR4 hG4 HO3 HR3 HG3
        go_wp2_with (fail)
        (with_reducible refine (one_lits r A n c xs p4 [-10000, 0] 2 _ _ w4 HR4.out (by omega) rfl (by omega) (by omega) (by simp) rfl (by simp)).mono ?_)
        rintro e w5 ⟨y, p5, rfl, y0, y1, hR5, hp5, hG5⟩
        have hO5 := own_but HO4.out hG5 hrl
        have HR5 := Lib.hid hR5
        have HG5 := Lib.hid (but_trans HG4.out hG5)
        have hs5 := HG5.out.size
        clear hR5 hG5 HO4 HR4 HG4
        obtain ⟨u0, us, rfl⟩ : ∃ u0 us, ps = u0 :: us := by
          cases ps with
          | nil => have := hO5.1; simp [pvs] at this; omega
          | cons u0 us => exact ⟨u0, us, rfl⟩
        have hd0 : w5.cell? ⟨g, 0, none⟩ = some (.int .i64 u0.1) := hO5.cellAt 0 (by omega)
        have hd1 : w5.cell? ⟨g, 1, none⟩ = some (.int .i64 u0.2) := hO5.cellAt 1 (by omega)
        have hf0 := hO5.frozenAt 0
        have hf1 := hO5.frozenAt 1
        have hst0 := (hO5.stored 0 (.int .i64 x)).1
        have hst1 := (hst0.stored 1 (.int .i64 y)).1
        rw [pvs_set0] at hst1
        have HST := Lib.hid hst1
        have hne : r ≠ g := by omega
        have HRR := Lib.hid (show Rdr ((w5.setCell ⟨g, 0, none⟩ (.int .i64 x)).setCell ⟨g, 1, none⟩ (.int .i64 y)) r A n c xs p5 from
          ⟨(HR5.out.1.far hne _).far hne _, (HR5.out.2.1.setCell (p := ⟨g, 0, none⟩) (.inr (by show r ≤ g; omega)) _).setCell (p := ⟨g, 1, none⟩) (.inr (by show r ≤ g; omega)) _, HR5.out.2.2⟩)
        have HGG := Lib.hid (but_put (but_put HG5.out (p := ⟨g, 0, none⟩) (.inr hg1) (.int .i64 x)) (p := ⟨g, 1, none⟩) (.inr hg1) (.int .i64 y))
        clear hst0 hst1 hO5
        go_wp2
        go_ret
        exact ⟨_, k, _, p5, rfl, HST.out, hS.out.set 0 ⟨by omega, by omega⟩ ⟨by omega, by omega⟩, by omega, HRR.out, by omega, HGG.out⟩
    go_wp2_with (fail)
    (with_reducible refine (someValue_any r A n c xs p1 _ hR.out (by omega)).mono ?_)
    rintro e w3 ⟨x, rfl, x0, x1, hR3, hG3⟩
    have HO3 := Lib.hid (own_but hO.out hG3 hrl)
    have HR3 := Lib.hid hR3
    have HG3 := Lib.hid (but_trans hG.out hG3)
    have hs3 := HG3.out.size
    have HNB := Lib.hid (show ∀ g, u3.ownBlock = some g → g ≠ w3.heap.size from fun g e => by have := HO3.out.lt g e; omega)
    clear hR3 hG3 hO hR hG
    have hwx : IntKind.i64.wrap (-x) = -x := IntWalk.i64_in _ (by omega)
    have hwm : IntKind.i64.wrap (m - 1) = m - 1 := IntWalk.i64_in _ (by omega)
    have HO4 := Lib.hid (own_keep HO3.out (up_alloc (Below.refl _ w3) (.cells #[.int .i64 x, .int .i64 (-x)] 28)))
    have HR4 := Lib.hid (rdr_alloc HR3.out (.cells #[.int .i64 x, .int .i64 (-x)] 28))
    have HG4 := Lib.hid (but_alloc HG3.out (.cells #[.int .i64 x, .int .i64 (-x)] 28))
    have HK4 := Lib.hid (Blk.new w3 28 #[.int .i64 x, .int .i64 (-x)])
    have hr3 := HR3.out.lt
    clear HO3 HR3 HG3
    cases pl with
    | true =>
      have hc0 : (w3.alloc (.cells #[.int .i64 x, .int .i64 (-x)] 28)).cell? ⟨w3.heap.size, 0, none⟩ = some (.int .i64 x) := HK4.out.cell 0
      have hc1 : (w3.alloc (.cells #[.int .i64 x, .int .i64 (-x)] 28)).cell? ⟨w3.heap.size, 1, none⟩ = some (.int .i64 (-x)) := HK4.out.cell 1
      have HNW := Lib.hid (show ((w3.alloc (.cells #[.int .i64 x, .int .i64 (-x)] 28)).alloc (.cells #[.int .i64 x, .int .i64 (-x)] 28)).heap[w3.heap.size + 1]? = some (.cells #[.int .i64 x, .int .i64 (-x)] 28) by have := heap_alloc_new (w3.alloc (.cells #[.int .i64 x, .int .i64 (-x)] 28)) (.cells #[.int .i64 x, .int .i64 (-x)] 28); rwa [World.size_alloc] at this)
      go_wp2_with (at_builtin; refine wpList_append_own _ rfl _ _ 23 rfl w.heap.size 28 i0 _ 2 16 Try.underlying23 hi0 hz0 hz1 hz2 rfl (by decide) _ _ _ rfl (HO4.out.alloc _) _ 1 1 [.int .i64 x, .int .i64 (-x)] rfl rfl (World.news_of_block HNW.out) ?d2 ?d3 ?d4 ?d5 ?_)
      case d2 => first | exact ⟨rfl, rfl⟩ | (intro u hu; simp at hu; rcases hu with rfl | rfl <;> rfl)
      case d3 => unfold maxLen; omega
      case d4 => omega
      case d5 => first | omega | (simp; omega)
      intro v8 w8 hown8 hg8 _
      have HR8 := Lib.hid (rdr_grown (rdr_alloc HR4.out _) (HO4.out.alloc _) hg8 hrl)
      have HG8 := Lib.hid (but_grown (but_alloc HG4.out _) (HO4.out.alloc _) hg8 (Nat.le_refl _))
      have HO8 := Lib.hid (show w8.ownsRow w.heap.size 28 2 v8 (k + 1) (pvs (ps ++ [(x, (-x))])) by rw [pvs_append]; exact hown8)
      have HS8 := Lib.hid (hS.out.snoc (x := x) (y := (-x)) ⟨by omega, by omega⟩ ⟨by omega, by omega⟩)
      clear hown8 hg8 HO4 HR4 HG4
      go_wp2
      go_roundw
      case rel => exact ⟨m - 1, p1 + 1, k + 1, _, by first | rfl | go_num, by omega, by omega, by omega, by omega, HS8, HO8, HR8, HG8⟩
      case measure => simp [intOf]; omega
    | false =>
    go_wp2_with (fail)
    (with_reducible refine (pick_any r A n c xs (p1 + 1) 3 _ HR4.out (by omega) (by omega)).mono ?_)
    rintro e w5 ⟨z, rfl, z0, z1, _, hR5, hG5⟩
    have HO5 := Lib.hid (own_but HO4.out hG5 hrl)
    have HR5 := Lib.hid hR5
    have HG5 := Lib.hid (but_trans HG4.out hG5)
    have HK5 := Lib.hid (HK4.out.grown hG5 (fun e => by injection e with e; omega))
    have hs5 := HG5.out.size
    clear hR5 hG5 HO4 HR4 HG4 HK4 z1
    by_cases hz : z = 0
    case neg =>
      have hzd : (z == 0) = false := by simpa using hz
      clear hz
      have hc0 : w5.cell? ⟨w3.heap.size, 0, none⟩ = some (.int .i64 x) := HK5.out.cell 0
      have hc1 : w5.cell? ⟨w3.heap.size, 1, none⟩ = some (.int .i64 (-x)) := HK5.out.cell 1
      have HNW := Lib.hid (heap_alloc_new w5 (.cells #[.int .i64 x, .int .i64 (-x)] 28))
      go_wp2_with (at_builtin; refine wpList_append_own _ rfl _ _ 23 rfl w.heap.size 28 i0 _ 2 16 Try.underlying23 hi0 hz0 hz1 hz2 rfl (by decide) _ _ _ rfl (HO5.out.alloc _) _ 1 1 [.int .i64 x, .int .i64 (-x)] rfl rfl (World.news_of_block HNW.out) ?d2 ?d3 ?d4 ?d5 ?_)
      case d2 => first | exact ⟨rfl, rfl⟩ | (intro u hu; simp at hu; rcases hu with rfl | rfl <;> rfl)
      case d3 => unfold maxLen; omega
      case d4 => omega
      case d5 => first | omega | (simp; omega)
      intro v8 w8 hown8 hg8 _
      have HR8 := Lib.hid (rdr_grown (rdr_alloc HR5.out _) (HO5.out.alloc _) hg8 hrl)
      have HG8 := Lib.hid (but_grown (but_alloc HG5.out _) (HO5.out.alloc _) hg8 (Nat.le_refl _))
      have HO8 := Lib.hid (show w8.ownsRow w.heap.size 28 2 v8 (k + 1) (pvs (ps ++ [(x, (-x))])) by rw [pvs_append]; exact hown8)
      have HS8 := Lib.hid (hS.out.snoc (x := x) (y := (-x)) ⟨by omega, by omega⟩ ⟨by omega, by omega⟩)
      clear hown8 hg8 HO5 HR5 HG5
      go_wp2
      go_roundw
      case rel => exact ⟨m - 1, p1 + 1 + 1, k + 1, _, by first | rfl | go_num, by omega, by omega, by omega, by omega, HS8, HO8, HR8, HG8⟩
      case measure => simp [intOf]; omega
    subst hz
    go_wp2_with (fail)
    (with_reducible refine (someValue_any r A n c xs (p1 + 1 + 1) _ HR5.out (by omega)).mono ?_)
    rintro e w6 ⟨y, rfl, y0, y1, hR6, hG6⟩
    have hb3 : w3.heap.size < w5.heap.size := HK5.out.lt
    have hK6 := HK5.out.grown hG6 (fun e => by injection e with e; omega)
    have hf1 : w6.frozen? ⟨w3.heap.size, 1, none⟩ = false := hK6.soft 1
    have hd1 : w6.cell? ⟨w3.heap.size, 1, none⟩ = some (.int .i64 (-x)) := hK6.cell 1
    have hK7 := hK6.put 1 (.int .i64 y)
    have hne7 : r ≠ w3.heap.size := by omega
    have hO6 := own_but HO5.out hG6 hrl
    have hlt6 : w3.heap.size < w6.heap.size := hK6.lt
    have hown3 : ∀ g, u3.ownBlock = some g → g ≠ w3.heap.size := HNB.out
    have HO7 := Lib.hid (own_setS hO6 (p := ⟨w3.heap.size, 1, none⟩) (.int .i64 y) hown3)
    have HR7 := Lib.hid (show Rdr (w6.setCell ⟨w3.heap.size, 1, none⟩ (.int .i64 y)) r A n c xs (p1 + 1 + 1 + 1) from
      ⟨hR6.1.far hne7 _, hR6.2.1.setCell (p := ⟨w3.heap.size, 1, none⟩) (.inr (by show r ≤ w3.heap.size; omega)) _, hR6.2.2⟩)
    have HG7 := Lib.hid (but_put (but_trans HG5.out hG6) (p := ⟨w3.heap.size, 1, none⟩) (.inr (by show w.heap.size ≤ w3.heap.size; omega)) (.int .i64 y))
    have HK7 := Lib.hid hK7
    have hs6 := (but_trans HG5.out hG6).size
    have hc0 : (w6.setCell ⟨w3.heap.size, 1, none⟩ (.int .i64 y)).cell? ⟨w3.heap.size, 0, none⟩ = some (.int .i64 x) := hK7.cell 0
    have hc1 : (w6.setCell ⟨w3.heap.size, 1, none⟩ (.int .i64 y)).cell? ⟨w3.heap.size, 1, none⟩ = some (.int .i64 y) := hK7.cell 1
    have hs7 := HG7.out.size
    clear hR6 hG6 HO5 HR5 HG5 HK5 hK6 hK7 hO6
    have HNW := Lib.hid (show ((w6.setCell ⟨w3.heap.size, 1, none⟩ (.int .i64 y)).alloc (.cells #[.int .i64 x, .int .i64 y] 28)).heap[w6.heap.size]? = some (.cells #[.int .i64 x, .int .i64 y] 28) by have := heap_alloc_new (w6.setCell ⟨w3.heap.size, 1, none⟩ (.int .i64 y)) (.cells #[.int .i64 x, .int .i64 y] 28); simpa [World.setCell] using this)
    go_wp2_with (at_builtin; refine wpList_append_own _ rfl _ _ 23 rfl w.heap.size 28 i0 _ 2 16 Try.underlying23 hi0 hz0 hz1 hz2 rfl (by decide) _ _ _ rfl (HO7.out.alloc _) _ 1 1 [.int .i64 x, .int .i64 y] rfl rfl (World.news_of_block HNW.out) ?d2 ?d3 ?d4 ?d5 ?_)
    case d2 => first | exact ⟨rfl, rfl⟩ | (intro u hu; simp at hu; rcases hu with rfl | rfl <;> rfl)
    case d3 => unfold maxLen; omega
    case d4 => omega
    case d5 => first | omega | (simp; omega)
    intro v8 w8 hown8 hg8 _
    have HR8 := Lib.hid (rdr_grown (rdr_alloc HR7.out _) (HO7.out.alloc _) hg8 hrl)
    have HG8 := Lib.hid (but_grown (but_alloc HG7.out _) (HO7.out.alloc _) hg8 (Nat.le_refl _))
    have HO8 := Lib.hid (show w8.ownsRow w.heap.size 28 2 v8 (k + 1) (pvs (ps ++ [(x, y)])) by rw [pvs_append]; exact hown8)
    have HS8 := Lib.hid (hS.out.snoc (x := x) (y := y) ⟨by omega, by omega⟩ ⟨by omega, by omega⟩)
    clear hown8 hg8 HO7 HR7 HG7
    go_wp2
    go_roundw
    case rel => exact ⟨m - 1, p1 + 1 + 1 + 1, k + 1, _, by first | rfl | go_num, by omega, by omega, by omega, by omega, HS8, HO8, HR8, HG8⟩
    case measure => simp [intOf]; omega
end Go.Proofs.Ytogocinmlanikaa
