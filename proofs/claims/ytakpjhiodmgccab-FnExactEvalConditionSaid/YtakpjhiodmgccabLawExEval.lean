/- The law FnExactEvalCondition, walked: it returns true. -/
import Derived.Test.YtakpjhiodmgccabExPart
import Derived.Test.YtakpjhiodmgccabExInt
import Derived.Test.YtakpjhiodmgccabEvalS
import Derived.Test.YtakpjhiodmgccabEvalI
namespace Go.Proofs.Ytakpjhiodmgccab
open Go.RowKit

set_option maxHeartbeats 800000 in
theorem exEval_any (n c : Nat) (A : Option Addr) (ps : List (Int × Int)) (n' c' : Nat) (A' : Option Addr) (ys : List Int) (w : World) (hn : n ≤ 9223372036854775807) (hr : Rd w 0 w.heap.size 2 A n (pvs ps)) (hn' : n' ≤ 9223372036854775807) (hr' : Rd w 0 w.heap.size 1 A' n' (ivs ys)) :
    Calls Try.prog 8 #[.slice A n c, .slice A' n' c'] w fun e w' => e = .returned (.bool true) ∧ Below w.heap.size w w' := by
  by_cases hbv : (1048576 : Int) < n'
  · go_enter Try.func8, Try.ntmps8
    go_wp2
    go_ret
    exact ⟨rfl, Below.refl _ _⟩
  by_cases hbig : (1048576 : Int) < n
  · go_enter Try.func8, Try.ntmps8
    go_wp2_with (fail)
    (with_reducible refine (szPartS_no n c A 1048576 w hn (by omega) (by omega) hbig).mono ?_)
    rintro e w' ⟨rfl, rfl⟩
    go_wp2
    go_ret
    exact ⟨rfl, Below.refl _ _⟩
  have hn1 : n ≤ 1048576 := by omega
  have hn2 : n' ≤ 1048576 := by omega
  clear hbig
  go_enter Try.func8, Try.ntmps8
  go_wp2_with (fail)
  (with_reducible refine (szPartS_yes n c A 1048576 w (by omega) (by omega) (by omega)).mono ?_)
  rintro e w' ⟨rfl, rfl⟩
  have hpos : (0 : Int) ≤ 1048576 - (n : Int) := by omega
  go_wp2_with (fail)
  (with_reducible refine (toPartS_any 0 _ n c A ps w hr (Nat.le_refl _) hn1).mono ?_)
  rintro e w1 ⟨A1, c1, rfl, _, hr1, _, hb1⟩
  go_wp2_with (fail)
  (with_reducible refine (toIntS_any 0 _ n' c' A' ys w1 (hr'.keep hb1 (Nat.le_refl _)) hb1.size hn2).mono ?_)
  rintro e w2 ⟨A2, c2, rfl, _, hr2, _, hb2⟩
  go_wp2_with (fail)
  (with_reducible refine (EvalConditionS_any _ _ n c1 _ _ n' c2 A1 A2 ps ys w2 (hr1.keep hb2 (Nat.le_refl _)) hb2.size hn1 hr2 (Nat.le_refl _) (by omega)).mono ?_)
  rintro e w3 ⟨rfl, hb3⟩
  have hb03 := up (up hb1 hb2) hb3
  clear hb1 hb2 hb3 hr1 hr2
  go_wp2_with (fail)
  (with_reducible refine (toPartS_any 0 _ n c A ps w3 (hr.keep hb03 (Nat.le_refl _)) hb03.size hn1).mono ?_)
  rintro e w4 ⟨A4, c4, rfl, _, hr4, _, hb4⟩
  have hb04 := up hb03 hb4
  go_wp2_with (fail)
  (with_reducible refine (toIntS_any 0 _ n' c' A' ys w4 (hr'.keep hb04 (Nat.le_refl _)) hb04.size hn2).mono ?_)
  rintro e w5 ⟨A5, c5, rfl, _, hr5, _, hb5⟩
  have hb05 := up hb04 hb5
  have hr45 := hr4.keep hb5 (Nat.le_refl _)
  have hsz5 := hb5.size
  go_wp2_with (fail)
  (with_reducible refine (EvalConditionI_any _ _ n c4 _ _ n' c5 A4 A5 ps ys w5 hr45 hsz5 hn1 hr5 (Nat.le_refl _) (by omega)).mono ?_)
  rintro e w6 ⟨rfl, hb6⟩
  have hb06 := up hb05 hb6
  have hr46 := hr45.keep hb6 hsz5
  have hr56 := hr5.keep hb6 (Nat.le_refl _)
  have hsz6 := hb6.size
  clear hb03 hb04 hb4 hb5 hb6 hr4 hr5 hr45 hb05
  go_wp2_with (fail)
  (with_reducible refine (toPartS_any 0 _ n c A ps w6 (hr.keep hb06 (Nat.le_refl _)) hb06.size hn1).mono ?_)
  rintro e w7 ⟨A7, c7, rfl, _, hr7, _, hb7⟩
  have hsz7 := hb7.size
  have hr57 := hr56.keep hb7 hsz6
  go_wp2_with (fail)
  (with_reducible refine (eqPartS_any _ _ n c4 _ _ n c7 A4 A7 ps ps w7 (hr46.keep hb7 (by omega)) (by omega) hn1 hr7 (Nat.le_refl _) hn1).mono ?_)
  rintro e w8 ⟨rfl, hb8⟩
  rw [beq_self_eq_true]
  have hb08 := up (up hb06 hb7) hb8
  have hsz8 := hb8.size
  have hr58 := hr57.keep hb8 (by omega)
  clear hb06 hb7 hb8 hr7 hr46 hr56 hr57
  go_wp2_with (fail)
  (with_reducible refine (toIntS_any 0 _ n' c' A' ys w8 (hr'.keep hb08 (Nat.le_refl _)) hb08.size hn2).mono ?_)
  rintro e w9 ⟨A9, c9, rfl, _, hr9, _, hb9⟩
  have hsz9 := hb9.size
  go_wp2_with (fail)
  (with_reducible refine (eqIntS_any _ _ n' c5 _ _ n' c9 A5 A9 ys ys w9 (hr58.keep hb9 (by omega)) (by omega) hn2 hr9 (Nat.le_refl _) hn2).mono ?_)
  rintro e w10 ⟨rfl, hb10⟩
  rw [beq_self_eq_true]
  go_wp2
  go_ret
  exact ⟨rfl, up (up hb08 hb9) hb10⟩
end Go.Proofs.Ytakpjhiodmgccab
