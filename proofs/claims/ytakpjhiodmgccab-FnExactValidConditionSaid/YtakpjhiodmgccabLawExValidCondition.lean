/- The law FnExactValidCondition, walked: it returns true. -/
import Derived.Test.YtakpjhiodmgccabWords
import Derived.Test.YtakpjhiodmgccabExPart
import Derived.Test.YtakpjhiodmgccabCondSpec
import Derived.Test.YtakpjhiodmgccabCondParts
namespace Go.Proofs.Ytakpjhiodmgccab
open Go.RowKit

theorem rd_wide {w : World} {lo size n : Nat} {A : Option Addr} {xs : List Value} (h : Rd w lo w.heap.size size A n xs) : Rd w 0 w.heap.size size A n xs := h.wide (Nat.zero_le _) (Nat.le_refl _)

set_option maxHeartbeats 400000 in
theorem exValidCondition_any (n c : Nat) (A : Option Addr) (ps : List (Int × Int)) (w : World) (hn : n ≤ 9223372036854775807) (hr : Rd w 0 w.heap.size 2 A n (pvs ps)) :
    Calls Try.prog 7 #[.slice A n c] w fun e w' => e = .returned (.bool true) ∧ Below w.heap.size w w' := by
  by_cases hbig : (1048576 : Int) < n
  · go_enter Try.func7, Try.ntmps7
    go_wp2_with (fail)
    refine (szPartS_no n c A 1048576 w hn (by omega) (by omega) hbig).mono ?_
    rintro e w' ⟨rfl, rfl⟩
    go_wp2
    go_ret
    exact ⟨rfl, Below.refl _ _⟩
  have hn' : n ≤ 1048576 := by omega
  clear hbig
  go_enter Try.func7, Try.ntmps7
  go_wp2_with (fail)
  refine (szPartS_yes n c A 1048576 w (by omega) (by omega) (by omega)).mono ?_
  rintro e w' ⟨rfl, rfl⟩
  have hpos : (0 : Int) ≤ 1048576 - (n : Int) := by omega
  go_wp2_with (fail)
  refine (toPartS_any 0 _ n c A ps w hr (Nat.le_refl _) hn').mono ?_
  rintro e w1 ⟨A1, c1, rfl, _, hr1, _, hb1⟩
  go_wp2_with (fail)
  refine (ValidConditionS_any _ _ _ _ _ ps _ hr1 (Nat.le_refl _) hn').mono ?_
  rintro e w2 ⟨rfl, hb2⟩
  go_wp2_with (fail)
  have hb02 := up hb1 hb2
  refine (toPartS_any 0 _ n c A ps w2 (hr.keep hb02 (Nat.le_refl _)) hb02.size hn').mono ?_
  rintro e w3 ⟨A3, c3, rfl, _, hr3, _, hb3⟩
  go_wp2_with (fail)
  refine (ValidConditionI_any _ _ _ _ _ ps _ hr3 (Nat.le_refl _) hn').mono ?_
  rintro e w4 ⟨rfl, hb4⟩
  go_wp2_with (fail)
  have hb04 := up (up hb02 hb3) hb4
  refine (toPartS_any 0 _ n c A ps w4 (hr.keep hb04 (Nat.le_refl _)) hb04.size hn').mono ?_
  rintro e w5 ⟨A5, c5, rfl, _, hr5, _, hb5⟩
  go_wp2_with (fail)
  refine (eqPartS_any _ _ n c3 _ _ n c5 A3 A5 ps ps w5 (hr3.keep (up hb4 hb5) (Nat.le_refl _)) ((up hb4 hb5).size) hn' hr5 (Nat.le_refl _) hn').mono ?_
  rintro e w6 ⟨rfl, hb6⟩
  rw [beq_self_eq_true]
  go_wp2
  go_ret
  exact ⟨rfl, up (up hb04 hb5) hb6⟩
end Go.Proofs.Ytakpjhiodmgccab
