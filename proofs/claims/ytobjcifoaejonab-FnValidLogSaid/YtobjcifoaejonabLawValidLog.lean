/- The law FnValidLog, walked: it returns true. (Written by a program over gen/lawlib.py.) -/
import Derived.Test.YtobjcifoaejonabDrawL2
import Derived.Test.YtobjcifoaejonabLogJ
import Derived.Test.YtobjcifoaejonabLogS1
import Derived.Test.YtobjcifoaejonabEqLists
import Derived.Test.YtobjcifoaejonabLawLogM
import Derived.BigQuiet
import Derived.Deep.RegionLaw
set_option linter.unusedSimpArgs false
set_option linter.unusedVariables false
namespace Go.Proofs.Ytobjcifoaejonab
open Go.RowKit

set_option maxRecDepth 100000 in
set_option maxHeartbeats 6400000 in
theorem lawValidLog_any (n c : Nat) (A : Option Addr) (xs : List Int) (w : World) (hr : Rd w 0 w.heap.size 1 A n (bvs xs)) (hby : Bytes xs) (hc : n ≤ c) (hc2 : c ≤ 9223372036854775807) :
    Calls Try.prog 3 #[.slice A n c] w fun e w' => e = .returned (.bool true) ∧ Below w.heap.size w w' := by
  by_cases hbig : (1048576 : Int) < n
  · go_enter Try.func3, Try.ntmps3
    go_wp2
    go_ret
    exact ⟨rfl, Below.refl _ _⟩
  go_enter Try.func3, Try.ntmps3
  go_wp2_with (fail)
  (with_reducible refine (drawValidLog_any n c A xs w hr hby (by omega) hc hc2).mono ?_)
  rintro e w1 ⟨A1, m, c1, ps, rfl, hm, hc1, hsm, hrd, hb1⟩
  clear hbig hr
  have HB_0 := Lib.hid hb1
  have hz_1 := hb1.size
  clear hb1
  have HSM := Lib.hid hsm
  clear hsm
  have HPL := Lib.hid hrd.len2
  have HL_1 := Lib.hid (hrd.wide (Nat.zero_le _) (Nat.le_refl _))
  clear hrd
  cases hV : vLog ps with
  | false =>
    have HV := Lib.hid hV
    clear hV
    go_wp2_with (fail)
    (with_reducible refine (ValidLogI_any 0 _ m c1 A1 ps _ HL_1.out (by omega) (by omega) (by omega)).mono ?_)
    rintro e w2 ⟨rfl, hbt⟩
    rw [HV.out]
    have HL_2 := Lib.hid (HL_1.out.keep hbt (by omega))
    have HB_3 := Lib.hid (up HB_0.out hbt)
    have hz_2 := hbt.size
    clear HL_1 HB_0
    clear hbt
    go_wp2_with (fail)
    (with_reducible refine (ValidLogS_any 0 _ m c1 A1 ps _ HL_2.out (by omega) (by omega)).mono ?_)
    rintro e w3 ⟨rfl, hbt⟩
    rw [HV.out]
    have HL_4 := Lib.hid (HL_2.out.keep hbt (by omega))
    have HB_5 := Lib.hid (up HB_3.out hbt)
    have hz_3 := hbt.size
    clear HL_2 HB_3
    clear hbt
    go_wp2_with (fail)
    (with_reducible refine (ValidLogS_any 0 _ m c1 A1 ps _ HL_4.out (by omega) (by omega)).mono ?_)
    rintro e w4 ⟨rfl, hbt⟩
    rw [HV.out]
    have HL_6 := Lib.hid (HL_4.out.keep hbt (by omega))
    have HB_7 := Lib.hid (up HB_5.out hbt)
    have hz_4 := hbt.size
    clear HL_4 HB_5
    clear hbt
    go_wp2
    go_ret
    exact ⟨rfl, HB_7.out⟩
  | true =>
    have HV := Lib.hid hV
    clear hV
    go_wp2_with (fail)
    (with_reducible refine (ValidLogI_any 0 _ m c1 A1 ps _ HL_1.out (by omega) (by omega) (by omega)).mono ?_)
    rintro e w2 ⟨rfl, hbt⟩
    rw [HV.out]
    have HL_8 := Lib.hid (HL_1.out.keep hbt (by omega))
    have HB_9 := Lib.hid (up HB_0.out hbt)
    have hz_2 := hbt.size
    clear HL_1 HB_0
    clear hbt
    go_wp2_with (fail)
    (with_reducible refine (ValidLogS_any 0 _ m c1 A1 ps _ HL_8.out (by omega) (by omega)).mono ?_)
    rintro e w3 ⟨rfl, hbt⟩
    rw [HV.out]
    have HL_10 := Lib.hid (HL_8.out.keep hbt (by omega))
    have HB_11 := Lib.hid (up HB_9.out hbt)
    have hz_3 := hbt.size
    clear HL_8 HB_9
    clear hbt
    rcases Nat.eq_zero_or_pos m with hz | hz
    · subst hz
      go_wp2_with (fail)
      (with_reducible refine (ValidLogS_any 0 _ 0 c1 A1 ps _ HL_10.out (by omega) (by omega)).mono ?_)
      rintro e w4 ⟨rfl, hbt⟩
      rw [HV.out]
      have HL_12 := Lib.hid (HL_10.out.keep hbt (by omega))
      have HB_13 := Lib.hid (up HB_11.out hbt)
      have hz_4 := hbt.size
      clear HL_10 HB_11
      clear hbt
      go_wp2
      go_ret
      exact ⟨rfl, HB_13.out⟩
    · obtain ⟨j, rfl⟩ : ∃ j, m = j + 1 := ⟨m - 1, by omega⟩
      have hm0 : (((j + 1 : Nat) : Int) == 0) = false := by rw [beq_eq_false_iff_ne]; omega
      have hw : IntKind.i64.wrap (((j + 1 : Nat) : Int) - 1) = (j : Int) := by rw [IntWalk.i64_in _ (by omega)]; omega
      have hj0 : (0 : Int) ≤ (j : Int) := by omega
      have hjc : (j : Int) ≤ (c1 : Int) := by omega
      have HVT := Lib.hid (vLog_take HV.out j)
      have HC_14 := Lib.hid (HL_10.out.cut2 (m := j) (by omega))
      go_wp2_with (fail)
      (with_reducible refine (ValidLogI_any 0 _ j c1 A1 (ps.take j) _ HC_14.out (by omega) (by omega) (by omega)).mono ?_)
      rintro e w4 ⟨rfl, hbt⟩
      rw [HVT.out]
      have HL_15 := Lib.hid (HL_10.out.keep hbt (by omega))
      have HC_16 := Lib.hid (HC_14.out.keep hbt (by omega))
      have HB_17 := Lib.hid (up HB_11.out hbt)
      have hz_4 := hbt.size
      clear HL_10 HC_14 HB_11
      clear hbt
      go_wp2
      go_ret
      exact ⟨rfl, HB_17.out⟩
end Go.Proofs.Ytobjcifoaejonab
