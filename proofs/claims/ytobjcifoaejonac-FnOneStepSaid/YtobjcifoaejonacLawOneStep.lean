/- The law FnOneStep, walked: it returns true. (Written by a program over gen/lawlib.py.) -/
import Derived.Test.YtobjcifoaejonacDrawG
import Derived.Test.YtobjcifoaejonacVoteI
import Derived.Test.YtobjcifoaejonacVoteS
import Derived.Test.YtobjcifoaejonacLawLists
import Derived.Test.YtobjcifoaejonacLawVoteM
import Derived.BigQuiet
import Derived.Deep.RegionLaw
set_option linter.unusedSimpArgs false
set_option linter.unusedVariables false
namespace Go.Proofs.Ytobjcifoaejonac
open Go.RowKit

set_option maxRecDepth 100000 in
set_option maxHeartbeats 6400000 in
theorem lawOneStep_any (n c : Nat) (A : Option Addr) (xs : List Int) (w : World) (hr : Rd w 0 w.heap.size 1 A n (bvs xs)) (hby : Bytes xs) (hc : n ≤ c) (hc2 : c ≤ 9223372036854775807) :
    Calls Try.prog 8 #[.slice A n c] w fun e w' => e = .returned (.bool true) ∧ Below w.heap.size w w' := by
  by_cases hbig : (1048576 : Int) < n
  · go_enter Try.func8, Try.ntmps8
    go_wp2
    go_ret
    exact ⟨rfl, Below.refl _ _⟩
  go_enter Try.func8, Try.ntmps8
  go_wp2_with (fail)
  (with_reducible refine (drawOneStep_any n c A xs w hr hby (by omega) hc hc2).mono ?_)
  rintro e w1 ⟨A1, m, c1, ga, A2, m2, c2, gb, rfl, hm, hc1, hrd, hm2, hc2', hrd2, hb1⟩
  clear hbig hr
  have HB_0 := Lib.hid hb1
  have hz_1 := hb1.size
  clear hb1
  have HPL := Lib.hid hrd.len1
  have HQL := Lib.hid hrd2.len1
  have HL_1 := Lib.hid (hrd.wide (Nat.zero_le _) (Nat.le_refl _))
  clear hrd
  have HR_2 := Lib.hid (hrd2.wide (Nat.zero_le _) (Nat.le_refl _))
  clear hrd2
  obtain ⟨o, HU, HUC, HD⟩ : ∃ o, Hid (stepOf ga gb = o) ∧ Hid (stepOf gb ga = o) ∧ Hid (o = true → (m : Int) - (m2 : Int) = 1 ∨ (m : Int) - (m2 : Int) = -1) := ⟨_, rfl, step_comm ga gb, fun h => by
    obtain ⟨_, _, h | h⟩ := step_cases h
    · have := h.1; rw [HPL.out, HQL.out] at this; omega
    · have := h.1; rw [HPL.out, HQL.out] at this; omega⟩
  have HUS := Lib.hid (step_self ga)
  go_wp2_with (fail)
  (with_reducible refine (OneStepI_any 0 _ m c1 A1 ga 0 _ m2 c2 A2 gb _ HL_1.out (by omega) (by omega) HR_2.out (by omega) (by omega)).mono ?_)
  rintro e w2 ⟨rfl, hbt⟩
  rw [HU.out]
  have HL_3 := Lib.hid (HL_1.out.keep hbt (by omega))
  have HR_4 := Lib.hid (HR_2.out.keep hbt (by omega))
  have HB_5 := Lib.hid (up HB_0.out hbt)
  have hz_2 := hbt.size
  clear HL_1 HR_2 HB_0
  clear hbt
  go_wp2_with (fail)
  (with_reducible refine (OneStepS_any 0 _ m c1 A1 ga 0 _ m2 c2 A2 gb _ HL_3.out (by omega) (by omega) HR_4.out (by omega) (by omega)).mono ?_)
  rintro e w3 ⟨rfl, hbt⟩
  rw [HU.out]
  have HL_6 := Lib.hid (HL_3.out.keep hbt (by omega))
  have HR_7 := Lib.hid (HR_4.out.keep hbt (by omega))
  have HB_8 := Lib.hid (up HB_5.out hbt)
  have hz_3 := hbt.size
  clear HL_3 HR_4 HB_5
  clear hbt
  have hoo : (o != o) = false := by simp
  have hoe : (o == o) = true := by simp
  have hwd : IntKind.i64.wrap ((m : Int) - (m2 : Int)) = (m : Int) - (m2 : Int) := IntWalk.i64_in _ (by omega)
  go_wp2_with (fail)
  (with_reducible refine (OneStepI_any 0 _ m2 c2 A2 gb 0 _ m c1 A1 ga _ HR_7.out (by omega) (by omega) HL_6.out (by omega) (by omega)).mono ?_)
  rintro e w4 ⟨rfl, hbt⟩
  rw [HUC.out]
  have HL_9 := Lib.hid (HL_6.out.keep hbt (by omega))
  have HR_10 := Lib.hid (HR_7.out.keep hbt (by omega))
  have HB_11 := Lib.hid (up HB_8.out hbt)
  have hz_4 := hbt.size
  clear HL_6 HR_7 HB_8
  clear hbt
  go_wp2_with (fail)
  (with_reducible refine (OneStepI_any 0 _ m c1 A1 ga 0 _ m c1 A1 ga _ HL_9.out (by omega) (by omega) HL_9.out (by omega) (by omega)).mono ?_)
  rintro e w5 ⟨rfl, hbt⟩
  rw [HUS.out]
  have HL_12 := Lib.hid (HL_9.out.keep hbt (by omega))
  have HR_13 := Lib.hid (HR_10.out.keep hbt (by omega))
  have HB_14 := Lib.hid (up HB_11.out hbt)
  have hz_5 := hbt.size
  clear HL_9 HR_10 HB_11
  clear hbt
  cases o with
  | false => go_wp2; go_ret; exact ⟨rfl, HB_14.out⟩
  | true =>
    rcases HD.out rfl with h | h
    · rw [h]; go_wp2; go_ret; exact ⟨rfl, HB_14.out⟩
    · rw [h]; go_wp2; go_ret; exact ⟨rfl, HB_14.out⟩
end Go.Proofs.Ytobjcifoaejonac
