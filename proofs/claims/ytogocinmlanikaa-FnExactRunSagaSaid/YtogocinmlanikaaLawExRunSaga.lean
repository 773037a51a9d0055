/- The law FnExactRunSaga, walked: it returns true. (Written by gen/exlist.py.) -/
import Derived.Test.YtogocinmlanikaaExStepM
import Derived.Test.YtogocinmlanikaaExInt
import Derived.Test.YtogocinmlanikaaExWithin
import Derived.Test.YtogocinmlanikaaSagaD
import Derived.Test.YtogocinmlanikaaSagaS
set_option linter.unusedSimpArgs false
set_option linter.unusedVariables false
namespace Go.Proofs.Ytogocinmlanikaa
open Go.RowKit

set_option maxRecDepth 100000 in
set_option maxHeartbeats 6400000 in
theorem exRunSaga_any (n0 c0 : Nat) (A0 : Option Addr) (m0 : List St) (z1 : Int) (w : World) (hn0 : n0 ≤ 9223372036854775807) (hr0 : Rd w 0 w.heap.size 2 A0 n0 (pvs m0)) (hz1 : in64 z1) :
    Calls Try.prog 7 #[.slice A0 n0 c0, .int .i64 z1] w fun e w' => e = .returned (.bool true) ∧ Below w.heap.size w w' := by
  by_cases hm0' : n0 ≤ 1048576
  case neg =>
    go_enter Try.func7, Try.ntmps7
    go_wp2_with (fail)
    (with_reducible refine (szStepS_no n0 c0 A0 1048576 _ hn0 (by omega) (by omega) (by omega)).mono ?_)
    rintro e w1 ⟨rfl, rfl⟩
    go_wp2
    go_ret
    exact ⟨rfl, Below.refl _ _⟩
  have hm0 : n0 ≤ 1048576 := by omega
  have HL0 := Lib.hid hr0.len2
  have HA0 := Lib.hid hr0
  clear hr0
  have HB_0 := Lib.hid (Below.refl w.heap.size w)
  go_enter Try.func7, Try.ntmps7
  go_wp2_with (fail)
  (with_reducible refine (szStepS_yes n0 c0 A0 1048576 _ (by omega) (by omega) (by omega)).mono ?_)
  rintro e w0 ⟨rfl, rfl⟩
  have hleft2_0 : 0 ≤ ((1048576 : Int) - n0) := by omega
  have hleft3_0 : decide (((1048576 : Int) - n0) < 0) = false := decide_eq_false (by omega)
  have hul0 : (sagaOf m0 z1).length ≤ 1048576 := sagaOf_le m0 z1 HL0.out (by have := HL0.out; omega)
  generalize hU0 : sagaOf m0 z1 = u0 at hul0
  have HU0 := Lib.hid hU0
  clear hU0
  generalize hU1 : sagaOk m0 z1 = u1
  have hne1 : (u1 != u1) = false := by simp
  have heq1 : (u1 == u1) = true := by simp
  have HU1 := Lib.hid hU1
  clear hU1
  go_wp2_with (fail)
  (with_reducible refine (toStepS_any 0 w.heap.size n0 c0 A0 m0 _ (HA0.out.keep HB_0.out (Nat.le_refl _)) HB_0.out.size hm0).mono ?_)
  rintro e w1 ⟨Asa0, csa0, rfl, _, hrt, hst, hbt⟩
  have hz_1 := hbt.size
  have HB_1 := Lib.hid (up HB_0.out hbt)
  clear HB_0
  have HVa0 := Lib.hid hrt
  have HWa0 := Lib.hid hst
  clear hrt hst hbt
  go_wp2_with (fail)
  (with_reducible refine (RunSagaS_any w.heap.size w1.heap.size n0 csa0 Asa0 m0 z1 _ HVa0.out (by omega) hm0 hz1).mono ?_)
  rw [HU0.out, HU1.out]
  rintro e w2 ⟨AgS1, cgS1, rfl, _, hrt, hst, hbt⟩
  have hz_2 := hbt.size
  have HB_2 := Lib.hid (up HB_1.out hbt)
  have HVa0_3 := Lib.hid (HVa0.out.keep hbt (by omega))
  have HWa0_4 := Lib.hid (HWa0.out.kept HVa0.out hbt (by omega))
  clear HB_1 HVa0 HWa0
  have HGS1 := Lib.hid hrt
  have HHS1 := Lib.hid hst
  clear hrt hst hbt
  clear HWa0_4
  clear HVa0_3
  clear HHS1
  go_wp2_with (fail)
  (with_reducible refine (toStepS_any 0 w.heap.size n0 c0 A0 m0 _ (HA0.out.keep HB_2.out (Nat.le_refl _)) HB_2.out.size hm0).mono ?_)
  rintro e w3 ⟨Asb0, csb0, rfl, _, hrt, hst, hbt⟩
  have hz_3 := hbt.size
  have HB_5 := Lib.hid (up HB_2.out hbt)
  have HGS1_6 := Lib.hid (HGS1.out.keep hbt (by omega))
  clear HB_2 HGS1
  have HVb0 := Lib.hid hrt
  have HWb0 := Lib.hid hst
  clear hrt hst hbt
  go_wp2_with (fail)
  (with_reducible refine (RunSagaI_any w2.heap.size w3.heap.size n0 csb0 Asb0 m0 z1 _ HVb0.out (by omega) hm0 hz1).mono ?_)
  rw [HU0.out, HU1.out]
  rintro e w4 ⟨AgI2, cgI2, rfl, _, hrt, hst, hbt⟩
  have hz_4 := hbt.size
  have HB_7 := Lib.hid (up HB_5.out hbt)
  have HGS1_8 := Lib.hid (HGS1_6.out.keep hbt (by omega))
  have HVb0_9 := Lib.hid (HVb0.out.keep hbt (by omega))
  have HWb0_10 := Lib.hid (HWb0.out.kept HVb0.out hbt (by omega))
  clear HB_5 HGS1_6 HVb0 HWb0
  have HGI2 := Lib.hid hrt
  have HHI2 := Lib.hid hst
  clear hrt hst hbt
  go_wp2_with (fail)
  (with_reducible refine (eqIntS_any _ _ u0.length cgI2 _ _ u0.length cgS1 AgI2 AgS1 u0 u0 _ HGI2.out (by omega) hul0 HGS1_8.out (by omega) hul0).mono ?_)
  rintro e w5 ⟨rfl, hbt⟩
  rw [beq_self_eq_true]
  have hz_5 := hbt.size
  have HB_11 := Lib.hid (up HB_7.out hbt)
  have HGS1_12 := Lib.hid (HGS1_8.out.keep hbt (by omega))
  have HVb0_13 := Lib.hid (HVb0_9.out.keep hbt (by omega))
  have HWb0_14 := Lib.hid (HWb0_10.out.kept HVb0_9.out hbt (by omega))
  have HGI2_15 := Lib.hid (HGI2.out.keep hbt (by omega))
  have HHI2_16 := Lib.hid (HHI2.out.kept HGI2.out hbt (by omega))
  clear HB_7 HGS1_8 HVb0_9 HWb0_10 HGI2 HHI2
  clear hbt
  go_wp2_with (fail)
  (with_reducible refine (toStepS_any 0 w.heap.size n0 c0 A0 m0 _ (HA0.out.keep HB_11.out (Nat.le_refl _)) HB_11.out.size hm0).mono ?_)
  rintro e w6 ⟨Asc0, csc0, rfl, _, hrt, hst, hbt⟩
  have hz_6 := hbt.size
  have HB_17 := Lib.hid (up HB_11.out hbt)
  have HGS1_18 := Lib.hid (HGS1_12.out.keep hbt (by omega))
  have HVb0_19 := Lib.hid (HVb0_13.out.keep hbt (by omega))
  have HWb0_20 := Lib.hid (HWb0_14.out.kept HVb0_13.out hbt (by omega))
  have HGI2_21 := Lib.hid (HGI2_15.out.keep hbt (by omega))
  have HHI2_22 := Lib.hid (HHI2_16.out.kept HGI2_15.out hbt (by omega))
  clear HB_11 HGS1_12 HVb0_13 HWb0_14 HGI2_15 HHI2_16
  have HVc0 := Lib.hid hrt
  have HWc0 := Lib.hid hst
  clear hrt hst hbt
  go_wp2_with (fail)
  (with_reducible refine (eqStepS_any _ _ n0 csb0 _ _ n0 csc0 Asb0 Asc0 m0 m0 _ HVb0_19.out (by omega) hm0 HVc0.out (by omega) hm0).mono ?_)
  rintro e w7 ⟨rfl, hbt⟩
  rw [beq_self_eq_true]
  have hz_7 := hbt.size
  have HB_23 := Lib.hid (up HB_17.out hbt)
  have HGS1_24 := Lib.hid (HGS1_18.out.keep hbt (by omega))
  have HVb0_25 := Lib.hid (HVb0_19.out.keep hbt (by omega))
  have HWb0_26 := Lib.hid (HWb0_20.out.kept HVb0_19.out hbt (by omega))
  have HGI2_27 := Lib.hid (HGI2_21.out.keep hbt (by omega))
  have HHI2_28 := Lib.hid (HHI2_22.out.kept HGI2_21.out hbt (by omega))
  have HVc0_29 := Lib.hid (HVc0.out.keep hbt (by omega))
  have HWc0_30 := Lib.hid (HWc0.out.kept HVc0.out hbt (by omega))
  clear HB_17 HGS1_18 HVb0_19 HWb0_20 HGI2_21 HHI2_22 HVc0 HWc0
  clear hbt
  clear HWc0_30
  clear HVc0_29
  go_wp2_with (fail)
  (with_reducible refine (markStepS_any _ _ n0 csb0 Asb0 _ (1) _ HVb0_25.out HWb0_26.out hm0 (by omega) (by omega)).mono ?_)
  rintro e w8 ⟨rfl, _, _, hin⟩
  have hwt := Within.grown hin (in_row HVb0_25.out)
  have hz_8 := hwt.size
  clear HWb0_26
  clear HVb0_25
  have HB_31 := Lib.hid (Within.below HB_23.out hwt (by omega))
  have HGS1_32 := Lib.hid (HGS1_24.out.within hwt (by omega) (by omega))
  have HGI2_33 := Lib.hid (HGI2_27.out.within hwt (by omega) (by omega))
  have HHI2_34 := Lib.hid (HHI2_28.out.within HGI2_27.out hwt (by omega) (by omega))
  clear HB_23 HGS1_24 HGI2_27 HHI2_28
  clear hin hwt
  have hrkn : 0 ≤ 1 + 2 * (n0 : Int) := by omega
  have hrkd : decide (1 + 2 * (n0 : Int) < 0) = false := decide_eq_false (by omega)
  go_wp2_with (fail)
  (with_reducible refine (eqIntS_any _ _ u0.length cgI2 _ _ u0.length cgS1 AgI2 AgS1 u0 u0 _ HGI2_33.out (by omega) hul0 HGS1_32.out (by omega) hul0).mono ?_)
  rintro e w9 ⟨rfl, hbt⟩
  rw [beq_self_eq_true]
  have hz_9 := hbt.size
  have HB_35 := Lib.hid (up HB_31.out hbt)
  have HGS1_36 := Lib.hid (HGS1_32.out.keep hbt (by omega))
  have HGI2_37 := Lib.hid (HGI2_33.out.keep hbt (by omega))
  have HHI2_38 := Lib.hid (HHI2_34.out.kept HGI2_33.out hbt (by omega))
  clear HB_31 HGS1_32 HGI2_33 HHI2_34
  clear hbt
  go_wp2_with (fail)
  (with_reducible refine (markIntS_any _ _ u0.length cgI2 AgI2 _ 1 _ HGI2_37.out HHI2_38.out hul0 (by omega) (by omega)).mono ?_)
  rintro e w10 ⟨rfl, hrg, _, hin⟩
  have hwt := Within.grown hin (in_row HGI2_37.out)
  have hz_10 := hwt.size
  clear HHI2_38
  clear HGI2_37
  have HB_39 := Lib.hid (Within.below HB_35.out hwt (by omega))
  have HGS1_40 := Lib.hid (HGS1_36.out.within hwt (by omega) (by omega))
  clear HB_35 HGS1_36
  have HQ := Lib.hid hrg
  clear hin hwt hrg
  go_wp2_with (fail)
  (with_reducible refine (heldIntS_any _ _ u0.length cgI2 AgI2 1 _ HQ.out hul0 (by omega) (by omega)).mono ?_)
  rintro e w11 ⟨rfl, rfl⟩
  go_wp2_with (fail)
  (with_reducible refine (toStepS_any 0 w.heap.size n0 c0 A0 m0 _ (HA0.out.keep HB_39.out (Nat.le_refl _)) HB_39.out.size hm0).mono ?_)
  rintro e w11 ⟨Asd0, csd0, rfl, _, hrt, hst, hbt⟩
  have hz_11 := hbt.size
  have HB_41 := Lib.hid (up HB_39.out hbt)
  have HGS1_42 := Lib.hid (HGS1_40.out.keep hbt (by omega))
  have HQ_43 := Lib.hid (HQ.out.keep hbt (by omega))
  clear HB_39 HGS1_40 HQ
  have HVd0 := Lib.hid hrt
  have HWd0 := Lib.hid hst
  clear hrt hst hbt
  go_wp2_with (fail)
  (with_reducible refine (RunSagaI_any w10.heap.size w11.heap.size n0 csd0 Asd0 m0 z1 _ HVd0.out (by omega) hm0 hz1).mono ?_)
  rw [HU0.out, HU1.out]
  rintro e w12 ⟨AgI3, cgI3, rfl, _, hrt, hst, hbt⟩
  have hz_12 := hbt.size
  have HB_44 := Lib.hid (up HB_41.out hbt)
  have HGS1_45 := Lib.hid (HGS1_42.out.keep hbt (by omega))
  have HQ_46 := Lib.hid (HQ_43.out.keep hbt (by omega))
  have HVd0_47 := Lib.hid (HVd0.out.keep hbt (by omega))
  have HWd0_48 := Lib.hid (HWd0.out.kept HVd0.out hbt (by omega))
  clear HB_41 HGS1_42 HQ_43 HVd0 HWd0
  have HGI3 := Lib.hid hrt
  have HHI3 := Lib.hid hst
  clear hrt hst hbt
  clear HWd0_48
  clear HVd0_47
  clear HHI3
  go_wp2_with (fail)
  (with_reducible refine (eqIntS_any _ _ u0.length cgI3 _ _ u0.length cgS1 AgI3 AgS1 u0 u0 _ HGI3.out (by omega) hul0 HGS1_45.out (by omega) hul0).mono ?_)
  rintro e w13 ⟨rfl, hbt⟩
  rw [beq_self_eq_true]
  have hz_13 := hbt.size
  have HB_49 := Lib.hid (up HB_44.out hbt)
  have HGS1_50 := Lib.hid (HGS1_45.out.keep hbt (by omega))
  have HQ_51 := Lib.hid (HQ_46.out.keep hbt (by omega))
  have HGI3_52 := Lib.hid (HGI3.out.keep hbt (by omega))
  clear HB_44 HGS1_45 HQ_46 HGI3
  clear hbt
  clear HGI3_52
  go_wp2_with (fail)
  (with_reducible refine (heldIntS_any _ _ u0.length cgI2 AgI2 1 _ HQ_51.out hul0 (by omega) (by omega)).mono ?_)
  rintro e wz ⟨rfl, rfl⟩
  go_wp2
  go_ret
  exact ⟨rfl, HB_49.out⟩
end Go.Proofs.Ytogocinmlanikaa
