/- The law FnExactItemsFor, walked: it returns true. (Written by gen/exlist.py.) -/
import Derived.Test.YthmblolinkkbkaaExItem
import Derived.Test.YthmblolinkkbkaaExInt
import Derived.Test.YthmblolinkkbkaaExWithin
import Derived.Test.YthmblolinkkbkaaWorkJ
import Derived.Test.YthmblolinkkbkaaWorkS
set_option linter.unusedSimpArgs false
set_option linter.unusedVariables false
namespace Go.Proofs.Ythmblolinkkbkaa
open Go.RowKit

set_option maxRecDepth 100000 in
set_option maxHeartbeats 6400000 in
theorem exItemsFor_any (n0 c0 : Nat) (A0 : Option Addr) (m0 : List Tri) (z1 : Int) (n2 c2 : Nat) (A2 : Option Addr) (m2 : List Int) (w : World) (hn0 : n0 ≤ 9223372036854775807) (hr0 : Rd w 0 w.heap.size 3 A0 n0 (tvs m0)) (hz1 : in64 z1) (hn2 : n2 ≤ 9223372036854775807) (hr2 : Rd w 0 w.heap.size 1 A2 n2 (ivs m2)) :
    Calls Try.prog 13 #[.slice A0 n0 c0, .int .i64 z1, .slice A2 n2 c2] w fun e w' => e = .returned (.bool true) ∧ Below w.heap.size w w' := by
  by_cases hg2 : (1048576 : Int) < n2
  · go_enter Try.func13, Try.ntmps13
    go_wp2
    go_ret
    exact ⟨rfl, Below.refl _ _⟩
  have hm2 : n2 ≤ 1048576 := by omega
  by_cases hm0' : n0 ≤ 1048576
  case neg =>
    go_enter Try.func13, Try.ntmps13
    go_wp2_with (fail)
    (with_reducible refine (szItemS_no n0 c0 A0 1048576 _ hn0 (by omega) (by omega) (by omega)).mono ?_)
    rintro e w1 ⟨rfl, rfl⟩
    go_wp2
    go_ret
    exact ⟨rfl, Below.refl _ _⟩
  have hm0 : n0 ≤ 1048576 := hm0'
  have HL0 := Lib.hid hr0.len3
  have HA0 := Lib.hid hr0
  have HL2 := Lib.hid hr2.len1
  have HA2 := Lib.hid hr2
  clear hr0 hr2
  have HB_0 := Lib.hid (Below.refl w.heap.size w)
  go_enter Try.func13, Try.ntmps13
  go_wp2_with (fail)
  (with_reducible refine (szItemS_yes n0 c0 A0 1048576 _ (by omega) (by omega) (by omega)).mono ?_)
  rintro e w0 ⟨rfl, rfl⟩
  have hleft2 : 0 ≤ (1048576 : Int) - n0 := by omega
  have hleft3 : decide ((1048576 : Int) - n0 < 0) = false := decide_eq_false (by omega)
  have hul0 : (forOf m0 z1 m2).length ≤ 1048576 := forOf_len m0 z1 m2 (by have := HL0.out; omega)
  generalize hU0 : forOf m0 z1 m2 = u0 at hul0
  have HU0 := Lib.hid hU0
  clear hU0
  go_wp2_with (fail)
  (with_reducible refine (toItemS_any 0 w.heap.size n0 c0 A0 m0 _ (HA0.out.keep HB_0.out (Nat.le_refl _)) HB_0.out.size hm0).mono ?_)
  rintro e w1 ⟨Asa0, csa0, rfl, _, hrt, hst, hbt⟩
  have hz_1 := hbt.size
  have HB_1 := Lib.hid (up HB_0.out hbt)
  clear HB_0
  have HVa0 := Lib.hid hrt
  have HWa0 := Lib.hid hst
  clear hrt hst hbt
  go_wp2_with (fail)
  (with_reducible refine (toIntS_any 0 w.heap.size n2 c2 A2 m2 _ (HA2.out.keep HB_1.out (Nat.le_refl _)) HB_1.out.size hm2).mono ?_)
  rintro e w2 ⟨Asa2, csa2, rfl, _, hrt, hst, hbt⟩
  have hz_2 := hbt.size
  have HB_2 := Lib.hid (up HB_1.out hbt)
  have HVa0_3 := Lib.hid (HVa0.out.keep hbt (by omega))
  have HWa0_4 := Lib.hid (HWa0.out.kept HVa0.out hbt (by omega))
  clear HB_1 HVa0 HWa0
  have HVa2 := Lib.hid hrt
  have HWa2 := Lib.hid hst
  clear hrt hst hbt
  go_wp2_with (fail)
  (with_reducible refine (ItemsForS_any w.heap.size w1.heap.size n0 csa0 Asa0 m0 z1 w1.heap.size w2.heap.size n2 csa2 Asa2 m2 _ HVa0_3.out (by omega) hm0 hz1 HVa2.out (by omega) hm2).mono ?_)
  rw [HU0.out]
  rintro e w3 ⟨AgS1, cgS1, rfl, _, hrt, hst, hbt⟩
  have hz_3 := hbt.size
  have HB_5 := Lib.hid (up HB_2.out hbt)
  have HVa0_6 := Lib.hid (HVa0_3.out.keep hbt (by omega))
  have HWa0_7 := Lib.hid (HWa0_4.out.kept HVa0_3.out hbt (by omega))
  have HVa2_8 := Lib.hid (HVa2.out.keep hbt (by omega))
  have HWa2_9 := Lib.hid (HWa2.out.kept HVa2.out hbt (by omega))
  clear HB_2 HVa0_3 HWa0_4 HVa2 HWa2
  have HGS1 := Lib.hid hrt
  have HHS1 := Lib.hid hst
  clear hrt hst hbt
  clear HWa0_7
  clear HVa0_6
  clear HWa2_9
  clear HVa2_8
  clear HHS1
  go_wp2_with (fail)
  (with_reducible refine (toItemS_any 0 w.heap.size n0 c0 A0 m0 _ (HA0.out.keep HB_5.out (Nat.le_refl _)) HB_5.out.size hm0).mono ?_)
  rintro e w4 ⟨Asb0, csb0, rfl, _, hrt, hst, hbt⟩
  have hz_4 := hbt.size
  have HB_10 := Lib.hid (up HB_5.out hbt)
  have HGS1_11 := Lib.hid (HGS1.out.keep hbt (by omega))
  clear HB_5 HGS1
  have HVb0 := Lib.hid hrt
  have HWb0 := Lib.hid hst
  clear hrt hst hbt
  go_wp2_with (fail)
  (with_reducible refine (toIntS_any 0 w.heap.size n2 c2 A2 m2 _ (HA2.out.keep HB_10.out (Nat.le_refl _)) HB_10.out.size hm2).mono ?_)
  rintro e w5 ⟨Asb2, csb2, rfl, _, hrt, hst, hbt⟩
  have hz_5 := hbt.size
  have HB_12 := Lib.hid (up HB_10.out hbt)
  have HGS1_13 := Lib.hid (HGS1_11.out.keep hbt (by omega))
  have HVb0_14 := Lib.hid (HVb0.out.keep hbt (by omega))
  have HWb0_15 := Lib.hid (HWb0.out.kept HVb0.out hbt (by omega))
  clear HB_10 HGS1_11 HVb0 HWb0
  have HVb2 := Lib.hid hrt
  have HWb2 := Lib.hid hst
  clear hrt hst hbt
  go_wp2_with (fail)
  (with_reducible refine (ItemsForI_any w3.heap.size w4.heap.size n0 csb0 Asb0 m0 z1 w4.heap.size w5.heap.size n2 csb2 Asb2 m2 _ HVb0_14.out (by omega) hm0 hz1 HVb2.out (by omega) hm2).mono ?_)
  rw [HU0.out]
  rintro e w6 ⟨AgI2, cgI2, rfl, _, hrt, hst, hbt⟩
  have hz_6 := hbt.size
  have HB_16 := Lib.hid (up HB_12.out hbt)
  have HGS1_17 := Lib.hid (HGS1_13.out.keep hbt (by omega))
  have HVb0_18 := Lib.hid (HVb0_14.out.keep hbt (by omega))
  have HWb0_19 := Lib.hid (HWb0_15.out.kept HVb0_14.out hbt (by omega))
  have HVb2_20 := Lib.hid (HVb2.out.keep hbt (by omega))
  have HWb2_21 := Lib.hid (HWb2.out.kept HVb2.out hbt (by omega))
  clear HB_12 HGS1_13 HVb0_14 HWb0_15 HVb2 HWb2
  have HGI2 := Lib.hid hrt
  have HHI2 := Lib.hid hst
  clear hrt hst hbt
  go_wp2_with (fail)
  (with_reducible refine (eqIntS_any _ _ u0.length cgI2 _ _ u0.length cgS1 AgI2 AgS1 u0 u0 _ HGI2.out (by omega) hul0 HGS1_17.out (by omega) hul0).mono ?_)
  rintro e w7 ⟨rfl, hbt⟩
  rw [beq_self_eq_true]
  have hz_7 := hbt.size
  have HB_22 := Lib.hid (up HB_16.out hbt)
  have HGS1_23 := Lib.hid (HGS1_17.out.keep hbt (by omega))
  have HVb0_24 := Lib.hid (HVb0_18.out.keep hbt (by omega))
  have HWb0_25 := Lib.hid (HWb0_19.out.kept HVb0_18.out hbt (by omega))
  have HVb2_26 := Lib.hid (HVb2_20.out.keep hbt (by omega))
  have HWb2_27 := Lib.hid (HWb2_21.out.kept HVb2_20.out hbt (by omega))
  have HGI2_28 := Lib.hid (HGI2.out.keep hbt (by omega))
  have HHI2_29 := Lib.hid (HHI2.out.kept HGI2.out hbt (by omega))
  clear HB_16 HGS1_17 HVb0_18 HWb0_19 HVb2_20 HWb2_21 HGI2 HHI2
  clear hbt
  go_wp2_with (fail)
  (with_reducible refine (toItemS_any 0 w.heap.size n0 c0 A0 m0 _ (HA0.out.keep HB_22.out (Nat.le_refl _)) HB_22.out.size hm0).mono ?_)
  rintro e w8 ⟨Asc0, csc0, rfl, _, hrt, hst, hbt⟩
  have hz_8 := hbt.size
  have HB_30 := Lib.hid (up HB_22.out hbt)
  have HGS1_31 := Lib.hid (HGS1_23.out.keep hbt (by omega))
  have HVb0_32 := Lib.hid (HVb0_24.out.keep hbt (by omega))
  have HWb0_33 := Lib.hid (HWb0_25.out.kept HVb0_24.out hbt (by omega))
  have HVb2_34 := Lib.hid (HVb2_26.out.keep hbt (by omega))
  have HWb2_35 := Lib.hid (HWb2_27.out.kept HVb2_26.out hbt (by omega))
  have HGI2_36 := Lib.hid (HGI2_28.out.keep hbt (by omega))
  have HHI2_37 := Lib.hid (HHI2_29.out.kept HGI2_28.out hbt (by omega))
  clear HB_22 HGS1_23 HVb0_24 HWb0_25 HVb2_26 HWb2_27 HGI2_28 HHI2_29
  have HVc0 := Lib.hid hrt
  have HWc0 := Lib.hid hst
  clear hrt hst hbt
  go_wp2_with (fail)
  (with_reducible refine (eqItemS_any _ _ n0 csb0 _ _ n0 csc0 Asb0 Asc0 m0 m0 _ HVb0_32.out (by omega) hm0 HVc0.out (by omega) hm0).mono ?_)
  rintro e w9 ⟨rfl, hbt⟩
  rw [beq_self_eq_true]
  have hz_9 := hbt.size
  have HB_38 := Lib.hid (up HB_30.out hbt)
  have HGS1_39 := Lib.hid (HGS1_31.out.keep hbt (by omega))
  have HVb0_40 := Lib.hid (HVb0_32.out.keep hbt (by omega))
  have HWb0_41 := Lib.hid (HWb0_33.out.kept HVb0_32.out hbt (by omega))
  have HVb2_42 := Lib.hid (HVb2_34.out.keep hbt (by omega))
  have HWb2_43 := Lib.hid (HWb2_35.out.kept HVb2_34.out hbt (by omega))
  have HGI2_44 := Lib.hid (HGI2_36.out.keep hbt (by omega))
  have HHI2_45 := Lib.hid (HHI2_37.out.kept HGI2_36.out hbt (by omega))
  have HVc0_46 := Lib.hid (HVc0.out.keep hbt (by omega))
  have HWc0_47 := Lib.hid (HWc0.out.kept HVc0.out hbt (by omega))
  clear HB_30 HGS1_31 HVb0_32 HWb0_33 HVb2_34 HWb2_35 HGI2_36 HHI2_37 HVc0 HWc0
  clear hbt
  clear HWc0_47
  clear HVc0_46
  go_wp2_with (fail)
  (with_reducible refine (toIntS_any 0 w.heap.size n2 c2 A2 m2 _ (HA2.out.keep HB_38.out (Nat.le_refl _)) HB_38.out.size hm2).mono ?_)
  rintro e w10 ⟨Asc2, csc2, rfl, _, hrt, hst, hbt⟩
  have hz_10 := hbt.size
  have HB_48 := Lib.hid (up HB_38.out hbt)
  have HGS1_49 := Lib.hid (HGS1_39.out.keep hbt (by omega))
  have HVb0_50 := Lib.hid (HVb0_40.out.keep hbt (by omega))
  have HWb0_51 := Lib.hid (HWb0_41.out.kept HVb0_40.out hbt (by omega))
  have HVb2_52 := Lib.hid (HVb2_42.out.keep hbt (by omega))
  have HWb2_53 := Lib.hid (HWb2_43.out.kept HVb2_42.out hbt (by omega))
  have HGI2_54 := Lib.hid (HGI2_44.out.keep hbt (by omega))
  have HHI2_55 := Lib.hid (HHI2_45.out.kept HGI2_44.out hbt (by omega))
  clear HB_38 HGS1_39 HVb0_40 HWb0_41 HVb2_42 HWb2_43 HGI2_44 HHI2_45
  have HVc2 := Lib.hid hrt
  have HWc2 := Lib.hid hst
  clear hrt hst hbt
  go_wp2_with (fail)
  (with_reducible refine (eqIntS_any _ _ n2 csb2 _ _ n2 csc2 Asb2 Asc2 m2 m2 _ HVb2_52.out (by omega) hm2 HVc2.out (by omega) hm2).mono ?_)
  rintro e w11 ⟨rfl, hbt⟩
  rw [beq_self_eq_true]
  have hz_11 := hbt.size
  have HB_56 := Lib.hid (up HB_48.out hbt)
  have HGS1_57 := Lib.hid (HGS1_49.out.keep hbt (by omega))
  have HVb0_58 := Lib.hid (HVb0_50.out.keep hbt (by omega))
  have HWb0_59 := Lib.hid (HWb0_51.out.kept HVb0_50.out hbt (by omega))
  have HVb2_60 := Lib.hid (HVb2_52.out.keep hbt (by omega))
  have HWb2_61 := Lib.hid (HWb2_53.out.kept HVb2_52.out hbt (by omega))
  have HGI2_62 := Lib.hid (HGI2_54.out.keep hbt (by omega))
  have HHI2_63 := Lib.hid (HHI2_55.out.kept HGI2_54.out hbt (by omega))
  have HVc2_64 := Lib.hid (HVc2.out.keep hbt (by omega))
  have HWc2_65 := Lib.hid (HWc2.out.kept HVc2.out hbt (by omega))
  clear HB_48 HGS1_49 HVb0_50 HWb0_51 HVb2_52 HWb2_53 HGI2_54 HHI2_55 HVc2 HWc2
  clear hbt
  clear HWc2_65
  clear HVc2_64
  go_wp2_with (fail)
  (with_reducible refine (markItemS_any _ _ n0 csb0 Asb0 _ (1) _ HVb0_58.out HWb0_59.out hm0 (by omega) (by omega)).mono ?_)
  rintro e w12 ⟨rfl, _, _, hin⟩
  have hwt := Within.grown hin (in_row HVb0_58.out)
  have hz_12 := hwt.size
  clear HWb0_59
  clear HVb0_58
  have HB_66 := Lib.hid (Within.below HB_56.out hwt (by omega))
  have HGS1_67 := Lib.hid (HGS1_57.out.within hwt (by omega) (by omega))
  have HVb2_68 := Lib.hid (HVb2_60.out.within hwt (by omega) (by omega))
  have HWb2_69 := Lib.hid (HWb2_61.out.within HVb2_60.out hwt (by omega) (by omega))
  have HGI2_70 := Lib.hid (HGI2_62.out.within hwt (by omega) (by omega))
  have HHI2_71 := Lib.hid (HHI2_63.out.within HGI2_62.out hwt (by omega) (by omega))
  clear HB_56 HGS1_57 HVb2_60 HWb2_61 HGI2_62 HHI2_63
  clear hin hwt
  go_wp2_with (fail)
  (with_reducible refine (markIntS_any _ _ n2 csb2 Asb2 _ (1 + 3 * (n0 : Int)) _ HVb2_68.out HWb2_69.out hm2 (by omega) (by omega)).mono ?_)
  rintro e w13 ⟨rfl, _, _, hin⟩
  have hwt := Within.grown hin (in_row HVb2_68.out)
  have hz_13 := hwt.size
  clear HWb2_69
  clear HVb2_68
  have HB_72 := Lib.hid (Within.below HB_66.out hwt (by omega))
  have HGS1_73 := Lib.hid (HGS1_67.out.within hwt (by omega) (by omega))
  have HGI2_74 := Lib.hid (HGI2_70.out.within hwt (by omega) (by omega))
  have HHI2_75 := Lib.hid (HHI2_71.out.within HGI2_70.out hwt (by omega) (by omega))
  clear HB_66 HGS1_67 HGI2_70 HHI2_71
  clear hin hwt
  have hrkn : 0 ≤ 1 + 3 * (n0 : Int) + (n2 : Int) := by omega
  have hrkd : decide (1 + 3 * (n0 : Int) + (n2 : Int) < 0) = false := decide_eq_false (by omega)
  go_wp2_with (fail)
  (with_reducible refine (eqIntS_any _ _ u0.length cgI2 _ _ u0.length cgS1 AgI2 AgS1 u0 u0 _ HGI2_74.out (by omega) hul0 HGS1_73.out (by omega) hul0).mono ?_)
  rintro e w14 ⟨rfl, hbt⟩
  rw [beq_self_eq_true]
  have hz_14 := hbt.size
  have HB_76 := Lib.hid (up HB_72.out hbt)
  have HGS1_77 := Lib.hid (HGS1_73.out.keep hbt (by omega))
  have HGI2_78 := Lib.hid (HGI2_74.out.keep hbt (by omega))
  have HHI2_79 := Lib.hid (HHI2_75.out.kept HGI2_74.out hbt (by omega))
  clear HB_72 HGS1_73 HGI2_74 HHI2_75
  clear hbt
  go_wp2_with (fail)
  (with_reducible refine (markIntS_any _ _ u0.length cgI2 AgI2 _ 1 _ HGI2_78.out HHI2_79.out hul0 (by omega) (by omega)).mono ?_)
  rintro e w15 ⟨rfl, hrg, _, hin⟩
  have hwt := Within.grown hin (in_row HGI2_78.out)
  have hz_15 := hwt.size
  clear HHI2_79
  clear HGI2_78
  have HB_80 := Lib.hid (Within.below HB_76.out hwt (by omega))
  have HGS1_81 := Lib.hid (HGS1_77.out.within hwt (by omega) (by omega))
  clear HB_76 HGS1_77
  have HQ := Lib.hid hrg
  clear hin hwt hrg
  go_wp2_with (fail)
  (with_reducible refine (heldIntS_any _ _ u0.length cgI2 AgI2 1 _ HQ.out hul0 (by omega) (by omega)).mono ?_)
  rintro e w16 ⟨rfl, rfl⟩
  go_wp2_with (fail)
  (with_reducible refine (toItemS_any 0 w.heap.size n0 c0 A0 m0 _ (HA0.out.keep HB_80.out (Nat.le_refl _)) HB_80.out.size hm0).mono ?_)
  rintro e w16 ⟨Asd0, csd0, rfl, _, hrt, hst, hbt⟩
  have hz_16 := hbt.size
  have HB_82 := Lib.hid (up HB_80.out hbt)
  have HGS1_83 := Lib.hid (HGS1_81.out.keep hbt (by omega))
  have HQ_84 := Lib.hid (HQ.out.keep hbt (by omega))
  clear HB_80 HGS1_81 HQ
  have HVd0 := Lib.hid hrt
  have HWd0 := Lib.hid hst
  clear hrt hst hbt
  go_wp2_with (fail)
  (with_reducible refine (toIntS_any 0 w.heap.size n2 c2 A2 m2 _ (HA2.out.keep HB_82.out (Nat.le_refl _)) HB_82.out.size hm2).mono ?_)
  rintro e w17 ⟨Asd2, csd2, rfl, _, hrt, hst, hbt⟩
  have hz_17 := hbt.size
  have HB_85 := Lib.hid (up HB_82.out hbt)
  have HGS1_86 := Lib.hid (HGS1_83.out.keep hbt (by omega))
  have HQ_87 := Lib.hid (HQ_84.out.keep hbt (by omega))
  have HVd0_88 := Lib.hid (HVd0.out.keep hbt (by omega))
  have HWd0_89 := Lib.hid (HWd0.out.kept HVd0.out hbt (by omega))
  clear HB_82 HGS1_83 HQ_84 HVd0 HWd0
  have HVd2 := Lib.hid hrt
  have HWd2 := Lib.hid hst
  clear hrt hst hbt
  go_wp2_with (fail)
  (with_reducible refine (ItemsForI_any w15.heap.size w16.heap.size n0 csd0 Asd0 m0 z1 w16.heap.size w17.heap.size n2 csd2 Asd2 m2 _ HVd0_88.out (by omega) hm0 hz1 HVd2.out (by omega) hm2).mono ?_)
  rw [HU0.out]
  rintro e w18 ⟨AgI3, cgI3, rfl, _, hrt, hst, hbt⟩
  have hz_18 := hbt.size
  have HB_90 := Lib.hid (up HB_85.out hbt)
  have HGS1_91 := Lib.hid (HGS1_86.out.keep hbt (by omega))
  have HQ_92 := Lib.hid (HQ_87.out.keep hbt (by omega))
  have HVd0_93 := Lib.hid (HVd0_88.out.keep hbt (by omega))
  have HWd0_94 := Lib.hid (HWd0_89.out.kept HVd0_88.out hbt (by omega))
  have HVd2_95 := Lib.hid (HVd2.out.keep hbt (by omega))
  have HWd2_96 := Lib.hid (HWd2.out.kept HVd2.out hbt (by omega))
  clear HB_85 HGS1_86 HQ_87 HVd0_88 HWd0_89 HVd2 HWd2
  have HGI3 := Lib.hid hrt
  have HHI3 := Lib.hid hst
  clear hrt hst hbt
  clear HWd0_94
  clear HVd0_93
  clear HWd2_96
  clear HVd2_95
  clear HHI3
  go_wp2_with (fail)
  (with_reducible refine (eqIntS_any _ _ u0.length cgI3 _ _ u0.length cgS1 AgI3 AgS1 u0 u0 _ HGI3.out (by omega) hul0 HGS1_91.out (by omega) hul0).mono ?_)
  rintro e w19 ⟨rfl, hbt⟩
  rw [beq_self_eq_true]
  have hz_19 := hbt.size
  have HB_97 := Lib.hid (up HB_90.out hbt)
  have HGS1_98 := Lib.hid (HGS1_91.out.keep hbt (by omega))
  have HQ_99 := Lib.hid (HQ_92.out.keep hbt (by omega))
  have HGI3_100 := Lib.hid (HGI3.out.keep hbt (by omega))
  clear HB_90 HGS1_91 HQ_92 HGI3
  clear hbt
  clear HGI3_100
  go_wp2_with (fail)
  (with_reducible refine (heldIntS_any _ _ u0.length cgI2 AgI2 1 _ HQ_99.out hul0 (by omega) (by omega)).mono ?_)
  rintro e wz ⟨rfl, rfl⟩
  go_wp2
  go_ret
  exact ⟨rfl, HB_97.out⟩
end Go.Proofs.Ythmblolinkkbkaa
