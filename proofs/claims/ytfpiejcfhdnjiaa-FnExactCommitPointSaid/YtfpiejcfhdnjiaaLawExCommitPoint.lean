/- The law FnExactCommitPoint, walked: it returns true. (Written by gen/exlist.py.) -/
import Derived.Test.YtfpiejcfhdnjiaaExEntry
import Derived.Test.YtfpiejcfhdnjiaaExInt
import Derived.Test.YtfpiejcfhdnjiaaExWithin
import Derived.Test.YtfpiejcfhdnjiaaCommitI
import Derived.Test.YtfpiejcfhdnjiaaCommitS
set_option linter.unusedSimpArgs false
set_option linter.unusedVariables false
namespace Go.Proofs.Ytfpiejcfhdnjiaa
open Go.RowKit

set_option maxRecDepth 100000 in
set_option maxHeartbeats 6400000 in
theorem exCommitPoint_any (n0 c0 : Nat) (A0 : Option Addr) (m0 : List En) (n1 c1 : Nat) (A1 : Option Addr) (m1 : List Int) (z2 : Int) (w : World) (hn0 : n0 ≤ 9223372036854775807) (hr0 : Rd w 0 w.heap.size 2 A0 n0 (pvs m0)) (hn1 : n1 ≤ 9223372036854775807) (hr1 : Rd w 0 w.heap.size 1 A1 n1 (ivs m1)) (hz2 : in64 z2) :
    Calls Try.prog 9 #[.slice A0 n0 c0, .slice A1 n1 c1, .int .i64 z2] w fun e w' => e = .returned (.bool true) ∧ Below w.heap.size w w' := by
  by_cases hg1 : (1048576 : Int) < n1
  · go_enter Try.func9, Try.ntmps9
    go_wp2
    go_ret
    exact ⟨rfl, Below.refl _ _⟩
  have hm1 : n1 ≤ 1048576 := by omega
  by_cases hm0' : n0 ≤ 1048576
  case neg =>
    go_enter Try.func9, Try.ntmps9
    go_wp2_with (fail)
    (with_reducible refine (szEntryS_no n0 c0 A0 1048576 _ hn0 (by omega) (by omega) (by omega)).mono ?_)
    rintro e w1 ⟨rfl, rfl⟩
    go_wp2
    go_ret
    exact ⟨rfl, Below.refl _ _⟩
  have hm0 : n0 ≤ 1048576 := by omega
  have HL0 := Lib.hid hr0.len2
  have HA0 := Lib.hid hr0
  have HL1 := Lib.hid hr1.len1
  have HA1 := Lib.hid hr1
  clear hr0 hr1
  have HB_0 := Lib.hid (Below.refl w.heap.size w)
  go_enter Try.func9, Try.ntmps9
  go_wp2_with (fail)
  (with_reducible refine (szEntryS_yes n0 c0 A0 1048576 _ (by omega) (by omega) (by omega)).mono ?_)
  rintro e w0 ⟨rfl, rfl⟩
  have hleft2_0 : 0 ≤ ((1048576 : Int) - n0) := by omega
  have hleft3_0 : decide (((1048576 : Int) - n0) < 0) = false := decide_eq_false (by omega)
  generalize hU0 : commitOf m0 m1 z2 = u0
  have hne0 : (u0 != u0) = false := by simp
  have heq0 : (u0 == u0) = true := by simp
  have HU0 := Lib.hid hU0
  clear hU0
  go_wp2_with (fail)
  (with_reducible refine (toEntryS_any 0 w.heap.size n0 c0 A0 m0 _ (HA0.out.keep HB_0.out (Nat.le_refl _)) HB_0.out.size hm0).mono ?_)
  rintro e w1 ⟨Asa0, csa0, rfl, hka0, hrt, hst, hbt⟩
  have hz_1 := hbt.size
  have HB_1 := Lib.hid (up HB_0.out hbt)
  clear HB_0
  have HVa0 := Lib.hid hrt
  have HWa0 := Lib.hid hst
  clear hrt hst hbt
  go_wp2_with (fail)
  (with_reducible refine (toIntS_any 0 w.heap.size n1 c1 A1 m1 _ (HA1.out.keep HB_1.out (Nat.le_refl _)) HB_1.out.size hm1).mono ?_)
  rintro e w2 ⟨Asa1, csa1, rfl, hka1, hrt, hst, hbt⟩
  have hz_2 := hbt.size
  have HB_2 := Lib.hid (up HB_1.out hbt)
  have HVa0_3 := Lib.hid (HVa0.out.keep hbt (by omega))
  have HWa0_4 := Lib.hid (HWa0.out.kept HVa0.out hbt (by omega))
  clear HB_1 HVa0 HWa0
  have HVa1 := Lib.hid hrt
  have HWa1 := Lib.hid hst
  clear hrt hst hbt
  go_wp2_with (fail)
  (with_reducible refine (CommitPointS_any w.heap.size w1.heap.size n0 csa0 Asa0 m0 w1.heap.size w2.heap.size n1 csa1 Asa1 m1 z2 _ HVa0_3.out (by omega) hm0 HVa1.out (by omega) hm1 hz2).mono ?_)
  rw [HU0.out]
  rintro e w3 ⟨rfl, hbt⟩
  have hz_3 := hbt.size
  have HB_5 := Lib.hid (up HB_2.out hbt)
  have HVa0_6 := Lib.hid (HVa0_3.out.keep hbt (by omega))
  have HWa0_7 := Lib.hid (HWa0_4.out.kept HVa0_3.out hbt (by omega))
  have HVa1_8 := Lib.hid (HVa1.out.keep hbt (by omega))
  have HWa1_9 := Lib.hid (HWa1.out.kept HVa1.out hbt (by omega))
  clear HB_2 HVa0_3 HWa0_4 HVa1 HWa1
  clear hbt
  clear HWa0_7
  clear HVa0_6
  clear HWa1_9
  clear HVa1_8
  go_wp2_with (fail)
  (with_reducible refine (toEntryS_any 0 w.heap.size n0 c0 A0 m0 _ (HA0.out.keep HB_5.out (Nat.le_refl _)) HB_5.out.size hm0).mono ?_)
  rintro e w4 ⟨Asb0, csb0, rfl, hkb0, hrt, hst, hbt⟩
  have hz_4 := hbt.size
  have HB_10 := Lib.hid (up HB_5.out hbt)
  clear HB_5
  have HVb0 := Lib.hid hrt
  have HWb0 := Lib.hid hst
  clear hrt hst hbt
  go_wp2_with (fail)
  (with_reducible refine (toIntS_any 0 w.heap.size n1 c1 A1 m1 _ (HA1.out.keep HB_10.out (Nat.le_refl _)) HB_10.out.size hm1).mono ?_)
  rintro e w5 ⟨Asb1, csb1, rfl, hkb1, hrt, hst, hbt⟩
  have hz_5 := hbt.size
  have HB_11 := Lib.hid (up HB_10.out hbt)
  have HVb0_12 := Lib.hid (HVb0.out.keep hbt (by omega))
  have HWb0_13 := Lib.hid (HWb0.out.kept HVb0.out hbt (by omega))
  clear HB_10 HVb0 HWb0
  have HVb1 := Lib.hid hrt
  have HWb1 := Lib.hid hst
  clear hrt hst hbt
  go_wp2_with (fail)
  (with_reducible refine (CommitPointI_any w3.heap.size w4.heap.size n0 csb0 Asb0 m0 w4.heap.size w5.heap.size n1 csb1 Asb1 m1 z2 _ HVb0_12.out (by omega) hm0 hkb0 HVb1.out (by omega) hm1 hz2).mono ?_)
  rw [HU0.out]
  rintro e w6 ⟨rfl, hbt⟩
  have hz_6 := hbt.size
  have HB_14 := Lib.hid (up HB_11.out hbt)
  have HVb0_15 := Lib.hid (HVb0_12.out.keep hbt (by omega))
  have HWb0_16 := Lib.hid (HWb0_13.out.kept HVb0_12.out hbt (by omega))
  have HVb1_17 := Lib.hid (HVb1.out.keep hbt (by omega))
  have HWb1_18 := Lib.hid (HWb1.out.kept HVb1.out hbt (by omega))
  clear HB_11 HVb0_12 HWb0_13 HVb1 HWb1
  clear hbt
  go_wp2_with (fail)
  (with_reducible refine (toEntryS_any 0 w.heap.size n0 c0 A0 m0 _ (HA0.out.keep HB_14.out (Nat.le_refl _)) HB_14.out.size hm0).mono ?_)
  rintro e w7 ⟨Asc0, csc0, rfl, hkc0, hrt, hst, hbt⟩
  have hz_7 := hbt.size
  have HB_19 := Lib.hid (up HB_14.out hbt)
  have HVb0_20 := Lib.hid (HVb0_15.out.keep hbt (by omega))
  have HWb0_21 := Lib.hid (HWb0_16.out.kept HVb0_15.out hbt (by omega))
  have HVb1_22 := Lib.hid (HVb1_17.out.keep hbt (by omega))
  have HWb1_23 := Lib.hid (HWb1_18.out.kept HVb1_17.out hbt (by omega))
  clear HB_14 HVb0_15 HWb0_16 HVb1_17 HWb1_18
  have HVc0 := Lib.hid hrt
  have HWc0 := Lib.hid hst
  clear hrt hst hbt
  go_wp2_with (fail)
  (with_reducible refine (eqEntryS_any _ _ n0 csb0 _ _ n0 csc0 Asb0 Asc0 m0 m0 _ HVb0_20.out (by omega) hm0 HVc0.out (by omega) hm0).mono ?_)
  rintro e w8 ⟨rfl, hbt⟩
  rw [beq_self_eq_true]
  have hz_8 := hbt.size
  have HB_24 := Lib.hid (up HB_19.out hbt)
  have HVb0_25 := Lib.hid (HVb0_20.out.keep hbt (by omega))
  have HWb0_26 := Lib.hid (HWb0_21.out.kept HVb0_20.out hbt (by omega))
  have HVb1_27 := Lib.hid (HVb1_22.out.keep hbt (by omega))
  have HWb1_28 := Lib.hid (HWb1_23.out.kept HVb1_22.out hbt (by omega))
  have HVc0_29 := Lib.hid (HVc0.out.keep hbt (by omega))
  have HWc0_30 := Lib.hid (HWc0.out.kept HVc0.out hbt (by omega))
  clear HB_19 HVb0_20 HWb0_21 HVb1_22 HWb1_23 HVc0 HWc0
  clear hbt
  clear HWc0_30
  clear HVc0_29
  go_wp2_with (fail)
  (with_reducible refine (toIntS_any 0 w.heap.size n1 c1 A1 m1 _ (HA1.out.keep HB_24.out (Nat.le_refl _)) HB_24.out.size hm1).mono ?_)
  rintro e w9 ⟨Asc1, csc1, rfl, hkc1, hrt, hst, hbt⟩
  have hz_9 := hbt.size
  have HB_31 := Lib.hid (up HB_24.out hbt)
  have HVb0_32 := Lib.hid (HVb0_25.out.keep hbt (by omega))
  have HWb0_33 := Lib.hid (HWb0_26.out.kept HVb0_25.out hbt (by omega))
  have HVb1_34 := Lib.hid (HVb1_27.out.keep hbt (by omega))
  have HWb1_35 := Lib.hid (HWb1_28.out.kept HVb1_27.out hbt (by omega))
  clear HB_24 HVb0_25 HWb0_26 HVb1_27 HWb1_28
  have HVc1 := Lib.hid hrt
  have HWc1 := Lib.hid hst
  clear hrt hst hbt
  go_wp2_with (fail)
  (with_reducible refine (eqIntS_any _ _ n1 csb1 _ _ n1 csc1 Asb1 Asc1 m1 m1 _ HVb1_34.out (by omega) hm1 HVc1.out (by omega) hm1).mono ?_)
  rintro e w10 ⟨rfl, hbt⟩
  rw [beq_self_eq_true]
  have hz_10 := hbt.size
  have HB_36 := Lib.hid (up HB_31.out hbt)
  have HVb0_37 := Lib.hid (HVb0_32.out.keep hbt (by omega))
  have HWb0_38 := Lib.hid (HWb0_33.out.kept HVb0_32.out hbt (by omega))
  have HVb1_39 := Lib.hid (HVb1_34.out.keep hbt (by omega))
  have HWb1_40 := Lib.hid (HWb1_35.out.kept HVb1_34.out hbt (by omega))
  have HVc1_41 := Lib.hid (HVc1.out.keep hbt (by omega))
  have HWc1_42 := Lib.hid (HWc1.out.kept HVc1.out hbt (by omega))
  clear HB_31 HVb0_32 HWb0_33 HVb1_34 HWb1_35 HVc1 HWc1
  clear hbt
  clear HWc1_42
  clear HVc1_41
  go_wp2
  go_ret
  exact ⟨rfl, HB_36.out⟩
end Go.Proofs.Ytfpiejcfhdnjiaa
