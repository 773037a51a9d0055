/- The law FnExactValidSnap, walked: it returns true. (Written by gen/exsnapw.py.) -/
import Derived.Test.YthodkjflnjocbaaExSnap
import Derived.Test.YthodkjflnjocbaaSnapJ
import Derived.Test.YthodkjflnjocbaaSnapS
import Derived.Test.YthodkjflnjocbaaSnapP
import Derived.Deep.RegionHeld3
set_option linter.unusedSimpArgs false
set_option linter.unusedVariables false
namespace Go.Proofs.Ythodkjflnjocbaa
open Go.RowKit

set_option maxRecDepth 100000 in
set_option maxHeartbeats 12800000 in
theorem exValidSnap_any (N0 T0 S0 : Int) (n0 c0 : Nat) (A0 : Option Addr) (m0 : List En) (w : World) (hn0 : n0 ≤ 9223372036854775807) (hr0 : Rd w 0 w.heap.size 2 A0 n0 (pvs m0)) :
    Calls Try.prog 3 #[.agg #[.int .i64 N0, .int .i64 T0, .int .i64 S0, .slice A0 n0 c0]] w fun e w' => e = .returned (.bool true) ∧ Below w.heap.size w w' := by
  by_cases hm0' : n0 ≤ 1048576
  case neg =>
    go_enter Try.func3, Try.ntmps3
    go_wp2_with (fail)
    have hb0 := (up_alloc (Below.refl _ w) (.cells #[.int .i64 N0, .int .i64 T0, .int .i64 S0, .slice A0 n0 c0] 24))
    (with_reducible refine (szSnap_no N0 T0 S0 n0 c0 A0 1048576 _ hn0 (by omega) (by omega) (by omega)).mono ?_)
    rintro e w1 ⟨rfl, hbt⟩
    have HB := Lib.hid (up hb0 hbt)
    clear hbt hb0
    go_wp2
    go_ret
    exact ⟨rfl, HB.out⟩
  have hm0 : n0 ≤ 1048576 := by omega
  have hlf0 : decide (((1048576 : Int) - n0) < 0) = false := decide_eq_false (by omega)
  obtain ⟨b, hU⟩ : ∃ u, vSnap N0 T0 S0 m0 = u := ⟨_, rfl⟩
  have HU := Lib.hid hU
  clear hU
  have hne : (b != b) = false := by simp
  have heq : (b == b) = true := by simp
  have HA0 := Lib.hid hr0
  clear hr0
  have HB := Lib.hid (up_alloc (Below.refl _ w) (.cells #[.int .i64 N0, .int .i64 T0, .int .i64 S0, .slice A0 n0 c0] 24))
  have hz_0 := HB.out.size
  have HX0 := Lib.hid (Blk.new w 24 #[.int .i64 N0, .int .i64 T0, .int .i64 S0, .slice A0 n0 c0])
  have hs_0 : (w.alloc (.cells #[.int .i64 N0, .int .i64 T0, .int .i64 S0, .slice A0 n0 c0] 24)).heap.size = w.heap.size + 1 := by simp
  go_enter Try.func3, Try.ntmps3
  go_wp2_with (fail)
  generalize (w.alloc (.cells #[.int .i64 N0, .int .i64 T0, .int .i64 S0, .slice A0 n0 c0] 24)) = w0 at *
  (with_reducible refine (szSnap_yes N0 T0 S0 n0 c0 A0 1048576 _ (by omega) (by omega) (by omega)).mono ?_)
  rintro e w1 ⟨rfl, hbt⟩
  have hz_1 := hbt.size
  have HX0_1 := Lib.hid (HX0.out.below hbt HX0.out.lt)
  have HB_2 := Lib.hid (up HB.out hbt)
  clear HX0 HB
  clear hbt
  have a_3 := HX0_1.out.cell 0
  have a_4 := HX0_1.out.cell 1
  have a_5 := HX0_1.out.cell 2
  have a_6 := HX0_1.out.cell 3
  go_wp2_with (fail)
  try clear a_3 a_4 a_5 a_6
  (with_reducible refine (toSnap_any N0 T0 S0 0 w.heap.size n0 c0 A0 m0 _ (HA0.out.keep HB_2.out (Nat.le_refl _)) HB_2.out.size hm0).mono ?_)
  rintro e w2 ⟨Aa0, ca0, rfl, hka0, hrt, hst, hbt⟩
  have hz_2 := hbt.size
  have HX0_7 := Lib.hid (HX0_1.out.below hbt HX0_1.out.lt)
  have HB_8 := Lib.hid (up HB_2.out hbt)
  clear HX0_1 HB_2
  clear hbt
  have HRa0_9 := Lib.hid hrt
  clear hrt hst
  go_wp2_with (fail)
  (with_reducible refine (ValidSnapS_any N0 T0 S0 _ _ n0 ca0 Aa0 m0 _ HRa0_9.out (by omega) hm0).mono ?_)
  rw [HU.out]
  rintro e w3 ⟨rfl, hbt⟩
  have hz_3 := hbt.size
  have HX0_10 := Lib.hid (HX0_7.out.below hbt HX0_7.out.lt)
  have HB_11 := Lib.hid (up HB_8.out hbt)
  have HRa0_12 := Lib.hid (HRa0_9.out.keep hbt (by omega))
  clear HX0_7 HB_8 HRa0_9
  clear hbt
  clear HRa0_12
  have a_13 := HX0_10.out.cell 0
  have a_14 := HX0_10.out.cell 1
  have a_15 := HX0_10.out.cell 2
  have a_16 := HX0_10.out.cell 3
  go_wp2_with (fail)
  try clear a_13 a_14 a_15 a_16
  (with_reducible refine (toSnap_any N0 T0 S0 0 w.heap.size n0 c0 A0 m0 _ (HA0.out.keep HB_11.out (Nat.le_refl _)) HB_11.out.size hm0).mono ?_)
  rintro e w4 ⟨Ap0, cp0, rfl, hkp0, hrt, hst, hbt⟩
  have hz_4 := hbt.size
  have HX0_17 := Lib.hid (HX0_10.out.below hbt HX0_10.out.lt)
  have HB_18 := Lib.hid (up HB_11.out hbt)
  clear HX0_10 HB_11
  clear hbt
  have HRp0_19 := Lib.hid hrt
  have HSp0_20 := Lib.hid hst
  clear hrt hst
  have HKP0_21 := Lib.hid (Blk.new w4 29 #[.int .i64 N0, .int .i64 T0, .int .i64 S0, .slice Ap0 n0 cp0])
  have hbt := up_alloc (Below.refl _ w4) (.cells #[.int .i64 N0, .int .i64 T0, .int .i64 S0, .slice Ap0 n0 cp0] 29)
  have hs_5 : (w4.alloc (.cells #[.int .i64 N0, .int .i64 T0, .int .i64 S0, .slice Ap0 n0 cp0] 29)).heap.size = w4.heap.size + 1 := by simp
  have hz_5 := hbt.size
  have HX0_22 := Lib.hid (HX0_17.out.below hbt HX0_17.out.lt)
  have HB_23 := Lib.hid (up HB_18.out hbt)
  have HRp0_24 := Lib.hid (HRp0_19.out.keep hbt (by omega))
  have HSp0_25 := Lib.hid (HSp0_20.out.kept HRp0_19.out hbt (by omega))
  clear HX0_17 HB_18 HRp0_19 HSp0_20
  clear hbt
  go_wp2_with (fail)
  generalize w4.alloc (.cells #[.int .i64 N0, .int .i64 T0, .int .i64 S0, .slice Ap0 n0 cp0] 29) = w5 at *
  (with_reducible refine (ValidSnapI_any N0 T0 S0 _ _ n0 cp0 Ap0 m0 _ HRp0_24.out (by omega) hm0 hkp0).mono ?_)
  rw [HU.out]
  rintro e w6 ⟨rfl, hbt⟩
  have hz_6 := hbt.size
  have HX0_26 := Lib.hid (HX0_22.out.below hbt HX0_22.out.lt)
  have HB_27 := Lib.hid (up HB_23.out hbt)
  have HRp0_28 := Lib.hid (HRp0_24.out.keep hbt (by omega))
  have HSp0_29 := Lib.hid (HSp0_25.out.kept HRp0_24.out hbt (by omega))
  have HP0_30 := Lib.hid (HKP0_21.out.below hbt HKP0_21.out.lt)
  clear HX0_22 HB_23 HRp0_24 HSp0_25 HKP0_21
  clear hbt
  have a_31 := HP0_30.out.cell 0
  have a_32 := HP0_30.out.cell 1
  have a_33 := HP0_30.out.cell 2
  have a_34 := HP0_30.out.cell 3
  have a_35 := HX0_26.out.cell 0
  have a_36 := HX0_26.out.cell 1
  have a_37 := HX0_26.out.cell 2
  have a_38 := HX0_26.out.cell 3
  go_wp2_with (fail)
  have kc0 : w6.cell? ⟨w4.heap.size, 0, none⟩ = some (.int .i64 N0) := HP0_30.out.cell 0
  have kc1 : w6.cell? ⟨w4.heap.size, 1, none⟩ = some (.int .i64 T0) := HP0_30.out.cell 1
  have kc2 : w6.cell? ⟨w4.heap.size, 2, none⟩ = some (.int .i64 S0) := HP0_30.out.cell 2
  have kc3 : w6.cell? ⟨w4.heap.size, 3, none⟩ = some (.slice Ap0 n0 cp0) := HP0_30.out.cell 3
  have kc4 : w6.cell? ⟨w.heap.size, 0, none⟩ = some (.int .i64 N0) := HX0_26.out.cell 0
  have kc5 : w6.cell? ⟨w.heap.size, 1, none⟩ = some (.int .i64 T0) := HX0_26.out.cell 1
  have kc6 : w6.cell? ⟨w.heap.size, 2, none⟩ = some (.int .i64 S0) := HX0_26.out.cell 2
  have kc7 : w6.cell? ⟨w.heap.size, 3, none⟩ = some (.slice A0 n0 c0) := HX0_26.out.cell 3
  have hlp := HP0_30.out.lt
  have hlx := HX0_26.out.lt
  have HC0 := Lib.hid (toSnap_any N0 T0 S0 0 w.heap.size n0 c0 A0 m0 w6.drew (HA0.out.keep (up_drew HB_27.out) (Nat.le_refl _)) HB_27.out.size hm0)
  try clear a_31 a_32 a_33 a_34 a_35 a_36 a_37 a_38
  go_region_held3 (fun w' => w'.cell? ⟨w4.heap.size, 0, none⟩ = some (.int .i64 N0) ∧ w'.cell? ⟨w4.heap.size, 1, none⟩ = some (.int .i64 T0) ∧ w'.cell? ⟨w4.heap.size, 2, none⟩ = some (.int .i64 S0) ∧ w'.cell? ⟨w4.heap.size, 3, none⟩ = some (.slice Ap0 n0 cp0) ∧ w'.cell? ⟨w.heap.size, 0, none⟩ = some (.int .i64 N0) ∧ w'.cell? ⟨w.heap.size, 1, none⟩ = some (.int .i64 T0) ∧ w'.cell? ⟨w.heap.size, 2, none⟩ = some (.int .i64 S0) ∧ w'.cell? ⟨w.heap.size, 3, none⟩ = some (.slice A0 n0 c0))
    (first | exact ⟨kc0, kc1, kc2, kc3, kc4, kc5, kc6, kc7⟩ | exact ⟨(hb7.cell (by show w4.heap.size < w6.heap.size; omega)).trans kc0, (hb7.cell (by show w4.heap.size < w6.heap.size; omega)).trans kc1, (hb7.cell (by show w4.heap.size < w6.heap.size; omega)).trans kc2, (hb7.cell (by show w4.heap.size < w6.heap.size; omega)).trans kc3, (hb7.cell (by show w.heap.size < w6.heap.size; omega)).trans kc4, (hb7.cell (by show w.heap.size < w6.heap.size; omega)).trans kc5, (hb7.cell (by show w.heap.size < w6.heap.size; omega)).trans kc6, (hb7.cell (by show w.heap.size < w6.heap.size; omega)).trans kc7⟩ | exact ⟨(hb8.cell (by show w4.heap.size < w97.heap.size; omega)).trans ((hb7.cell (by show w4.heap.size < w6.heap.size; omega)).trans kc0), (hb8.cell (by show w4.heap.size < w97.heap.size; omega)).trans ((hb7.cell (by show w4.heap.size < w6.heap.size; omega)).trans kc1), (hb8.cell (by show w4.heap.size < w97.heap.size; omega)).trans ((hb7.cell (by show w4.heap.size < w6.heap.size; omega)).trans kc2), (hb8.cell (by show w4.heap.size < w97.heap.size; omega)).trans ((hb7.cell (by show w4.heap.size < w6.heap.size; omega)).trans kc3), (hb8.cell (by show w.heap.size < w97.heap.size; omega)).trans ((hb7.cell (by show w.heap.size < w6.heap.size; omega)).trans kc4), (hb8.cell (by show w.heap.size < w97.heap.size; omega)).trans ((hb7.cell (by show w.heap.size < w6.heap.size; omega)).trans kc5), (hb8.cell (by show w.heap.size < w97.heap.size; omega)).trans ((hb7.cell (by show w.heap.size < w6.heap.size; omega)).trans kc6), (hb8.cell (by show w.heap.size < w97.heap.size; omega)).trans ((hb7.cell (by show w.heap.size < w6.heap.size; omega)).trans kc7)⟩)
    ((first
      | (go_at_call 15; refine HC0.out.mono ?_; rintro e w97 ⟨A7, c7, rfl, hk7, hr7, _, hb7⟩; have hs7 : w6.heap.size ≤ w97.heap.size := hb7.size)
      | (go_at_call 17; refine (eqSnap_same N0 T0 S0 _ _ n0 _ _ _ _ _ _ m0 w97 (HRp0_28.out.keep (up (up_drew (Below.refl _ w6)) hb7) (by omega)) (by omega) hm0 hr7 (Nat.le_refl _)).mono ?_; rintro e w98 ⟨rfl, hb8⟩)))
  all_goals
    have hbt := up (up (up_drew (Below.refl _ w6)) hb7) hb8
    clear HC0 kc0 kc1 kc2 kc3 kc4 kc5 kc6 kc7
    obtain ⟨w7, hww⟩ : ∃ x : World, x = w98 := ⟨_, rfl⟩
    subst hww
    have hz_7 := hbt.size
    have HX0_39 := Lib.hid (HX0_26.out.below hbt HX0_26.out.lt)
    have HB_40 := Lib.hid (up HB_27.out hbt)
    have HRp0_41 := Lib.hid (HRp0_28.out.keep hbt (by omega))
    have HSp0_42 := Lib.hid (HSp0_29.out.kept HRp0_28.out hbt (by omega))
    have HP0_43 := Lib.hid (HP0_30.out.below hbt HP0_30.out.lt)
    clear HX0_26 HB_27 HRp0_28 HSp0_29 HP0_30
    clear hbt hb7 hb8 hr7 hlp hlx
    try clear hs7
    go_wp2
    go_ret
    exact ⟨rfl, HB_40.out⟩
end Go.Proofs.Ythodkjflnjocbaa
