/- The law FnExactCompactLog, walked: it returns true. (Written by gen/exsnapw.py.) -/
import Derived.Test.YthodkjflnjocbaaExSnap
import Derived.Test.YthodkjflnjocbaaSnapJ
import Derived.Test.YthodkjflnjocbaaSnapS
import Derived.Test.YthodkjflnjocbaaSnapP
import Derived.Deep.RegionHeld3
import Derived.Test.YthodkjflnjocbaaSnapT
import Derived.Test.YthodkjflnjocbaaSnapK
set_option linter.unusedSimpArgs false
set_option linter.unusedVariables false
namespace Go.Proofs.Ythodkjflnjocbaa
open Go.RowKit

set_option maxRecDepth 100000 in
set_option maxHeartbeats 12800000 in
theorem exCompactLog_any (N0 T0 S0 : Int) (n0 c0 : Nat) (A0 : Option Addr) (m0 : List En) (z1 : Int) (w : World) (hn0 : n0 ≤ 9223372036854775807) (hr0 : Rd w 0 w.heap.size 2 A0 n0 (pvs m0)) (hz1 : in64 z1) :
    Calls Try.prog 5 #[.agg #[.int .i64 N0, .int .i64 T0, .int .i64 S0, .slice A0 n0 c0], .int .i64 z1] w fun e w' => e = .returned (.bool true) ∧ Below w.heap.size w w' := by
  by_cases hm0' : n0 ≤ 1048576
  case neg =>
    go_enter Try.func5, Try.ntmps5
    go_wp2_with (fail)
    have hb0 := (up_alloc (Below.refl _ w) (.cells #[.int .i64 N0, .int .i64 T0, .int .i64 S0, .slice A0 n0 c0] 24))
    (with_reducible refine (szSnap_no N0 T0 S0 n0 c0 A0 1048576 _ hn0 (by omega) (by omega) (by omega)).mono ?_)
    rintro e w1 ⟨rfl, hbt⟩
    have HB := Lib.hid (up hb0 hbt)
    clear hbt hb0
    go_wp2
    go_ret
    exact ⟨rfl, HB.out⟩
  have hm0 : n0 ≤ 1048576 := by omega
  have hlf0 : decide (((1048576 : Int) - n0) < 0) = false := decide_eq_false (by omega)
  obtain ⟨⟨⟨N, T, S, R⟩, b⟩, hU⟩ : ∃ u, compOf N0 T0 S0 m0 z1 = u := ⟨_, rfl⟩
  obtain ⟨kS, hS⟩ : ∃ k, R.length = k := ⟨_, rfl⟩
  have hkS : kS ≤ 1048576 := by
    have h1 := compOf_len N0 T0 S0 m0 z1
    have h2 := hr0.len2
    rw [hU] at h1
    dsimp only at h1
    omega
  have HS := Lib.hid hS
  clear hS
  have HU := Lib.hid hU
  clear hU
  have hne : (b != b) = false := by simp
  have heq : (b == b) = true := by simp
  have HA0 := Lib.hid hr0
  clear hr0
  have HB := Lib.hid (up_alloc (Below.refl _ w) (.cells #[.int .i64 N0, .int .i64 T0, .int .i64 S0, .slice A0 n0 c0] 24))
  have hz_0 := HB.out.size
  have HX0 := Lib.hid (Blk.new w 24 #[.int .i64 N0, .int .i64 T0, .int .i64 S0, .slice A0 n0 c0])
  have hs_0 : (w.alloc (.cells #[.int .i64 N0, .int .i64 T0, .int .i64 S0, .slice A0 n0 c0] 24)).heap.size = w.heap.size + 1 := by simp
  go_enter Try.func5, Try.ntmps5
  go_wp2_with (fail)
  generalize (w.alloc (.cells #[.int .i64 N0, .int .i64 T0, .int .i64 S0, .slice A0 n0 c0] 24)) = w0 at *
  (with_reducible refine (szSnap_yes N0 T0 S0 n0 c0 A0 1048576 _ (by omega) (by omega) (by omega)).mono ?_)
  rintro e w1 ⟨rfl, hbt⟩
  have hz_1 := hbt.size
  have HX0_1 := Lib.hid (HX0.out.below hbt HX0.out.lt)
  have HB_2 := Lib.hid (up HB.out hbt)
  clear HX0 HB
  clear hbt
  have a_3 := HX0_1.out.cell 0
  have a_4 := HX0_1.out.cell 1
  have a_5 := HX0_1.out.cell 2
  have a_6 := HX0_1.out.cell 3
  go_wp2_with (fail)
  try clear a_3 a_4 a_5 a_6
  (with_reducible refine (toSnap_any N0 T0 S0 0 w.heap.size n0 c0 A0 m0 _ (HA0.out.keep HB_2.out (Nat.le_refl _)) HB_2.out.size hm0).mono ?_)
  rintro e w2 ⟨Aa0, ca0, rfl, hka0, hrt, hst, hbt⟩
  have hz_2 := hbt.size
  have HX0_7 := Lib.hid (HX0_1.out.below hbt HX0_1.out.lt)
  have HB_8 := Lib.hid (up HB_2.out hbt)
  clear HX0_1 HB_2
  clear hbt
  have HRa0_9 := Lib.hid hrt
  clear hrt hst
  go_wp2_with (fail)
  (with_reducible refine (CompactLogS_any N0 T0 S0 _ _ n0 ca0 Aa0 m0 z1 _ HRa0_9.out (by omega) hm0 hka0 hz1).mono ?_)
  intro e w3 hvt
  obtain ⟨As, cs, rfl, hks, hrt, hst, hbt⟩ := hvt.q HU.out HS.out
  clear hvt
  have hz_3 := hbt.size
  have HX0_10 := Lib.hid (HX0_7.out.below hbt HX0_7.out.lt)
  have HB_11 := Lib.hid (up HB_8.out hbt)
  have HRa0_12 := Lib.hid (HRa0_9.out.keep hbt (by omega))
  clear HX0_7 HB_8 HRa0_9
  clear hbt
  have HRs_13 := Lib.hid hrt
  clear hrt hst
  clear HRa0_12
  have HKW_14 := Lib.hid (Blk.new w3 29 #[.int .i64 N, .int .i64 T, .int .i64 S, .slice As kS cs])
  have hbt := up_alloc (Below.refl _ w3) (.cells #[.int .i64 N, .int .i64 T, .int .i64 S, .slice As kS cs] 29)
  have hs_4 : (w3.alloc (.cells #[.int .i64 N, .int .i64 T, .int .i64 S, .slice As kS cs] 29)).heap.size = w3.heap.size + 1 := by simp
  have a_15 := HX0_10.out.cell 0
  have a_16 := HX0_10.out.cell 1
  have a_17 := HX0_10.out.cell 2
  have a_18 := HX0_10.out.cell 3
  have hz_4 := hbt.size
  have HX0_19 := Lib.hid (HX0_10.out.below hbt HX0_10.out.lt)
  have HB_20 := Lib.hid (up HB_11.out hbt)
  have HRs_21 := Lib.hid (HRs_13.out.keep hbt (by omega))
  clear HX0_10 HB_11 HRs_13
  clear hbt
  have a_22 := HX0_19.out.cell 0
  have a_23 := HX0_19.out.cell 1
  have a_24 := HX0_19.out.cell 2
  have a_25 := HX0_19.out.cell 3
  go_wp2_with (fail)
  try clear a_15 a_16 a_17 a_18 a_22 a_23 a_24 a_25
  generalize w3.alloc (.cells #[.int .i64 N, .int .i64 T, .int .i64 S, .slice As kS cs] 29) = w4 at *
  have a_26 := HX0_19.out.cell 0
  have a_27 := HX0_19.out.cell 1
  have a_28 := HX0_19.out.cell 2
  have a_29 := HX0_19.out.cell 3
  try clear a_26 a_27 a_28 a_29
  (with_reducible refine (toSnap_any N0 T0 S0 0 w.heap.size n0 c0 A0 m0 _ (HA0.out.keep HB_20.out (Nat.le_refl _)) HB_20.out.size hm0).mono ?_)
  rintro e w5 ⟨Ap0, cp0, rfl, hkp0, hrt, hst, hbt⟩
  have hz_5 := hbt.size
  have HX0_30 := Lib.hid (HX0_19.out.below hbt HX0_19.out.lt)
  have HB_31 := Lib.hid (up HB_20.out hbt)
  have HRs_32 := Lib.hid (HRs_21.out.keep hbt (by omega))
  have HW_33 := Lib.hid (HKW_14.out.below hbt HKW_14.out.lt)
  clear HX0_19 HB_20 HRs_21 HKW_14
  clear hbt
  have HRp0_34 := Lib.hid hrt
  have HSp0_35 := Lib.hid hst
  clear hrt hst
  have HKP0_36 := Lib.hid (Blk.new w5 29 #[.int .i64 N0, .int .i64 T0, .int .i64 S0, .slice Ap0 n0 cp0])
  have hbt := up_alloc (Below.refl _ w5) (.cells #[.int .i64 N0, .int .i64 T0, .int .i64 S0, .slice Ap0 n0 cp0] 29)
  have hs_6 : (w5.alloc (.cells #[.int .i64 N0, .int .i64 T0, .int .i64 S0, .slice Ap0 n0 cp0] 29)).heap.size = w5.heap.size + 1 := by simp
  have hz_6 := hbt.size
  have HX0_37 := Lib.hid (HX0_30.out.below hbt HX0_30.out.lt)
  have HB_38 := Lib.hid (up HB_31.out hbt)
  have HRs_39 := Lib.hid (HRs_32.out.keep hbt (by omega))
  have HW_40 := Lib.hid (HW_33.out.below hbt HW_33.out.lt)
  have HRp0_41 := Lib.hid (HRp0_34.out.keep hbt (by omega))
  have HSp0_42 := Lib.hid (HSp0_35.out.kept HRp0_34.out hbt (by omega))
  clear HX0_30 HB_31 HRs_32 HW_33 HRp0_34 HSp0_35
  clear hbt
  go_wp2_with (fail)
  generalize w5.alloc (.cells #[.int .i64 N0, .int .i64 T0, .int .i64 S0, .slice Ap0 n0 cp0] 29) = w6 at *
  (with_reducible refine (CompactLogI_any N0 T0 S0 _ _ n0 cp0 Ap0 m0 z1 _ HRp0_41.out (by omega) hm0 hkp0 hz1).mono ?_)
  intro e w7 hvt
  obtain ⟨Ai, ci, rfl, hki, hrt, hst, hbt⟩ := hvt.q HU.out HS.out
  clear hvt
  have hz_7 := hbt.size
  have HX0_43 := Lib.hid (HX0_37.out.below hbt HX0_37.out.lt)
  have HB_44 := Lib.hid (up HB_38.out hbt)
  have HRs_45 := Lib.hid (HRs_39.out.keep hbt (by omega))
  have HW_46 := Lib.hid (HW_40.out.below hbt HW_40.out.lt)
  have HRp0_47 := Lib.hid (HRp0_41.out.keep hbt (by omega))
  have HSp0_48 := Lib.hid (HSp0_42.out.kept HRp0_41.out hbt (by omega))
  have HP0_49 := Lib.hid (HKP0_36.out.below hbt HKP0_36.out.lt)
  clear HX0_37 HB_38 HRs_39 HW_40 HRp0_41 HSp0_42 HKP0_36
  clear hbt
  have HRi_50 := Lib.hid hrt
  have HSi_51 := Lib.hid hst
  clear hrt hst
  have HKI_52 := Lib.hid (Blk.new w7 29 #[.int .i64 N, .int .i64 T, .int .i64 S, .slice Ai kS ci])
  have hbt := up_alloc (Below.refl _ w7) (.cells #[.int .i64 N, .int .i64 T, .int .i64 S, .slice Ai kS ci] 29)
  have hs_8 : (w7.alloc (.cells #[.int .i64 N, .int .i64 T, .int .i64 S, .slice Ai kS ci] 29)).heap.size = w7.heap.size + 1 := by simp
  have a_53 := HW_46.out.cell 0
  have a_54 := HW_46.out.cell 1
  have a_55 := HW_46.out.cell 2
  have a_56 := HW_46.out.cell 3
  have hz_8 := hbt.size
  have HX0_57 := Lib.hid (HX0_43.out.below hbt HX0_43.out.lt)
  have HB_58 := Lib.hid (up HB_44.out hbt)
  have HRs_59 := Lib.hid (HRs_45.out.keep hbt (by omega))
  have HW_60 := Lib.hid (HW_46.out.below hbt HW_46.out.lt)
  have HRp0_61 := Lib.hid (HRp0_47.out.keep hbt (by omega))
  have HSp0_62 := Lib.hid (HSp0_48.out.kept HRp0_47.out hbt (by omega))
  have HP0_63 := Lib.hid (HP0_49.out.below hbt HP0_49.out.lt)
  have HRi_64 := Lib.hid (HRi_50.out.keep hbt (by omega))
  have HSi_65 := Lib.hid (HSi_51.out.kept HRi_50.out hbt (by omega))
  clear HX0_43 HB_44 HRs_45 HW_46 HRp0_47 HSp0_48 HP0_49 HRi_50 HSi_51
  clear hbt
  have a_66 := HW_60.out.cell 0
  have a_67 := HW_60.out.cell 1
  have a_68 := HW_60.out.cell 2
  have a_69 := HW_60.out.cell 3
  go_wp2_with (fail)
  try clear a_53 a_54 a_55 a_56 a_66 a_67 a_68 a_69
  generalize w7.alloc (.cells #[.int .i64 N, .int .i64 T, .int .i64 S, .slice Ai kS ci] 29) = w8 at *
  (with_reducible refine (eqSnap_same N T S _ _ kS _ _ _ _ _ _ R _ HRi_64.out (by omega) (by omega) HRs_59.out (by omega)).mono ?_)
  rintro e w9 ⟨rfl, hbt⟩
  have hz_9 := hbt.size
  have HX0_70 := Lib.hid (HX0_57.out.below hbt HX0_57.out.lt)
  have HB_71 := Lib.hid (up HB_58.out hbt)
  have HRs_72 := Lib.hid (HRs_59.out.keep hbt (by omega))
  have HW_73 := Lib.hid (HW_60.out.below hbt HW_60.out.lt)
  have HRp0_74 := Lib.hid (HRp0_61.out.keep hbt (by omega))
  have HSp0_75 := Lib.hid (HSp0_62.out.kept HRp0_61.out hbt (by omega))
  have HP0_76 := Lib.hid (HP0_63.out.below hbt HP0_63.out.lt)
  have HRi_77 := Lib.hid (HRi_64.out.keep hbt (by omega))
  have HSi_78 := Lib.hid (HSi_65.out.kept HRi_64.out hbt (by omega))
  have HI_79 := Lib.hid (HKI_52.out.below hbt HKI_52.out.lt)
  clear HX0_57 HB_58 HRs_59 HW_60 HRp0_61 HSp0_62 HP0_63 HRi_64 HSi_65 HKI_52
  clear hbt
  have a_80 := HP0_76.out.cell 0
  have a_81 := HP0_76.out.cell 1
  have a_82 := HP0_76.out.cell 2
  have a_83 := HP0_76.out.cell 3
  have a_84 := HX0_70.out.cell 0
  have a_85 := HX0_70.out.cell 1
  have a_86 := HX0_70.out.cell 2
  have a_87 := HX0_70.out.cell 3
  go_wp2_with (fail)
  have kc0 : w9.cell? ⟨w5.heap.size, 0, none⟩ = some (.int .i64 N0) := HP0_76.out.cell 0
  have kc1 : w9.cell? ⟨w5.heap.size, 1, none⟩ = some (.int .i64 T0) := HP0_76.out.cell 1
  have kc2 : w9.cell? ⟨w5.heap.size, 2, none⟩ = some (.int .i64 S0) := HP0_76.out.cell 2
  have kc3 : w9.cell? ⟨w5.heap.size, 3, none⟩ = some (.slice Ap0 n0 cp0) := HP0_76.out.cell 3
  have kc4 : w9.cell? ⟨w.heap.size, 0, none⟩ = some (.int .i64 N0) := HX0_70.out.cell 0
  have kc5 : w9.cell? ⟨w.heap.size, 1, none⟩ = some (.int .i64 T0) := HX0_70.out.cell 1
  have kc6 : w9.cell? ⟨w.heap.size, 2, none⟩ = some (.int .i64 S0) := HX0_70.out.cell 2
  have kc7 : w9.cell? ⟨w.heap.size, 3, none⟩ = some (.slice A0 n0 c0) := HX0_70.out.cell 3
  have hlp := HP0_76.out.lt
  have hlx := HX0_70.out.lt
  have HC0 := Lib.hid (toSnap_any N0 T0 S0 0 w.heap.size n0 c0 A0 m0 w9.drew (HA0.out.keep (up_drew HB_71.out) (Nat.le_refl _)) HB_71.out.size hm0)
  try clear a_80 a_81 a_82 a_83 a_84 a_85 a_86 a_87
  go_region_held3 (fun w' => w'.cell? ⟨w5.heap.size, 0, none⟩ = some (.int .i64 N0) ∧ w'.cell? ⟨w5.heap.size, 1, none⟩ = some (.int .i64 T0) ∧ w'.cell? ⟨w5.heap.size, 2, none⟩ = some (.int .i64 S0) ∧ w'.cell? ⟨w5.heap.size, 3, none⟩ = some (.slice Ap0 n0 cp0) ∧ w'.cell? ⟨w.heap.size, 0, none⟩ = some (.int .i64 N0) ∧ w'.cell? ⟨w.heap.size, 1, none⟩ = some (.int .i64 T0) ∧ w'.cell? ⟨w.heap.size, 2, none⟩ = some (.int .i64 S0) ∧ w'.cell? ⟨w.heap.size, 3, none⟩ = some (.slice A0 n0 c0))
    (first | exact ⟨kc0, kc1, kc2, kc3, kc4, kc5, kc6, kc7⟩ | exact ⟨(hb7.cell (by show w5.heap.size < w9.heap.size; omega)).trans kc0, (hb7.cell (by show w5.heap.size < w9.heap.size; omega)).trans kc1, (hb7.cell (by show w5.heap.size < w9.heap.size; omega)).trans kc2, (hb7.cell (by show w5.heap.size < w9.heap.size; omega)).trans kc3, (hb7.cell (by show w.heap.size < w9.heap.size; omega)).trans kc4, (hb7.cell (by show w.heap.size < w9.heap.size; omega)).trans kc5, (hb7.cell (by show w.heap.size < w9.heap.size; omega)).trans kc6, (hb7.cell (by show w.heap.size < w9.heap.size; omega)).trans kc7⟩ | exact ⟨(hb8.cell (by show w5.heap.size < w97.heap.size; omega)).trans ((hb7.cell (by show w5.heap.size < w9.heap.size; omega)).trans kc0), (hb8.cell (by show w5.heap.size < w97.heap.size; omega)).trans ((hb7.cell (by show w5.heap.size < w9.heap.size; omega)).trans kc1), (hb8.cell (by show w5.heap.size < w97.heap.size; omega)).trans ((hb7.cell (by show w5.heap.size < w9.heap.size; omega)).trans kc2), (hb8.cell (by show w5.heap.size < w97.heap.size; omega)).trans ((hb7.cell (by show w5.heap.size < w9.heap.size; omega)).trans kc3), (hb8.cell (by show w.heap.size < w97.heap.size; omega)).trans ((hb7.cell (by show w.heap.size < w9.heap.size; omega)).trans kc4), (hb8.cell (by show w.heap.size < w97.heap.size; omega)).trans ((hb7.cell (by show w.heap.size < w9.heap.size; omega)).trans kc5), (hb8.cell (by show w.heap.size < w97.heap.size; omega)).trans ((hb7.cell (by show w.heap.size < w9.heap.size; omega)).trans kc6), (hb8.cell (by show w.heap.size < w97.heap.size; omega)).trans ((hb7.cell (by show w.heap.size < w9.heap.size; omega)).trans kc7)⟩)
    ((first
      | (go_at_call 15; refine HC0.out.mono ?_; rintro e w97 ⟨A7, c7, rfl, hk7, hr7, _, hb7⟩; have hs7 : w9.heap.size ≤ w97.heap.size := hb7.size)
      | (go_at_call 17; refine (eqSnap_same N0 T0 S0 _ _ n0 _ _ _ _ _ _ m0 w97 (HRp0_74.out.keep (up (up_drew (Below.refl _ w9)) hb7) (by omega)) (by omega) hm0 hr7 (Nat.le_refl _)).mono ?_; rintro e w98 ⟨rfl, hb8⟩)))
  all_goals
    have hbt := up (up (up_drew (Below.refl _ w9)) hb7) hb8
    clear HC0 kc0 kc1 kc2 kc3 kc4 kc5 kc6 kc7
    obtain ⟨w10, hww⟩ : ∃ x : World, x = w98 := ⟨_, rfl⟩
    subst hww
    have hz_10 := hbt.size
    have HX0_88 := Lib.hid (HX0_70.out.below hbt HX0_70.out.lt)
    have HB_89 := Lib.hid (up HB_71.out hbt)
    have HRs_90 := Lib.hid (HRs_72.out.keep hbt (by omega))
    have HW_91 := Lib.hid (HW_73.out.below hbt HW_73.out.lt)
    have HRp0_92 := Lib.hid (HRp0_74.out.keep hbt (by omega))
    have HSp0_93 := Lib.hid (HSp0_75.out.kept HRp0_74.out hbt (by omega))
    have HP0_94 := Lib.hid (HP0_76.out.below hbt HP0_76.out.lt)
    have HRi_95 := Lib.hid (HRi_77.out.keep hbt (by omega))
    have HSi_96 := Lib.hid (HSi_78.out.kept HRi_77.out hbt (by omega))
    have HI_97 := Lib.hid (HI_79.out.below hbt HI_79.out.lt)
    clear HX0_70 HB_71 HRs_72 HW_73 HRp0_74 HSp0_75 HP0_76 HRi_77 HSi_78 HI_79
    clear hbt hb7 hb8 hr7 hlp hlx
    try clear hs7
    have hlm := HP0_94.out.lt
    have a_98 := HP0_94.out.cell 0
    have a_99 := HP0_94.out.cell 1
    have a_100 := HP0_94.out.cell 2
    have a_101 := HP0_94.out.cell 3
    go_wp2_with (fail)
    try clear a_98 a_99 a_100 a_101
    (with_reducible refine (markSnap_any N0 T0 S0 _ _ n0 cp0 Ap0 _ (1) _ HRp0_92.out HSp0_93.out hm0 (by omega) (by omega) (by omega)).mono ?_)
    rintro e w11 ⟨rfl, hrq, wx, hbt, hwt⟩
    clear hlm
    clear HSp0_93
    clear HRp0_92
    obtain ⟨w12, hww⟩ : ∃ x : World, x = wx := ⟨_, rfl⟩
    subst hww
    have hz_12 := hbt.size
    have HX0_102 := Lib.hid (HX0_88.out.below hbt HX0_88.out.lt)
    have HB_103 := Lib.hid (up HB_89.out hbt)
    have HRs_104 := Lib.hid (HRs_90.out.keep hbt (by omega))
    have HW_105 := Lib.hid (HW_91.out.below hbt HW_91.out.lt)
    have HP0_106 := Lib.hid (HP0_94.out.below hbt HP0_94.out.lt)
    have HRi_107 := Lib.hid (HRi_95.out.keep hbt (by omega))
    have HSi_108 := Lib.hid (HSi_96.out.kept HRi_95.out hbt (by omega))
    have HI_109 := Lib.hid (HI_97.out.below hbt HI_97.out.lt)
    clear HX0_88 HB_89 HRs_90 HW_91 HP0_94 HRi_95 HSi_96 HI_97
    obtain ⟨w13, hww⟩ : ∃ x : World, x = w11 := ⟨_, rfl⟩
    subst hww
    have hz_13 := hwt.size
    have HX0_110 := Lib.hid (show Blk w13 _ _ _ from (hwt.block _ HX0_102.out.lt (by omega)).trans HX0_102.out)
    have HB_111 := Lib.hid (Within.below HB_103.out hwt (by omega))
    have HRs_112 := Lib.hid (HRs_104.out.within hwt (by omega) (by omega))
    have HW_113 := Lib.hid (show Blk w13 _ _ _ from (hwt.block _ HW_105.out.lt (by omega)).trans HW_105.out)
    have HP0_114 := Lib.hid (show Blk w13 _ _ _ from (hwt.block _ HP0_106.out.lt (by omega)).trans HP0_106.out)
    have HRi_115 := Lib.hid (HRi_107.out.within hwt (by omega) (by omega))
    have HSi_116 := Lib.hid (HSi_108.out.within HRi_107.out hwt (by omega) (by omega))
    have HI_117 := Lib.hid (show Blk w13 _ _ _ from (hwt.block _ HI_109.out.lt (by omega)).trans HI_109.out)
    clear HX0_102 HB_103 HRs_104 HW_105 HP0_106 HRi_107 HSi_108 HI_109
    clear hbt hwt
    clear hrq
    clear HP0_114
    have hq0 : decide ((1 : Int) + 2 * (n0 : Int) < 0) = false := decide_eq_false (by omega)
    have a_118 := HI_117.out.cell 0
    have a_119 := HI_117.out.cell 1
    have a_120 := HI_117.out.cell 2
    have a_121 := HI_117.out.cell 3
    have a_122 := HW_113.out.cell 0
    have a_123 := HW_113.out.cell 1
    have a_124 := HW_113.out.cell 2
    have a_125 := HW_113.out.cell 3
    go_wp2_with (fail)
    try clear a_118 a_119 a_120 a_121 a_122 a_123 a_124 a_125
    (with_reducible refine (eqSnap_same N T S _ _ kS _ _ _ _ _ _ R _ HRi_115.out (by omega) (by omega) HRs_112.out (by omega)).mono ?_)
    rintro e w14 ⟨rfl, hbt⟩
    have hz_14 := hbt.size
    have HX0_126 := Lib.hid (HX0_110.out.below hbt HX0_110.out.lt)
    have HB_127 := Lib.hid (up HB_111.out hbt)
    have HRs_128 := Lib.hid (HRs_112.out.keep hbt (by omega))
    have HW_129 := Lib.hid (HW_113.out.below hbt HW_113.out.lt)
    have HRi_130 := Lib.hid (HRi_115.out.keep hbt (by omega))
    have HSi_131 := Lib.hid (HSi_116.out.kept HRi_115.out hbt (by omega))
    have HI_132 := Lib.hid (HI_117.out.below hbt HI_117.out.lt)
    clear HX0_110 HB_111 HRs_112 HW_113 HRi_115 HSi_116 HI_117
    clear hbt
    have hlm := HI_132.out.lt
    have a_133 := HI_132.out.cell 0
    have a_134 := HI_132.out.cell 1
    have a_135 := HI_132.out.cell 2
    have a_136 := HI_132.out.cell 3
    go_wp2_with (fail)
    try clear a_133 a_134 a_135 a_136
    (with_reducible refine (markSnap_any N T S _ _ kS ci Ai _ (1) _ HRi_130.out HSi_131.out hkS (by omega) (by omega) (by omega)).mono ?_)
    rintro e w15 ⟨rfl, hrq, wx, hbt, hwt⟩
    clear hlm
    clear HSi_131
    clear HRi_130
    obtain ⟨w16, hww⟩ : ∃ x : World, x = wx := ⟨_, rfl⟩
    subst hww
    have hz_16 := hbt.size
    have HX0_137 := Lib.hid (HX0_126.out.below hbt HX0_126.out.lt)
    have HB_138 := Lib.hid (up HB_127.out hbt)
    have HRs_139 := Lib.hid (HRs_128.out.keep hbt (by omega))
    have HW_140 := Lib.hid (HW_129.out.below hbt HW_129.out.lt)
    have HI_141 := Lib.hid (HI_132.out.below hbt HI_132.out.lt)
    clear HX0_126 HB_127 HRs_128 HW_129 HI_132
    obtain ⟨w17, hww⟩ : ∃ x : World, x = w15 := ⟨_, rfl⟩
    subst hww
    have hz_17 := hwt.size
    have HX0_142 := Lib.hid (show Blk w17 _ _ _ from (hwt.block _ HX0_137.out.lt (by omega)).trans HX0_137.out)
    have HB_143 := Lib.hid (Within.below HB_138.out hwt (by omega))
    have HRs_144 := Lib.hid (HRs_139.out.within hwt (by omega) (by omega))
    have HW_145 := Lib.hid (show Blk w17 _ _ _ from (hwt.block _ HW_140.out.lt (by omega)).trans HW_140.out)
    have HI_146 := Lib.hid (show Blk w17 _ _ _ from (hwt.block _ HI_141.out.lt (by omega)).trans HI_141.out)
    clear HX0_137 HB_138 HRs_139 HW_140 HI_141
    clear hbt hwt
    have HRz_147 := Lib.hid hrq
    clear hrq
    have hr2 : decide ((1 : Int) + 2 * (kS : Int) < 0) = false := decide_eq_false (by omega)
    have hr3 : ((1 : Int) + 2 * (kS : Int) != (1 : Int) + 2 * (kS : Int)) = false := by simp
    have a_148 := HI_146.out.cell 0
    have a_149 := HI_146.out.cell 1
    have a_150 := HI_146.out.cell 2
    have a_151 := HI_146.out.cell 3
    go_wp2_with (fail)
    try clear a_148 a_149 a_150 a_151
    (with_reducible refine (heldSnap_any N T S _ _ kS ci Ai 1 _ HRz_147.out (by omega) hkS (by omega) (by omega)).mono ?_)
    rintro e w18 ⟨rfl, hbt⟩
    have hz_18 := hbt.size
    have HX0_152 := Lib.hid (HX0_142.out.below hbt HX0_142.out.lt)
    have HB_153 := Lib.hid (up HB_143.out hbt)
    have HRs_154 := Lib.hid (HRs_144.out.keep hbt (by omega))
    have HW_155 := Lib.hid (HW_145.out.below hbt HW_145.out.lt)
    have HI_156 := Lib.hid (HI_146.out.below hbt HI_146.out.lt)
    have HRz_157 := Lib.hid (HRz_147.out.keep hbt (by omega))
    clear HX0_142 HB_143 HRs_144 HW_145 HI_146 HRz_147
    clear hbt
    have a_158 := HX0_152.out.cell 0
    have a_159 := HX0_152.out.cell 1
    have a_160 := HX0_152.out.cell 2
    have a_161 := HX0_152.out.cell 3
    go_wp2_with (fail)
    try clear a_158 a_159 a_160 a_161
    (with_reducible refine (toSnap_any N0 T0 S0 0 w.heap.size n0 c0 A0 m0 _ (HA0.out.keep HB_153.out (Nat.le_refl _)) HB_153.out.size hm0).mono ?_)
    rintro e w19 ⟨Ad0, cd0, rfl, hkd0, hrt, hst, hbt⟩
    have hz_19 := hbt.size
    have HX0_162 := Lib.hid (HX0_152.out.below hbt HX0_152.out.lt)
    have HB_163 := Lib.hid (up HB_153.out hbt)
    have HRs_164 := Lib.hid (HRs_154.out.keep hbt (by omega))
    have HW_165 := Lib.hid (HW_155.out.below hbt HW_155.out.lt)
    have HI_166 := Lib.hid (HI_156.out.below hbt HI_156.out.lt)
    have HRz_167 := Lib.hid (HRz_157.out.keep hbt (by omega))
    clear HX0_152 HB_153 HRs_154 HW_155 HI_156 HRz_157
    clear hbt
    have HRd0_168 := Lib.hid hrt
    clear hrt hst
    go_wp2_with (fail)
    (with_reducible refine (CompactLogI_any N0 T0 S0 _ _ n0 cd0 Ad0 m0 z1 _ HRd0_168.out (by omega) hm0 hkd0 hz1).mono ?_)
    intro e w20 hvt
    obtain ⟨Aj, cj, rfl, hkj, hrt, hst, hbt⟩ := hvt.q HU.out HS.out
    clear hvt
    have hz_20 := hbt.size
    have HX0_169 := Lib.hid (HX0_162.out.below hbt HX0_162.out.lt)
    have HB_170 := Lib.hid (up HB_163.out hbt)
    have HRs_171 := Lib.hid (HRs_164.out.keep hbt (by omega))
    have HW_172 := Lib.hid (HW_165.out.below hbt HW_165.out.lt)
    have HI_173 := Lib.hid (HI_166.out.below hbt HI_166.out.lt)
    have HRz_174 := Lib.hid (HRz_167.out.keep hbt (by omega))
    have HRd0_175 := Lib.hid (HRd0_168.out.keep hbt (by omega))
    clear HX0_162 HB_163 HRs_164 HW_165 HI_166 HRz_167 HRd0_168
    clear hbt
    have HRj_176 := Lib.hid hrt
    clear hrt hst
    clear HRd0_175
    have HKJ_177 := Lib.hid (Blk.new w20 29 #[.int .i64 N, .int .i64 T, .int .i64 S, .slice Aj kS cj])
    have hbt := up_alloc (Below.refl _ w20) (.cells #[.int .i64 N, .int .i64 T, .int .i64 S, .slice Aj kS cj] 29)
    have hs_21 : (w20.alloc (.cells #[.int .i64 N, .int .i64 T, .int .i64 S, .slice Aj kS cj] 29)).heap.size = w20.heap.size + 1 := by simp
    have a_178 := HW_172.out.cell 0
    have a_179 := HW_172.out.cell 1
    have a_180 := HW_172.out.cell 2
    have a_181 := HW_172.out.cell 3
    have hz_21 := hbt.size
    have HX0_182 := Lib.hid (HX0_169.out.below hbt HX0_169.out.lt)
    have HB_183 := Lib.hid (up HB_170.out hbt)
    have HRs_184 := Lib.hid (HRs_171.out.keep hbt (by omega))
    have HW_185 := Lib.hid (HW_172.out.below hbt HW_172.out.lt)
    have HI_186 := Lib.hid (HI_173.out.below hbt HI_173.out.lt)
    have HRz_187 := Lib.hid (HRz_174.out.keep hbt (by omega))
    have HRj_188 := Lib.hid (HRj_176.out.keep hbt (by omega))
    clear HX0_169 HB_170 HRs_171 HW_172 HI_173 HRz_174 HRj_176
    clear hbt
    have a_189 := HW_185.out.cell 0
    have a_190 := HW_185.out.cell 1
    have a_191 := HW_185.out.cell 2
    have a_192 := HW_185.out.cell 3
    go_wp2_with (fail)
    try clear a_178 a_179 a_180 a_181 a_189 a_190 a_191 a_192
    generalize w20.alloc (.cells #[.int .i64 N, .int .i64 T, .int .i64 S, .slice Aj kS cj] 29) = w21 at *
    (with_reducible refine (eqSnap_same N T S _ _ kS _ _ _ _ _ _ R _ HRj_188.out (by omega) (by omega) HRs_184.out (by omega)).mono ?_)
    rintro e w22 ⟨rfl, hbt⟩
    have hz_22 := hbt.size
    have HX0_193 := Lib.hid (HX0_182.out.below hbt HX0_182.out.lt)
    have HB_194 := Lib.hid (up HB_183.out hbt)
    have HRs_195 := Lib.hid (HRs_184.out.keep hbt (by omega))
    have HW_196 := Lib.hid (HW_185.out.below hbt HW_185.out.lt)
    have HI_197 := Lib.hid (HI_186.out.below hbt HI_186.out.lt)
    have HRz_198 := Lib.hid (HRz_187.out.keep hbt (by omega))
    have HRj_199 := Lib.hid (HRj_188.out.keep hbt (by omega))
    have HJ_200 := Lib.hid (HKJ_177.out.below hbt HKJ_177.out.lt)
    clear HX0_182 HB_183 HRs_184 HW_185 HI_186 HRz_187 HRj_188 HKJ_177
    clear hbt
    have a_201 := HI_197.out.cell 0
    have a_202 := HI_197.out.cell 1
    have a_203 := HI_197.out.cell 2
    have a_204 := HI_197.out.cell 3
    go_wp2_with (fail)
    try clear a_201 a_202 a_203 a_204
    (with_reducible refine (heldSnap_any N T S _ _ kS ci Ai 1 _ HRz_198.out (by omega) hkS (by omega) (by omega)).mono ?_)
    rintro e w23 ⟨rfl, hbt⟩
    have hz_23 := hbt.size
    have HX0_205 := Lib.hid (HX0_193.out.below hbt HX0_193.out.lt)
    have HB_206 := Lib.hid (up HB_194.out hbt)
    have HRs_207 := Lib.hid (HRs_195.out.keep hbt (by omega))
    have HW_208 := Lib.hid (HW_196.out.below hbt HW_196.out.lt)
    have HI_209 := Lib.hid (HI_197.out.below hbt HI_197.out.lt)
    have HRz_210 := Lib.hid (HRz_198.out.keep hbt (by omega))
    have HRj_211 := Lib.hid (HRj_199.out.keep hbt (by omega))
    have HJ_212 := Lib.hid (HJ_200.out.below hbt HJ_200.out.lt)
    clear HX0_193 HB_194 HRs_195 HW_196 HI_197 HRz_198 HRj_199 HJ_200
    clear hbt
    go_wp2
    go_ret
    exact ⟨rfl, HB_206.out⟩
end Go.Proofs.Ythodkjflnjocbaa
