/- The law FnExactAskVote, walked: it returns true. (Written by gen/exask.py.) -/
import Derived.Test.YtobjcifoaejonaaExVoter
import Derived.Test.YtobjcifoaejonaaAskI
import Derived.Deep.RegionHeld3
set_option linter.unusedSimpArgs false
set_option linter.unusedVariables false
namespace Go.Proofs.Ytobjcifoaejonaa
open Go.RowKit

theorem VtPost.q {u : (Int × Int × List En) × Bool} {T V : Int} {S : List En} {b : Bool} {k : Nat} {w w' : World} {e : Ending} (h : VtPost u w e w') (hu : u = ((T, V, S), b)) (hk : S.length = k) :
    ∃ A c, e = .returned (.tuple #[.agg #[.int .i64 T, .int .i64 V, .slice A k c], .bool b]) ∧ k ≤ c ∧ Rd w' w.heap.size w'.heap.size 2 A k (pvs S) ∧ Soft w' 2 A k ∧ Below w.heap.size w w' := by
  subst hu; subst hk
  exact h
set_option maxRecDepth 100000 in
set_option maxHeartbeats 12800000 in
theorem exAskVote_any (t v : Int) (n0 c0 : Nat) (A0 : Option Addr) (m0 : List En) (z1 z2 : Int) (n3 c3 : Nat) (A3 : Option Addr) (m3 : List En) (w : World) (hn0 : n0 ≤ 9223372036854775807) (hr0 : Rd w 0 w.heap.size 2 A0 n0 (pvs m0)) (_hz1 : in64 z1) (_hz2 : in64 z2) (hn3 : n3 ≤ 9223372036854775807) (hr3 : Rd w 0 w.heap.size 2 A3 n3 (pvs m3)) :
    Calls Try.prog 8 #[.agg #[.int .i64 t, .int .i64 v, .slice A0 n0 c0], .int .i64 z1, .int .i64 z2, .slice A3 n3 c3] w fun e w' => e = .returned (.bool true) ∧ Below w.heap.size w w' := by
  by_cases hm0' : n0 ≤ 1048576
  case neg =>
    go_enter Try.func8, Try.ntmps8
    go_wp2_with (fail)
    have hb0 := up_alloc (Below.refl _ w) (.cells #[.int .i64 t, .int .i64 v, .slice A0 n0 c0] 41)
    (with_reducible refine (szVoter_no t v n0 c0 A0 1048576 _ hn0 (by omega) (by omega) (by omega)).mono ?_)
    rintro e w1 ⟨rfl, hbt⟩
    have HB := Lib.hid (up hb0 hbt)
    clear hbt hb0
    go_wp2
    go_ret
    exact ⟨rfl, HB.out⟩
  have hm0 : n0 ≤ 1048576 := by omega
  have hlf1 : decide ((1048576 : Int) - n0 < 0) = false := decide_eq_false (by omega)
  by_cases hm3' : n0 + n3 ≤ 1048576
  case neg =>
    go_enter Try.func8, Try.ntmps8
    go_wp2_with (fail)
    have hb0 := up_alloc (Below.refl _ w) (.cells #[.int .i64 t, .int .i64 v, .slice A0 n0 c0] 41)
    (with_reducible refine (szVoter_yes t v n0 c0 A0 1048576 _ (by omega) (by omega) (by omega)).mono ?_)
    rintro e w1 ⟨rfl, hbt⟩
    have HB := Lib.hid (up hb0 hbt)
    clear hbt hb0
    go_wp2_with (fail)
    (with_reducible refine (szEntryS_no n3 c3 A3 ((1048576 : Int) - n0) _ hn3 (by omega) (by omega) (by omega)).mono ?_)
    rintro e w2 ⟨rfl, rfl⟩
    go_wp2
    go_ret
    exact ⟨rfl, HB.out⟩
  have hm3 : n3 ≤ 1048576 := by omega
  have hlf2 : decide ((1048576 : Int) - n0 - n3 < 0) = false := decide_eq_false (by omega)
  obtain ⟨⟨⟨T, V, S⟩, b⟩, hU⟩ : ∃ u, askOf t v m0 z1 z2 m3 = u := ⟨_, rfl⟩
  obtain ⟨kS, hS⟩ : ∃ k, S.length = k := ⟨_, rfl⟩
  have hkS : kS ≤ 1048576 := by
    have h1 := askOf_len t v m0 z1 z2 m3
    have h2 := hr0.len2
    rw [hU] at h1
    dsimp only at h1
    omega
  have HU := Lib.hid hU
  have HS := Lib.hid hS
  have hne : (b != b) = false := by simp
  have heq : (b == b) = true := by simp
  clear hU hS
  have HA0 := Lib.hid hr0
  have HA3 := Lib.hid hr3
  clear hr0 hr3
  have hb0 := up_alloc (Below.refl _ w) (.cells #[.int .i64 t, .int .i64 v, .slice A0 n0 c0] 41)
  have HX := Lib.hid (Blk.new w 41 #[.int .i64 t, .int .i64 v, .slice A0 n0 c0])
  have HB := Lib.hid hb0
  have hz_0 := hb0.size
  have hs_0 : (w.alloc (.cells #[.int .i64 t, .int .i64 v, .slice A0 n0 c0] 41)).heap.size = w.heap.size + 1 := by simp
  clear hb0
  go_enter Try.func8, Try.ntmps8
  go_wp2_with (fail)
  generalize w.alloc (.cells #[.int .i64 t, .int .i64 v, .slice A0 n0 c0] 41) = w0 at *
  (with_reducible refine (szVoter_yes t v n0 c0 A0 1048576 _ (by omega) (by omega) (by omega)).mono ?_)
  rintro e w1 ⟨rfl, hbt⟩
  have hz_1 := hbt.size
  have HX_1 := Lib.hid (HX.out.below hbt HX.out.lt)
  have HB_2 := Lib.hid (up HB.out hbt)
  clear HX HB
  clear hbt
  go_wp2_with (fail)
  (with_reducible refine (szEntryS_yes n3 c3 A3 ((1048576 : Int) - n0) _ (by omega) (by omega) (by omega)).mono ?_)
  rintro e w' ⟨rfl, rfl⟩
  have a_3 := HX_1.out.cell 0
  have a_4 := HX_1.out.cell 1
  have a_5 := HX_1.out.cell 2
  go_wp2_with (fail)
  try clear a_3 a_4 a_5
  (with_reducible refine (toVoter_any t v 0 w.heap.size n0 c0 A0 m0 _ (HA0.out.keep HB_2.out (Nat.le_refl _)) HB_2.out.size hm0).mono ?_)
  rintro e w2 ⟨Aa, ca, rfl, hka, hrt, hst, hbt⟩
  have hz_2 := hbt.size
  have HX_6 := Lib.hid (HX_1.out.below hbt HX_1.out.lt)
  have HB_7 := Lib.hid (up HB_2.out hbt)
  clear HX_1 HB_2
  clear hbt
  have HRa_8 := Lib.hid hrt
  clear hrt hst
  go_wp2_with (fail)
  (with_reducible refine (toEntryS_any 0 w.heap.size n3 c3 A3 m3 _ (HA3.out.keep HB_7.out (Nat.le_refl _)) HB_7.out.size hm3).mono ?_)
  rintro e w3 ⟨Ab, cb, rfl, hkb, hrt, hst, hbt⟩
  have hz_3 := hbt.size
  have HX_9 := Lib.hid (HX_6.out.below hbt HX_6.out.lt)
  have HB_10 := Lib.hid (up HB_7.out hbt)
  have HRa_11 := Lib.hid (HRa_8.out.keep hbt (by omega))
  clear HX_6 HB_7 HRa_8
  clear hbt
  have HRb_12 := Lib.hid hrt
  clear hrt hst
  go_wp2_with (fail)
  (with_reducible refine (AskVoteS_any t v _ _ n0 ca Aa m0 z1 z2 _ _ n3 cb Ab m3 _ HRa_11.out (by omega) hm0 HRb_12.out (by omega) hm3).mono ?_)
  intro e w4 hvt
  obtain ⟨As, cs, rfl, hks, hrt, hst, hbt⟩ := hvt.q HU.out HS.out
  clear hvt
  have hz_4 := hbt.size
  have HX_13 := Lib.hid (HX_9.out.below hbt HX_9.out.lt)
  have HB_14 := Lib.hid (up HB_10.out hbt)
  have HRa_15 := Lib.hid (HRa_11.out.keep hbt (by omega))
  have HRb_16 := Lib.hid (HRb_12.out.keep hbt (by omega))
  clear HX_9 HB_10 HRa_11 HRb_12
  clear hbt
  have HRs_17 := Lib.hid hrt
  clear hrt hst
  clear HRa_15
  clear HRb_16
  have HKW_18 := Lib.hid (Blk.new w4 44 #[.int .i64 T, .int .i64 V, .slice As kS cs])
  have hbt := up_alloc (Below.refl _ w4) (.cells #[.int .i64 T, .int .i64 V, .slice As kS cs] 44)
  have hs_5 : (w4.alloc (.cells #[.int .i64 T, .int .i64 V, .slice As kS cs] 44)).heap.size = w4.heap.size + 1 := by simp
  have a_19 := HX_13.out.cell 0
  have a_20 := HX_13.out.cell 1
  have a_21 := HX_13.out.cell 2
  have hz_5 := hbt.size
  have HX_22 := Lib.hid (HX_13.out.below hbt HX_13.out.lt)
  have HB_23 := Lib.hid (up HB_14.out hbt)
  have HRs_24 := Lib.hid (HRs_17.out.keep hbt (by omega))
  clear HX_13 HB_14 HRs_17
  clear hbt
  have a_25 := HX_22.out.cell 0
  have a_26 := HX_22.out.cell 1
  have a_27 := HX_22.out.cell 2
  go_wp2_with (fail)
  try clear a_19 a_20 a_21 a_25 a_26 a_27
  generalize w4.alloc (.cells #[.int .i64 T, .int .i64 V, .slice As kS cs] 44) = w5 at *
  have a_28 := HX_22.out.cell 0
  have a_29 := HX_22.out.cell 1
  have a_30 := HX_22.out.cell 2
  try clear a_28 a_29 a_30
  (with_reducible refine (toVoter_any t v 0 w.heap.size n0 c0 A0 m0 _ (HA0.out.keep HB_23.out (Nat.le_refl _)) HB_23.out.size hm0).mono ?_)
  rintro e w6 ⟨Ap, cp, rfl, hkp, hrt, hst, hbt⟩
  have hz_6 := hbt.size
  have HX_31 := Lib.hid (HX_22.out.below hbt HX_22.out.lt)
  have HB_32 := Lib.hid (up HB_23.out hbt)
  have HRs_33 := Lib.hid (HRs_24.out.keep hbt (by omega))
  have HW_34 := Lib.hid (HKW_18.out.below hbt HKW_18.out.lt)
  clear HX_22 HB_23 HRs_24 HKW_18
  clear hbt
  have HRp_35 := Lib.hid hrt
  have HSp_36 := Lib.hid hst
  clear hrt hst
  have HKP_37 := Lib.hid (Blk.new w6 44 #[.int .i64 t, .int .i64 v, .slice Ap n0 cp])
  have hbt := up_alloc (Below.refl _ w6) (.cells #[.int .i64 t, .int .i64 v, .slice Ap n0 cp] 44)
  have hs_7 : (w6.alloc (.cells #[.int .i64 t, .int .i64 v, .slice Ap n0 cp] 44)).heap.size = w6.heap.size + 1 := by simp
  have hz_7 := hbt.size
  have HX_38 := Lib.hid (HX_31.out.below hbt HX_31.out.lt)
  have HB_39 := Lib.hid (up HB_32.out hbt)
  have HRs_40 := Lib.hid (HRs_33.out.keep hbt (by omega))
  have HW_41 := Lib.hid (HW_34.out.below hbt HW_34.out.lt)
  have HRp_42 := Lib.hid (HRp_35.out.keep hbt (by omega))
  have HSp_43 := Lib.hid (HSp_36.out.kept HRp_35.out hbt (by omega))
  clear HX_31 HB_32 HRs_33 HW_34 HRp_35 HSp_36
  clear hbt
  go_wp2_with (fail)
  generalize w6.alloc (.cells #[.int .i64 t, .int .i64 v, .slice Ap n0 cp] 44) = w7 at *
  (with_reducible refine (toEntryS_any 0 w.heap.size n3 c3 A3 m3 _ (HA3.out.keep HB_39.out (Nat.le_refl _)) HB_39.out.size hm3).mono ?_)
  rintro e w8 ⟨Aq, cq, rfl, hkq, hrt, hst, hbt⟩
  have hz_8 := hbt.size
  have HX_44 := Lib.hid (HX_38.out.below hbt HX_38.out.lt)
  have HB_45 := Lib.hid (up HB_39.out hbt)
  have HRs_46 := Lib.hid (HRs_40.out.keep hbt (by omega))
  have HW_47 := Lib.hid (HW_41.out.below hbt HW_41.out.lt)
  have HRp_48 := Lib.hid (HRp_42.out.keep hbt (by omega))
  have HSp_49 := Lib.hid (HSp_43.out.kept HRp_42.out hbt (by omega))
  have HP_50 := Lib.hid (HKP_37.out.below hbt HKP_37.out.lt)
  clear HX_38 HB_39 HRs_40 HW_41 HRp_42 HSp_43 HKP_37
  clear hbt
  have HRq_51 := Lib.hid hrt
  have HSq_52 := Lib.hid hst
  clear hrt hst
  have a_53 := HP_50.out.cell 0
  have a_54 := HP_50.out.cell 1
  have a_55 := HP_50.out.cell 2
  go_wp2_with (fail)
  try clear a_53 a_54 a_55
  (with_reducible refine (AskVoteI_any t v _ _ n0 cp Ap m0 z1 z2 _ _ n3 cq Aq m3 _ HRp_48.out (by omega) hm0 hkp HRq_51.out (by omega) hm3 hkq).mono ?_)
  intro e w9 hvt
  obtain ⟨Ai, ci, rfl, hki, hrt, hst, hbt⟩ := hvt.q HU.out HS.out
  clear hvt
  have hz_9 := hbt.size
  have HX_56 := Lib.hid (HX_44.out.below hbt HX_44.out.lt)
  have HB_57 := Lib.hid (up HB_45.out hbt)
  have HRs_58 := Lib.hid (HRs_46.out.keep hbt (by omega))
  have HW_59 := Lib.hid (HW_47.out.below hbt HW_47.out.lt)
  have HRp_60 := Lib.hid (HRp_48.out.keep hbt (by omega))
  have HSp_61 := Lib.hid (HSp_49.out.kept HRp_48.out hbt (by omega))
  have HP_62 := Lib.hid (HP_50.out.below hbt HP_50.out.lt)
  have HRq_63 := Lib.hid (HRq_51.out.keep hbt (by omega))
  have HSq_64 := Lib.hid (HSq_52.out.kept HRq_51.out hbt (by omega))
  clear HX_44 HB_45 HRs_46 HW_47 HRp_48 HSp_49 HP_50 HRq_51 HSq_52
  clear hbt
  have HRi_65 := Lib.hid hrt
  have HSi_66 := Lib.hid hst
  clear hrt hst
  have HKI_67 := Lib.hid (Blk.new w9 44 #[.int .i64 T, .int .i64 V, .slice Ai kS ci])
  have hbt := up_alloc (Below.refl _ w9) (.cells #[.int .i64 T, .int .i64 V, .slice Ai kS ci] 44)
  have hs_10 : (w9.alloc (.cells #[.int .i64 T, .int .i64 V, .slice Ai kS ci] 44)).heap.size = w9.heap.size + 1 := by simp
  have a_68 := HW_59.out.cell 0
  have a_69 := HW_59.out.cell 1
  have a_70 := HW_59.out.cell 2
  have hz_10 := hbt.size
  have HX_71 := Lib.hid (HX_56.out.below hbt HX_56.out.lt)
  have HB_72 := Lib.hid (up HB_57.out hbt)
  have HRs_73 := Lib.hid (HRs_58.out.keep hbt (by omega))
  have HW_74 := Lib.hid (HW_59.out.below hbt HW_59.out.lt)
  have HRp_75 := Lib.hid (HRp_60.out.keep hbt (by omega))
  have HSp_76 := Lib.hid (HSp_61.out.kept HRp_60.out hbt (by omega))
  have HP_77 := Lib.hid (HP_62.out.below hbt HP_62.out.lt)
  have HRq_78 := Lib.hid (HRq_63.out.keep hbt (by omega))
  have HSq_79 := Lib.hid (HSq_64.out.kept HRq_63.out hbt (by omega))
  have HRi_80 := Lib.hid (HRi_65.out.keep hbt (by omega))
  have HSi_81 := Lib.hid (HSi_66.out.kept HRi_65.out hbt (by omega))
  clear HX_56 HB_57 HRs_58 HW_59 HRp_60 HSp_61 HP_62 HRq_63 HSq_64 HRi_65 HSi_66
  clear hbt
  have a_82 := HW_74.out.cell 0
  have a_83 := HW_74.out.cell 1
  have a_84 := HW_74.out.cell 2
  go_wp2_with (fail)
  try clear a_68 a_69 a_70 a_82 a_83 a_84
  generalize w9.alloc (.cells #[.int .i64 T, .int .i64 V, .slice Ai kS ci] 44) = w10 at *
  (with_reducible refine (eqVoter_same T V _ _ kS _ _ _ _ _ _ S _ HRi_80.out (by omega) (by omega) HRs_73.out (by omega)).mono ?_)
  rintro e w11 ⟨rfl, hbt⟩
  have hz_11 := hbt.size
  have HX_85 := Lib.hid (HX_71.out.below hbt HX_71.out.lt)
  have HB_86 := Lib.hid (up HB_72.out hbt)
  have HRs_87 := Lib.hid (HRs_73.out.keep hbt (by omega))
  have HW_88 := Lib.hid (HW_74.out.below hbt HW_74.out.lt)
  have HRp_89 := Lib.hid (HRp_75.out.keep hbt (by omega))
  have HSp_90 := Lib.hid (HSp_76.out.kept HRp_75.out hbt (by omega))
  have HP_91 := Lib.hid (HP_77.out.below hbt HP_77.out.lt)
  have HRq_92 := Lib.hid (HRq_78.out.keep hbt (by omega))
  have HSq_93 := Lib.hid (HSq_79.out.kept HRq_78.out hbt (by omega))
  have HRi_94 := Lib.hid (HRi_80.out.keep hbt (by omega))
  have HSi_95 := Lib.hid (HSi_81.out.kept HRi_80.out hbt (by omega))
  have HI_96 := Lib.hid (HKI_67.out.below hbt HKI_67.out.lt)
  clear HX_71 HB_72 HRs_73 HW_74 HRp_75 HSp_76 HP_77 HRq_78 HSq_79 HRi_80 HSi_81 HKI_67
  clear hbt
  have a_97 := HP_91.out.cell 0
  have a_98 := HP_91.out.cell 1
  have a_99 := HP_91.out.cell 2
  have a_100 := HX_85.out.cell 0
  have a_101 := HX_85.out.cell 1
  have a_102 := HX_85.out.cell 2
  go_wp2_with (fail)
  have kc0 : w11.cell? ⟨w6.heap.size, 0, none⟩ = some (.int .i64 t) := HP_91.out.cell 0
  have kc1 : w11.cell? ⟨w6.heap.size, 1, none⟩ = some (.int .i64 v) := HP_91.out.cell 1
  have kc2 : w11.cell? ⟨w6.heap.size, 2, none⟩ = some (.slice Ap n0 cp) := HP_91.out.cell 2
  have kc3 : w11.cell? ⟨w.heap.size, 0, none⟩ = some (.int .i64 t) := HX_85.out.cell 0
  have kc4 : w11.cell? ⟨w.heap.size, 1, none⟩ = some (.int .i64 v) := HX_85.out.cell 1
  have kc5 : w11.cell? ⟨w.heap.size, 2, none⟩ = some (.slice A0 n0 c0) := HX_85.out.cell 2
  have hlp := HP_91.out.lt
  have hlx := HX_85.out.lt
  have HC := Lib.hid (toVoter_any t v 0 w.heap.size n0 c0 A0 m0 w11.drew (HA0.out.keep (up_drew HB_86.out) (Nat.le_refl _)) HB_86.out.size hm0)
  try clear a_97 a_98 a_99 a_100 a_101 a_102
  go_region_held3 (fun w' => w'.cell? ⟨w6.heap.size, 0, none⟩ = some (.int .i64 t) ∧ w'.cell? ⟨w6.heap.size, 1, none⟩ = some (.int .i64 v) ∧ w'.cell? ⟨w6.heap.size, 2, none⟩ = some (.slice Ap n0 cp) ∧ w'.cell? ⟨w.heap.size, 0, none⟩ = some (.int .i64 t) ∧ w'.cell? ⟨w.heap.size, 1, none⟩ = some (.int .i64 v) ∧ w'.cell? ⟨w.heap.size, 2, none⟩ = some (.slice A0 n0 c0))
    (first | exact ⟨kc0, kc1, kc2, kc3, kc4, kc5⟩ | exact ⟨(hb7.cell (by show w6.heap.size < w11.heap.size; omega)).trans kc0, (hb7.cell (by show w6.heap.size < w11.heap.size; omega)).trans kc1, (hb7.cell (by show w6.heap.size < w11.heap.size; omega)).trans kc2, (hb7.cell (by show w.heap.size < w11.heap.size; omega)).trans kc3, (hb7.cell (by show w.heap.size < w11.heap.size; omega)).trans kc4, (hb7.cell (by show w.heap.size < w11.heap.size; omega)).trans kc5⟩ | exact ⟨(hb8.cell (by show w6.heap.size < w97.heap.size; omega)).trans ((hb7.cell (by show w6.heap.size < w11.heap.size; omega)).trans kc0), (hb8.cell (by show w6.heap.size < w97.heap.size; omega)).trans ((hb7.cell (by show w6.heap.size < w11.heap.size; omega)).trans kc1), (hb8.cell (by show w6.heap.size < w97.heap.size; omega)).trans ((hb7.cell (by show w6.heap.size < w11.heap.size; omega)).trans kc2), (hb8.cell (by show w.heap.size < w97.heap.size; omega)).trans ((hb7.cell (by show w.heap.size < w11.heap.size; omega)).trans kc3), (hb8.cell (by show w.heap.size < w97.heap.size; omega)).trans ((hb7.cell (by show w.heap.size < w11.heap.size; omega)).trans kc4), (hb8.cell (by show w.heap.size < w97.heap.size; omega)).trans ((hb7.cell (by show w.heap.size < w11.heap.size; omega)).trans kc5)⟩)
    ((first
      | (go_at_call 34; refine HC.out.mono ?_; rintro e w97 ⟨A7, c7, rfl, hk7, hr7, _, hb7⟩; have hs7 : w11.heap.size ≤ w97.heap.size := hb7.size)
      | (go_at_call 36; refine (eqVoter_same t v _ _ n0 _ _ _ _ _ _ m0 w97 (HRp_89.out.keep (up (up_drew (Below.refl _ w11)) hb7) (by omega)) (by omega) hm0 hr7 (Nat.le_refl _)).mono ?_; rintro e w98 ⟨rfl, hb8⟩)))
  all_goals
    have hbt := up (up (up_drew (Below.refl _ w11)) hb7) hb8
    clear HC kc0 kc1 kc2 kc3 kc4 kc5
    obtain ⟨w12, hww⟩ : ∃ x : World, x = w98 := ⟨_, rfl⟩
    subst hww
    have hz_12 := hbt.size
    have HX_103 := Lib.hid (HX_85.out.below hbt HX_85.out.lt)
    have HB_104 := Lib.hid (up HB_86.out hbt)
    have HRs_105 := Lib.hid (HRs_87.out.keep hbt (by omega))
    have HW_106 := Lib.hid (HW_88.out.below hbt HW_88.out.lt)
    have HRp_107 := Lib.hid (HRp_89.out.keep hbt (by omega))
    have HSp_108 := Lib.hid (HSp_90.out.kept HRp_89.out hbt (by omega))
    have HP_109 := Lib.hid (HP_91.out.below hbt HP_91.out.lt)
    have HRq_110 := Lib.hid (HRq_92.out.keep hbt (by omega))
    have HSq_111 := Lib.hid (HSq_93.out.kept HRq_92.out hbt (by omega))
    have HRi_112 := Lib.hid (HRi_94.out.keep hbt (by omega))
    have HSi_113 := Lib.hid (HSi_95.out.kept HRi_94.out hbt (by omega))
    have HI_114 := Lib.hid (HI_96.out.below hbt HI_96.out.lt)
    clear HX_85 HB_86 HRs_87 HW_88 HRp_89 HSp_90 HP_91 HRq_92 HSq_93 HRi_94 HSi_95 HI_96
    clear hbt hb7 hb8 hr7
    go_wp2_with (fail)
    (with_reducible refine (toEntryS_any 0 w.heap.size n3 c3 A3 m3 _ (HA3.out.keep HB_104.out (Nat.le_refl _)) HB_104.out.size hm3).mono ?_)
    rintro e w13 ⟨Ar, cr, rfl, hkr, hrt, hst, hbt⟩
    have hz_13 := hbt.size
    have HX_115 := Lib.hid (HX_103.out.below hbt HX_103.out.lt)
    have HB_116 := Lib.hid (up HB_104.out hbt)
    have HRs_117 := Lib.hid (HRs_105.out.keep hbt (by omega))
    have HW_118 := Lib.hid (HW_106.out.below hbt HW_106.out.lt)
    have HRp_119 := Lib.hid (HRp_107.out.keep hbt (by omega))
    have HSp_120 := Lib.hid (HSp_108.out.kept HRp_107.out hbt (by omega))
    have HP_121 := Lib.hid (HP_109.out.below hbt HP_109.out.lt)
    have HRq_122 := Lib.hid (HRq_110.out.keep hbt (by omega))
    have HSq_123 := Lib.hid (HSq_111.out.kept HRq_110.out hbt (by omega))
    have HRi_124 := Lib.hid (HRi_112.out.keep hbt (by omega))
    have HSi_125 := Lib.hid (HSi_113.out.kept HRi_112.out hbt (by omega))
    have HI_126 := Lib.hid (HI_114.out.below hbt HI_114.out.lt)
    clear HX_103 HB_104 HRs_105 HW_106 HRp_107 HSp_108 HP_109 HRq_110 HSq_111 HRi_112 HSi_113 HI_114
    clear hbt
    have HRr_127 := Lib.hid hrt
    clear hrt hst
    go_wp2_with (fail)
    (with_reducible refine (eqEntryS_any _ _ n3 cq _ _ n3 cr Aq Ar m3 m3 _ HRq_122.out (by omega) hm3 HRr_127.out (by omega) hm3).mono ?_)
    rintro e w14 ⟨rfl, hbt⟩
    rw [beq_self_eq_true]
    have hz_14 := hbt.size
    have HX_128 := Lib.hid (HX_115.out.below hbt HX_115.out.lt)
    have HB_129 := Lib.hid (up HB_116.out hbt)
    have HRs_130 := Lib.hid (HRs_117.out.keep hbt (by omega))
    have HW_131 := Lib.hid (HW_118.out.below hbt HW_118.out.lt)
    have HRp_132 := Lib.hid (HRp_119.out.keep hbt (by omega))
    have HSp_133 := Lib.hid (HSp_120.out.kept HRp_119.out hbt (by omega))
    have HP_134 := Lib.hid (HP_121.out.below hbt HP_121.out.lt)
    have HRq_135 := Lib.hid (HRq_122.out.keep hbt (by omega))
    have HSq_136 := Lib.hid (HSq_123.out.kept HRq_122.out hbt (by omega))
    have HRi_137 := Lib.hid (HRi_124.out.keep hbt (by omega))
    have HSi_138 := Lib.hid (HSi_125.out.kept HRi_124.out hbt (by omega))
    have HI_139 := Lib.hid (HI_126.out.below hbt HI_126.out.lt)
    have HRr_140 := Lib.hid (HRr_127.out.keep hbt (by omega))
    clear HX_115 HB_116 HRs_117 HW_118 HRp_119 HSp_120 HP_121 HRq_122 HSq_123 HRi_124 HSi_125 HI_126 HRr_127
    clear hbt
    clear HRr_140
    have hlm := HP_134.out.lt
    have a_141 := HP_134.out.cell 0
    have a_142 := HP_134.out.cell 1
    have a_143 := HP_134.out.cell 2
    go_wp2_with (fail)
    try clear a_141 a_142 a_143
    (with_reducible refine (markVoter_any t v _ _ n0 cp Ap _ 1 _ HRp_132.out HSp_133.out hm0 (by omega) (by omega) (by omega)).mono ?_)
    rintro e w15 ⟨rfl, hrq, wx, hbt, hwt⟩
    clear hlm
    clear HSp_133
    clear HRp_132
    obtain ⟨w16, hww⟩ : ∃ x : World, x = wx := ⟨_, rfl⟩
    subst hww
    have hz_16 := hbt.size
    have HX_144 := Lib.hid (HX_128.out.below hbt HX_128.out.lt)
    have HB_145 := Lib.hid (up HB_129.out hbt)
    have HRs_146 := Lib.hid (HRs_130.out.keep hbt (by omega))
    have HW_147 := Lib.hid (HW_131.out.below hbt HW_131.out.lt)
    have HP_148 := Lib.hid (HP_134.out.below hbt HP_134.out.lt)
    have HRq_149 := Lib.hid (HRq_135.out.keep hbt (by omega))
    have HSq_150 := Lib.hid (HSq_136.out.kept HRq_135.out hbt (by omega))
    have HRi_151 := Lib.hid (HRi_137.out.keep hbt (by omega))
    have HSi_152 := Lib.hid (HSi_138.out.kept HRi_137.out hbt (by omega))
    have HI_153 := Lib.hid (HI_139.out.below hbt HI_139.out.lt)
    clear HX_128 HB_129 HRs_130 HW_131 HP_134 HRq_135 HSq_136 HRi_137 HSi_138 HI_139
    obtain ⟨w17, hww⟩ : ∃ x : World, x = w15 := ⟨_, rfl⟩
    subst hww
    have hz_17 := hwt.size
    have HX_154 := Lib.hid (show Blk w17 _ _ _ from (hwt.block _ HX_144.out.lt (by omega)).trans HX_144.out)
    have HB_155 := Lib.hid (Within.below HB_145.out hwt (by omega))
    have HRs_156 := Lib.hid (HRs_146.out.within hwt (by omega) (by omega))
    have HW_157 := Lib.hid (show Blk w17 _ _ _ from (hwt.block _ HW_147.out.lt (by omega)).trans HW_147.out)
    have HP_158 := Lib.hid (show Blk w17 _ _ _ from (hwt.block _ HP_148.out.lt (by omega)).trans HP_148.out)
    have HRq_159 := Lib.hid (HRq_149.out.within hwt (by omega) (by omega))
    have HSq_160 := Lib.hid (HSq_150.out.within HRq_149.out hwt (by omega) (by omega))
    have HRi_161 := Lib.hid (HRi_151.out.within hwt (by omega) (by omega))
    have HSi_162 := Lib.hid (HSi_152.out.within HRi_151.out hwt (by omega) (by omega))
    have HI_163 := Lib.hid (show Blk w17 _ _ _ from (hwt.block _ HI_153.out.lt (by omega)).trans HI_153.out)
    clear HX_144 HB_145 HRs_146 HW_147 HP_148 HRq_149 HSq_150 HRi_151 HSi_152 HI_153
    clear hbt hwt
    clear hrq
    clear HP_158
    have hq0 : decide ((1 : Int) + 2 * (n0 : Int) < 0) = false := decide_eq_false (by omega)
    go_wp2_with (fail)
    (with_reducible refine (markEntryS_any _ _ n3 cq Aq _ ((1 : Int) + 2 * (n0 : Int)) _ HRq_159.out HSq_160.out hm3 (by omega) (by omega)).mono ?_)
    rintro e w18 ⟨rfl, _, _, hin⟩
    have hwt := Within.grown hin (in_row HRq_159.out)
    clear HSq_160
    clear HRq_159
    have hz_18 := hwt.size
    have HX_164 := Lib.hid (show Blk w18 _ _ _ from (hwt.block _ HX_154.out.lt (by omega)).trans HX_154.out)
    have HB_165 := Lib.hid (Within.below HB_155.out hwt (by omega))
    have HRs_166 := Lib.hid (HRs_156.out.within hwt (by omega) (by omega))
    have HW_167 := Lib.hid (show Blk w18 _ _ _ from (hwt.block _ HW_157.out.lt (by omega)).trans HW_157.out)
    have HRi_168 := Lib.hid (HRi_161.out.within hwt (by omega) (by omega))
    have HSi_169 := Lib.hid (HSi_162.out.within HRi_161.out hwt (by omega) (by omega))
    have HI_170 := Lib.hid (show Blk w18 _ _ _ from (hwt.block _ HI_163.out.lt (by omega)).trans HI_163.out)
    clear HX_154 HB_155 HRs_156 HW_157 HRi_161 HSi_162 HI_163
    clear hin hwt
    have hq1 : decide ((1 : Int) + 2 * (n0 : Int) + 2 * (n3 : Int) < 0) = false := decide_eq_false (by omega)
    have a_171 := HI_170.out.cell 0
    have a_172 := HI_170.out.cell 1
    have a_173 := HI_170.out.cell 2
    have a_174 := HW_167.out.cell 0
    have a_175 := HW_167.out.cell 1
    have a_176 := HW_167.out.cell 2
    go_wp2_with (fail)
    try clear a_171 a_172 a_173 a_174 a_175 a_176
    (with_reducible refine (eqVoter_same T V _ _ kS _ _ _ _ _ _ S _ HRi_168.out (by omega) (by omega) HRs_166.out (by omega)).mono ?_)
    rintro e w19 ⟨rfl, hbt⟩
    have hz_19 := hbt.size
    have HX_177 := Lib.hid (HX_164.out.below hbt HX_164.out.lt)
    have HB_178 := Lib.hid (up HB_165.out hbt)
    have HRs_179 := Lib.hid (HRs_166.out.keep hbt (by omega))
    have HW_180 := Lib.hid (HW_167.out.below hbt HW_167.out.lt)
    have HRi_181 := Lib.hid (HRi_168.out.keep hbt (by omega))
    have HSi_182 := Lib.hid (HSi_169.out.kept HRi_168.out hbt (by omega))
    have HI_183 := Lib.hid (HI_170.out.below hbt HI_170.out.lt)
    clear HX_164 HB_165 HRs_166 HW_167 HRi_168 HSi_169 HI_170
    clear hbt
    have hlm := HI_183.out.lt
    have a_184 := HI_183.out.cell 0
    have a_185 := HI_183.out.cell 1
    have a_186 := HI_183.out.cell 2
    go_wp2_with (fail)
    try clear a_184 a_185 a_186
    (with_reducible refine (markVoter_any T V _ _ kS ci Ai _ 1 _ HRi_181.out HSi_182.out hkS (by omega) (by omega) (by omega)).mono ?_)
    rintro e w20 ⟨rfl, hrq, wx, hbt, hwt⟩
    clear hlm
    clear HSi_182
    clear HRi_181
    obtain ⟨w21, hww⟩ : ∃ x : World, x = wx := ⟨_, rfl⟩
    subst hww
    have hz_21 := hbt.size
    have HX_187 := Lib.hid (HX_177.out.below hbt HX_177.out.lt)
    have HB_188 := Lib.hid (up HB_178.out hbt)
    have HRs_189 := Lib.hid (HRs_179.out.keep hbt (by omega))
    have HW_190 := Lib.hid (HW_180.out.below hbt HW_180.out.lt)
    have HI_191 := Lib.hid (HI_183.out.below hbt HI_183.out.lt)
    clear HX_177 HB_178 HRs_179 HW_180 HI_183
    obtain ⟨w22, hww⟩ : ∃ x : World, x = w20 := ⟨_, rfl⟩
    subst hww
    have hz_22 := hwt.size
    have HX_192 := Lib.hid (show Blk w22 _ _ _ from (hwt.block _ HX_187.out.lt (by omega)).trans HX_187.out)
    have HB_193 := Lib.hid (Within.below HB_188.out hwt (by omega))
    have HRs_194 := Lib.hid (HRs_189.out.within hwt (by omega) (by omega))
    have HW_195 := Lib.hid (show Blk w22 _ _ _ from (hwt.block _ HW_190.out.lt (by omega)).trans HW_190.out)
    have HI_196 := Lib.hid (show Blk w22 _ _ _ from (hwt.block _ HI_191.out.lt (by omega)).trans HI_191.out)
    clear HX_187 HB_188 HRs_189 HW_190 HI_191
    clear hbt hwt
    have HRz_197 := Lib.hid hrq
    clear hrq
    have hq2 : decide ((1 : Int) + 2 * (kS : Int) < 0) = false := decide_eq_false (by omega)
    have hq3 : ((1 : Int) + 2 * (kS : Int) != (1 : Int) + 2 * (kS : Int)) = false := by simp
    have a_198 := HI_196.out.cell 0
    have a_199 := HI_196.out.cell 1
    have a_200 := HI_196.out.cell 2
    go_wp2_with (fail)
    try clear a_198 a_199 a_200
    (with_reducible refine (heldVoter_any T V _ _ kS ci Ai 1 _ HRz_197.out (by omega) hkS (by omega) (by omega)).mono ?_)
    rintro e w23 ⟨rfl, hbt⟩
    have hz_23 := hbt.size
    have HX_201 := Lib.hid (HX_192.out.below hbt HX_192.out.lt)
    have HB_202 := Lib.hid (up HB_193.out hbt)
    have HRs_203 := Lib.hid (HRs_194.out.keep hbt (by omega))
    have HW_204 := Lib.hid (HW_195.out.below hbt HW_195.out.lt)
    have HI_205 := Lib.hid (HI_196.out.below hbt HI_196.out.lt)
    have HRz_206 := Lib.hid (HRz_197.out.keep hbt (by omega))
    clear HX_192 HB_193 HRs_194 HW_195 HI_196 HRz_197
    clear hbt
    have a_207 := HX_201.out.cell 0
    have a_208 := HX_201.out.cell 1
    have a_209 := HX_201.out.cell 2
    go_wp2_with (fail)
    try clear a_207 a_208 a_209
    (with_reducible refine (toVoter_any t v 0 w.heap.size n0 c0 A0 m0 _ (HA0.out.keep HB_202.out (Nat.le_refl _)) HB_202.out.size hm0).mono ?_)
    rintro e w24 ⟨Ad, cd, rfl, hkd, hrt, hst, hbt⟩
    have hz_24 := hbt.size
    have HX_210 := Lib.hid (HX_201.out.below hbt HX_201.out.lt)
    have HB_211 := Lib.hid (up HB_202.out hbt)
    have HRs_212 := Lib.hid (HRs_203.out.keep hbt (by omega))
    have HW_213 := Lib.hid (HW_204.out.below hbt HW_204.out.lt)
    have HI_214 := Lib.hid (HI_205.out.below hbt HI_205.out.lt)
    have HRz_215 := Lib.hid (HRz_206.out.keep hbt (by omega))
    clear HX_201 HB_202 HRs_203 HW_204 HI_205 HRz_206
    clear hbt
    have HRd_216 := Lib.hid hrt
    clear hrt hst
    go_wp2_with (fail)
    (with_reducible refine (toEntryS_any 0 w.heap.size n3 c3 A3 m3 _ (HA3.out.keep HB_211.out (Nat.le_refl _)) HB_211.out.size hm3).mono ?_)
    rintro e w25 ⟨Af, cf, rfl, hkf, hrt, hst, hbt⟩
    have hz_25 := hbt.size
    have HX_217 := Lib.hid (HX_210.out.below hbt HX_210.out.lt)
    have HB_218 := Lib.hid (up HB_211.out hbt)
    have HRs_219 := Lib.hid (HRs_212.out.keep hbt (by omega))
    have HW_220 := Lib.hid (HW_213.out.below hbt HW_213.out.lt)
    have HI_221 := Lib.hid (HI_214.out.below hbt HI_214.out.lt)
    have HRz_222 := Lib.hid (HRz_215.out.keep hbt (by omega))
    have HRd_223 := Lib.hid (HRd_216.out.keep hbt (by omega))
    clear HX_210 HB_211 HRs_212 HW_213 HI_214 HRz_215 HRd_216
    clear hbt
    have HRf_224 := Lib.hid hrt
    clear hrt hst
    go_wp2_with (fail)
    (with_reducible refine (AskVoteI_any t v _ _ n0 cd Ad m0 z1 z2 _ _ n3 cf Af m3 _ HRd_223.out (by omega) hm0 hkd HRf_224.out (by omega) hm3 hkf).mono ?_)
    intro e w26 hvt
    obtain ⟨Aj, cj, rfl, hkj, hrt, hst, hbt⟩ := hvt.q HU.out HS.out
    clear hvt
    have hz_26 := hbt.size
    have HX_225 := Lib.hid (HX_217.out.below hbt HX_217.out.lt)
    have HB_226 := Lib.hid (up HB_218.out hbt)
    have HRs_227 := Lib.hid (HRs_219.out.keep hbt (by omega))
    have HW_228 := Lib.hid (HW_220.out.below hbt HW_220.out.lt)
    have HI_229 := Lib.hid (HI_221.out.below hbt HI_221.out.lt)
    have HRz_230 := Lib.hid (HRz_222.out.keep hbt (by omega))
    have HRd_231 := Lib.hid (HRd_223.out.keep hbt (by omega))
    have HRf_232 := Lib.hid (HRf_224.out.keep hbt (by omega))
    clear HX_217 HB_218 HRs_219 HW_220 HI_221 HRz_222 HRd_223 HRf_224
    clear hbt
    have HRj_233 := Lib.hid hrt
    clear hrt hst
    clear HRd_231
    clear HRf_232
    have HKJ_234 := Lib.hid (Blk.new w26 44 #[.int .i64 T, .int .i64 V, .slice Aj kS cj])
    have hbt := up_alloc (Below.refl _ w26) (.cells #[.int .i64 T, .int .i64 V, .slice Aj kS cj] 44)
    have hs_27 : (w26.alloc (.cells #[.int .i64 T, .int .i64 V, .slice Aj kS cj] 44)).heap.size = w26.heap.size + 1 := by simp
    have a_235 := HW_228.out.cell 0
    have a_236 := HW_228.out.cell 1
    have a_237 := HW_228.out.cell 2
    have hz_27 := hbt.size
    have HX_238 := Lib.hid (HX_225.out.below hbt HX_225.out.lt)
    have HB_239 := Lib.hid (up HB_226.out hbt)
    have HRs_240 := Lib.hid (HRs_227.out.keep hbt (by omega))
    have HW_241 := Lib.hid (HW_228.out.below hbt HW_228.out.lt)
    have HI_242 := Lib.hid (HI_229.out.below hbt HI_229.out.lt)
    have HRz_243 := Lib.hid (HRz_230.out.keep hbt (by omega))
    have HRj_244 := Lib.hid (HRj_233.out.keep hbt (by omega))
    clear HX_225 HB_226 HRs_227 HW_228 HI_229 HRz_230 HRj_233
    clear hbt
    have a_245 := HW_241.out.cell 0
    have a_246 := HW_241.out.cell 1
    have a_247 := HW_241.out.cell 2
    go_wp2_with (fail)
    try clear a_235 a_236 a_237 a_245 a_246 a_247
    generalize w26.alloc (.cells #[.int .i64 T, .int .i64 V, .slice Aj kS cj] 44) = w27 at *
    (with_reducible refine (eqVoter_same T V _ _ kS _ _ _ _ _ _ S _ HRj_244.out (by omega) (by omega) HRs_240.out (by omega)).mono ?_)
    rintro e w28 ⟨rfl, hbt⟩
    have hz_28 := hbt.size
    have HX_248 := Lib.hid (HX_238.out.below hbt HX_238.out.lt)
    have HB_249 := Lib.hid (up HB_239.out hbt)
    have HRs_250 := Lib.hid (HRs_240.out.keep hbt (by omega))
    have HW_251 := Lib.hid (HW_241.out.below hbt HW_241.out.lt)
    have HI_252 := Lib.hid (HI_242.out.below hbt HI_242.out.lt)
    have HRz_253 := Lib.hid (HRz_243.out.keep hbt (by omega))
    have HRj_254 := Lib.hid (HRj_244.out.keep hbt (by omega))
    have HJ_255 := Lib.hid (HKJ_234.out.below hbt HKJ_234.out.lt)
    clear HX_238 HB_239 HRs_240 HW_241 HI_242 HRz_243 HRj_244 HKJ_234
    clear hbt
    have a_256 := HI_252.out.cell 0
    have a_257 := HI_252.out.cell 1
    have a_258 := HI_252.out.cell 2
    go_wp2_with (fail)
    try clear a_256 a_257 a_258
    (with_reducible refine (heldVoter_any T V _ _ kS ci Ai 1 _ HRz_253.out (by omega) hkS (by omega) (by omega)).mono ?_)
    rintro e w29 ⟨rfl, hbt⟩
    have hz_29 := hbt.size
    have HX_259 := Lib.hid (HX_248.out.below hbt HX_248.out.lt)
    have HB_260 := Lib.hid (up HB_249.out hbt)
    have HRs_261 := Lib.hid (HRs_250.out.keep hbt (by omega))
    have HW_262 := Lib.hid (HW_251.out.below hbt HW_251.out.lt)
    have HI_263 := Lib.hid (HI_252.out.below hbt HI_252.out.lt)
    have HRz_264 := Lib.hid (HRz_253.out.keep hbt (by omega))
    have HRj_265 := Lib.hid (HRj_254.out.keep hbt (by omega))
    have HJ_266 := Lib.hid (HJ_255.out.below hbt HJ_255.out.lt)
    clear HX_248 HB_249 HRs_250 HW_251 HI_252 HRz_253 HRj_254 HJ_255
    clear hbt
    go_wp2
    go_ret
    exact ⟨rfl, HB_260.out⟩
end Go.Proofs.Ytobjcifoaejonaa
