/- The law FnAskVote, walked: it returns true. (Written by a program over gen/lawlib.py.) -/
import Derived.Test.YtobjcifoaejonacDrawV
import Derived.Test.YtobjcifoaejonacLawAskM
import Derived.BigQuiet
import Derived.Deep.RegionLaw
import Derived.Lib.MinMax
set_option linter.unusedSimpArgs false
set_option linter.unusedVariables false
namespace Go.Proofs.Ytobjcifoaejonac
open Go.RowKit

set_option maxRecDepth 100000 in
set_option maxHeartbeats 6400000 in
theorem lawAskVote_any (n c : Nat) (A : Option Addr) (xs : List Int) (w : World) (hr : Rd w 0 w.heap.size 1 A n (bvs xs)) (hby : Bytes xs) (hc : n ≤ c) (hc2 : c ≤ 9223372036854775807) :
    Calls Try.prog 3 #[.slice A n c] w fun e w' => e = .returned (.bool true) ∧ Below w.heap.size w w' := by
  by_cases hbig : (1048576 : Int) < n
  · go_enter Try.func3, Try.ntmps3
    go_wp2
    go_ret
    exact ⟨rfl, Below.refl _ _⟩
  go_enter Try.func3, Try.ntmps3
  go_wp2_with (fail)
  (with_reducible refine (drawAskVote_any n c A xs w hr hby (by omega) hc hc2).mono ?_)
  rintro e w1 ⟨x, y, A1, m, c1, ps, cand, term, A2, m2, c2, qs, rfl, hx, hy, hm, hc1, hrd, hcand, hterm, hm2, hc2', hrd2, hb1⟩
  clear hbig hr
  have HB_0 := Lib.hid hb1
  have hz_1 := hb1.size
  clear hb1
  have HPL := Lib.hid hrd.len2
  have HQL := Lib.hid hrd2.len2
  have HL_1 := Lib.hid (hrd.wide (Nat.zero_le _) (Nat.le_refl _))
  clear hrd
  have HR_2 := Lib.hid (hrd2.wide (Nat.zero_le _) (Nat.le_refl _))
  clear hrd2
  obtain ⟨⟨⟨T, V, S⟩, b⟩, hU⟩ : ∃ u, askOf x y ps cand term qs = u := ⟨_, rfl⟩
  obtain ⟨mS, hS⟩ : ∃ k, S.length = k := ⟨_, rfl⟩
  have hmS : mS ≤ 20 := by
    have h1 := askOf_len x y ps cand term qs
    have h2 := HPL.out
    rw [hU] at h1
    dsimp only at h1
    omega
  have HU := Lib.hid hU
  have HS := Lib.hid hS
  have hne : (b != b) = false := by simp
  have heq : (b == b) = true := by simp
  clear hU hS
  have HEV_3 := Lib.hid (Blk.new w1 25 #[.int .i64 x, .int .i64 y, .slice A1 m c1])
  have hbt := up_alloc (Below.refl _ w1) (.cells #[.int .i64 x, .int .i64 y, .slice A1 m c1] 25)
  have hs_2 : (w1.alloc (.cells #[.int .i64 x, .int .i64 y, .slice A1 m c1] 25)).heap.size = w1.heap.size + 1 := by simp
  have HL_4 := Lib.hid (HL_1.out.keep hbt (by omega))
  have HR_5 := Lib.hid (HR_2.out.keep hbt (by omega))
  have HB_6 := Lib.hid (up HB_0.out hbt)
  have hz_2 := hbt.size
  clear HL_1 HR_2 HB_0
  clear hbt
  go_wp2_with (fail)
  generalize w1.alloc (.cells #[.int .i64 x, .int .i64 y, .slice A1 m c1] 25) = w2 at *
  (with_reducible refine (askI_at HU.out HS.out HL_4.out (by omega) (by omega) hc1 HR_5.out (by omega) (by omega) hc2').mono ?_)
  rintro e w3 ⟨A3, c3, rfl, hk3, hrd3, hbt⟩
  have HEV_7 := Lib.hid (HEV_3.out.below hbt HEV_3.out.lt)
  clear HEV_3
  have HL_8 := Lib.hid (HL_4.out.keep hbt (by omega))
  have HR_9 := Lib.hid (HR_5.out.keep hbt (by omega))
  have HB_10 := Lib.hid (up HB_6.out hbt)
  have hz_3 := hbt.size
  clear HL_4 HR_5 HB_6
  have HW_11 := Lib.hid (hrd3.wide (Nat.zero_le _) (Nat.le_refl _))
  clear hrd3
  clear hbt
  have HEW_12 := Lib.hid (Blk.new w3 25 #[.int .i64 T, .int .i64 V, .slice A3 mS c3])
  have hbt := up_alloc (Below.refl _ w3) (.cells #[.int .i64 T, .int .i64 V, .slice A3 mS c3] 25)
  have hs_4 : (w3.alloc (.cells #[.int .i64 T, .int .i64 V, .slice A3 mS c3] 25)).heap.size = w3.heap.size + 1 := by simp
  have a_13 := HEV_7.out.cell 0
  have a_14 := HEV_7.out.cell 1
  have a_15 := HEV_7.out.cell 2
  have HEV_16 := Lib.hid (HEV_7.out.below hbt HEV_7.out.lt)
  clear HEV_7
  have HL_17 := Lib.hid (HL_8.out.keep hbt (by omega))
  have HR_18 := Lib.hid (HR_9.out.keep hbt (by omega))
  have HW_19 := Lib.hid (HW_11.out.keep hbt (by omega))
  have HB_20 := Lib.hid (up HB_10.out hbt)
  have hz_4 := hbt.size
  clear HL_8 HR_9 HW_11 HB_10
  clear hbt
  have a_21 := HEV_16.out.cell 0
  have a_22 := HEV_16.out.cell 1
  have a_23 := HEV_16.out.cell 2
  go_wp2_with (fail)
  try clear a_13 a_14 a_15 a_21 a_22 a_23
  generalize w3.alloc (.cells #[.int .i64 T, .int .i64 V, .slice A3 mS c3] 25) = w4 at *
  (with_reducible refine (askS_at HU.out HS.out HL_17.out (by omega) (by omega) HR_18.out (by omega) (by omega)).mono ?_)
  rintro e w5 ⟨A4, c4, rfl, hk4, hrd4, hbt⟩
  have HEV_24 := Lib.hid (HEV_16.out.below hbt HEV_16.out.lt)
  have HEW_25 := Lib.hid (HEW_12.out.below hbt HEW_12.out.lt)
  clear HEV_16 HEW_12
  have HL_26 := Lib.hid (HL_17.out.keep hbt (by omega))
  have HR_27 := Lib.hid (HR_18.out.keep hbt (by omega))
  have HW_28 := Lib.hid (HW_19.out.keep hbt (by omega))
  have HB_29 := Lib.hid (up HB_20.out hbt)
  have hz_5 := hbt.size
  clear HL_17 HR_18 HW_19 HB_20
  have HN_30 := Lib.hid (hrd4.wide (Nat.zero_le _) (Nat.le_refl _))
  clear hrd4
  clear hbt
  have HEN_31 := Lib.hid (Blk.new w5 25 #[.int .i64 T, .int .i64 V, .slice A4 mS c4])
  have hbt := up_alloc (Below.refl _ w5) (.cells #[.int .i64 T, .int .i64 V, .slice A4 mS c4] 25)
  have hs_6 : (w5.alloc (.cells #[.int .i64 T, .int .i64 V, .slice A4 mS c4] 25)).heap.size = w5.heap.size + 1 := by simp
  have a_32 := HEW_25.out.cell 0
  have a_33 := HEW_25.out.cell 1
  have a_34 := HEW_25.out.cell 2
  have HEV_35 := Lib.hid (HEV_24.out.below hbt HEV_24.out.lt)
  have HEW_36 := Lib.hid (HEW_25.out.below hbt HEW_25.out.lt)
  clear HEV_24 HEW_25
  have HL_37 := Lib.hid (HL_26.out.keep hbt (by omega))
  have HR_38 := Lib.hid (HR_27.out.keep hbt (by omega))
  have HW_39 := Lib.hid (HW_28.out.keep hbt (by omega))
  have HN_40 := Lib.hid (HN_30.out.keep hbt (by omega))
  have HB_41 := Lib.hid (up HB_29.out hbt)
  have hz_6 := hbt.size
  clear HL_26 HR_27 HW_28 HN_30 HB_29
  clear hbt
  have a_42 := HEW_36.out.cell 0
  have a_43 := HEW_36.out.cell 1
  have a_44 := HEW_36.out.cell 2
  go_wp2_with (fail)
  try clear a_32 a_33 a_34 a_42 a_43 a_44
  generalize w5.alloc (.cells #[.int .i64 T, .int .i64 V, .slice A4 mS c4] 25) = w6 at *
  (with_reducible refine (equalVoter_same T V 0 _ _ _ 0 _ _ _ _ _ _ HW_39.out (by omega) (by omega) HN_40.out (by omega)).mono ?_)
  rintro e w7 ⟨rfl, hbt⟩
  have HEV_45 := Lib.hid (HEV_35.out.below hbt HEV_35.out.lt)
  have HEW_46 := Lib.hid (HEW_36.out.below hbt HEW_36.out.lt)
  have HEN_47 := Lib.hid (HEN_31.out.below hbt HEN_31.out.lt)
  clear HEV_35 HEW_36 HEN_31
  have HL_48 := Lib.hid (HL_37.out.keep hbt (by omega))
  have HR_49 := Lib.hid (HR_38.out.keep hbt (by omega))
  have HW_50 := Lib.hid (HW_39.out.keep hbt (by omega))
  have HN_51 := Lib.hid (HN_40.out.keep hbt (by omega))
  have HB_52 := Lib.hid (up HB_41.out hbt)
  have hz_7 := hbt.size
  clear HL_37 HR_38 HW_39 HN_40 HB_41
  clear hbt
  cases b with
  | false =>
    have a_53 := HEV_45.out.cell 0
    have a_54 := HEV_45.out.cell 1
    have a_55 := HEV_45.out.cell 2
    have a_56 := HEW_46.out.cell 0
    have a_57 := HEW_46.out.cell 1
    have a_58 := HEW_46.out.cell 2
    have a_59 := HEN_47.out.cell 0
    have a_60 := HEN_47.out.cell 1
    have a_61 := HEN_47.out.cell 2
    go_wp2_with (fail)
    try clear a_53 a_54 a_55 a_56 a_57 a_58 a_59 a_60 a_61
    (with_reducible refine (equalVoter_same T V 0 _ _ _ 0 _ _ _ _ _ _ HW_50.out (by omega) (by omega) HN_51.out (by omega)).mono ?_)
    rintro e w8 ⟨rfl, hbt⟩
    have HEV_62 := Lib.hid (HEV_45.out.below hbt HEV_45.out.lt)
    have HEW_63 := Lib.hid (HEW_46.out.below hbt HEW_46.out.lt)
    have HEN_64 := Lib.hid (HEN_47.out.below hbt HEN_47.out.lt)
    clear HEV_45 HEW_46 HEN_47
    have HL_65 := Lib.hid (HL_48.out.keep hbt (by omega))
    have HR_66 := Lib.hid (HR_49.out.keep hbt (by omega))
    have HW_67 := Lib.hid (HW_50.out.keep hbt (by omega))
    have HN_68 := Lib.hid (HN_51.out.keep hbt (by omega))
    have HB_69 := Lib.hid (up HB_52.out hbt)
    have hz_8 := hbt.size
    clear HL_48 HR_49 HW_50 HN_51 HB_52
    clear hbt
    go_wp2
    go_ret
    exact ⟨rfl, HB_69.out⟩
  | true =>
    obtain ⟨hT, hV, hSS, hn, hle, hv, hv2, hv3, hv4⟩ := ask_true HU.out
    have HL1 := Lib.hid (vVoter_log hv)
    subst hT
    subst hV
    subst hSS
    have HA := Lib.hid (ask_again HL1.out hv2 hv3 hv4 hn)
    have hV6 : 0 ≤ V ∧ V ≤ 6 := by simpa [inR] using hv2
    have hw1 : IntKind.i64.wrap (V + 1) = V + 1 := IntWalk.i64_in _ (by omega)
    have htm : (V + 1).tmod 7 = (V + 1) % 7 := Int.tmod_eq_emod_of_nonneg (by omega)
    have HO := Lib.hid (ask_other (d := (V + 1) % 7) HL1.out hv2 (by simp [inR]; omega) (by omega) hv3 hv4)
    have hTT : (T == T) = true := by simp
    have hVV : (V == V) = true := by simp
    clear hv hv2 hv3 hv4 hn
    have a_70 := HEW_46.out.cell 0
    have a_71 := HEW_46.out.cell 1
    have a_72 := HEW_46.out.cell 2
    go_wp2_with (fail)
    try clear a_70 a_71 a_72
    try rw [htm]
    (with_reducible refine (askI_at HO.out HS.out HW_50.out (by omega) (by omega) hk3 HR_49.out (by omega) (by omega) hc2').mono ?_)
    rintro e w8 ⟨A5, c5, rfl, hk5, hrd5, hbt⟩
    have HEV_73 := Lib.hid (HEV_45.out.below hbt HEV_45.out.lt)
    have HEW_74 := Lib.hid (HEW_46.out.below hbt HEW_46.out.lt)
    have HEN_75 := Lib.hid (HEN_47.out.below hbt HEN_47.out.lt)
    clear HEV_45 HEW_46 HEN_47
    have HL_76 := Lib.hid (HL_48.out.keep hbt (by omega))
    have HR_77 := Lib.hid (HR_49.out.keep hbt (by omega))
    have HW_78 := Lib.hid (HW_50.out.keep hbt (by omega))
    have HN_79 := Lib.hid (HN_51.out.keep hbt (by omega))
    have HB_80 := Lib.hid (up HB_52.out hbt)
    have hz_8 := hbt.size
    clear HL_48 HR_49 HW_50 HN_51 HB_52
    have HO_81 := Lib.hid (hrd5.wide (Nat.zero_le _) (Nat.le_refl _))
    clear hrd5
    clear hbt
    have HEO_82 := Lib.hid (Blk.new w8 25 #[.int .i64 T, .int .i64 V, .slice A5 mS c5])
    have hbt := up_alloc (Below.refl _ w8) (.cells #[.int .i64 T, .int .i64 V, .slice A5 mS c5] 25)
    have hs_9 : (w8.alloc (.cells #[.int .i64 T, .int .i64 V, .slice A5 mS c5] 25)).heap.size = w8.heap.size + 1 := by simp
    have a_83 := HEW_74.out.cell 0
    have a_84 := HEW_74.out.cell 1
    have a_85 := HEW_74.out.cell 2
    have HEV_86 := Lib.hid (HEV_73.out.below hbt HEV_73.out.lt)
    have HEW_87 := Lib.hid (HEW_74.out.below hbt HEW_74.out.lt)
    have HEN_88 := Lib.hid (HEN_75.out.below hbt HEN_75.out.lt)
    clear HEV_73 HEW_74 HEN_75
    have HL_89 := Lib.hid (HL_76.out.keep hbt (by omega))
    have HR_90 := Lib.hid (HR_77.out.keep hbt (by omega))
    have HW_91 := Lib.hid (HW_78.out.keep hbt (by omega))
    have HN_92 := Lib.hid (HN_79.out.keep hbt (by omega))
    have HO_93 := Lib.hid (HO_81.out.keep hbt (by omega))
    have HB_94 := Lib.hid (up HB_80.out hbt)
    have hz_9 := hbt.size
    clear HL_76 HR_77 HW_78 HN_79 HO_81 HB_80
    clear hbt
    have a_95 := HEW_87.out.cell 0
    have a_96 := HEW_87.out.cell 1
    have a_97 := HEW_87.out.cell 2
    go_wp2_with (fail)
    try clear a_83 a_84 a_85 a_95 a_96 a_97
    generalize w8.alloc (.cells #[.int .i64 T, .int .i64 V, .slice A5 mS c5] 25) = w9 at *
    (with_reducible refine (askI_at HA.out HS.out HW_91.out (by omega) (by omega) hk3 HR_90.out (by omega) (by omega) hc2').mono ?_)
    rintro e w10 ⟨A6, c6, rfl, hk6, hrd6, hbt⟩
    have HEV_98 := Lib.hid (HEV_86.out.below hbt HEV_86.out.lt)
    have HEW_99 := Lib.hid (HEW_87.out.below hbt HEW_87.out.lt)
    have HEN_100 := Lib.hid (HEN_88.out.below hbt HEN_88.out.lt)
    have HEO_101 := Lib.hid (HEO_82.out.below hbt HEO_82.out.lt)
    clear HEV_86 HEW_87 HEN_88 HEO_82
    have HL_102 := Lib.hid (HL_89.out.keep hbt (by omega))
    have HR_103 := Lib.hid (HR_90.out.keep hbt (by omega))
    have HW_104 := Lib.hid (HW_91.out.keep hbt (by omega))
    have HN_105 := Lib.hid (HN_92.out.keep hbt (by omega))
    have HO_106 := Lib.hid (HO_93.out.keep hbt (by omega))
    have HB_107 := Lib.hid (up HB_94.out hbt)
    have hz_10 := hbt.size
    clear HL_89 HR_90 HW_91 HN_92 HO_93 HB_94
    have HP_108 := Lib.hid (hrd6.wide (Nat.zero_le _) (Nat.le_refl _))
    clear hrd6
    clear hbt
    have HEP_109 := Lib.hid (Blk.new w10 25 #[.int .i64 T, .int .i64 V, .slice A6 mS c6])
    have hbt := up_alloc (Below.refl _ w10) (.cells #[.int .i64 T, .int .i64 V, .slice A6 mS c6] 25)
    have hs_11 : (w10.alloc (.cells #[.int .i64 T, .int .i64 V, .slice A6 mS c6] 25)).heap.size = w10.heap.size + 1 := by simp
    have a_110 := HEW_99.out.cell 0
    have a_111 := HEW_99.out.cell 1
    have a_112 := HEW_99.out.cell 2
    have a_113 := HEV_98.out.cell 0
    have a_114 := HEV_98.out.cell 1
    have a_115 := HEV_98.out.cell 2
    have HEV_116 := Lib.hid (HEV_98.out.below hbt HEV_98.out.lt)
    have HEW_117 := Lib.hid (HEW_99.out.below hbt HEW_99.out.lt)
    have HEN_118 := Lib.hid (HEN_100.out.below hbt HEN_100.out.lt)
    have HEO_119 := Lib.hid (HEO_101.out.below hbt HEO_101.out.lt)
    clear HEV_98 HEW_99 HEN_100 HEO_101
    have HL_120 := Lib.hid (HL_102.out.keep hbt (by omega))
    have HR_121 := Lib.hid (HR_103.out.keep hbt (by omega))
    have HW_122 := Lib.hid (HW_104.out.keep hbt (by omega))
    have HN_123 := Lib.hid (HN_105.out.keep hbt (by omega))
    have HO_124 := Lib.hid (HO_106.out.keep hbt (by omega))
    have HP_125 := Lib.hid (HP_108.out.keep hbt (by omega))
    have HB_126 := Lib.hid (up HB_107.out hbt)
    have hz_11 := hbt.size
    clear HL_102 HR_103 HW_104 HN_105 HO_106 HP_108 HB_107
    clear hbt
    have a_127 := HEW_117.out.cell 0
    have a_128 := HEW_117.out.cell 1
    have a_129 := HEW_117.out.cell 2
    have a_130 := HEV_116.out.cell 0
    have a_131 := HEV_116.out.cell 1
    have a_132 := HEV_116.out.cell 2
    go_wp2_with (fail)
    try clear a_110 a_111 a_112 a_113 a_114 a_115 a_127 a_128 a_129 a_130 a_131 a_132
    generalize w10.alloc (.cells #[.int .i64 T, .int .i64 V, .slice A6 mS c6] 25) = w11 at *
    (with_reducible refine (equalLog_any 0 _ mS c3 0 _ m c1 A3 A1 S S _ HW_122.out (by omega) (by omega) HL_120.out (by omega) (by omega)).mono ?_)
    rintro e w12 ⟨rfl, hbt⟩
    rw [beq_self_eq_true]
    have HEV_133 := Lib.hid (HEV_116.out.below hbt HEV_116.out.lt)
    have HEW_134 := Lib.hid (HEW_117.out.below hbt HEW_117.out.lt)
    have HEN_135 := Lib.hid (HEN_118.out.below hbt HEN_118.out.lt)
    have HEO_136 := Lib.hid (HEO_119.out.below hbt HEO_119.out.lt)
    have HEP_137 := Lib.hid (HEP_109.out.below hbt HEP_109.out.lt)
    clear HEV_116 HEW_117 HEN_118 HEO_119 HEP_109
    have HL_138 := Lib.hid (HL_120.out.keep hbt (by omega))
    have HR_139 := Lib.hid (HR_121.out.keep hbt (by omega))
    have HW_140 := Lib.hid (HW_122.out.keep hbt (by omega))
    have HN_141 := Lib.hid (HN_123.out.keep hbt (by omega))
    have HO_142 := Lib.hid (HO_124.out.keep hbt (by omega))
    have HP_143 := Lib.hid (HP_125.out.keep hbt (by omega))
    have HB_144 := Lib.hid (up HB_126.out hbt)
    have hz_12 := hbt.size
    clear HL_120 HR_121 HW_122 HN_123 HO_124 HP_125 HB_126
    clear hbt
    go_wp2
    go_ret
    exact ⟨rfl, HB_144.out⟩
end Go.Proofs.Ytobjcifoaejonac
