/- The law FnAskVoteOld, walked: it returns true. (Written by a program over gen/lawlib.py.) -/
import Derived.Test.YtobjcifoaejonacDrawV
import Derived.Test.YtobjcifoaejonacLawAskM
import Derived.BigQuiet
import Derived.Deep.RegionLaw
import Derived.Lib.MinMax
set_option linter.unusedSimpArgs false
set_option linter.unusedVariables false
namespace Go.Proofs.Ytobjcifoaejonac
open Go.RowKit

set_option maxRecDepth 100000 in
set_option maxHeartbeats 6400000 in
theorem lawAskVoteOld_any (n c : Nat) (A : Option Addr) (xs : List Int) (w : World) (hr : Rd w 0 w.heap.size 1 A n (bvs xs)) (hby : Bytes xs) (hc : n ≤ c) (hc2 : c ≤ 9223372036854775807) :
    Calls Try.prog 11 #[.slice A n c] w fun e w' => e = .returned (.bool true) ∧ Below w.heap.size w w' := by
  by_cases hbig : (1048576 : Int) < n
  · go_enter Try.func11, Try.ntmps11
    go_wp2
    go_ret
    exact ⟨rfl, Below.refl _ _⟩
  go_enter Try.func11, Try.ntmps11
  go_wp2_with (fail)
  (with_reducible refine (drawAskVote_any n c A xs w hr hby (by omega) hc hc2).mono ?_)
  rintro e w1 ⟨x, y, A1, m, c1, ps, cand, term, A2, m2, c2, qs, rfl, hx, hy, hm, hc1, hrd, hcand, hterm, hm2, hc2', hrd2, hb1⟩
  clear hbig hr
  have HB_0 := Lib.hid hb1
  have hz_1 := hb1.size
  clear hb1
  have HPL := Lib.hid hrd.len2
  have HQL := Lib.hid hrd2.len2
  have HL_1 := Lib.hid (hrd.wide (Nat.zero_le _) (Nat.le_refl _))
  clear hrd
  have HR_2 := Lib.hid (hrd2.wide (Nat.zero_le _) (Nat.le_refl _))
  clear hrd2
  obtain ⟨⟨⟨T, V, S⟩, b⟩, hU⟩ : ∃ u, askOf x y ps cand term qs = u := ⟨_, rfl⟩
  obtain ⟨mS, hS⟩ : ∃ k, S.length = k := ⟨_, rfl⟩
  have hmS : mS ≤ 20 := by
    have h1 := askOf_len x y ps cand term qs
    have h2 := HPL.out
    rw [hU] at h1
    dsimp only at h1
    omega
  have HU := Lib.hid hU
  have HS := Lib.hid hS
  have hne : (b != b) = false := by simp
  have heq : (b == b) = true := by simp
  clear hU hS
  have HEV_3 := Lib.hid (Blk.new w1 25 #[.int .i64 x, .int .i64 y, .slice A1 m c1])
  have hbt := up_alloc (Below.refl _ w1) (.cells #[.int .i64 x, .int .i64 y, .slice A1 m c1] 25)
  have hs_2 : (w1.alloc (.cells #[.int .i64 x, .int .i64 y, .slice A1 m c1] 25)).heap.size = w1.heap.size + 1 := by simp
  have HL_4 := Lib.hid (HL_1.out.keep hbt (by omega))
  have HR_5 := Lib.hid (HR_2.out.keep hbt (by omega))
  have HB_6 := Lib.hid (up HB_0.out hbt)
  have hz_2 := hbt.size
  clear HL_1 HR_2 HB_0
  clear hbt
  go_wp2_with (fail)
  generalize w1.alloc (.cells #[.int .i64 x, .int .i64 y, .slice A1 m c1] 25) = w2 at *
  (with_reducible refine (askI_at HU.out HS.out HL_4.out (by omega) (by omega) hc1 HR_5.out (by omega) (by omega) hc2').mono ?_)
  rintro e w3 ⟨A3, c3, rfl, hk3, hrd3, hbt⟩
  have HEV_7 := Lib.hid (HEV_3.out.below hbt HEV_3.out.lt)
  clear HEV_3
  have HL_8 := Lib.hid (HL_4.out.keep hbt (by omega))
  have HR_9 := Lib.hid (HR_5.out.keep hbt (by omega))
  have HB_10 := Lib.hid (up HB_6.out hbt)
  have hz_3 := hbt.size
  clear HL_4 HR_5 HB_6
  have HW_11 := Lib.hid (hrd3.wide (Nat.zero_le _) (Nat.le_refl _))
  clear hrd3
  clear hbt
  have HEW_12 := Lib.hid (Blk.new w3 25 #[.int .i64 T, .int .i64 V, .slice A3 mS c3])
  have hbt := up_alloc (Below.refl _ w3) (.cells #[.int .i64 T, .int .i64 V, .slice A3 mS c3] 25)
  have hs_4 : (w3.alloc (.cells #[.int .i64 T, .int .i64 V, .slice A3 mS c3] 25)).heap.size = w3.heap.size + 1 := by simp
  have a_13 := HEV_7.out.cell 0
  have a_14 := HEV_7.out.cell 1
  have a_15 := HEV_7.out.cell 2
  have HEV_16 := Lib.hid (HEV_7.out.below hbt HEV_7.out.lt)
  clear HEV_7
  have HL_17 := Lib.hid (HL_8.out.keep hbt (by omega))
  have HR_18 := Lib.hid (HR_9.out.keep hbt (by omega))
  have HW_19 := Lib.hid (HW_11.out.keep hbt (by omega))
  have HB_20 := Lib.hid (up HB_10.out hbt)
  have hz_4 := hbt.size
  clear HL_8 HR_9 HW_11 HB_10
  clear hbt
  have a_21 := HEV_16.out.cell 0
  have a_22 := HEV_16.out.cell 1
  have a_23 := HEV_16.out.cell 2
  go_wp2_with (fail)
  try clear a_13 a_14 a_15 a_21 a_22 a_23
  generalize w3.alloc (.cells #[.int .i64 T, .int .i64 V, .slice A3 mS c3] 25) = w4 at *
  (with_reducible refine (askS_at HU.out HS.out HL_17.out (by omega) (by omega) HR_18.out (by omega) (by omega)).mono ?_)
  rintro e w5 ⟨A4, c4, rfl, hk4, hrd4, hbt⟩
  have HEV_24 := Lib.hid (HEV_16.out.below hbt HEV_16.out.lt)
  have HEW_25 := Lib.hid (HEW_12.out.below hbt HEW_12.out.lt)
  clear HEV_16 HEW_12
  have HL_26 := Lib.hid (HL_17.out.keep hbt (by omega))
  have HR_27 := Lib.hid (HR_18.out.keep hbt (by omega))
  have HW_28 := Lib.hid (HW_19.out.keep hbt (by omega))
  have HB_29 := Lib.hid (up HB_20.out hbt)
  have hz_5 := hbt.size
  clear HL_17 HR_18 HW_19 HB_20
  have HN_30 := Lib.hid (hrd4.wide (Nat.zero_le _) (Nat.le_refl _))
  clear hrd4
  clear hbt
  have HEN_31 := Lib.hid (Blk.new w5 25 #[.int .i64 T, .int .i64 V, .slice A4 mS c4])
  have hbt := up_alloc (Below.refl _ w5) (.cells #[.int .i64 T, .int .i64 V, .slice A4 mS c4] 25)
  have hs_6 : (w5.alloc (.cells #[.int .i64 T, .int .i64 V, .slice A4 mS c4] 25)).heap.size = w5.heap.size + 1 := by simp
  have a_32 := HEW_25.out.cell 0
  have a_33 := HEW_25.out.cell 1
  have a_34 := HEW_25.out.cell 2
  have HEV_35 := Lib.hid (HEV_24.out.below hbt HEV_24.out.lt)
  have HEW_36 := Lib.hid (HEW_25.out.below hbt HEW_25.out.lt)
  clear HEV_24 HEW_25
  have HL_37 := Lib.hid (HL_26.out.keep hbt (by omega))
  have HR_38 := Lib.hid (HR_27.out.keep hbt (by omega))
  have HW_39 := Lib.hid (HW_28.out.keep hbt (by omega))
  have HN_40 := Lib.hid (HN_30.out.keep hbt (by omega))
  have HB_41 := Lib.hid (up HB_29.out hbt)
  have hz_6 := hbt.size
  clear HL_26 HR_27 HW_28 HN_30 HB_29
  clear hbt
  have a_42 := HEW_36.out.cell 0
  have a_43 := HEW_36.out.cell 1
  have a_44 := HEW_36.out.cell 2
  go_wp2_with (fail)
  try clear a_32 a_33 a_34 a_42 a_43 a_44
  generalize w5.alloc (.cells #[.int .i64 T, .int .i64 V, .slice A4 mS c4] 25) = w6 at *
  (with_reducible refine (equalVoter_same T V 0 _ _ _ 0 _ _ _ _ _ _ HW_39.out (by omega) (by omega) HN_40.out (by omega)).mono ?_)
  rintro e w7 ⟨rfl, hbt⟩
  have HEV_45 := Lib.hid (HEV_35.out.below hbt HEV_35.out.lt)
  have HEW_46 := Lib.hid (HEW_36.out.below hbt HEW_36.out.lt)
  have HEN_47 := Lib.hid (HEN_31.out.below hbt HEN_31.out.lt)
  clear HEV_35 HEW_36 HEN_31
  have HL_48 := Lib.hid (HL_37.out.keep hbt (by omega))
  have HR_49 := Lib.hid (HR_38.out.keep hbt (by omega))
  have HW_50 := Lib.hid (HW_39.out.keep hbt (by omega))
  have HN_51 := Lib.hid (HN_40.out.keep hbt (by omega))
  have HB_52 := Lib.hid (up HB_41.out hbt)
  have hz_7 := hbt.size
  clear HL_37 HR_38 HW_39 HN_40 HB_41
  clear hbt
  by_cases hT : T = 0
  case pos =>
    have hT0 : (T == 0) = true := by simpa using hT
    clear hT
    have a_53 := HEW_46.out.cell 0
    have a_54 := HEW_46.out.cell 1
    have a_55 := HEW_46.out.cell 2
    have a_56 := HEV_45.out.cell 0
    have a_57 := HEV_45.out.cell 1
    have a_58 := HEV_45.out.cell 2
    have a_59 := HEW_46.out.cell 0
    have a_60 := HEW_46.out.cell 1
    have a_61 := HEW_46.out.cell 2
    have a_62 := HEN_47.out.cell 0
    have a_63 := HEN_47.out.cell 1
    have a_64 := HEN_47.out.cell 2
    go_wp2_with (fail)
    try clear a_56 a_57 a_58 a_59 a_60 a_61 a_62 a_63 a_64
    (with_reducible refine (equalVoter_same T V 0 _ _ _ 0 _ _ _ _ _ _ HW_50.out (by omega) (by omega) HN_51.out (by omega)).mono ?_)
    rintro e w8 ⟨rfl, hbt⟩
    have HEV_65 := Lib.hid (HEV_45.out.below hbt HEV_45.out.lt)
    have HEW_66 := Lib.hid (HEW_46.out.below hbt HEW_46.out.lt)
    have HEN_67 := Lib.hid (HEN_47.out.below hbt HEN_47.out.lt)
    clear HEV_45 HEW_46 HEN_47
    have HL_68 := Lib.hid (HL_48.out.keep hbt (by omega))
    have HR_69 := Lib.hid (HR_49.out.keep hbt (by omega))
    have HW_70 := Lib.hid (HW_50.out.keep hbt (by omega))
    have HN_71 := Lib.hid (HN_51.out.keep hbt (by omega))
    have HB_72 := Lib.hid (up HB_52.out hbt)
    have hz_8 := hbt.size
    clear HL_48 HR_49 HW_50 HN_51 HB_52
    clear hbt
    go_wp2
    go_ret
    exact ⟨rfl, HB_72.out⟩
  have hT0 : (T == 0) = false := by simpa using hT
  by_cases hx2 : x < 2
  case pos =>
    have hd : decide (x < 2) = true := decide_eq_true hx2
    clear hT
    have a_73 := HEW_46.out.cell 0
    have a_74 := HEW_46.out.cell 1
    have a_75 := HEW_46.out.cell 2
    have a_76 := HEV_45.out.cell 0
    have a_77 := HEV_45.out.cell 1
    have a_78 := HEV_45.out.cell 2
    have a_79 := HEV_45.out.cell 0
    have a_80 := HEV_45.out.cell 1
    have a_81 := HEV_45.out.cell 2
    have a_82 := HEW_46.out.cell 0
    have a_83 := HEW_46.out.cell 1
    have a_84 := HEW_46.out.cell 2
    have a_85 := HEN_47.out.cell 0
    have a_86 := HEN_47.out.cell 1
    have a_87 := HEN_47.out.cell 2
    go_wp2_with (fail)
    try clear a_79 a_80 a_81 a_82 a_83 a_84 a_85 a_86 a_87
    (with_reducible refine (equalVoter_same T V 0 _ _ _ 0 _ _ _ _ _ _ HW_50.out (by omega) (by omega) HN_51.out (by omega)).mono ?_)
    rintro e w8 ⟨rfl, hbt⟩
    have HEV_88 := Lib.hid (HEV_45.out.below hbt HEV_45.out.lt)
    have HEW_89 := Lib.hid (HEW_46.out.below hbt HEW_46.out.lt)
    have HEN_90 := Lib.hid (HEN_47.out.below hbt HEN_47.out.lt)
    clear HEV_45 HEW_46 HEN_47
    have HL_91 := Lib.hid (HL_48.out.keep hbt (by omega))
    have HR_92 := Lib.hid (HR_49.out.keep hbt (by omega))
    have HW_93 := Lib.hid (HW_50.out.keep hbt (by omega))
    have HN_94 := Lib.hid (HN_51.out.keep hbt (by omega))
    have HB_95 := Lib.hid (up HB_52.out hbt)
    have hz_8 := hbt.size
    clear HL_48 HR_49 HW_50 HN_51 HB_52
    clear hbt
    go_wp2
    go_ret
    exact ⟨rfl, HB_95.out⟩
  have hd : decide (x < 2) = false := decide_eq_false hx2
  have HO := Lib.hid (ask_old HU.out hT (by omega))
  have hw1 : IntKind.i64.wrap (x - 1) = x - 1 := IntWalk.i64_in _ (by omega)
  clear hT
  have a_96 := HEW_46.out.cell 0
  have a_97 := HEW_46.out.cell 1
  have a_98 := HEW_46.out.cell 2
  have a_99 := HEV_45.out.cell 0
  have a_100 := HEV_45.out.cell 1
  have a_101 := HEV_45.out.cell 2
  go_wp2_with (fail)
  try clear a_96 a_97 a_98 a_99 a_100 a_101
  (with_reducible refine (askI_at HO.out HPL.out HL_48.out (by omega) (by omega) hc1 HR_49.out (by omega) (by omega) hc2').mono ?_)
  rintro e w8 ⟨A5, c5, rfl, hk5, hrd5, hbt⟩
  have HEV_102 := Lib.hid (HEV_45.out.below hbt HEV_45.out.lt)
  have HEW_103 := Lib.hid (HEW_46.out.below hbt HEW_46.out.lt)
  have HEN_104 := Lib.hid (HEN_47.out.below hbt HEN_47.out.lt)
  clear HEV_45 HEW_46 HEN_47
  have HL_105 := Lib.hid (HL_48.out.keep hbt (by omega))
  have HR_106 := Lib.hid (HR_49.out.keep hbt (by omega))
  have HW_107 := Lib.hid (HW_50.out.keep hbt (by omega))
  have HN_108 := Lib.hid (HN_51.out.keep hbt (by omega))
  have HB_109 := Lib.hid (up HB_52.out hbt)
  have hz_8 := hbt.size
  clear HL_48 HR_49 HW_50 HN_51 HB_52
  have HO_110 := Lib.hid (hrd5.wide (Nat.zero_le _) (Nat.le_refl _))
  clear hrd5
  clear hbt
  have HEO_111 := Lib.hid (Blk.new w8 25 #[.int .i64 x, .int .i64 y, .slice A5 m c5])
  have hbt := up_alloc (Below.refl _ w8) (.cells #[.int .i64 x, .int .i64 y, .slice A5 m c5] 25)
  have hs_9 : (w8.alloc (.cells #[.int .i64 x, .int .i64 y, .slice A5 m c5] 25)).heap.size = w8.heap.size + 1 := by simp
  have a_112 := HEV_102.out.cell 0
  have a_113 := HEV_102.out.cell 1
  have a_114 := HEV_102.out.cell 2
  have HEV_115 := Lib.hid (HEV_102.out.below hbt HEV_102.out.lt)
  have HEW_116 := Lib.hid (HEW_103.out.below hbt HEW_103.out.lt)
  have HEN_117 := Lib.hid (HEN_104.out.below hbt HEN_104.out.lt)
  clear HEV_102 HEW_103 HEN_104
  have HL_118 := Lib.hid (HL_105.out.keep hbt (by omega))
  have HR_119 := Lib.hid (HR_106.out.keep hbt (by omega))
  have HW_120 := Lib.hid (HW_107.out.keep hbt (by omega))
  have HN_121 := Lib.hid (HN_108.out.keep hbt (by omega))
  have HO_122 := Lib.hid (HO_110.out.keep hbt (by omega))
  have HB_123 := Lib.hid (up HB_109.out hbt)
  have hz_9 := hbt.size
  clear HL_105 HR_106 HW_107 HN_108 HO_110 HB_109
  clear hbt
  have a_124 := HEV_115.out.cell 0
  have a_125 := HEV_115.out.cell 1
  have a_126 := HEV_115.out.cell 2
  go_wp2_with (fail)
  try clear a_112 a_113 a_114 a_124 a_125 a_126
  generalize w8.alloc (.cells #[.int .i64 x, .int .i64 y, .slice A5 m c5] 25) = w9 at *
  (with_reducible refine (equalVoter_same x y 0 _ _ _ 0 _ _ _ _ _ _ HO_122.out (by omega) (by omega) HL_118.out (by omega)).mono ?_)
  rintro e w10 ⟨rfl, hbt⟩
  have HEV_127 := Lib.hid (HEV_115.out.below hbt HEV_115.out.lt)
  have HEW_128 := Lib.hid (HEW_116.out.below hbt HEW_116.out.lt)
  have HEN_129 := Lib.hid (HEN_117.out.below hbt HEN_117.out.lt)
  have HEO_130 := Lib.hid (HEO_111.out.below hbt HEO_111.out.lt)
  clear HEV_115 HEW_116 HEN_117 HEO_111
  have HL_131 := Lib.hid (HL_118.out.keep hbt (by omega))
  have HR_132 := Lib.hid (HR_119.out.keep hbt (by omega))
  have HW_133 := Lib.hid (HW_120.out.keep hbt (by omega))
  have HN_134 := Lib.hid (HN_121.out.keep hbt (by omega))
  have HO_135 := Lib.hid (HO_122.out.keep hbt (by omega))
  have HB_136 := Lib.hid (up HB_123.out hbt)
  have hz_10 := hbt.size
  clear HL_118 HR_119 HW_120 HN_121 HO_122 HB_123
  clear hbt
  go_wp2
  go_ret
  exact ⟨rfl, HB_136.out⟩
end Go.Proofs.Ytobjcifoaejonac
