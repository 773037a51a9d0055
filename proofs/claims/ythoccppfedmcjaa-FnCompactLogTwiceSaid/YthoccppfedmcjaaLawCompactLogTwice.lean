/- The law FnCompactLogTwice, walked: it returns true. (Written by a program over gen/lawlib.py.) -/
import Derived.Test.YthoccppfedmcjaaDrawSn
import Derived.Test.YthoccppfedmcjaaLawSnapM
import Derived.Test.YthoccppfedmcjaaSnapS
import Derived.BigQuiet
import Derived.Deep.RegionHeld3
import Derived.Test.YthoccppfedmcjaaDrawSn2
import Derived.Test.YthoccppfedmcjaaSnapK
import Derived.Test.YthoccppfedmcjaaSnapT
import Derived.Test.YthoccppfedmcjaaLawHalf
set_option linter.unusedSimpArgs false
set_option linter.unusedVariables false
namespace Go.Proofs.Ythoccppfedmcjaa
open Go.RowKit

set_option maxRecDepth 100000 in
set_option maxHeartbeats 6400000 in
theorem lawCompactLogTwice_any (n c : Nat) (A : Option Addr) (xs : List Int) (w : World) (hr : Rd w 0 w.heap.size 1 A n (bvs xs)) (hby : Bytes xs) (hc : n ≤ c) (hc2 : c ≤ 9223372036854775807) :
    Calls Try.prog 7 #[.slice A n c] w fun e w' => e = .returned (.bool true) ∧ Below w.heap.size w w' := by
  by_cases hbig : (1048576 : Int) < n
  · go_enter Try.func7, Try.ntmps7
    go_wp2
    go_ret
    exact ⟨rfl, Below.refl _ _⟩
  go_enter Try.func7, Try.ntmps7
  go_wp2_with (fail)
  (with_reducible refine (drawCompactLog_any n c A xs w hr hby (by omega) hc hc2).mono ?_)
  rintro e w1 ⟨N, T, S, A1, m, c1, ps, z, rfl, hN, hT, hS, hm, hc1, hcx, ⟨hz1, hz2⟩, hrd, hb1⟩
  clear hbig hr
  have HB_0 := Lib.hid hb1
  have hz_1 := hb1.size
  clear hb1
  have HPL := Lib.hid hrd.len2
  have hz64 : in64 z := in64_sn (by omega) (by omega)
  have HL_1 := Lib.hid (hrd.wide (Nat.zero_le _) (Nat.le_refl _))
  clear hrd
  have HEV_2 := Lib.hid (Blk.new w1 25 #[.int .i64 N, .int .i64 T, .int .i64 S, .slice A1 m c1])
  have hbt := up_alloc (Below.refl _ w1) (.cells #[.int .i64 N, .int .i64 T, .int .i64 S, .slice A1 m c1] 25)
  have hs_2 : (w1.alloc (.cells #[.int .i64 N, .int .i64 T, .int .i64 S, .slice A1 m c1] 25)).heap.size = w1.heap.size + 1 := by simp
  have HL_3 := Lib.hid (HL_1.out.keep hbt (by omega))
  have HB_4 := Lib.hid (up HB_0.out hbt)
  have hz_2 := hbt.size
  clear HL_1 HB_0
  clear hbt
  go_wp2_with (fail)
  generalize w1.alloc (.cells #[.int .i64 N, .int .i64 T, .int .i64 S, .slice A1 m c1] 25) = w2 at *
  have hgV := HEV_2.out.lt
  obtain ⟨⟨⟨N2, T2, S2, R2⟩, b⟩, hU⟩ : ∃ u, compOf N T S ps z = u := ⟨_, rfl⟩
  obtain ⟨k2, hk2⟩ : ∃ k, R2.length = k := ⟨_, rfl⟩
  have hk2b : k2 ≤ 17 := by
    have h1 := compOf_len N T S ps z
    have h2 := HPL.out
    rw [hU] at h1
    dsimp only at h1
    omega
  have HU := Lib.hid hU
  have HK2 := Lib.hid hk2
  have hne : (b != b) = false := by simp
  have heq : (b == b) = true := by simp
  clear hU hk2
  (with_reducible refine ((CompactLogI_any N T S 0 _ m c1 A1 ps z _ HL_3.out (by omega) (by omega) (by omega) hz64).mono fun _ _ h => SnPost.p HU.out HK2.out h).mono ?_)
  rintro e w3 ⟨A3, c3, rfl, hk3, hrd3, hbt⟩
  have HEV_5 := Lib.hid (HEV_2.out.below hbt HEV_2.out.lt)
  clear HEV_2
  have HL_6 := Lib.hid (HL_3.out.keep hbt (by omega))
  have HB_7 := Lib.hid (up HB_4.out hbt)
  have hz_3 := hbt.size
  clear HL_3 HB_4
  have HW_8 := Lib.hid (hrd3.wide (Nat.zero_le _) (Nat.le_refl _))
  clear hrd3
  clear hbt
  have HEW_9 := Lib.hid (Blk.new w3 25 #[.int .i64 N2, .int .i64 T2, .int .i64 S2, .slice A3 k2 c3])
  have hbt := up_alloc (Below.refl _ w3) (.cells #[.int .i64 N2, .int .i64 T2, .int .i64 S2, .slice A3 k2 c3] 25)
  have hs_4 : (w3.alloc (.cells #[.int .i64 N2, .int .i64 T2, .int .i64 S2, .slice A3 k2 c3] 25)).heap.size = w3.heap.size + 1 := by simp
  have a_10 := HEV_5.out.cell 0
  have a_11 := HEV_5.out.cell 1
  have a_12 := HEV_5.out.cell 2
  have a_13 := HEV_5.out.cell 3
  have HEV_14 := Lib.hid (HEV_5.out.below hbt HEV_5.out.lt)
  clear HEV_5
  have HL_15 := Lib.hid (HL_6.out.keep hbt (by omega))
  have HW_16 := Lib.hid (HW_8.out.keep hbt (by omega))
  have HB_17 := Lib.hid (up HB_7.out hbt)
  have hz_4 := hbt.size
  clear HL_6 HW_8 HB_7
  clear hbt
  have a_18 := HEV_14.out.cell 0
  have a_19 := HEV_14.out.cell 1
  have a_20 := HEV_14.out.cell 2
  have a_21 := HEV_14.out.cell 3
  go_wp2_with (fail)
  try clear a_10 a_11 a_12 a_13 a_18 a_19 a_20 a_21
  generalize w3.alloc (.cells #[.int .i64 N2, .int .i64 T2, .int .i64 S2, .slice A3 k2 c3] 25) = w4 at *
  have hgW := HEW_9.out.lt
  (with_reducible refine ((CompactLogS_any N T S 0 _ m c1 A1 ps z _ HL_15.out (by omega) (by omega) (by omega) hz64).mono fun _ _ h => SnPost.p HU.out HK2.out h).mono ?_)
  rintro e w5 ⟨A4, c4, rfl, hk4, hrd4, hbt⟩
  have HEV_22 := Lib.hid (HEV_14.out.below hbt HEV_14.out.lt)
  have HEW_23 := Lib.hid (HEW_9.out.below hbt HEW_9.out.lt)
  clear HEV_14 HEW_9
  have HL_24 := Lib.hid (HL_15.out.keep hbt (by omega))
  have HW_25 := Lib.hid (HW_16.out.keep hbt (by omega))
  have HB_26 := Lib.hid (up HB_17.out hbt)
  have hz_5 := hbt.size
  clear HL_15 HW_16 HB_17
  have HM_27 := Lib.hid (hrd4.wide (Nat.zero_le _) (Nat.le_refl _))
  clear hrd4
  clear hbt
  have HEM_28 := Lib.hid (Blk.new w5 25 #[.int .i64 N2, .int .i64 T2, .int .i64 S2, .slice A4 k2 c4])
  have hbt := up_alloc (Below.refl _ w5) (.cells #[.int .i64 N2, .int .i64 T2, .int .i64 S2, .slice A4 k2 c4] 25)
  have hs_6 : (w5.alloc (.cells #[.int .i64 N2, .int .i64 T2, .int .i64 S2, .slice A4 k2 c4] 25)).heap.size = w5.heap.size + 1 := by simp
  have a_29 := HEW_23.out.cell 0
  have a_30 := HEW_23.out.cell 1
  have a_31 := HEW_23.out.cell 2
  have a_32 := HEW_23.out.cell 3
  have HEV_33 := Lib.hid (HEV_22.out.below hbt HEV_22.out.lt)
  have HEW_34 := Lib.hid (HEW_23.out.below hbt HEW_23.out.lt)
  clear HEV_22 HEW_23
  have HL_35 := Lib.hid (HL_24.out.keep hbt (by omega))
  have HW_36 := Lib.hid (HW_25.out.keep hbt (by omega))
  have HM_37 := Lib.hid (HM_27.out.keep hbt (by omega))
  have HB_38 := Lib.hid (up HB_26.out hbt)
  have hz_6 := hbt.size
  clear HL_24 HW_25 HM_27 HB_26
  clear hbt
  have a_39 := HEW_34.out.cell 0
  have a_40 := HEW_34.out.cell 1
  have a_41 := HEW_34.out.cell 2
  have a_42 := HEW_34.out.cell 3
  go_wp2_with (fail)
  try clear a_29 a_30 a_31 a_32 a_39 a_40 a_41 a_42
  generalize w5.alloc (.cells #[.int .i64 N2, .int .i64 T2, .int .i64 S2, .slice A4 k2 c4] 25) = w6 at *
  have hgM := HEM_28.out.lt
  (with_reducible refine (equalSnap_same N2 T2 S2 0 _ _ _ 0 _ _ _ _ _ _ HW_36.out (by omega) (by omega) HM_37.out (by omega)).mono ?_)
  rintro e w7 ⟨rfl, hbt⟩
  have HEV_43 := Lib.hid (HEV_33.out.below hbt HEV_33.out.lt)
  have HEW_44 := Lib.hid (HEW_34.out.below hbt HEW_34.out.lt)
  have HEM_45 := Lib.hid (HEM_28.out.below hbt HEM_28.out.lt)
  clear HEV_33 HEW_34 HEM_28
  have HL_46 := Lib.hid (HL_35.out.keep hbt (by omega))
  have HW_47 := Lib.hid (HW_36.out.keep hbt (by omega))
  have HM_48 := Lib.hid (HM_37.out.keep hbt (by omega))
  have HB_49 := Lib.hid (up HB_38.out hbt)
  have hz_7 := hbt.size
  clear HL_35 HW_36 HM_37 HB_38
  clear hbt
  cases b with
  | false =>
    have a_50 := HEW_44.out.cell 0
    have a_51 := HEW_44.out.cell 1
    have a_52 := HEW_44.out.cell 2
    have a_53 := HEW_44.out.cell 3
    have a_54 := HEM_45.out.cell 0
    have a_55 := HEM_45.out.cell 1
    have a_56 := HEM_45.out.cell 2
    have a_57 := HEM_45.out.cell 3
    go_wp2_with (fail)
    try clear a_50 a_51 a_52 a_53 a_54 a_55 a_56 a_57
    (with_reducible refine (equalSnap_same N2 T2 S2 0 _ _ _ 0 _ _ _ _ _ _ HW_47.out (by omega) (by omega) HM_48.out (by omega)).mono ?_)
    rintro e w8 ⟨rfl, hbt⟩
    have HEV_58 := Lib.hid (HEV_43.out.below hbt HEV_43.out.lt)
    have HEW_59 := Lib.hid (HEW_44.out.below hbt HEW_44.out.lt)
    have HEM_60 := Lib.hid (HEM_45.out.below hbt HEM_45.out.lt)
    clear HEV_43 HEW_44 HEM_45
    have HL_61 := Lib.hid (HL_46.out.keep hbt (by omega))
    have HW_62 := Lib.hid (HW_47.out.keep hbt (by omega))
    have HM_63 := Lib.hid (HM_48.out.keep hbt (by omega))
    have HB_64 := Lib.hid (up HB_49.out hbt)
    have hz_8 := hbt.size
    clear HL_46 HW_47 HM_48 HB_49
    clear hbt
    go_wp2
    go_ret
    exact ⟨rfl, HB_64.out⟩
  | true =>
    have hex : ∃ kk : Nat, z = (kk : Int) ∧ kk ≤ ps.length := by
      obtain ⟨kk, h1, h2, _⟩ := comp_ok HU.out
      exact ⟨kk, h1, h2⟩
    obtain ⟨kk, hzk, hkl⟩ := hex
    rw [HPL.out] at hkl
    subst hzk
    have HT2 := Lib.hid (comp_twice HU.out (show kk / 2 ≤ kk by omega))
    obtain ⟨N1, T1, S1, R1, hU1, hU2⟩ := HT2.out
    obtain ⟨k1, hk1⟩ : ∃ k, R1.length = k := ⟨_, rfl⟩
    have hk1b : k1 ≤ 17 := by
      have h1 := compOf_len N T S ps ((kk / 2 : Nat) : Int)
      have h2 := HPL.out
      rw [hU1] at h1
      dsimp only at h1
      omega
    have HU1 := Lib.hid hU1
    have HU2 := Lib.hid hU2
    have HK1 := Lib.hid hk1
    clear hU1 hU2 hk1 HT2
    obtain ⟨za, zb, hza, hzb, hq1, hq3, hq2, hq4, i1, i2⟩ := half_facts kk (by omega)
    rw [← hza] at HU1
    rw [← hzb] at HU2
    clear hza hzb
    have a_65 := HEV_43.out.cell 0
    have a_66 := HEV_43.out.cell 1
    have a_67 := HEV_43.out.cell 2
    have a_68 := HEV_43.out.cell 3
    go_wp2_with (fail)
    try clear a_65 a_66 a_67 a_68
    (with_reducible refine ((CompactLogI_any N T S 0 _ m c1 A1 ps za _ HL_46.out (by omega) (by omega) (by omega) i1).mono fun _ _ h => SnPost.p HU1.out HK1.out h).mono ?_)
    rintro e w8 ⟨A5, c5, rfl, hk5, hrd5, hbt⟩
    have HEV_69 := Lib.hid (HEV_43.out.below hbt HEV_43.out.lt)
    have HEW_70 := Lib.hid (HEW_44.out.below hbt HEW_44.out.lt)
    have HEM_71 := Lib.hid (HEM_45.out.below hbt HEM_45.out.lt)
    clear HEV_43 HEW_44 HEM_45
    have HL_72 := Lib.hid (HL_46.out.keep hbt (by omega))
    have HW_73 := Lib.hid (HW_47.out.keep hbt (by omega))
    have HM_74 := Lib.hid (HM_48.out.keep hbt (by omega))
    have HB_75 := Lib.hid (up HB_49.out hbt)
    have hz_8 := hbt.size
    clear HL_46 HW_47 HM_48 HB_49
    have HP_76 := Lib.hid (hrd5.wide (Nat.zero_le _) (Nat.le_refl _))
    clear hrd5
    clear hbt
    have HEP_77 := Lib.hid (Blk.new w8 25 #[.int .i64 N1, .int .i64 T1, .int .i64 S1, .slice A5 k1 c5])
    have hbt := up_alloc (Below.refl _ w8) (.cells #[.int .i64 N1, .int .i64 T1, .int .i64 S1, .slice A5 k1 c5] 25)
    have hs_9 : (w8.alloc (.cells #[.int .i64 N1, .int .i64 T1, .int .i64 S1, .slice A5 k1 c5] 25)).heap.size = w8.heap.size + 1 := by simp
    have HEV_78 := Lib.hid (HEV_69.out.below hbt HEV_69.out.lt)
    have HEW_79 := Lib.hid (HEW_70.out.below hbt HEW_70.out.lt)
    have HEM_80 := Lib.hid (HEM_71.out.below hbt HEM_71.out.lt)
    clear HEV_69 HEW_70 HEM_71
    have HL_81 := Lib.hid (HL_72.out.keep hbt (by omega))
    have HW_82 := Lib.hid (HW_73.out.keep hbt (by omega))
    have HM_83 := Lib.hid (HM_74.out.keep hbt (by omega))
    have HP_84 := Lib.hid (HP_76.out.keep hbt (by omega))
    have HB_85 := Lib.hid (up HB_75.out hbt)
    have hz_9 := hbt.size
    clear HL_72 HW_73 HM_74 HP_76 HB_75
    clear hbt
    go_wp2_with (fail)
    generalize w8.alloc (.cells #[.int .i64 N1, .int .i64 T1, .int .i64 S1, .slice A5 k1 c5] 25) = w9 at *
    have hgP := HEP_77.out.lt
    (with_reducible refine ((CompactLogI_any N1 T1 S1 0 _ k1 c5 A5 R1 zb _ HP_84.out (by omega) (by omega) (by omega) i2).mono fun _ _ h => SnPost.p HU2.out HK2.out h).mono ?_)
    rintro e w10 ⟨A6, c6, rfl, hk6, hrd6, hbt⟩
    have HEV_86 := Lib.hid (HEV_78.out.below hbt HEV_78.out.lt)
    have HEW_87 := Lib.hid (HEW_79.out.below hbt HEW_79.out.lt)
    have HEM_88 := Lib.hid (HEM_80.out.below hbt HEM_80.out.lt)
    have HEP_89 := Lib.hid (HEP_77.out.below hbt HEP_77.out.lt)
    clear HEV_78 HEW_79 HEM_80 HEP_77
    have HL_90 := Lib.hid (HL_81.out.keep hbt (by omega))
    have HW_91 := Lib.hid (HW_82.out.keep hbt (by omega))
    have HM_92 := Lib.hid (HM_83.out.keep hbt (by omega))
    have HP_93 := Lib.hid (HP_84.out.keep hbt (by omega))
    have HB_94 := Lib.hid (up HB_85.out hbt)
    have hz_10 := hbt.size
    clear HL_81 HW_82 HM_83 HP_84 HB_85
    have HQ_95 := Lib.hid (hrd6.wide (Nat.zero_le _) (Nat.le_refl _))
    clear hrd6
    clear hbt
    have HEQ_96 := Lib.hid (Blk.new w10 25 #[.int .i64 N2, .int .i64 T2, .int .i64 S2, .slice A6 k2 c6])
    have hbt := up_alloc (Below.refl _ w10) (.cells #[.int .i64 N2, .int .i64 T2, .int .i64 S2, .slice A6 k2 c6] 25)
    have hs_11 : (w10.alloc (.cells #[.int .i64 N2, .int .i64 T2, .int .i64 S2, .slice A6 k2 c6] 25)).heap.size = w10.heap.size + 1 := by simp
    have a_97 := HEW_87.out.cell 0
    have a_98 := HEW_87.out.cell 1
    have a_99 := HEW_87.out.cell 2
    have a_100 := HEW_87.out.cell 3
    have HEV_101 := Lib.hid (HEV_86.out.below hbt HEV_86.out.lt)
    have HEW_102 := Lib.hid (HEW_87.out.below hbt HEW_87.out.lt)
    have HEM_103 := Lib.hid (HEM_88.out.below hbt HEM_88.out.lt)
    have HEP_104 := Lib.hid (HEP_89.out.below hbt HEP_89.out.lt)
    clear HEV_86 HEW_87 HEM_88 HEP_89
    have HL_105 := Lib.hid (HL_90.out.keep hbt (by omega))
    have HW_106 := Lib.hid (HW_91.out.keep hbt (by omega))
    have HM_107 := Lib.hid (HM_92.out.keep hbt (by omega))
    have HP_108 := Lib.hid (HP_93.out.keep hbt (by omega))
    have HQ_109 := Lib.hid (HQ_95.out.keep hbt (by omega))
    have HB_110 := Lib.hid (up HB_94.out hbt)
    have hz_11 := hbt.size
    clear HL_90 HW_91 HM_92 HP_93 HQ_95 HB_94
    clear hbt
    have a_111 := HEW_102.out.cell 0
    have a_112 := HEW_102.out.cell 1
    have a_113 := HEW_102.out.cell 2
    have a_114 := HEW_102.out.cell 3
    go_wp2_with (fail)
    try clear a_97 a_98 a_99 a_100 a_111 a_112 a_113 a_114
    generalize w10.alloc (.cells #[.int .i64 N2, .int .i64 T2, .int .i64 S2, .slice A6 k2 c6] 25) = w11 at *
    have hgQ := HEQ_96.out.lt
    (with_reducible refine (equalSnap_same N2 T2 S2 0 _ _ _ 0 _ _ _ _ _ _ HQ_109.out (by omega) (by omega) HW_106.out (by omega)).mono ?_)
    rintro e w12 ⟨rfl, hbt⟩
    have HEV_115 := Lib.hid (HEV_101.out.below hbt HEV_101.out.lt)
    have HEW_116 := Lib.hid (HEW_102.out.below hbt HEW_102.out.lt)
    have HEM_117 := Lib.hid (HEM_103.out.below hbt HEM_103.out.lt)
    have HEP_118 := Lib.hid (HEP_104.out.below hbt HEP_104.out.lt)
    have HEQ_119 := Lib.hid (HEQ_96.out.below hbt HEQ_96.out.lt)
    clear HEV_101 HEW_102 HEM_103 HEP_104 HEQ_96
    have HL_120 := Lib.hid (HL_105.out.keep hbt (by omega))
    have HW_121 := Lib.hid (HW_106.out.keep hbt (by omega))
    have HM_122 := Lib.hid (HM_107.out.keep hbt (by omega))
    have HP_123 := Lib.hid (HP_108.out.keep hbt (by omega))
    have HQ_124 := Lib.hid (HQ_109.out.keep hbt (by omega))
    have HB_125 := Lib.hid (up HB_110.out hbt)
    have hz_12 := hbt.size
    clear HL_105 HW_106 HM_107 HP_108 HQ_109 HB_110
    clear hbt
    go_wp2
    go_ret
    exact ⟨rfl, HB_125.out⟩
end Go.Proofs.Ythoccppfedmcjaa
