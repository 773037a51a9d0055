/- The law FnCompactLogAll, walked: it returns true. (Written by a program over gen/lawlib.py.) -/
import Derived.Test.YthoccppfedmcjaaDrawSn
import Derived.Test.YthoccppfedmcjaaLawSnapM
import Derived.Test.YthoccppfedmcjaaSnapS
import Derived.BigQuiet
import Derived.Deep.RegionHeld3
import Derived.Test.YthoccppfedmcjaaDrawSn2
import Derived.Test.YthoccppfedmcjaaSnapK
import Derived.Test.YthoccppfedmcjaaSnapT
import Derived.Test.YthoccppfedmcjaaLawAllM
set_option linter.unusedSimpArgs false
set_option linter.unusedVariables false
namespace Go.Proofs.Ythoccppfedmcjaa
open Go.RowKit

set_option maxRecDepth 100000 in
set_option maxHeartbeats 6400000 in
theorem lawCompactLogAll_any (n c : Nat) (A : Option Addr) (xs : List Int) (w : World) (hr : Rd w 0 w.heap.size 1 A n (bvs xs)) (hby : Bytes xs) (hc : n ≤ c) (hc2 : c ≤ 9223372036854775807) :
    Calls Try.prog 8 #[.slice A n c] w fun e w' => e = .returned (.bool true) ∧ Below w.heap.size w w' := by
  by_cases hbig : (1048576 : Int) < n
  · go_enter Try.func8, Try.ntmps8
    go_wp2
    go_ret
    exact ⟨rfl, Below.refl _ _⟩
  go_enter Try.func8, Try.ntmps8
  go_wp2_with (fail)
  (with_reducible refine (drawCompactLog_any n c A xs w hr hby (by omega) hc hc2).mono ?_)
  rintro e w1 ⟨N, T, S, A1, m, c1, ps, z, rfl, hN, hT, hS, hm, hc1, hcx, ⟨hz1, hz2⟩, hrd, hb1⟩
  clear hbig hr
  have HB_0 := Lib.hid hb1
  have hz_1 := hb1.size
  clear hb1
  have HPL := Lib.hid hrd.len2
  have hz64 : in64 z := in64_sn (by omega) (by omega)
  have HL_1 := Lib.hid (hrd.wide (Nat.zero_le _) (Nat.le_refl _))
  clear hrd
  have HEV_2 := Lib.hid (Blk.new w1 25 #[.int .i64 N, .int .i64 T, .int .i64 S, .slice A1 m c1])
  have hbt := up_alloc (Below.refl _ w1) (.cells #[.int .i64 N, .int .i64 T, .int .i64 S, .slice A1 m c1] 25)
  have hs_2 : (w1.alloc (.cells #[.int .i64 N, .int .i64 T, .int .i64 S, .slice A1 m c1] 25)).heap.size = w1.heap.size + 1 := by simp
  have HL_3 := Lib.hid (HL_1.out.keep hbt (by omega))
  have HB_4 := Lib.hid (up HB_0.out hbt)
  have hz_2 := hbt.size
  clear HL_1 HB_0
  clear hbt
  go_wp2_with (fail)
  generalize w1.alloc (.cells #[.int .i64 N, .int .i64 T, .int .i64 S, .slice A1 m c1] 25) = w2 at *
  have hgV := HEV_2.out.lt
  obtain ⟨⟨⟨N2, T2, S2, R2⟩, b⟩, hU⟩ : ∃ u, compOf N T S ps z = u := ⟨_, rfl⟩
  obtain ⟨k2, hk2⟩ : ∃ k, R2.length = k := ⟨_, rfl⟩
  have hk2b : k2 ≤ 17 := by
    have h1 := compOf_len N T S ps z
    have h2 := HPL.out
    rw [hU] at h1
    dsimp only at h1
    omega
  have HU := Lib.hid hU
  have HK2 := Lib.hid hk2
  have hne : (b != b) = false := by simp
  have heq : (b == b) = true := by simp
  clear hU hk2
  (with_reducible refine ((CompactLogI_any N T S 0 _ m c1 A1 ps z _ HL_3.out (by omega) (by omega) (by omega) hz64).mono fun _ _ h => SnPost.p HU.out HK2.out h).mono ?_)
  rintro e w3 ⟨A3, c3, rfl, hk3, hrd3, hbt⟩
  have HEV_5 := Lib.hid (HEV_2.out.below hbt HEV_2.out.lt)
  clear HEV_2
  have HL_6 := Lib.hid (HL_3.out.keep hbt (by omega))
  have HB_7 := Lib.hid (up HB_4.out hbt)
  have hz_3 := hbt.size
  clear HL_3 HB_4
  have HW_8 := Lib.hid (hrd3.wide (Nat.zero_le _) (Nat.le_refl _))
  clear hrd3
  clear hbt
  have HEW_9 := Lib.hid (Blk.new w3 25 #[.int .i64 N2, .int .i64 T2, .int .i64 S2, .slice A3 k2 c3])
  have hbt := up_alloc (Below.refl _ w3) (.cells #[.int .i64 N2, .int .i64 T2, .int .i64 S2, .slice A3 k2 c3] 25)
  have hs_4 : (w3.alloc (.cells #[.int .i64 N2, .int .i64 T2, .int .i64 S2, .slice A3 k2 c3] 25)).heap.size = w3.heap.size + 1 := by simp
  have a_10 := HEV_5.out.cell 0
  have a_11 := HEV_5.out.cell 1
  have a_12 := HEV_5.out.cell 2
  have a_13 := HEV_5.out.cell 3
  have HEV_14 := Lib.hid (HEV_5.out.below hbt HEV_5.out.lt)
  clear HEV_5
  have HL_15 := Lib.hid (HL_6.out.keep hbt (by omega))
  have HW_16 := Lib.hid (HW_8.out.keep hbt (by omega))
  have HB_17 := Lib.hid (up HB_7.out hbt)
  have hz_4 := hbt.size
  clear HL_6 HW_8 HB_7
  clear hbt
  have a_18 := HEV_14.out.cell 0
  have a_19 := HEV_14.out.cell 1
  have a_20 := HEV_14.out.cell 2
  have a_21 := HEV_14.out.cell 3
  go_wp2_with (fail)
  try clear a_10 a_11 a_12 a_13 a_18 a_19 a_20 a_21
  generalize w3.alloc (.cells #[.int .i64 N2, .int .i64 T2, .int .i64 S2, .slice A3 k2 c3] 25) = w4 at *
  have hgW := HEW_9.out.lt
  (with_reducible refine ((CompactLogS_any N T S 0 _ m c1 A1 ps z _ HL_15.out (by omega) (by omega) (by omega) hz64).mono fun _ _ h => SnPost.p HU.out HK2.out h).mono ?_)
  rintro e w5 ⟨A4, c4, rfl, hk4, hrd4, hbt⟩
  have HEV_22 := Lib.hid (HEV_14.out.below hbt HEV_14.out.lt)
  have HEW_23 := Lib.hid (HEW_9.out.below hbt HEW_9.out.lt)
  clear HEV_14 HEW_9
  have HL_24 := Lib.hid (HL_15.out.keep hbt (by omega))
  have HW_25 := Lib.hid (HW_16.out.keep hbt (by omega))
  have HB_26 := Lib.hid (up HB_17.out hbt)
  have hz_5 := hbt.size
  clear HL_15 HW_16 HB_17
  have HM_27 := Lib.hid (hrd4.wide (Nat.zero_le _) (Nat.le_refl _))
  clear hrd4
  clear hbt
  have HEM_28 := Lib.hid (Blk.new w5 25 #[.int .i64 N2, .int .i64 T2, .int .i64 S2, .slice A4 k2 c4])
  have hbt := up_alloc (Below.refl _ w5) (.cells #[.int .i64 N2, .int .i64 T2, .int .i64 S2, .slice A4 k2 c4] 25)
  have hs_6 : (w5.alloc (.cells #[.int .i64 N2, .int .i64 T2, .int .i64 S2, .slice A4 k2 c4] 25)).heap.size = w5.heap.size + 1 := by simp
  have a_29 := HEW_23.out.cell 0
  have a_30 := HEW_23.out.cell 1
  have a_31 := HEW_23.out.cell 2
  have a_32 := HEW_23.out.cell 3
  have HEV_33 := Lib.hid (HEV_22.out.below hbt HEV_22.out.lt)
  have HEW_34 := Lib.hid (HEW_23.out.below hbt HEW_23.out.lt)
  clear HEV_22 HEW_23
  have HL_35 := Lib.hid (HL_24.out.keep hbt (by omega))
  have HW_36 := Lib.hid (HW_25.out.keep hbt (by omega))
  have HM_37 := Lib.hid (HM_27.out.keep hbt (by omega))
  have HB_38 := Lib.hid (up HB_26.out hbt)
  have hz_6 := hbt.size
  clear HL_24 HW_25 HM_27 HB_26
  clear hbt
  have a_39 := HEW_34.out.cell 0
  have a_40 := HEW_34.out.cell 1
  have a_41 := HEW_34.out.cell 2
  have a_42 := HEW_34.out.cell 3
  go_wp2_with (fail)
  try clear a_29 a_30 a_31 a_32 a_39 a_40 a_41 a_42
  generalize w5.alloc (.cells #[.int .i64 N2, .int .i64 T2, .int .i64 S2, .slice A4 k2 c4] 25) = w6 at *
  have hgM := HEM_28.out.lt
  (with_reducible refine (equalSnap_same N2 T2 S2 0 _ _ _ 0 _ _ _ _ _ _ HW_36.out (by omega) (by omega) HM_37.out (by omega)).mono ?_)
  rintro e w7 ⟨rfl, hbt⟩
  have HEV_43 := Lib.hid (HEV_33.out.below hbt HEV_33.out.lt)
  have HEW_44 := Lib.hid (HEW_34.out.below hbt HEW_34.out.lt)
  have HEM_45 := Lib.hid (HEM_28.out.below hbt HEM_28.out.lt)
  clear HEV_33 HEW_34 HEM_28
  have HL_46 := Lib.hid (HL_35.out.keep hbt (by omega))
  have HW_47 := Lib.hid (HW_36.out.keep hbt (by omega))
  have HM_48 := Lib.hid (HM_37.out.keep hbt (by omega))
  have HB_49 := Lib.hid (up HB_38.out hbt)
  have hz_7 := hbt.size
  clear HL_35 HW_36 HM_37 HB_38
  clear hbt
  cases b with
  | false =>
    have a_50 := HEW_44.out.cell 0
    have a_51 := HEW_44.out.cell 1
    have a_52 := HEW_44.out.cell 2
    have a_53 := HEW_44.out.cell 3
    have a_54 := HEM_45.out.cell 0
    have a_55 := HEM_45.out.cell 1
    have a_56 := HEM_45.out.cell 2
    have a_57 := HEM_45.out.cell 3
    go_wp2_with (fail)
    try clear a_50 a_51 a_52 a_53 a_54 a_55 a_56 a_57
    (with_reducible refine (equalSnap_same N2 T2 S2 0 _ _ _ 0 _ _ _ _ _ _ HW_47.out (by omega) (by omega) HM_48.out (by omega)).mono ?_)
    rintro e w8 ⟨rfl, hbt⟩
    have HEV_58 := Lib.hid (HEV_43.out.below hbt HEV_43.out.lt)
    have HEW_59 := Lib.hid (HEW_44.out.below hbt HEW_44.out.lt)
    have HEM_60 := Lib.hid (HEM_45.out.below hbt HEM_45.out.lt)
    clear HEV_43 HEW_44 HEM_45
    have HL_61 := Lib.hid (HL_46.out.keep hbt (by omega))
    have HW_62 := Lib.hid (HW_47.out.keep hbt (by omega))
    have HM_63 := Lib.hid (HM_48.out.keep hbt (by omega))
    have HB_64 := Lib.hid (up HB_49.out hbt)
    have hz_8 := hbt.size
    clear HL_46 HW_47 HM_48 HB_49
    clear hbt
    go_wp2
    go_ret
    exact ⟨rfl, HB_64.out⟩
  | true =>
    have HZ := Lib.hid (comp_zero HU.out)
    obtain ⟨⟨⟨Na, Ta, Sa, Ra⟩, f⟩, hUa⟩ : ∃ u, compOf N T S ps (m : Int) = u := ⟨_, rfl⟩
    have im : in64 (m : Int) := in64_sn (by omega) (by omega)
    have i0 : in64 (0 : Int) := in64_sn (by omega) (by omega)
    obtain ⟨ka, hka⟩ : ∃ k, Ra.length = k := ⟨_, rfl⟩
    have hkab : ka ≤ 17 := by
      have h1 := compOf_len N T S ps (m : Int)
      have h2 := HPL.out
      rw [hUa] at h1
      dsimp only at h1
      omega
    have HUA := Lib.hid hUa
    have HKA := Lib.hid hka
    clear hUa hka
    cases f with
    | false =>
      have a_65 := HEV_43.out.cell 0
      have a_66 := HEV_43.out.cell 1
      have a_67 := HEV_43.out.cell 2
      have a_68 := HEV_43.out.cell 3
      go_wp2_with (fail)
      try clear a_65 a_66 a_67 a_68
      (with_reducible refine ((CompactLogI_any N T S 0 _ m c1 A1 ps (m : Int) _ HL_46.out (by omega) (by omega) (by omega) im).mono fun _ _ h => SnPost.p HUA.out HKA.out h).mono ?_)
      rintro e w8 ⟨A5, c5, rfl, hk5, hrd5, hbt⟩
      have HEV_69 := Lib.hid (HEV_43.out.below hbt HEV_43.out.lt)
      have HEW_70 := Lib.hid (HEW_44.out.below hbt HEW_44.out.lt)
      have HEM_71 := Lib.hid (HEM_45.out.below hbt HEM_45.out.lt)
      clear HEV_43 HEW_44 HEM_45
      have HL_72 := Lib.hid (HL_46.out.keep hbt (by omega))
      have HW_73 := Lib.hid (HW_47.out.keep hbt (by omega))
      have HM_74 := Lib.hid (HM_48.out.keep hbt (by omega))
      have HB_75 := Lib.hid (up HB_49.out hbt)
      have hz_8 := hbt.size
      clear HL_46 HW_47 HM_48 HB_49
      have HF_76 := Lib.hid (hrd5.wide (Nat.zero_le _) (Nat.le_refl _))
      clear hrd5
      clear hbt
      have HEF_77 := Lib.hid (Blk.new w8 25 #[.int .i64 Na, .int .i64 Ta, .int .i64 Sa, .slice A5 ka c5])
      have hbt := up_alloc (Below.refl _ w8) (.cells #[.int .i64 Na, .int .i64 Ta, .int .i64 Sa, .slice A5 ka c5] 25)
      have hs_9 : (w8.alloc (.cells #[.int .i64 Na, .int .i64 Ta, .int .i64 Sa, .slice A5 ka c5] 25)).heap.size = w8.heap.size + 1 := by simp
      have a_78 := HEV_69.out.cell 0
      have a_79 := HEV_69.out.cell 1
      have a_80 := HEV_69.out.cell 2
      have a_81 := HEV_69.out.cell 3
      have HEV_82 := Lib.hid (HEV_69.out.below hbt HEV_69.out.lt)
      have HEW_83 := Lib.hid (HEW_70.out.below hbt HEW_70.out.lt)
      have HEM_84 := Lib.hid (HEM_71.out.below hbt HEM_71.out.lt)
      clear HEV_69 HEW_70 HEM_71
      have HL_85 := Lib.hid (HL_72.out.keep hbt (by omega))
      have HW_86 := Lib.hid (HW_73.out.keep hbt (by omega))
      have HM_87 := Lib.hid (HM_74.out.keep hbt (by omega))
      have HF_88 := Lib.hid (HF_76.out.keep hbt (by omega))
      have HB_89 := Lib.hid (up HB_75.out hbt)
      have hz_9 := hbt.size
      clear HL_72 HW_73 HM_74 HF_76 HB_75
      clear hbt
      have a_90 := HEV_82.out.cell 0
      have a_91 := HEV_82.out.cell 1
      have a_92 := HEV_82.out.cell 2
      have a_93 := HEV_82.out.cell 3
      go_wp2_with (fail)
      try clear a_78 a_79 a_80 a_81 a_90 a_91 a_92 a_93
      generalize w8.alloc (.cells #[.int .i64 Na, .int .i64 Ta, .int .i64 Sa, .slice A5 ka c5] 25) = w9 at *
      have hgF := HEF_77.out.lt
      (with_reducible refine ((CompactLogI_any N T S 0 _ m c1 A1 ps 0 _ HL_85.out (by omega) (by omega) (by omega) i0).mono fun _ _ h => SnPost.p HZ.out HPL.out h).mono ?_)
      rintro e w10 ⟨A6, c6, rfl, hk6, hrd6, hbt⟩
      have HEV_94 := Lib.hid (HEV_82.out.below hbt HEV_82.out.lt)
      have HEW_95 := Lib.hid (HEW_83.out.below hbt HEW_83.out.lt)
      have HEM_96 := Lib.hid (HEM_84.out.below hbt HEM_84.out.lt)
      have HEF_97 := Lib.hid (HEF_77.out.below hbt HEF_77.out.lt)
      clear HEV_82 HEW_83 HEM_84 HEF_77
      have HL_98 := Lib.hid (HL_85.out.keep hbt (by omega))
      have HW_99 := Lib.hid (HW_86.out.keep hbt (by omega))
      have HM_100 := Lib.hid (HM_87.out.keep hbt (by omega))
      have HF_101 := Lib.hid (HF_88.out.keep hbt (by omega))
      have HB_102 := Lib.hid (up HB_89.out hbt)
      have hz_10 := hbt.size
      clear HL_85 HW_86 HM_87 HF_88 HB_89
      have HO_103 := Lib.hid (hrd6.wide (Nat.zero_le _) (Nat.le_refl _))
      clear hrd6
      clear hbt
      have HEO_104 := Lib.hid (Blk.new w10 25 #[.int .i64 N, .int .i64 T, .int .i64 S, .slice A6 m c6])
      have hbt := up_alloc (Below.refl _ w10) (.cells #[.int .i64 N, .int .i64 T, .int .i64 S, .slice A6 m c6] 25)
      have hs_11 : (w10.alloc (.cells #[.int .i64 N, .int .i64 T, .int .i64 S, .slice A6 m c6] 25)).heap.size = w10.heap.size + 1 := by simp
      have HEV_105 := Lib.hid (HEV_94.out.below hbt HEV_94.out.lt)
      have HEW_106 := Lib.hid (HEW_95.out.below hbt HEW_95.out.lt)
      have HEM_107 := Lib.hid (HEM_96.out.below hbt HEM_96.out.lt)
      have HEF_108 := Lib.hid (HEF_97.out.below hbt HEF_97.out.lt)
      clear HEV_94 HEW_95 HEM_96 HEF_97
      have HL_109 := Lib.hid (HL_98.out.keep hbt (by omega))
      have HW_110 := Lib.hid (HW_99.out.keep hbt (by omega))
      have HM_111 := Lib.hid (HM_100.out.keep hbt (by omega))
      have HF_112 := Lib.hid (HF_101.out.keep hbt (by omega))
      have HO_113 := Lib.hid (HO_103.out.keep hbt (by omega))
      have HB_114 := Lib.hid (up HB_102.out hbt)
      have hz_11 := hbt.size
      clear HL_98 HW_99 HM_100 HF_101 HO_103 HB_102
      clear hbt
      go_wp2_with (fail)
      generalize w10.alloc (.cells #[.int .i64 N, .int .i64 T, .int .i64 S, .slice A6 m c6] 25) = w11 at *
      have hgO := HEO_104.out.lt
      have HC0 := Lib.hid (show ∀ wx, Below w11.heap.size w11 wx → Calls Try.prog 21 #[.agg #[.int .i64 N, .int .i64 T, .int .i64 S, .slice A6 m c6], .agg #[.int .i64 N, .int .i64 T, .int .i64 S, .slice A1 m c1]] wx fun e w' => e = .returned (.bool true) ∧ Below w11.heap.size w11 w' from fun wx hb => (equalSnap_same N T S 0 _ m c6 0 _ c1 A6 A1 ps wx (HO_113.out.keep hb (by omega)) (Nat.le_trans (by omega) hb.size) (by omega) (HL_109.out.keep hb (by omega)) (Nat.le_trans (by omega) hb.size)).mono fun e w' ⟨h1, h2⟩ => ⟨h1, up hb h2⟩)
      have a_115 := HEO_104.out.cell 0
      have a_116 := HEO_104.out.cell 1
      have a_117 := HEO_104.out.cell 2
      have a_118 := HEO_104.out.cell 3
      have a_119 := HEV_105.out.cell 0
      have a_120 := HEV_105.out.cell 1
      have a_121 := HEV_105.out.cell 2
      have a_122 := HEV_105.out.cell 3
      go_wp2_with (fail)
      refine wp_region_any (by kernel_rfl) ?_
      try (change wpAny _ _ _ _ _ _ _ (World.drew _))
      refine wpAny_take (i := 0) (oi := ⟨_, _, _, _, _, _⟩) (v := ?_) rfl (by kernel_rfl) (by kernel_rfl) (by kernel_rfl) (fun _ _ _ h => h) (Or.inl ⟨by rfl, ?_⟩) ?_
      rotate_left
      focus (intro w; go_simp; try (with_reducible rfl); done)
      try simp only [Act.put, List.setIfInBounds_toArray, List.set_cons_zero, List.set_cons_succ]
      refine wpAny_take (i := 1) (oi := ⟨_, _, _, _, _, _⟩) (v := ?_) rfl (by kernel_rfl) (by kernel_rfl) (by kernel_rfl) (fun _ _ _ h => h) (Or.inl ⟨by rfl, ?_⟩) ?_
      rotate_left
      focus (intro w; go_simp; try (with_reducible rfl); done)
      try simp only [Act.put, List.setIfInBounds_toArray, List.set_cons_zero, List.set_cons_succ]
      refine wpAny_ready (rs := [2, 3]) (by kernel_rfl) (by simp) ?_
      refine AllReady.cons (o := ⟨_, _, _, _, _, _⟩) rfl (fun K hK => ?_) (AllReady.cons (o := ⟨_, _, _, _, _, _⟩) rfl (fun K hK => ?_) AllReady.nil)
      · go_simp
        try (refine hK _ _ ?_)
        try clear hK
        try clear K
        try simp only [Act.put, List.setIfInBounds_toArray, List.set_cons_zero, List.set_cons_succ]
        refine wpAny_ready (rs := [3]) (by kernel_rfl) (by simp) ?_
        refine AllReady.cons (o := ⟨_, _, _, _, _, _⟩) rfl (fun K hK => ?_) AllReady.nil
        go_simp
        try (refine hK _ _ ?_)
        try clear hK
        try clear K
        try simp only [Act.put, List.setIfInBounds_toArray, List.set_cons_zero, List.set_cons_succ]
        refine wpAny_ready (rs := [4]) (by kernel_rfl) (by simp) ?_
        refine AllReady.cons (o := ⟨_, _, _, _, _, _⟩) rfl (fun K hK => ?_) AllReady.nil
        go_simp
        (go_at_call 21; (with_reducible refine (HC0.out _ (up_drew (Below.refl _ _))).mono ?_); rintro e x0 ⟨rfl, hbx⟩; have HX0 := Lib.hid hbx; clear hbx)
        try go_simp
        try (refine hK _ _ ?_)
        try clear hK
        try clear K
        try simp only [Act.put, List.setIfInBounds_toArray, List.set_cons_zero, List.set_cons_succ]
        refine wpAny_take (i := 5) (oi := ⟨_, _, _, _, _, _⟩) (v := ?_) rfl (by kernel_rfl) (by kernel_rfl) (by kernel_rfl) (fun _ _ _ h => h) (Or.inl ⟨by rfl, ?_⟩) ?_
        rotate_left
        focus (intro w; go_simp; try (with_reducible rfl); done)
        try simp only [Act.put, List.setIfInBounds_toArray, List.set_cons_zero, List.set_cons_succ]
        refine wpAny_take (i := 6) (oi := ⟨_, _, _, _, _, _⟩) (v := ?_) rfl (by kernel_rfl) (by kernel_rfl) (by kernel_rfl) (fun _ _ _ h => h) (Or.inl ⟨by rfl, ?_⟩) ?_
        rotate_left
        focus (intro w; go_simp; try (with_reducible rfl); done)
        try simp only [Act.put, List.setIfInBounds_toArray, List.set_cons_zero, List.set_cons_succ]
        refine wpAny_take (i := 7) (oi := ⟨_, _, _, _, _, _⟩) (v := ?_) rfl (by kernel_rfl) (by kernel_rfl) (by kernel_rfl) (fun _ _ _ h => h) (Or.inl ⟨by rfl, ?_⟩) ?_
        rotate_left
        focus (intro w; go_simp; try (with_reducible rfl); done)
        try simp only [Act.put, List.setIfInBounds_toArray, List.set_cons_zero, List.set_cons_succ]
        refine wpAny_take (i := 8) (oi := ⟨_, _, _, _, _, _⟩) (v := ?_) rfl (by kernel_rfl) (by kernel_rfl) (by kernel_rfl) (fun _ _ _ h => h) (Or.inl ⟨by rfl, ?_⟩) ?_
        rotate_left
        focus (intro w; go_simp; try (with_reducible rfl); done)
        try simp only [Act.put, List.setIfInBounds_toArray, List.set_cons_zero, List.set_cons_succ]
        refine wpAny_take (i := 9) (oi := ⟨_, _, _, _, _, _⟩) (v := ?_) rfl (by kernel_rfl) (by kernel_rfl) (by kernel_rfl) (fun _ _ _ h => h) (Or.inl ⟨by rfl, ?_⟩) ?_
        rotate_left
        focus (intro w; go_simp; try (with_reducible rfl); done)
        try simp only [Act.put, List.setIfInBounds_toArray, List.set_cons_zero, List.set_cons_succ]
        refine wpAny_take (i := 10) (oi := ⟨_, _, _, _, _, _⟩) (v := undef) rfl (by kernel_rfl) (by kernel_rfl) (by kernel_rfl) (fun _ _ _ h => h) (Or.inr ⟨by rfl, rfl⟩) ?_
        try simp only [Act.put, List.setIfInBounds_toArray, List.set_cons_zero, List.set_cons_succ]
        refine wpAny_take (i := 11) (oi := ⟨_, _, _, _, _, _⟩) (v := undef) rfl (by kernel_rfl) (by kernel_rfl) (by kernel_rfl) (fun _ _ _ h => h) (Or.inr ⟨by rfl, rfl⟩) ?_
        try simp only [Act.put, List.setIfInBounds_toArray, List.set_cons_zero, List.set_cons_succ]
        refine wpAny_take (i := 12) (oi := ⟨_, _, _, _, _, _⟩) (v := undef) rfl (by kernel_rfl) (by kernel_rfl) (by kernel_rfl) (fun _ _ _ h => h) (Or.inr ⟨by rfl, rfl⟩) ?_
        try simp only [Act.put, List.setIfInBounds_toArray, List.set_cons_zero, List.set_cons_succ]
        refine wpAny_take (i := 13) (oi := ⟨_, _, _, _, _, _⟩) (v := undef) rfl (by kernel_rfl) (by kernel_rfl) (by kernel_rfl) (fun _ _ _ h => h) (Or.inr ⟨by rfl, rfl⟩) ?_
        try simp only [Act.put, List.setIfInBounds_toArray, List.set_cons_zero, List.set_cons_succ]
        refine wpAny_take (i := 14) (oi := ⟨_, _, _, _, _, _⟩) (v := undef) rfl (by kernel_rfl) (by kernel_rfl) (by kernel_rfl) (fun _ _ _ h => h) (Or.inr ⟨by rfl, rfl⟩) ?_
        try simp only [Act.put, List.setIfInBounds_toArray, List.set_cons_zero, List.set_cons_succ]
        refine wpAny_take (i := 15) (oi := ⟨_, _, _, _, _, _⟩) (v := undef) rfl (by kernel_rfl) (by kernel_rfl) (by kernel_rfl) (fun _ _ _ h => h) (Or.inr ⟨by rfl, rfl⟩) ?_
        try simp only [Act.put, List.setIfInBounds_toArray, List.set_cons_zero, List.set_cons_succ]
        refine wpAny_take (i := 16) (oi := ⟨_, _, _, _, _, _⟩) (v := undef) rfl (by kernel_rfl) (by kernel_rfl) (by kernel_rfl) (fun _ _ _ h => h) (Or.inr ⟨by rfl, rfl⟩) ?_
        try simp only [Act.put, List.setIfInBounds_toArray, List.set_cons_zero, List.set_cons_succ]
        refine wpAny_take (i := 17) (oi := ⟨_, _, _, _, _, _⟩) (v := undef) rfl (by kernel_rfl) (by kernel_rfl) (by kernel_rfl) (fun _ _ _ h => h) (Or.inr ⟨by rfl, rfl⟩) ?_
        try simp only [Act.put, List.setIfInBounds_toArray, List.set_cons_zero, List.set_cons_succ]
        refine wpAny_take (i := 18) (oi := ⟨_, _, _, _, _, _⟩) (v := undef) rfl (by kernel_rfl) (by kernel_rfl) (by kernel_rfl) (fun _ _ _ h => h) (Or.inr ⟨by rfl, rfl⟩) ?_
        try simp only [Act.put, List.setIfInBounds_toArray, List.set_cons_zero, List.set_cons_succ]
        refine wpAny_take (i := 19) (oi := ⟨_, _, _, _, _, _⟩) (v := undef) rfl (by kernel_rfl) (by kernel_rfl) (by kernel_rfl) (fun _ _ _ h => h) (Or.inr ⟨by rfl, rfl⟩) ?_
        try simp only [Act.put, List.setIfInBounds_toArray, List.set_cons_zero, List.set_cons_succ]
        refine wpAny_take (i := 20) (oi := ⟨_, _, _, _, _, _⟩) (v := undef) rfl (by kernel_rfl) (by kernel_rfl) (by kernel_rfl) (fun _ _ _ h => h) (Or.inr ⟨by rfl, rfl⟩) ?_
        try simp only [Act.put, List.setIfInBounds_toArray, List.set_cons_zero, List.set_cons_succ]
        refine wpAny_take (i := 21) (oi := ⟨_, _, _, _, _, _⟩) (v := ?_) rfl (by kernel_rfl) (by kernel_rfl) (by kernel_rfl) (fun _ _ _ h => h) (Or.inl ⟨by rfl, ?_⟩) ?_
        rotate_left
        focus (intro w; go_simp; try (with_reducible rfl); done)
        try simp only [Act.put, List.setIfInBounds_toArray, List.set_cons_zero, List.set_cons_succ]
        refine wpAny_take (i := 22) (oi := ⟨_, _, _, _, _, _⟩) (v := ?_) rfl (by kernel_rfl) (by kernel_rfl) (by kernel_rfl) (fun _ _ _ h => h) (Or.inl ⟨by rfl, ?_⟩) ?_
        rotate_left
        focus (intro w; go_simp; try (with_reducible rfl); done)
        try simp only [Act.put, List.setIfInBounds_toArray, List.set_cons_zero, List.set_cons_succ]
        refine wpAny_take (i := 23) (oi := ⟨_, _, _, _, _, _⟩) (v := ?_) rfl (by kernel_rfl) (by kernel_rfl) (by kernel_rfl) (fun _ _ _ h => h) (Or.inl ⟨by rfl, ?_⟩) ?_
        rotate_left
        focus (intro w; go_simp; try (with_reducible rfl); done)
        try simp only [Act.put, List.setIfInBounds_toArray, List.set_cons_zero, List.set_cons_succ]
        refine wpAny_done (by kernel_rfl) ?_ _
        go_wp2
        go_ret
        exact ⟨rfl, up HB_114.out HX0.out⟩
      · go_simp
        try (refine hK _ _ ?_)
        try clear hK
        try clear K
        try simp only [Act.put, List.setIfInBounds_toArray, List.set_cons_zero, List.set_cons_succ]
        refine wpAny_ready (rs := [2]) (by kernel_rfl) (by simp) ?_
        refine AllReady.cons (o := ⟨_, _, _, _, _, _⟩) rfl (fun K hK => ?_) AllReady.nil
        go_simp
        try (refine hK _ _ ?_)
        try clear hK
        try clear K
        try simp only [Act.put, List.setIfInBounds_toArray, List.set_cons_zero, List.set_cons_succ]
        refine wpAny_ready (rs := [4]) (by kernel_rfl) (by simp) ?_
        refine AllReady.cons (o := ⟨_, _, _, _, _, _⟩) rfl (fun K hK => ?_) AllReady.nil
        go_simp
        (go_at_call 21; (with_reducible refine (HC0.out _ (up_drew (Below.refl _ _))).mono ?_); rintro e x0 ⟨rfl, hbx⟩; have HX0 := Lib.hid hbx; clear hbx)
        try go_simp
        try (refine hK _ _ ?_)
        try clear hK
        try clear K
        try simp only [Act.put, List.setIfInBounds_toArray, List.set_cons_zero, List.set_cons_succ]
        refine wpAny_take (i := 5) (oi := ⟨_, _, _, _, _, _⟩) (v := ?_) rfl (by kernel_rfl) (by kernel_rfl) (by kernel_rfl) (fun _ _ _ h => h) (Or.inl ⟨by rfl, ?_⟩) ?_
        rotate_left
        focus (intro w; go_simp; try (with_reducible rfl); done)
        try simp only [Act.put, List.setIfInBounds_toArray, List.set_cons_zero, List.set_cons_succ]
        refine wpAny_take (i := 6) (oi := ⟨_, _, _, _, _, _⟩) (v := ?_) rfl (by kernel_rfl) (by kernel_rfl) (by kernel_rfl) (fun _ _ _ h => h) (Or.inl ⟨by rfl, ?_⟩) ?_
        rotate_left
        focus (intro w; go_simp; try (with_reducible rfl); done)
        try simp only [Act.put, List.setIfInBounds_toArray, List.set_cons_zero, List.set_cons_succ]
        refine wpAny_take (i := 7) (oi := ⟨_, _, _, _, _, _⟩) (v := ?_) rfl (by kernel_rfl) (by kernel_rfl) (by kernel_rfl) (fun _ _ _ h => h) (Or.inl ⟨by rfl, ?_⟩) ?_
        rotate_left
        focus (intro w; go_simp; try (with_reducible rfl); done)
        try simp only [Act.put, List.setIfInBounds_toArray, List.set_cons_zero, List.set_cons_succ]
        refine wpAny_take (i := 8) (oi := ⟨_, _, _, _, _, _⟩) (v := ?_) rfl (by kernel_rfl) (by kernel_rfl) (by kernel_rfl) (fun _ _ _ h => h) (Or.inl ⟨by rfl, ?_⟩) ?_
        rotate_left
        focus (intro w; go_simp; try (with_reducible rfl); done)
        try simp only [Act.put, List.setIfInBounds_toArray, List.set_cons_zero, List.set_cons_succ]
        refine wpAny_take (i := 9) (oi := ⟨_, _, _, _, _, _⟩) (v := ?_) rfl (by kernel_rfl) (by kernel_rfl) (by kernel_rfl) (fun _ _ _ h => h) (Or.inl ⟨by rfl, ?_⟩) ?_
        rotate_left
        focus (intro w; go_simp; try (with_reducible rfl); done)
        try simp only [Act.put, List.setIfInBounds_toArray, List.set_cons_zero, List.set_cons_succ]
        refine wpAny_take (i := 10) (oi := ⟨_, _, _, _, _, _⟩) (v := undef) rfl (by kernel_rfl) (by kernel_rfl) (by kernel_rfl) (fun _ _ _ h => h) (Or.inr ⟨by rfl, rfl⟩) ?_
        try simp only [Act.put, List.setIfInBounds_toArray, List.set_cons_zero, List.set_cons_succ]
        refine wpAny_take (i := 11) (oi := ⟨_, _, _, _, _, _⟩) (v := undef) rfl (by kernel_rfl) (by kernel_rfl) (by kernel_rfl) (fun _ _ _ h => h) (Or.inr ⟨by rfl, rfl⟩) ?_
        try simp only [Act.put, List.setIfInBounds_toArray, List.set_cons_zero, List.set_cons_succ]
        refine wpAny_take (i := 12) (oi := ⟨_, _, _, _, _, _⟩) (v := undef) rfl (by kernel_rfl) (by kernel_rfl) (by kernel_rfl) (fun _ _ _ h => h) (Or.inr ⟨by rfl, rfl⟩) ?_
        try simp only [Act.put, List.setIfInBounds_toArray, List.set_cons_zero, List.set_cons_succ]
        refine wpAny_take (i := 13) (oi := ⟨_, _, _, _, _, _⟩) (v := undef) rfl (by kernel_rfl) (by kernel_rfl) (by kernel_rfl) (fun _ _ _ h => h) (Or.inr ⟨by rfl, rfl⟩) ?_
        try simp only [Act.put, List.setIfInBounds_toArray, List.set_cons_zero, List.set_cons_succ]
        refine wpAny_take (i := 14) (oi := ⟨_, _, _, _, _, _⟩) (v := undef) rfl (by kernel_rfl) (by kernel_rfl) (by kernel_rfl) (fun _ _ _ h => h) (Or.inr ⟨by rfl, rfl⟩) ?_
        try simp only [Act.put, List.setIfInBounds_toArray, List.set_cons_zero, List.set_cons_succ]
        refine wpAny_take (i := 15) (oi := ⟨_, _, _, _, _, _⟩) (v := undef) rfl (by kernel_rfl) (by kernel_rfl) (by kernel_rfl) (fun _ _ _ h => h) (Or.inr ⟨by rfl, rfl⟩) ?_
        try simp only [Act.put, List.setIfInBounds_toArray, List.set_cons_zero, List.set_cons_succ]
        refine wpAny_take (i := 16) (oi := ⟨_, _, _, _, _, _⟩) (v := undef) rfl (by kernel_rfl) (by kernel_rfl) (by kernel_rfl) (fun _ _ _ h => h) (Or.inr ⟨by rfl, rfl⟩) ?_
        try simp only [Act.put, List.setIfInBounds_toArray, List.set_cons_zero, List.set_cons_succ]
        refine wpAny_take (i := 17) (oi := ⟨_, _, _, _, _, _⟩) (v := undef) rfl (by kernel_rfl) (by kernel_rfl) (by kernel_rfl) (fun _ _ _ h => h) (Or.inr ⟨by rfl, rfl⟩) ?_
        try simp only [Act.put, List.setIfInBounds_toArray, List.set_cons_zero, List.set_cons_succ]
        refine wpAny_take (i := 18) (oi := ⟨_, _, _, _, _, _⟩) (v := undef) rfl (by kernel_rfl) (by kernel_rfl) (by kernel_rfl) (fun _ _ _ h => h) (Or.inr ⟨by rfl, rfl⟩) ?_
        try simp only [Act.put, List.setIfInBounds_toArray, List.set_cons_zero, List.set_cons_succ]
        refine wpAny_take (i := 19) (oi := ⟨_, _, _, _, _, _⟩) (v := undef) rfl (by kernel_rfl) (by kernel_rfl) (by kernel_rfl) (fun _ _ _ h => h) (Or.inr ⟨by rfl, rfl⟩) ?_
        try simp only [Act.put, List.setIfInBounds_toArray, List.set_cons_zero, List.set_cons_succ]
        refine wpAny_take (i := 20) (oi := ⟨_, _, _, _, _, _⟩) (v := undef) rfl (by kernel_rfl) (by kernel_rfl) (by kernel_rfl) (fun _ _ _ h => h) (Or.inr ⟨by rfl, rfl⟩) ?_
        try simp only [Act.put, List.setIfInBounds_toArray, List.set_cons_zero, List.set_cons_succ]
        refine wpAny_take (i := 21) (oi := ⟨_, _, _, _, _, _⟩) (v := ?_) rfl (by kernel_rfl) (by kernel_rfl) (by kernel_rfl) (fun _ _ _ h => h) (Or.inl ⟨by rfl, ?_⟩) ?_
        rotate_left
        focus (intro w; go_simp; try (with_reducible rfl); done)
        try simp only [Act.put, List.setIfInBounds_toArray, List.set_cons_zero, List.set_cons_succ]
        refine wpAny_take (i := 22) (oi := ⟨_, _, _, _, _, _⟩) (v := ?_) rfl (by kernel_rfl) (by kernel_rfl) (by kernel_rfl) (fun _ _ _ h => h) (Or.inl ⟨by rfl, ?_⟩) ?_
        rotate_left
        focus (intro w; go_simp; try (with_reducible rfl); done)
        try simp only [Act.put, List.setIfInBounds_toArray, List.set_cons_zero, List.set_cons_succ]
        refine wpAny_take (i := 23) (oi := ⟨_, _, _, _, _, _⟩) (v := ?_) rfl (by kernel_rfl) (by kernel_rfl) (by kernel_rfl) (fun _ _ _ h => h) (Or.inl ⟨by rfl, ?_⟩) ?_
        rotate_left
        focus (intro w; go_simp; try (with_reducible rfl); done)
        try simp only [Act.put, List.setIfInBounds_toArray, List.set_cons_zero, List.set_cons_succ]
        refine wpAny_done (by kernel_rfl) ?_ _
        go_wp2
        go_ret
        exact ⟨rfl, up HB_114.out HX0.out⟩
    | true =>
      obtain ⟨hr0, hst⟩ := comp_all HPL.out HUA.out
      rw [HKA.out] at hr0
      subst hr0
      have HST := Lib.hid hst
      clear hst
      have b3 : (Sa == Sa) = true := by simp
      have a_123 := HEV_43.out.cell 0
      have a_124 := HEV_43.out.cell 1
      have a_125 := HEV_43.out.cell 2
      have a_126 := HEV_43.out.cell 3
      go_wp2_with (fail)
      try clear a_123 a_124 a_125 a_126
      (with_reducible refine ((CompactLogI_any N T S 0 _ m c1 A1 ps (m : Int) _ HL_46.out (by omega) (by omega) (by omega) im).mono fun _ _ h => SnPost.p HUA.out HKA.out h).mono ?_)
      rintro e w8 ⟨A5, c5, rfl, hk5, hrd5, hbt⟩
      have HEV_127 := Lib.hid (HEV_43.out.below hbt HEV_43.out.lt)
      have HEW_128 := Lib.hid (HEW_44.out.below hbt HEW_44.out.lt)
      have HEM_129 := Lib.hid (HEM_45.out.below hbt HEM_45.out.lt)
      clear HEV_43 HEW_44 HEM_45
      have HL_130 := Lib.hid (HL_46.out.keep hbt (by omega))
      have HW_131 := Lib.hid (HW_47.out.keep hbt (by omega))
      have HM_132 := Lib.hid (HM_48.out.keep hbt (by omega))
      have HB_133 := Lib.hid (up HB_49.out hbt)
      have hz_8 := hbt.size
      clear HL_46 HW_47 HM_48 HB_49
      have HF_134 := Lib.hid (hrd5.wide (Nat.zero_le _) (Nat.le_refl _))
      clear hrd5
      clear hbt
      have HEF_135 := Lib.hid (Blk.new w8 25 #[.int .i64 Na, .int .i64 Ta, .int .i64 Sa, .slice A5 0 c5])
      have hbt := up_alloc (Below.refl _ w8) (.cells #[.int .i64 Na, .int .i64 Ta, .int .i64 Sa, .slice A5 0 c5] 25)
      have hs_9 : (w8.alloc (.cells #[.int .i64 Na, .int .i64 Ta, .int .i64 Sa, .slice A5 0 c5] 25)).heap.size = w8.heap.size + 1 := by simp
      have a_136 := HEV_127.out.cell 0
      have a_137 := HEV_127.out.cell 1
      have a_138 := HEV_127.out.cell 2
      have a_139 := HEV_127.out.cell 3
      have HEV_140 := Lib.hid (HEV_127.out.below hbt HEV_127.out.lt)
      have HEW_141 := Lib.hid (HEW_128.out.below hbt HEW_128.out.lt)
      have HEM_142 := Lib.hid (HEM_129.out.below hbt HEM_129.out.lt)
      clear HEV_127 HEW_128 HEM_129
      have HL_143 := Lib.hid (HL_130.out.keep hbt (by omega))
      have HW_144 := Lib.hid (HW_131.out.keep hbt (by omega))
      have HM_145 := Lib.hid (HM_132.out.keep hbt (by omega))
      have HF_146 := Lib.hid (HF_134.out.keep hbt (by omega))
      have HB_147 := Lib.hid (up HB_133.out hbt)
      have hz_9 := hbt.size
      clear HL_130 HW_131 HM_132 HF_134 HB_133
      clear hbt
      have a_148 := HEV_140.out.cell 0
      have a_149 := HEV_140.out.cell 1
      have a_150 := HEV_140.out.cell 2
      have a_151 := HEV_140.out.cell 3
      go_wp2_with (fail)
      try clear a_136 a_137 a_138 a_139 a_148 a_149 a_150 a_151
      generalize w8.alloc (.cells #[.int .i64 Na, .int .i64 Ta, .int .i64 Sa, .slice A5 0 c5] 25) = w9 at *
      have hgF := HEF_135.out.lt
      (with_reducible refine ((CompactLogI_any N T S 0 _ m c1 A1 ps 0 _ HL_143.out (by omega) (by omega) (by omega) i0).mono fun _ _ h => SnPost.p HZ.out HPL.out h).mono ?_)
      rintro e w10 ⟨A6, c6, rfl, hk6, hrd6, hbt⟩
      have HEV_152 := Lib.hid (HEV_140.out.below hbt HEV_140.out.lt)
      have HEW_153 := Lib.hid (HEW_141.out.below hbt HEW_141.out.lt)
      have HEM_154 := Lib.hid (HEM_142.out.below hbt HEM_142.out.lt)
      have HEF_155 := Lib.hid (HEF_135.out.below hbt HEF_135.out.lt)
      clear HEV_140 HEW_141 HEM_142 HEF_135
      have HL_156 := Lib.hid (HL_143.out.keep hbt (by omega))
      have HW_157 := Lib.hid (HW_144.out.keep hbt (by omega))
      have HM_158 := Lib.hid (HM_145.out.keep hbt (by omega))
      have HF_159 := Lib.hid (HF_146.out.keep hbt (by omega))
      have HB_160 := Lib.hid (up HB_147.out hbt)
      have hz_10 := hbt.size
      clear HL_143 HW_144 HM_145 HF_146 HB_147
      have HO_161 := Lib.hid (hrd6.wide (Nat.zero_le _) (Nat.le_refl _))
      clear hrd6
      clear hbt
      have HEO_162 := Lib.hid (Blk.new w10 25 #[.int .i64 N, .int .i64 T, .int .i64 S, .slice A6 m c6])
      have hbt := up_alloc (Below.refl _ w10) (.cells #[.int .i64 N, .int .i64 T, .int .i64 S, .slice A6 m c6] 25)
      have hs_11 : (w10.alloc (.cells #[.int .i64 N, .int .i64 T, .int .i64 S, .slice A6 m c6] 25)).heap.size = w10.heap.size + 1 := by simp
      have HEV_163 := Lib.hid (HEV_152.out.below hbt HEV_152.out.lt)
      have HEW_164 := Lib.hid (HEW_153.out.below hbt HEW_153.out.lt)
      have HEM_165 := Lib.hid (HEM_154.out.below hbt HEM_154.out.lt)
      have HEF_166 := Lib.hid (HEF_155.out.below hbt HEF_155.out.lt)
      clear HEV_152 HEW_153 HEM_154 HEF_155
      have HL_167 := Lib.hid (HL_156.out.keep hbt (by omega))
      have HW_168 := Lib.hid (HW_157.out.keep hbt (by omega))
      have HM_169 := Lib.hid (HM_158.out.keep hbt (by omega))
      have HF_170 := Lib.hid (HF_159.out.keep hbt (by omega))
      have HO_171 := Lib.hid (HO_161.out.keep hbt (by omega))
      have HB_172 := Lib.hid (up HB_160.out hbt)
      have hz_11 := hbt.size
      clear HL_156 HW_157 HM_158 HF_159 HO_161 HB_160
      clear hbt
      go_wp2_with (fail)
      generalize w10.alloc (.cells #[.int .i64 N, .int .i64 T, .int .i64 S, .slice A6 m c6] 25) = w11 at *
      have hgO := HEO_162.out.lt
      have HSW := Lib.hid (show ∀ wx, Below w11.heap.size w11 wx → wx.cell? ⟨w10.heap.size, 0, none⟩ = some (.int .i64 N) ∧ wx.cell? ⟨w10.heap.size, 1, none⟩ = some (.int .i64 T) ∧ wx.cell? ⟨w10.heap.size, 2, none⟩ = some (.int .i64 S) ∧ wx.cell? ⟨w10.heap.size, 3, none⟩ = some (.slice A6 m c6) ∧ wx.cell? ⟨w1.heap.size, 0, none⟩ = some (.int .i64 N) ∧ wx.cell? ⟨w1.heap.size, 1, none⟩ = some (.int .i64 T) ∧ wx.cell? ⟨w1.heap.size, 2, none⟩ = some (.int .i64 S) ∧ wx.cell? ⟨w1.heap.size, 3, none⟩ = some (.slice A1 m c1) ∧ wx.cell? ⟨w8.heap.size, 0, none⟩ = some (.int .i64 Na) ∧ wx.cell? ⟨w8.heap.size, 1, none⟩ = some (.int .i64 Ta) ∧ wx.cell? ⟨w8.heap.size, 2, none⟩ = some (.int .i64 Sa) ∧ wx.cell? ⟨w8.heap.size, 3, none⟩ = some (.slice A5 0 c5) from fun wx hb => ⟨(hb.cell (by show w10.heap.size < w11.heap.size; omega)).trans (HEO_162.out.cell 0), (hb.cell (by show w10.heap.size < w11.heap.size; omega)).trans (HEO_162.out.cell 1), (hb.cell (by show w10.heap.size < w11.heap.size; omega)).trans (HEO_162.out.cell 2), (hb.cell (by show w10.heap.size < w11.heap.size; omega)).trans (HEO_162.out.cell 3), (hb.cell (by show w1.heap.size < w11.heap.size; omega)).trans (HEV_163.out.cell 0), (hb.cell (by show w1.heap.size < w11.heap.size; omega)).trans (HEV_163.out.cell 1), (hb.cell (by show w1.heap.size < w11.heap.size; omega)).trans (HEV_163.out.cell 2), (hb.cell (by show w1.heap.size < w11.heap.size; omega)).trans (HEV_163.out.cell 3), (hb.cell (by show w8.heap.size < w11.heap.size; omega)).trans (HEF_166.out.cell 0), (hb.cell (by show w8.heap.size < w11.heap.size; omega)).trans (HEF_166.out.cell 1), (hb.cell (by show w8.heap.size < w11.heap.size; omega)).trans (HEF_166.out.cell 2), (hb.cell (by show w8.heap.size < w11.heap.size; omega)).trans (HEF_166.out.cell 3)⟩)
      have HC0 := Lib.hid (show ∀ wx, Below w11.heap.size w11 wx → Calls Try.prog 21 #[.agg #[.int .i64 N, .int .i64 T, .int .i64 S, .slice A6 m c6], .agg #[.int .i64 N, .int .i64 T, .int .i64 S, .slice A1 m c1]] wx fun e w' => e = .returned (.bool true) ∧ Below w11.heap.size w11 w' from fun wx hb => (equalSnap_same N T S 0 _ m c6 0 _ c1 A6 A1 ps wx (HO_171.out.keep hb (by omega)) (Nat.le_trans (by omega) hb.size) (by omega) (HL_167.out.keep hb (by omega)) (Nat.le_trans (by omega) hb.size)).mono fun e w' ⟨h1, h2⟩ => ⟨h1, up hb h2⟩)
      have HC1 := Lib.hid (show ∀ wx, Below w11.heap.size w11 wx → Calls Try.prog 16 #[.agg #[.int .i64 N, .int .i64 T, .int .i64 S, .slice A1 m c1]] wx fun e w' => e = .returned (.int .i64 Sa) ∧ Below w11.heap.size w11 w' from fun wx hb => (StateOfI_any N T S 0 _ m c1 A1 ps wx (HL_167.out.keep hb (by omega)) (Nat.le_trans (by omega) hb.size) (by omega) (by omega)).mono fun e w' ⟨h1, h2⟩ => ⟨by rw [h1, HST.out], up hb h2⟩)
      obtain ⟨kk0, kk1, kk2, kk3, kk4, kk5, kk6, kk7, kk8, kk9, kk10, kk11⟩ := HSW.out _ (Below.refl _ _)
      go_wp2_with (fail)
      clear kk0 kk1 kk2 kk3 kk4 kk5 kk6 kk7 kk8 kk9 kk10 kk11
      go_region_held3 (fun wx => wx.cell? ⟨w10.heap.size, 0, none⟩ = some (.int .i64 N) ∧ wx.cell? ⟨w10.heap.size, 1, none⟩ = some (.int .i64 T) ∧ wx.cell? ⟨w10.heap.size, 2, none⟩ = some (.int .i64 S) ∧ wx.cell? ⟨w10.heap.size, 3, none⟩ = some (.slice A6 m c6) ∧ wx.cell? ⟨w1.heap.size, 0, none⟩ = some (.int .i64 N) ∧ wx.cell? ⟨w1.heap.size, 1, none⟩ = some (.int .i64 T) ∧ wx.cell? ⟨w1.heap.size, 2, none⟩ = some (.int .i64 S) ∧ wx.cell? ⟨w1.heap.size, 3, none⟩ = some (.slice A1 m c1) ∧ wx.cell? ⟨w8.heap.size, 0, none⟩ = some (.int .i64 Na) ∧ wx.cell? ⟨w8.heap.size, 1, none⟩ = some (.int .i64 Ta) ∧ wx.cell? ⟨w8.heap.size, 2, none⟩ = some (.int .i64 Sa) ∧ wx.cell? ⟨w8.heap.size, 3, none⟩ = some (.slice A5 0 c5))
        (first | with_reducible exact HSW.out _ (Below.refl _ _) | with_reducible exact HSW.out _ (up_drew (Below.refl _ _)) | with_reducible exact HSW.out _ (HX0.out) | with_reducible exact HSW.out _ (HX1.out))
        ((first
          | (go_at_call 21; (with_reducible refine (HC0.out _ (up_drew (Below.refl _ _))).mono ?_); rintro e x0 ⟨rfl, hbx⟩; have HX0 := Lib.hid hbx; clear hbx)
          | (go_at_call 16; (with_reducible refine (HC1.out _ (up_drew (Below.refl _ _))).mono ?_); rintro e x1 ⟨rfl, hbx⟩; have HX1 := Lib.hid hbx; clear hbx)
          | (go_at_call 16; (with_reducible refine (HC1.out _ HX0.out).mono ?_); rintro e x1 ⟨rfl, hbx⟩; have HX1 := Lib.hid hbx; clear hbx)
          | fail "no arm"))
      all_goals
        go_wp2
        go_ret
        exact ⟨rfl, up HB_172.out HX1.out⟩
end Go.Proofs.Ythoccppfedmcjaa
