/- The law FnWaitLetterTwice, walked: it returns true. (Written by a program over gen/lawlib.py.) -/
import Derived.Test.YtgnffodnimafoaaDrawT3
import Derived.Test.YtgnffodnimafoaaSendI
import Derived.Test.YtgnffodnimafoaaDropI
import Derived.Test.YtgnffodnimafoaaEqPost
import Derived.Test.YtgnffodnimafoaaLawPostM
import Derived.Test.YtgnffodnimafoaaLawPostN
import Derived.Test.YtgnffodnimafoaaPostO
import Derived.BigQuiet
import Derived.Deep.RegionLaw
import Derived.Test.YtgnffodnimafoaaLawPostP
set_option linter.unusedSimpArgs false
set_option linter.unusedVariables false
namespace Go.Proofs.Ytgnffodnimafoaa
open Go.RowKit

set_option maxRecDepth 100000 in
set_option maxHeartbeats 6400000 in
theorem lawWaitLetterTwice_any (n c : Nat) (A : Option Addr) (xs : List Int) (w : World) (hr : Rd w 0 w.heap.size 1 A n (bvs xs)) (hby : Bytes xs) (hc : n ≤ c) (hc2 : c ≤ 9223372036854775807) :
    Calls Try.prog 11 #[.slice A n c] w fun e w' => e = .returned (.bool true) ∧ Below w.heap.size w w' := by
  by_cases hbig : (1048576 : Int) < n
  · go_enter Try.func11, Try.ntmps11
    go_wp2
    go_ret
    exact ⟨rfl, Below.refl _ _⟩
  go_enter Try.func11, Try.ntmps11
  go_wp2_with (fail)
  (with_reducible refine (drawWaitLetter_any n c A xs w hr hby (by omega) hc hc2).mono ?_)
  rintro e w1 ⟨A1, n1, c1, A2, n2, c2, ns, fs, x, y, z, rfl, hoff⟩
  clear hbig hr
  obtain ⟨hn1, hn2, hk1, hk2, hrd1, hrd2, hb1⟩ := hoff
  have HB_0 := Lib.hid hb1
  have hz_1 := hb1.size
  clear hb1
  have HL1 := Lib.hid hrd1.len3
  have HL2 := Lib.hid hrd2.len3
  have HX1_1 := Lib.hid (hrd1.wide (Nat.zero_le _) (Nat.le_refl _))
  clear hrd1
  have HX2_2 := Lib.hid (hrd2.wide (Nat.zero_le _) (Nat.le_refl _))
  clear hrd2
  obtain ⟨⟨⟨d1, d2⟩, k, b⟩, hU⟩ : ∃ u, waitOf ns fs (x, y, z) = u := ⟨_, rfl⟩
  have hlen := wait_lens ns fs (x, y, z)
  rw [hU] at hlen
  obtain ⟨hm1, hm2⟩ := hlen
  dsimp only at hm1 hm2
  have HU := Lib.hid hU
  have HCS := Lib.hid (wait_cases hU)
  clear hU
  obtain ⟨m1, hD1⟩ : ∃ m, d1.length = m := ⟨_, rfl⟩
  obtain ⟨m2, hD2⟩ : ∃ m, d2.length = m := ⟨_, rfl⟩
  rw [hD1] at hm1
  rw [hD2] at hm2
  have HD1 := Lib.hid hD1
  have HD2 := Lib.hid hD2
  clear hD1 hD2
  have hkk : (k != k) = false := by simp
  have hke : (k == k) = true := by simp
  rcases HCS.out with rfl | ⟨rfl, rfl, e1, e2, hv, hl, hno⟩ | ⟨rfl, rfl, i, t, hg, hi, e1, e2, hv, hl, ha⟩
  ·
    clear HCS
    have HEX_3 := Lib.hid (Blk.new w1 26 #[.slice A1 n1 c1, .slice A2 n2 c2])
    have HEL_4 := Lib.hid (show Blk ((w1.alloc (.cells #[.slice A1 n1 c1, .slice A2 n2 c2] 26)).alloc (.cells #[.int .i64 x, .int .i64 y, .int .i64 z] 42)) (w1.heap.size + 1) 42 #[.int .i64 x, .int .i64 y, .int .i64 z] from by have h := Blk.new ((w1.alloc (.cells #[.slice A1 n1 c1, .slice A2 n2 c2] 26))) 42 #[.int .i64 x, .int .i64 y, .int .i64 z]; rwa [World.size_alloc] at h)
    have HEX_5 := Lib.hid (HEX_3.out.alloc (.cells #[.int .i64 x, .int .i64 y, .int .i64 z] 42))
    clear HEX_3
    have hbt := up_alloc (up_alloc (Below.refl _ w1) (.cells #[.slice A1 n1 c1, .slice A2 n2 c2] 26)) (.cells #[.int .i64 x, .int .i64 y, .int .i64 z] 42)
    have hs_2 : ((w1.alloc (.cells #[.slice A1 n1 c1, .slice A2 n2 c2] 26)).alloc (.cells #[.int .i64 x, .int .i64 y, .int .i64 z] 42)).heap.size = w1.heap.size + 1 + 1 := by simp
    have HX1_6 := Lib.hid (HX1_1.out.keep hbt (by omega))
    have HX2_7 := Lib.hid (HX2_2.out.keep hbt (by omega))
    have HB_8 := Lib.hid (up HB_0.out hbt)
    have hz_2 := hbt.size
    clear HX1_1 HX2_2 HB_0
    clear hbt
    go_wp2_with (fail)
    generalize ((w1.alloc (.cells #[.slice A1 n1 c1, .slice A2 n2 c2] 26)).alloc (.cells #[.int .i64 x, .int .i64 y, .int .i64 z] 42)) = w2 at *
    (with_reducible refine (post_at (WaitLetterI_any 0 _ n1 c1 A1 ns 0 _ n2 c2 A2 fs x y z _ HX1_6.out (by omega) (by omega) HX2_7.out (by omega) (by omega)) (by rw [HU.out]) (by rw [HU.out]) (by rw [HU.out]) HD1.out HD2.out (d1 := d1) (d2 := d2) (v := (.bool k)) (b := false) (m1 := m1) (m2 := m2)).mono ?_)
    rintro e w3 ⟨AY1, cY1, AY2, cY2, rfl, hkY1, hkY2, hr1, hr2, hbt⟩
    have HEX_9 := Lib.hid (HEX_5.out.below hbt HEX_5.out.lt)
    have HEL_10 := Lib.hid (HEL_4.out.below hbt HEL_4.out.lt)
    clear HEX_5 HEL_4
    have HX1_11 := Lib.hid (HX1_6.out.keep hbt (by omega))
    have HX2_12 := Lib.hid (HX2_7.out.keep hbt (by omega))
    have HB_13 := Lib.hid (up HB_8.out hbt)
    have hz_3 := hbt.size
    clear HX1_6 HX2_7 HB_8
    clear hbt
    have HY1_14 := Lib.hid (hr1.wide (Nat.zero_le _) (Nat.le_refl _))
    clear hr1
    have HY2_15 := Lib.hid (hr2.wide (Nat.zero_le _) (Nat.le_refl _))
    clear hr2
    have HEY_16 := Lib.hid (Blk.new w3 26 #[.slice AY1 m1 cY1, .slice AY2 m2 cY2])
    have hbt := up_alloc (Below.refl _ w3) (.cells #[.slice AY1 m1 cY1, .slice AY2 m2 cY2] 26)
    have hs_4 : (w3.alloc (.cells #[.slice AY1 m1 cY1, .slice AY2 m2 cY2] 26)).heap.size = w3.heap.size + 1 := by simp
    have a_17 := HEX_9.out.cell 0
    have a_18 := HEX_9.out.cell 1
    have a_19 := HEL_10.out.cell 0
    have a_20 := HEL_10.out.cell 1
    have a_21 := HEL_10.out.cell 2
    have HEX_22 := Lib.hid (HEX_9.out.below hbt HEX_9.out.lt)
    have HEL_23 := Lib.hid (HEL_10.out.below hbt HEL_10.out.lt)
    clear HEX_9 HEL_10
    have HX1_24 := Lib.hid (HX1_11.out.keep hbt (by omega))
    have HX2_25 := Lib.hid (HX2_12.out.keep hbt (by omega))
    have HY1_26 := Lib.hid (HY1_14.out.keep hbt (by omega))
    have HY2_27 := Lib.hid (HY2_15.out.keep hbt (by omega))
    have HB_28 := Lib.hid (up HB_13.out hbt)
    have hz_4 := hbt.size
    clear HX1_11 HX2_12 HY1_14 HY2_15 HB_13
    clear hbt
    have a_29 := HEX_22.out.cell 0
    have a_30 := HEX_22.out.cell 1
    have a_31 := HEL_23.out.cell 0
    have a_32 := HEL_23.out.cell 1
    have a_33 := HEL_23.out.cell 2
    go_wp2_with (fail)
    try clear a_17 a_18 a_19 a_20 a_21 a_29 a_30 a_31 a_32 a_33
    generalize (w3.alloc (.cells #[.slice AY1 m1 cY1, .slice AY2 m2 cY2] 26)) = w4 at *
    (with_reducible refine (post_at (WaitLetterS_any 0 _ n1 c1 A1 ns 0 _ n2 c2 A2 fs x y z _ HX1_24.out (by omega) (by omega) HX2_25.out (by omega) (by omega) (by omega) (by omega)) (by rw [HU.out]) (by rw [HU.out]) (by rw [HU.out]) HD1.out HD2.out (d1 := d1) (d2 := d2) (v := (.bool k)) (b := false) (m1 := m1) (m2 := m2)).mono ?_)
    rintro e w5 ⟨AW1, cW1, AW2, cW2, rfl, hkW1, hkW2, hr1, hr2, hbt⟩
    have HEX_34 := Lib.hid (HEX_22.out.below hbt HEX_22.out.lt)
    have HEL_35 := Lib.hid (HEL_23.out.below hbt HEL_23.out.lt)
    have HEY_36 := Lib.hid (HEY_16.out.below hbt HEY_16.out.lt)
    clear HEX_22 HEL_23 HEY_16
    have HX1_37 := Lib.hid (HX1_24.out.keep hbt (by omega))
    have HX2_38 := Lib.hid (HX2_25.out.keep hbt (by omega))
    have HY1_39 := Lib.hid (HY1_26.out.keep hbt (by omega))
    have HY2_40 := Lib.hid (HY2_27.out.keep hbt (by omega))
    have HB_41 := Lib.hid (up HB_28.out hbt)
    have hz_5 := hbt.size
    clear HX1_24 HX2_25 HY1_26 HY2_27 HB_28
    clear hbt
    have HW1_42 := Lib.hid (hr1.wide (Nat.zero_le _) (Nat.le_refl _))
    clear hr1
    have HW2_43 := Lib.hid (hr2.wide (Nat.zero_le _) (Nat.le_refl _))
    clear hr2
    have HEW_44 := Lib.hid (Blk.new w5 26 #[.slice AW1 m1 cW1, .slice AW2 m2 cW2])
    have hbt := up_alloc (Below.refl _ w5) (.cells #[.slice AW1 m1 cW1, .slice AW2 m2 cW2] 26)
    have hs_6 : (w5.alloc (.cells #[.slice AW1 m1 cW1, .slice AW2 m2 cW2] 26)).heap.size = w5.heap.size + 1 := by simp
    have a_45 := HEY_36.out.cell 0
    have a_46 := HEY_36.out.cell 1
    have HEX_47 := Lib.hid (HEX_34.out.below hbt HEX_34.out.lt)
    have HEL_48 := Lib.hid (HEL_35.out.below hbt HEL_35.out.lt)
    have HEY_49 := Lib.hid (HEY_36.out.below hbt HEY_36.out.lt)
    clear HEX_34 HEL_35 HEY_36
    have HX1_50 := Lib.hid (HX1_37.out.keep hbt (by omega))
    have HX2_51 := Lib.hid (HX2_38.out.keep hbt (by omega))
    have HY1_52 := Lib.hid (HY1_39.out.keep hbt (by omega))
    have HY2_53 := Lib.hid (HY2_40.out.keep hbt (by omega))
    have HW1_54 := Lib.hid (HW1_42.out.keep hbt (by omega))
    have HW2_55 := Lib.hid (HW2_43.out.keep hbt (by omega))
    have HB_56 := Lib.hid (up HB_41.out hbt)
    have hz_6 := hbt.size
    clear HX1_37 HX2_38 HY1_39 HY2_40 HW1_42 HW2_43 HB_41
    clear hbt
    have a_57 := HEY_49.out.cell 0
    have a_58 := HEY_49.out.cell 1
    go_wp2_with (fail)
    try clear a_45 a_46 a_57 a_58
    generalize (w5.alloc (.cells #[.slice AW1 m1 cW1, .slice AW2 m2 cW2] 26)) = w6 at *
    (with_reducible refine (equalPost_same 0 _ m1 cY1 0 _ m2 cY2 0 _ cW1 0 _ cW2 AY1 AY2 AW1 AW2 d1 d2 _ HY1_52.out (by omega) (by omega) HY2_53.out (by omega) (by omega) HW1_54.out (by omega) HW2_55.out (by omega)).mono ?_)
    rintro e w7 ⟨rfl, hbt⟩
    have HEX_59 := Lib.hid (HEX_47.out.below hbt HEX_47.out.lt)
    have HEL_60 := Lib.hid (HEL_48.out.below hbt HEL_48.out.lt)
    have HEY_61 := Lib.hid (HEY_49.out.below hbt HEY_49.out.lt)
    have HEW_62 := Lib.hid (HEW_44.out.below hbt HEW_44.out.lt)
    clear HEX_47 HEL_48 HEY_49 HEW_44
    have HX1_63 := Lib.hid (HX1_50.out.keep hbt (by omega))
    have HX2_64 := Lib.hid (HX2_51.out.keep hbt (by omega))
    have HY1_65 := Lib.hid (HY1_52.out.keep hbt (by omega))
    have HY2_66 := Lib.hid (HY2_53.out.keep hbt (by omega))
    have HW1_67 := Lib.hid (HW1_54.out.keep hbt (by omega))
    have HW2_68 := Lib.hid (HW2_55.out.keep hbt (by omega))
    have HB_69 := Lib.hid (up HB_56.out hbt)
    have hz_7 := hbt.size
    clear HX1_50 HX2_51 HY1_52 HY2_53 HW1_54 HW2_55 HB_56
    clear hbt
    have a_70 := HEY_61.out.cell 0
    have a_71 := HEY_61.out.cell 1
    have a_72 := HEW_62.out.cell 0
    have a_73 := HEW_62.out.cell 1
    go_wp2_with (fail)
    try clear a_70 a_71 a_72 a_73
    (with_reducible refine (equalPost_same 0 _ m1 cY1 0 _ m2 cY2 0 _ cW1 0 _ cW2 AY1 AY2 AW1 AW2 d1 d2 _ HY1_65.out (by omega) (by omega) HY2_66.out (by omega) (by omega) HW1_67.out (by omega) HW2_68.out (by omega)).mono ?_)
    rintro e w8 ⟨rfl, hbt⟩
    have HEX_74 := Lib.hid (HEX_59.out.below hbt HEX_59.out.lt)
    have HEL_75 := Lib.hid (HEL_60.out.below hbt HEL_60.out.lt)
    have HEY_76 := Lib.hid (HEY_61.out.below hbt HEY_61.out.lt)
    have HEW_77 := Lib.hid (HEW_62.out.below hbt HEW_62.out.lt)
    clear HEX_59 HEL_60 HEY_61 HEW_62
    have HX1_78 := Lib.hid (HX1_63.out.keep hbt (by omega))
    have HX2_79 := Lib.hid (HX2_64.out.keep hbt (by omega))
    have HY1_80 := Lib.hid (HY1_65.out.keep hbt (by omega))
    have HY2_81 := Lib.hid (HY2_66.out.keep hbt (by omega))
    have HW1_82 := Lib.hid (HW1_67.out.keep hbt (by omega))
    have HW2_83 := Lib.hid (HW2_68.out.keep hbt (by omega))
    have HB_84 := Lib.hid (up HB_69.out hbt)
    have hz_8 := hbt.size
    clear HX1_63 HX2_64 HY1_65 HY2_66 HW1_67 HW2_68 HB_69
    clear hbt
    go_wp2
    go_ret
    exact ⟨rfl, HB_84.out⟩
  ·
    clear HCS hl hno hv e1 e2
    have HEX_85 := Lib.hid (Blk.new w1 26 #[.slice A1 n1 c1, .slice A2 n2 c2])
    have HEL_86 := Lib.hid (show Blk ((w1.alloc (.cells #[.slice A1 n1 c1, .slice A2 n2 c2] 26)).alloc (.cells #[.int .i64 x, .int .i64 y, .int .i64 z] 42)) (w1.heap.size + 1) 42 #[.int .i64 x, .int .i64 y, .int .i64 z] from by have h := Blk.new ((w1.alloc (.cells #[.slice A1 n1 c1, .slice A2 n2 c2] 26))) 42 #[.int .i64 x, .int .i64 y, .int .i64 z]; rwa [World.size_alloc] at h)
    have HEX_87 := Lib.hid (HEX_85.out.alloc (.cells #[.int .i64 x, .int .i64 y, .int .i64 z] 42))
    clear HEX_85
    have hbt := up_alloc (up_alloc (Below.refl _ w1) (.cells #[.slice A1 n1 c1, .slice A2 n2 c2] 26)) (.cells #[.int .i64 x, .int .i64 y, .int .i64 z] 42)
    have hs_2 : ((w1.alloc (.cells #[.slice A1 n1 c1, .slice A2 n2 c2] 26)).alloc (.cells #[.int .i64 x, .int .i64 y, .int .i64 z] 42)).heap.size = w1.heap.size + 1 + 1 := by simp
    have HX1_88 := Lib.hid (HX1_1.out.keep hbt (by omega))
    have HX2_89 := Lib.hid (HX2_2.out.keep hbt (by omega))
    have HB_90 := Lib.hid (up HB_0.out hbt)
    have hz_2 := hbt.size
    clear HX1_1 HX2_2 HB_0
    clear hbt
    go_wp2_with (fail)
    generalize ((w1.alloc (.cells #[.slice A1 n1 c1, .slice A2 n2 c2] 26)).alloc (.cells #[.int .i64 x, .int .i64 y, .int .i64 z] 42)) = w2 at *
    (with_reducible refine (post_at (WaitLetterI_any 0 _ n1 c1 A1 ns 0 _ n2 c2 A2 fs x y z _ HX1_88.out (by omega) (by omega) HX2_89.out (by omega) (by omega)) (by rw [HU.out]) (by rw [HU.out]) (by rw [HU.out]) HD1.out HD2.out (d1 := d1) (d2 := d2) (v := (.bool false)) (b := true) (m1 := m1) (m2 := m2)).mono ?_)
    rintro e w3 ⟨AY1, cY1, AY2, cY2, rfl, hkY1, hkY2, hr1, hr2, hbt⟩
    have HEX_91 := Lib.hid (HEX_87.out.below hbt HEX_87.out.lt)
    have HEL_92 := Lib.hid (HEL_86.out.below hbt HEL_86.out.lt)
    clear HEX_87 HEL_86
    have HX1_93 := Lib.hid (HX1_88.out.keep hbt (by omega))
    have HX2_94 := Lib.hid (HX2_89.out.keep hbt (by omega))
    have HB_95 := Lib.hid (up HB_90.out hbt)
    have hz_3 := hbt.size
    clear HX1_88 HX2_89 HB_90
    clear hbt
    have HY1_96 := Lib.hid (hr1.wide (Nat.zero_le _) (Nat.le_refl _))
    clear hr1
    have HY2_97 := Lib.hid (hr2.wide (Nat.zero_le _) (Nat.le_refl _))
    clear hr2
    have HEY_98 := Lib.hid (Blk.new w3 26 #[.slice AY1 m1 cY1, .slice AY2 m2 cY2])
    have hbt := up_alloc (Below.refl _ w3) (.cells #[.slice AY1 m1 cY1, .slice AY2 m2 cY2] 26)
    have hs_4 : (w3.alloc (.cells #[.slice AY1 m1 cY1, .slice AY2 m2 cY2] 26)).heap.size = w3.heap.size + 1 := by simp
    have a_99 := HEX_91.out.cell 0
    have a_100 := HEX_91.out.cell 1
    have a_101 := HEL_92.out.cell 0
    have a_102 := HEL_92.out.cell 1
    have a_103 := HEL_92.out.cell 2
    have HEX_104 := Lib.hid (HEX_91.out.below hbt HEX_91.out.lt)
    have HEL_105 := Lib.hid (HEL_92.out.below hbt HEL_92.out.lt)
    clear HEX_91 HEL_92
    have HX1_106 := Lib.hid (HX1_93.out.keep hbt (by omega))
    have HX2_107 := Lib.hid (HX2_94.out.keep hbt (by omega))
    have HY1_108 := Lib.hid (HY1_96.out.keep hbt (by omega))
    have HY2_109 := Lib.hid (HY2_97.out.keep hbt (by omega))
    have HB_110 := Lib.hid (up HB_95.out hbt)
    have hz_4 := hbt.size
    clear HX1_93 HX2_94 HY1_96 HY2_97 HB_95
    clear hbt
    have a_111 := HEX_104.out.cell 0
    have a_112 := HEX_104.out.cell 1
    have a_113 := HEL_105.out.cell 0
    have a_114 := HEL_105.out.cell 1
    have a_115 := HEL_105.out.cell 2
    go_wp2_with (fail)
    try clear a_99 a_100 a_101 a_102 a_103 a_111 a_112 a_113 a_114 a_115
    generalize (w3.alloc (.cells #[.slice AY1 m1 cY1, .slice AY2 m2 cY2] 26)) = w4 at *
    (with_reducible refine (post_at (WaitLetterS_any 0 _ n1 c1 A1 ns 0 _ n2 c2 A2 fs x y z _ HX1_106.out (by omega) (by omega) HX2_107.out (by omega) (by omega) (by omega) (by omega)) (by rw [HU.out]) (by rw [HU.out]) (by rw [HU.out]) HD1.out HD2.out (d1 := d1) (d2 := d2) (v := (.bool false)) (b := true) (m1 := m1) (m2 := m2)).mono ?_)
    rintro e w5 ⟨AW1, cW1, AW2, cW2, rfl, hkW1, hkW2, hr1, hr2, hbt⟩
    have HEX_116 := Lib.hid (HEX_104.out.below hbt HEX_104.out.lt)
    have HEL_117 := Lib.hid (HEL_105.out.below hbt HEL_105.out.lt)
    have HEY_118 := Lib.hid (HEY_98.out.below hbt HEY_98.out.lt)
    clear HEX_104 HEL_105 HEY_98
    have HX1_119 := Lib.hid (HX1_106.out.keep hbt (by omega))
    have HX2_120 := Lib.hid (HX2_107.out.keep hbt (by omega))
    have HY1_121 := Lib.hid (HY1_108.out.keep hbt (by omega))
    have HY2_122 := Lib.hid (HY2_109.out.keep hbt (by omega))
    have HB_123 := Lib.hid (up HB_110.out hbt)
    have hz_5 := hbt.size
    clear HX1_106 HX2_107 HY1_108 HY2_109 HB_110
    clear hbt
    have HW1_124 := Lib.hid (hr1.wide (Nat.zero_le _) (Nat.le_refl _))
    clear hr1
    have HW2_125 := Lib.hid (hr2.wide (Nat.zero_le _) (Nat.le_refl _))
    clear hr2
    have HEW_126 := Lib.hid (Blk.new w5 26 #[.slice AW1 m1 cW1, .slice AW2 m2 cW2])
    have hbt := up_alloc (Below.refl _ w5) (.cells #[.slice AW1 m1 cW1, .slice AW2 m2 cW2] 26)
    have hs_6 : (w5.alloc (.cells #[.slice AW1 m1 cW1, .slice AW2 m2 cW2] 26)).heap.size = w5.heap.size + 1 := by simp
    have a_127 := HEY_118.out.cell 0
    have a_128 := HEY_118.out.cell 1
    have HEX_129 := Lib.hid (HEX_116.out.below hbt HEX_116.out.lt)
    have HEL_130 := Lib.hid (HEL_117.out.below hbt HEL_117.out.lt)
    have HEY_131 := Lib.hid (HEY_118.out.below hbt HEY_118.out.lt)
    clear HEX_116 HEL_117 HEY_118
    have HX1_132 := Lib.hid (HX1_119.out.keep hbt (by omega))
    have HX2_133 := Lib.hid (HX2_120.out.keep hbt (by omega))
    have HY1_134 := Lib.hid (HY1_121.out.keep hbt (by omega))
    have HY2_135 := Lib.hid (HY2_122.out.keep hbt (by omega))
    have HW1_136 := Lib.hid (HW1_124.out.keep hbt (by omega))
    have HW2_137 := Lib.hid (HW2_125.out.keep hbt (by omega))
    have HB_138 := Lib.hid (up HB_123.out hbt)
    have hz_6 := hbt.size
    clear HX1_119 HX2_120 HY1_121 HY2_122 HW1_124 HW2_125 HB_123
    clear hbt
    have a_139 := HEY_131.out.cell 0
    have a_140 := HEY_131.out.cell 1
    go_wp2_with (fail)
    try clear a_127 a_128 a_139 a_140
    generalize (w5.alloc (.cells #[.slice AW1 m1 cW1, .slice AW2 m2 cW2] 26)) = w6 at *
    (with_reducible refine (equalPost_same 0 _ m1 cY1 0 _ m2 cY2 0 _ cW1 0 _ cW2 AY1 AY2 AW1 AW2 d1 d2 _ HY1_134.out (by omega) (by omega) HY2_135.out (by omega) (by omega) HW1_136.out (by omega) HW2_137.out (by omega)).mono ?_)
    rintro e w7 ⟨rfl, hbt⟩
    have HEX_141 := Lib.hid (HEX_129.out.below hbt HEX_129.out.lt)
    have HEL_142 := Lib.hid (HEL_130.out.below hbt HEL_130.out.lt)
    have HEY_143 := Lib.hid (HEY_131.out.below hbt HEY_131.out.lt)
    have HEW_144 := Lib.hid (HEW_126.out.below hbt HEW_126.out.lt)
    clear HEX_129 HEL_130 HEY_131 HEW_126
    have HX1_145 := Lib.hid (HX1_132.out.keep hbt (by omega))
    have HX2_146 := Lib.hid (HX2_133.out.keep hbt (by omega))
    have HY1_147 := Lib.hid (HY1_134.out.keep hbt (by omega))
    have HY2_148 := Lib.hid (HY2_135.out.keep hbt (by omega))
    have HW1_149 := Lib.hid (HW1_136.out.keep hbt (by omega))
    have HW2_150 := Lib.hid (HW2_137.out.keep hbt (by omega))
    have HB_151 := Lib.hid (up HB_138.out hbt)
    have hz_7 := hbt.size
    clear HX1_132 HX2_133 HY1_134 HY2_135 HW1_136 HW2_137 HB_138
    clear hbt
    have a_152 := HEY_143.out.cell 0
    have a_153 := HEY_143.out.cell 1
    have a_154 := HEW_144.out.cell 0
    have a_155 := HEW_144.out.cell 1
    go_wp2_with (fail)
    try clear a_152 a_153 a_154 a_155
    (with_reducible refine (equalPost_same 0 _ m1 cY1 0 _ m2 cY2 0 _ cW1 0 _ cW2 AY1 AY2 AW1 AW2 d1 d2 _ HY1_147.out (by omega) (by omega) HY2_148.out (by omega) (by omega) HW1_149.out (by omega) HW2_150.out (by omega)).mono ?_)
    rintro e w8 ⟨rfl, hbt⟩
    have HEX_156 := Lib.hid (HEX_141.out.below hbt HEX_141.out.lt)
    have HEL_157 := Lib.hid (HEL_142.out.below hbt HEL_142.out.lt)
    have HEY_158 := Lib.hid (HEY_143.out.below hbt HEY_143.out.lt)
    have HEW_159 := Lib.hid (HEW_144.out.below hbt HEW_144.out.lt)
    clear HEX_141 HEL_142 HEY_143 HEW_144
    have HX1_160 := Lib.hid (HX1_145.out.keep hbt (by omega))
    have HX2_161 := Lib.hid (HX2_146.out.keep hbt (by omega))
    have HY1_162 := Lib.hid (HY1_147.out.keep hbt (by omega))
    have HY2_163 := Lib.hid (HY2_148.out.keep hbt (by omega))
    have HW1_164 := Lib.hid (HW1_149.out.keep hbt (by omega))
    have HW2_165 := Lib.hid (HW2_150.out.keep hbt (by omega))
    have HB_166 := Lib.hid (up HB_151.out hbt)
    have hz_8 := hbt.size
    clear HX1_145 HX2_146 HY1_147 HY2_148 HW1_149 HW2_150 HB_151
    clear hbt
    go_wp2
    go_ret
    exact ⟨rfl, HB_166.out⟩
  ·
    obtain ⟨⟨⟨q1, q2⟩, kk, bb⟩, hU2⟩ : ∃ u, waitOf d1 d2 (x, y, z) = u := ⟨_, rfl⟩
    have HT := Lib.hid (wait_twice (ns := d1) (s := (x, y, z)) (q1 := q1) (q2 := q2) (kk := kk) (b := bb) hg ha (by rw [← e2]; exact hU2))
    clear HCS hg hi hv hl ha e1 e2
    obtain ⟨p1, hP1⟩ : ∃ m, q1.length = m := ⟨_, rfl⟩
    obtain ⟨p2, hP2⟩ : ∃ m, q2.length = m := ⟨_, rfl⟩
    have hlen2 := wait_lens d1 d2 (x, y, z)
    rw [hU2] at hlen2
    obtain ⟨hp1, hp2⟩ := hlen2
    dsimp only at hp1 hp2
    rw [hP1] at hp1
    rw [hP2] at hp2
    have HU2 := Lib.hid hU2
    have HP1 := Lib.hid hP1
    have HP2 := Lib.hid hP2
    clear hU2 hP1 hP2
    have HEX_167 := Lib.hid (Blk.new w1 26 #[.slice A1 n1 c1, .slice A2 n2 c2])
    have HEL_168 := Lib.hid (show Blk ((w1.alloc (.cells #[.slice A1 n1 c1, .slice A2 n2 c2] 26)).alloc (.cells #[.int .i64 x, .int .i64 y, .int .i64 z] 42)) (w1.heap.size + 1) 42 #[.int .i64 x, .int .i64 y, .int .i64 z] from by have h := Blk.new ((w1.alloc (.cells #[.slice A1 n1 c1, .slice A2 n2 c2] 26))) 42 #[.int .i64 x, .int .i64 y, .int .i64 z]; rwa [World.size_alloc] at h)
    have HEX_169 := Lib.hid (HEX_167.out.alloc (.cells #[.int .i64 x, .int .i64 y, .int .i64 z] 42))
    clear HEX_167
    have hbt := up_alloc (up_alloc (Below.refl _ w1) (.cells #[.slice A1 n1 c1, .slice A2 n2 c2] 26)) (.cells #[.int .i64 x, .int .i64 y, .int .i64 z] 42)
    have hs_2 : ((w1.alloc (.cells #[.slice A1 n1 c1, .slice A2 n2 c2] 26)).alloc (.cells #[.int .i64 x, .int .i64 y, .int .i64 z] 42)).heap.size = w1.heap.size + 1 + 1 := by simp
    have HX1_170 := Lib.hid (HX1_1.out.keep hbt (by omega))
    have HX2_171 := Lib.hid (HX2_2.out.keep hbt (by omega))
    have HB_172 := Lib.hid (up HB_0.out hbt)
    have hz_2 := hbt.size
    clear HX1_1 HX2_2 HB_0
    clear hbt
    go_wp2_with (fail)
    generalize ((w1.alloc (.cells #[.slice A1 n1 c1, .slice A2 n2 c2] 26)).alloc (.cells #[.int .i64 x, .int .i64 y, .int .i64 z] 42)) = w2 at *
    (with_reducible refine (post_at (WaitLetterI_any 0 _ n1 c1 A1 ns 0 _ n2 c2 A2 fs x y z _ HX1_170.out (by omega) (by omega) HX2_171.out (by omega) (by omega)) (by rw [HU.out]) (by rw [HU.out]) (by rw [HU.out]) HD1.out HD2.out (d1 := d1) (d2 := d2) (v := (.bool true)) (b := true) (m1 := m1) (m2 := m2)).mono ?_)
    rintro e w3 ⟨AY1, cY1, AY2, cY2, rfl, hkY1, hkY2, hr1, hr2, hbt⟩
    have HEX_173 := Lib.hid (HEX_169.out.below hbt HEX_169.out.lt)
    have HEL_174 := Lib.hid (HEL_168.out.below hbt HEL_168.out.lt)
    clear HEX_169 HEL_168
    have HX1_175 := Lib.hid (HX1_170.out.keep hbt (by omega))
    have HX2_176 := Lib.hid (HX2_171.out.keep hbt (by omega))
    have HB_177 := Lib.hid (up HB_172.out hbt)
    have hz_3 := hbt.size
    clear HX1_170 HX2_171 HB_172
    clear hbt
    have HY1_178 := Lib.hid (hr1.wide (Nat.zero_le _) (Nat.le_refl _))
    clear hr1
    have HY2_179 := Lib.hid (hr2.wide (Nat.zero_le _) (Nat.le_refl _))
    clear hr2
    have HEY_180 := Lib.hid (Blk.new w3 26 #[.slice AY1 m1 cY1, .slice AY2 m2 cY2])
    have hbt := up_alloc (Below.refl _ w3) (.cells #[.slice AY1 m1 cY1, .slice AY2 m2 cY2] 26)
    have hs_4 : (w3.alloc (.cells #[.slice AY1 m1 cY1, .slice AY2 m2 cY2] 26)).heap.size = w3.heap.size + 1 := by simp
    have a_181 := HEX_173.out.cell 0
    have a_182 := HEX_173.out.cell 1
    have a_183 := HEL_174.out.cell 0
    have a_184 := HEL_174.out.cell 1
    have a_185 := HEL_174.out.cell 2
    have HEX_186 := Lib.hid (HEX_173.out.below hbt HEX_173.out.lt)
    have HEL_187 := Lib.hid (HEL_174.out.below hbt HEL_174.out.lt)
    clear HEX_173 HEL_174
    have HX1_188 := Lib.hid (HX1_175.out.keep hbt (by omega))
    have HX2_189 := Lib.hid (HX2_176.out.keep hbt (by omega))
    have HY1_190 := Lib.hid (HY1_178.out.keep hbt (by omega))
    have HY2_191 := Lib.hid (HY2_179.out.keep hbt (by omega))
    have HB_192 := Lib.hid (up HB_177.out hbt)
    have hz_4 := hbt.size
    clear HX1_175 HX2_176 HY1_178 HY2_179 HB_177
    clear hbt
    have a_193 := HEX_186.out.cell 0
    have a_194 := HEX_186.out.cell 1
    have a_195 := HEL_187.out.cell 0
    have a_196 := HEL_187.out.cell 1
    have a_197 := HEL_187.out.cell 2
    go_wp2_with (fail)
    try clear a_181 a_182 a_183 a_184 a_185 a_193 a_194 a_195 a_196 a_197
    generalize (w3.alloc (.cells #[.slice AY1 m1 cY1, .slice AY2 m2 cY2] 26)) = w4 at *
    (with_reducible refine (post_at (WaitLetterS_any 0 _ n1 c1 A1 ns 0 _ n2 c2 A2 fs x y z _ HX1_188.out (by omega) (by omega) HX2_189.out (by omega) (by omega) (by omega) (by omega)) (by rw [HU.out]) (by rw [HU.out]) (by rw [HU.out]) HD1.out HD2.out (d1 := d1) (d2 := d2) (v := (.bool true)) (b := true) (m1 := m1) (m2 := m2)).mono ?_)
    rintro e w5 ⟨AW1, cW1, AW2, cW2, rfl, hkW1, hkW2, hr1, hr2, hbt⟩
    have HEX_198 := Lib.hid (HEX_186.out.below hbt HEX_186.out.lt)
    have HEL_199 := Lib.hid (HEL_187.out.below hbt HEL_187.out.lt)
    have HEY_200 := Lib.hid (HEY_180.out.below hbt HEY_180.out.lt)
    clear HEX_186 HEL_187 HEY_180
    have HX1_201 := Lib.hid (HX1_188.out.keep hbt (by omega))
    have HX2_202 := Lib.hid (HX2_189.out.keep hbt (by omega))
    have HY1_203 := Lib.hid (HY1_190.out.keep hbt (by omega))
    have HY2_204 := Lib.hid (HY2_191.out.keep hbt (by omega))
    have HB_205 := Lib.hid (up HB_192.out hbt)
    have hz_5 := hbt.size
    clear HX1_188 HX2_189 HY1_190 HY2_191 HB_192
    clear hbt
    have HW1_206 := Lib.hid (hr1.wide (Nat.zero_le _) (Nat.le_refl _))
    clear hr1
    have HW2_207 := Lib.hid (hr2.wide (Nat.zero_le _) (Nat.le_refl _))
    clear hr2
    have HEW_208 := Lib.hid (Blk.new w5 26 #[.slice AW1 m1 cW1, .slice AW2 m2 cW2])
    have hbt := up_alloc (Below.refl _ w5) (.cells #[.slice AW1 m1 cW1, .slice AW2 m2 cW2] 26)
    have hs_6 : (w5.alloc (.cells #[.slice AW1 m1 cW1, .slice AW2 m2 cW2] 26)).heap.size = w5.heap.size + 1 := by simp
    have a_209 := HEY_200.out.cell 0
    have a_210 := HEY_200.out.cell 1
    have HEX_211 := Lib.hid (HEX_198.out.below hbt HEX_198.out.lt)
    have HEL_212 := Lib.hid (HEL_199.out.below hbt HEL_199.out.lt)
    have HEY_213 := Lib.hid (HEY_200.out.below hbt HEY_200.out.lt)
    clear HEX_198 HEL_199 HEY_200
    have HX1_214 := Lib.hid (HX1_201.out.keep hbt (by omega))
    have HX2_215 := Lib.hid (HX2_202.out.keep hbt (by omega))
    have HY1_216 := Lib.hid (HY1_203.out.keep hbt (by omega))
    have HY2_217 := Lib.hid (HY2_204.out.keep hbt (by omega))
    have HW1_218 := Lib.hid (HW1_206.out.keep hbt (by omega))
    have HW2_219 := Lib.hid (HW2_207.out.keep hbt (by omega))
    have HB_220 := Lib.hid (up HB_205.out hbt)
    have hz_6 := hbt.size
    clear HX1_201 HX2_202 HY1_203 HY2_204 HW1_206 HW2_207 HB_205
    clear hbt
    have a_221 := HEY_213.out.cell 0
    have a_222 := HEY_213.out.cell 1
    go_wp2_with (fail)
    try clear a_209 a_210 a_221 a_222
    generalize (w5.alloc (.cells #[.slice AW1 m1 cW1, .slice AW2 m2 cW2] 26)) = w6 at *
    (with_reducible refine (equalPost_same 0 _ m1 cY1 0 _ m2 cY2 0 _ cW1 0 _ cW2 AY1 AY2 AW1 AW2 d1 d2 _ HY1_216.out (by omega) (by omega) HY2_217.out (by omega) (by omega) HW1_218.out (by omega) HW2_219.out (by omega)).mono ?_)
    rintro e w7 ⟨rfl, hbt⟩
    have HEX_223 := Lib.hid (HEX_211.out.below hbt HEX_211.out.lt)
    have HEL_224 := Lib.hid (HEL_212.out.below hbt HEL_212.out.lt)
    have HEY_225 := Lib.hid (HEY_213.out.below hbt HEY_213.out.lt)
    have HEW_226 := Lib.hid (HEW_208.out.below hbt HEW_208.out.lt)
    clear HEX_211 HEL_212 HEY_213 HEW_208
    have HX1_227 := Lib.hid (HX1_214.out.keep hbt (by omega))
    have HX2_228 := Lib.hid (HX2_215.out.keep hbt (by omega))
    have HY1_229 := Lib.hid (HY1_216.out.keep hbt (by omega))
    have HY2_230 := Lib.hid (HY2_217.out.keep hbt (by omega))
    have HW1_231 := Lib.hid (HW1_218.out.keep hbt (by omega))
    have HW2_232 := Lib.hid (HW2_219.out.keep hbt (by omega))
    have HB_233 := Lib.hid (up HB_220.out hbt)
    have hz_7 := hbt.size
    clear HX1_214 HX2_215 HY1_216 HY2_217 HW1_218 HW2_219 HB_220
    clear hbt
    have a_234 := HEY_225.out.cell 0
    have a_235 := HEY_225.out.cell 1
    have a_236 := HEW_226.out.cell 0
    have a_237 := HEW_226.out.cell 1
    go_wp2
    try clear a_234 a_235 a_236 a_237
    clear HW1_231
    clear HW2_232
    clear HEW_226
    go_loopw [11, 12] (fun nv iv wr => ∃ (k h : Nat), k ≤ n2 ∧ h ≤ k ∧ Hid (hits adL (fs.take k) (y, z) = h) ∧ nv = .int .i64 h ∧ iv = .int .i64 k ∧ Hid (Below w7.heap.size w7 wr))
       (fun _ iv _ => n2 - (intOf iv).toNat)
    case atStart => exact ⟨0, 0, by omega, by omega, Lib.hid rfl, rfl, rfl, Below.refl _ _⟩
    case round =>
      obtain ⟨w8, HWR⟩ : ∃ x : World, x = wr := ⟨_, rfl⟩
      subst HWR
      obtain ⟨i, h, hi, hh, HH, rfl, rfl, HLP⟩ := hrel
      have hlb := HLP.out
      have HEX_238 := Lib.hid (HEX_223.out.below hlb HEX_223.out.lt)
      have HEL_239 := Lib.hid (HEL_224.out.below hlb HEL_224.out.lt)
      have HEY_240 := Lib.hid (HEY_225.out.below hlb HEY_225.out.lt)
      clear HEX_223 HEL_224 HEY_225
      have HX1_241 := Lib.hid (HX1_227.out.keep hlb (by omega))
      have HX2_242 := Lib.hid (HX2_228.out.keep hlb (by omega))
      have HY1_243 := Lib.hid (HY1_229.out.keep hlb (by omega))
      have HY2_244 := Lib.hid (HY2_230.out.keep hlb (by omega))
      have HB_245 := Lib.hid (up HB_233.out hlb)
      have hz_8 := hlb.size
      clear HX1_227 HX2_228 HY1_229 HY2_230 HB_233
      clear hlb
      have hi0 : (0 : Int) ≤ (i : Int) := by omega
      by_cases hlt : i < n2
      case neg =>
        have hge : (n2 : Int) ≤ (i : Int) := by omega
        have HHF := Lib.hid (show hits adL fs (adS (x, y, z)) = h from by rw [← HH.out, List.take_of_length_le (by rw [HL2.out]; omega)]; rfl)
        rcases HT.out with rfl | ⟨rfl, hkd⟩
        ·
          clear HT
          have a_246 := HEX_238.out.cell 0
          have a_247 := HEX_238.out.cell 1
          have a_248 := HEY_240.out.cell 0
          have a_249 := HEY_240.out.cell 1
          have a_250 := HEL_239.out.cell 0
          have a_251 := HEL_239.out.cell 1
          have a_252 := HEL_239.out.cell 2
          go_wp2_with (fail)
          try clear a_246 a_247 a_248 a_249 a_250 a_251 a_252
          (with_reducible refine (post_at (WaitLetterI_any 0 _ m1 cY1 AY1 d1 0 _ m2 cY2 AY2 d2 x y z _ HY1_243.out (by omega) (by omega) HY2_244.out (by omega) (by omega)) (by rw [HU2.out]) (by rw [HU2.out]) (by rw [HU2.out]) HP1.out HP2.out (d1 := q1) (d2 := q2) (v := (.bool kk)) (b := false) (m1 := p1) (m2 := p2)).mono ?_)
          rintro e w9 ⟨AQ1, cQ1, AQ2, cQ2, rfl, hkQ1, hkQ2, hr1, hr2, hbt⟩
          have HEX_253 := Lib.hid (HEX_238.out.below hbt HEX_238.out.lt)
          have HEL_254 := Lib.hid (HEL_239.out.below hbt HEL_239.out.lt)
          have HEY_255 := Lib.hid (HEY_240.out.below hbt HEY_240.out.lt)
          clear HEX_238 HEL_239 HEY_240
          have HX1_256 := Lib.hid (HX1_241.out.keep hbt (by omega))
          have HX2_257 := Lib.hid (HX2_242.out.keep hbt (by omega))
          have HY1_258 := Lib.hid (HY1_243.out.keep hbt (by omega))
          have HY2_259 := Lib.hid (HY2_244.out.keep hbt (by omega))
          have HB_260 := Lib.hid (up HB_245.out hbt)
          have hz_9 := hbt.size
          have HP_261 := Lib.hid (up HLP.out hbt)
          clear HX1_241 HX2_242 HY1_243 HY2_244 HB_245 HLP
          clear hbt
          have HQ1_262 := Lib.hid (hr1.wide (Nat.zero_le _) (Nat.le_refl _))
          clear hr1
          have HQ2_263 := Lib.hid (hr2.wide (Nat.zero_le _) (Nat.le_refl _))
          clear hr2
          have HBQ := Lib.hid (up_alloc (Below.refl _ w9) (.cells #[.slice AQ1 p1 cQ1, .slice AQ2 p2 cQ2] 26))
          go_wp2
          go_ret
          exact ⟨rfl, up HB_260.out HBQ.out⟩
        ·
          rw [HHF.out] at hkd
          clear HT
          by_cases h1 : 1 < h
          case pos =>
            rw [decide_eq_true h1] at hkd
            subst hkd
            have hq : decide ((1 : Int) < (h : Int)) = true := decide_eq_true (by omega)
            have a_264 := HEX_238.out.cell 0
            have a_265 := HEX_238.out.cell 1
            have a_266 := HEY_240.out.cell 0
            have a_267 := HEY_240.out.cell 1
            have a_268 := HEL_239.out.cell 0
            have a_269 := HEL_239.out.cell 1
            have a_270 := HEL_239.out.cell 2
            go_wp2_with (fail)
            try clear a_264 a_265 a_266 a_267 a_268 a_269 a_270
            (with_reducible refine (post_at (WaitLetterI_any 0 _ m1 cY1 AY1 d1 0 _ m2 cY2 AY2 d2 x y z _ HY1_243.out (by omega) (by omega) HY2_244.out (by omega) (by omega)) (by rw [HU2.out]) (by rw [HU2.out]) (by rw [HU2.out]) HP1.out HP2.out (d1 := q1) (d2 := q2) (v := (.bool true)) (b := true) (m1 := p1) (m2 := p2)).mono ?_)
            rintro e w9 ⟨AQ1, cQ1, AQ2, cQ2, rfl, hkQ1, hkQ2, hr1, hr2, hbt⟩
            have HEX_271 := Lib.hid (HEX_238.out.below hbt HEX_238.out.lt)
            have HEL_272 := Lib.hid (HEL_239.out.below hbt HEL_239.out.lt)
            have HEY_273 := Lib.hid (HEY_240.out.below hbt HEY_240.out.lt)
            clear HEX_238 HEL_239 HEY_240
            have HX1_274 := Lib.hid (HX1_241.out.keep hbt (by omega))
            have HX2_275 := Lib.hid (HX2_242.out.keep hbt (by omega))
            have HY1_276 := Lib.hid (HY1_243.out.keep hbt (by omega))
            have HY2_277 := Lib.hid (HY2_244.out.keep hbt (by omega))
            have HB_278 := Lib.hid (up HB_245.out hbt)
            have hz_9 := hbt.size
            have HP_279 := Lib.hid (up HLP.out hbt)
            clear HX1_241 HX2_242 HY1_243 HY2_244 HB_245 HLP
            clear hbt
            have HQ1_280 := Lib.hid (hr1.wide (Nat.zero_le _) (Nat.le_refl _))
            clear hr1
            have HQ2_281 := Lib.hid (hr2.wide (Nat.zero_le _) (Nat.le_refl _))
            clear hr2
            have HBQ := Lib.hid (up_alloc (Below.refl _ w9) (.cells #[.slice AQ1 p1 cQ1, .slice AQ2 p2 cQ2] 26))
            go_wp2
            go_ret
            exact ⟨rfl, up HB_278.out HBQ.out⟩
          case neg =>
            rw [decide_eq_false h1] at hkd
            subst hkd
            have hq : decide ((1 : Int) < (h : Int)) = false := decide_eq_false (by omega)
            have a_282 := HEX_238.out.cell 0
            have a_283 := HEX_238.out.cell 1
            have a_284 := HEY_240.out.cell 0
            have a_285 := HEY_240.out.cell 1
            have a_286 := HEL_239.out.cell 0
            have a_287 := HEL_239.out.cell 1
            have a_288 := HEL_239.out.cell 2
            go_wp2_with (fail)
            try clear a_282 a_283 a_284 a_285 a_286 a_287 a_288
            (with_reducible refine (post_at (WaitLetterI_any 0 _ m1 cY1 AY1 d1 0 _ m2 cY2 AY2 d2 x y z _ HY1_243.out (by omega) (by omega) HY2_244.out (by omega) (by omega)) (by rw [HU2.out]) (by rw [HU2.out]) (by rw [HU2.out]) HP1.out HP2.out (d1 := q1) (d2 := q2) (v := (.bool false)) (b := true) (m1 := p1) (m2 := p2)).mono ?_)
            rintro e w9 ⟨AQ1, cQ1, AQ2, cQ2, rfl, hkQ1, hkQ2, hr1, hr2, hbt⟩
            have HEX_289 := Lib.hid (HEX_238.out.below hbt HEX_238.out.lt)
            have HEL_290 := Lib.hid (HEL_239.out.below hbt HEL_239.out.lt)
            have HEY_291 := Lib.hid (HEY_240.out.below hbt HEY_240.out.lt)
            clear HEX_238 HEL_239 HEY_240
            have HX1_292 := Lib.hid (HX1_241.out.keep hbt (by omega))
            have HX2_293 := Lib.hid (HX2_242.out.keep hbt (by omega))
            have HY1_294 := Lib.hid (HY1_243.out.keep hbt (by omega))
            have HY2_295 := Lib.hid (HY2_244.out.keep hbt (by omega))
            have HB_296 := Lib.hid (up HB_245.out hbt)
            have hz_9 := hbt.size
            have HP_297 := Lib.hid (up HLP.out hbt)
            clear HX1_241 HX2_242 HY1_243 HY2_244 HB_245 HLP
            clear hbt
            have HQ1_298 := Lib.hid (hr1.wide (Nat.zero_le _) (Nat.le_refl _))
            clear hr1
            have HQ2_299 := Lib.hid (hr2.wide (Nat.zero_le _) (Nat.le_refl _))
            clear hr2
            have HBQ := Lib.hid (up_alloc (Below.refl _ w9) (.cells #[.slice AQ1 p1 cQ1, .slice AQ2 p2 cQ2] 26))
            go_wp2
            go_ret
            exact ⟨rfl, up HB_296.out HBQ.out⟩
      have him : (i : Int) < (n2 : Int) := by omega
      obtain ⟨b, off, u, v, o, hAe, hbB, _, hg, hc0, hc1', hc2'⟩ := HX2_242.out.trip (k := i) hlt
      have HG := Lib.hid hg
      clear hg
      subst hAe
      by_cases heu : u = y
      case neg =>
        have hb : (u == y) = false := by simpa using heu
        have HN2 := Lib.hid ((hits_no HG.out (fun e => heu (by simp only [adL, Prod.mk.injEq] at e; exact e.1))).trans HH.out)
        have a_300 := HEX_238.out.cell 0
        have a_301 := HEX_238.out.cell 1
        have a_302 := HEL_239.out.cell 0
        have a_303 := HEL_239.out.cell 1
        have a_304 := HEL_239.out.cell 2
        go_wp2_with (fail)
        go_quiet (fail)
        go_wp2
        go_roundw
        case rel => exact ⟨i + 1, h, by omega, by omega, HN2, rfl, by go_num, up_drewN HLP.out _⟩
        case measure => simp [intOf]; omega
      subst heu
      by_cases hev : v = z
      case neg =>
        have hb : (v == z) = false := by simpa using hev
        have HN2 := Lib.hid ((hits_no HG.out (fun e => hev (by simp only [adL, Prod.mk.injEq] at e; exact e.2))).trans HH.out)
        have a_305 := HEX_238.out.cell 0
        have a_306 := HEX_238.out.cell 1
        have a_307 := HEL_239.out.cell 0
        have a_308 := HEL_239.out.cell 1
        have a_309 := HEL_239.out.cell 2
        go_wp2_with (fail)
        go_quiet (fail)
        go_wp2
        go_roundw
        case rel => exact ⟨i + 1, h, by omega, by omega, HN2, rfl, by go_num, up_drewN HLP.out _⟩
        case measure => simp [intOf]; omega
      subst hev
      have HN2 := Lib.hid ((hits_yes HG.out (a := (u, v)) rfl).trans (congrArg (· + 1) HH.out))
      have a_310 := HEX_238.out.cell 0
      have a_311 := HEX_238.out.cell 1
      have a_312 := HEL_239.out.cell 0
      have a_313 := HEL_239.out.cell 1
      have a_314 := HEL_239.out.cell 2
      go_wp2_with (fail)
      go_quiet (fail)
      go_wp2
      go_roundw
      case rel => exact ⟨i + 1, h + 1, by omega, by omega, HN2, by go_num, by go_num, up_drewN HLP.out _⟩
      case measure => simp [intOf]; omega
end Go.Proofs.Ytgnffodnimafoaa
