/- The law FnWaitLetterFirst, walked: it returns true. (Written by a program over gen/lawlib.py.) -/
import Derived.Test.YtgnffodnimafoaaDrawT3
import Derived.Test.YtgnffodnimafoaaSendI
import Derived.Test.YtgnffodnimafoaaDropI
import Derived.Test.YtgnffodnimafoaaEqPost
import Derived.Test.YtgnffodnimafoaaLawPostM
import Derived.Test.YtgnffodnimafoaaLawPostN
import Derived.Test.YtgnffodnimafoaaPostO
import Derived.BigQuiet
import Derived.Deep.RegionLaw
import Derived.Test.YtgnffodnimafoaaLawPostP
set_option linter.unusedSimpArgs false
set_option linter.unusedVariables false
namespace Go.Proofs.Ytgnffodnimafoaa
open Go.RowKit

set_option maxRecDepth 100000 in
set_option maxHeartbeats 6400000 in
theorem lawWaitLetterFirst_any (n c : Nat) (A : Option Addr) (xs : List Int) (w : World) (hr : Rd w 0 w.heap.size 1 A n (bvs xs)) (hby : Bytes xs) (hc : n ≤ c) (hc2 : c ≤ 9223372036854775807) :
    Calls Try.prog 10 #[.slice A n c] w fun e w' => e = .returned (.bool true) ∧ Below w.heap.size w w' := by
  by_cases hbig : (1048576 : Int) < n
  · go_enter Try.func10, Try.ntmps10
    go_wp2
    go_ret
    exact ⟨rfl, Below.refl _ _⟩
  go_enter Try.func10, Try.ntmps10
  go_wp2_with (fail)
  (with_reducible refine (drawWaitLetter_any n c A xs w hr hby (by omega) hc hc2).mono ?_)
  rintro e w1 ⟨A1, n1, c1, A2, n2, c2, ns, fs, x, y, z, rfl, hoff⟩
  clear hbig hr
  obtain ⟨hn1, hn2, hk1, hk2, hrd1, hrd2, hb1⟩ := hoff
  have HB_0 := Lib.hid hb1
  have hz_1 := hb1.size
  clear hb1
  have HL1 := Lib.hid hrd1.len3
  have HL2 := Lib.hid hrd2.len3
  have HX1_1 := Lib.hid (hrd1.wide (Nat.zero_le _) (Nat.le_refl _))
  clear hrd1
  have HX2_2 := Lib.hid (hrd2.wide (Nat.zero_le _) (Nat.le_refl _))
  clear hrd2
  obtain ⟨⟨⟨d1, d2⟩, k, b⟩, hU⟩ : ∃ u, waitOf ns fs (x, y, z) = u := ⟨_, rfl⟩
  have hlen := wait_lens ns fs (x, y, z)
  rw [hU] at hlen
  obtain ⟨hm1, hm2⟩ := hlen
  dsimp only at hm1 hm2
  have HU := Lib.hid hU
  have HCS := Lib.hid (wait_cases hU)
  clear hU
  obtain ⟨m1, hD1⟩ : ∃ m, d1.length = m := ⟨_, rfl⟩
  obtain ⟨m2, hD2⟩ : ∃ m, d2.length = m := ⟨_, rfl⟩
  rw [hD1] at hm1
  rw [hD2] at hm2
  have HD1 := Lib.hid hD1
  have HD2 := Lib.hid hD2
  clear hD1 hD2
  have hkk : (k != k) = false := by simp
  have hke : (k == k) = true := by simp
  rcases HCS.out with rfl | ⟨rfl, rfl, e1, e2, hv, hl, hno⟩ | ⟨rfl, rfl, i, t, hg, hi, e1, e2, hv, hl, ha⟩
  ·
    clear HCS
    have HEX_3 := Lib.hid (Blk.new w1 26 #[.slice A1 n1 c1, .slice A2 n2 c2])
    have HEL_4 := Lib.hid (show Blk ((w1.alloc (.cells #[.slice A1 n1 c1, .slice A2 n2 c2] 26)).alloc (.cells #[.int .i64 x, .int .i64 y, .int .i64 z] 42)) (w1.heap.size + 1) 42 #[.int .i64 x, .int .i64 y, .int .i64 z] from by have h := Blk.new ((w1.alloc (.cells #[.slice A1 n1 c1, .slice A2 n2 c2] 26))) 42 #[.int .i64 x, .int .i64 y, .int .i64 z]; rwa [World.size_alloc] at h)
    have HEX_5 := Lib.hid (HEX_3.out.alloc (.cells #[.int .i64 x, .int .i64 y, .int .i64 z] 42))
    clear HEX_3
    have hbt := up_alloc (up_alloc (Below.refl _ w1) (.cells #[.slice A1 n1 c1, .slice A2 n2 c2] 26)) (.cells #[.int .i64 x, .int .i64 y, .int .i64 z] 42)
    have hs_2 : ((w1.alloc (.cells #[.slice A1 n1 c1, .slice A2 n2 c2] 26)).alloc (.cells #[.int .i64 x, .int .i64 y, .int .i64 z] 42)).heap.size = w1.heap.size + 1 + 1 := by simp
    have HX1_6 := Lib.hid (HX1_1.out.keep hbt (by omega))
    have HX2_7 := Lib.hid (HX2_2.out.keep hbt (by omega))
    have HB_8 := Lib.hid (up HB_0.out hbt)
    have hz_2 := hbt.size
    clear HX1_1 HX2_2 HB_0
    clear hbt
    go_wp2_with (fail)
    generalize ((w1.alloc (.cells #[.slice A1 n1 c1, .slice A2 n2 c2] 26)).alloc (.cells #[.int .i64 x, .int .i64 y, .int .i64 z] 42)) = w2 at *
    (with_reducible refine (post_at (WaitLetterI_any 0 _ n1 c1 A1 ns 0 _ n2 c2 A2 fs x y z _ HX1_6.out (by omega) (by omega) HX2_7.out (by omega) (by omega)) (by rw [HU.out]) (by rw [HU.out]) (by rw [HU.out]) HD1.out HD2.out (d1 := d1) (d2 := d2) (v := (.bool k)) (b := false) (m1 := m1) (m2 := m2)).mono ?_)
    rintro e w3 ⟨AY1, cY1, AY2, cY2, rfl, hkY1, hkY2, hr1, hr2, hbt⟩
    have HEX_9 := Lib.hid (HEX_5.out.below hbt HEX_5.out.lt)
    have HEL_10 := Lib.hid (HEL_4.out.below hbt HEL_4.out.lt)
    clear HEX_5 HEL_4
    have HX1_11 := Lib.hid (HX1_6.out.keep hbt (by omega))
    have HX2_12 := Lib.hid (HX2_7.out.keep hbt (by omega))
    have HB_13 := Lib.hid (up HB_8.out hbt)
    have hz_3 := hbt.size
    clear HX1_6 HX2_7 HB_8
    clear hbt
    have HY1_14 := Lib.hid (hr1.wide (Nat.zero_le _) (Nat.le_refl _))
    clear hr1
    have HY2_15 := Lib.hid (hr2.wide (Nat.zero_le _) (Nat.le_refl _))
    clear hr2
    have HEY_16 := Lib.hid (Blk.new w3 26 #[.slice AY1 m1 cY1, .slice AY2 m2 cY2])
    have hbt := up_alloc (Below.refl _ w3) (.cells #[.slice AY1 m1 cY1, .slice AY2 m2 cY2] 26)
    have hs_4 : (w3.alloc (.cells #[.slice AY1 m1 cY1, .slice AY2 m2 cY2] 26)).heap.size = w3.heap.size + 1 := by simp
    have a_17 := HEX_9.out.cell 0
    have a_18 := HEX_9.out.cell 1
    have a_19 := HEL_10.out.cell 0
    have a_20 := HEL_10.out.cell 1
    have a_21 := HEL_10.out.cell 2
    have HEX_22 := Lib.hid (HEX_9.out.below hbt HEX_9.out.lt)
    have HEL_23 := Lib.hid (HEL_10.out.below hbt HEL_10.out.lt)
    clear HEX_9 HEL_10
    have HX1_24 := Lib.hid (HX1_11.out.keep hbt (by omega))
    have HX2_25 := Lib.hid (HX2_12.out.keep hbt (by omega))
    have HY1_26 := Lib.hid (HY1_14.out.keep hbt (by omega))
    have HY2_27 := Lib.hid (HY2_15.out.keep hbt (by omega))
    have HB_28 := Lib.hid (up HB_13.out hbt)
    have hz_4 := hbt.size
    clear HX1_11 HX2_12 HY1_14 HY2_15 HB_13
    clear hbt
    have a_29 := HEX_22.out.cell 0
    have a_30 := HEX_22.out.cell 1
    have a_31 := HEL_23.out.cell 0
    have a_32 := HEL_23.out.cell 1
    have a_33 := HEL_23.out.cell 2
    go_wp2_with (fail)
    try clear a_17 a_18 a_19 a_20 a_21 a_29 a_30 a_31 a_32 a_33
    generalize (w3.alloc (.cells #[.slice AY1 m1 cY1, .slice AY2 m2 cY2] 26)) = w4 at *
    (with_reducible refine (post_at (WaitLetterS_any 0 _ n1 c1 A1 ns 0 _ n2 c2 A2 fs x y z _ HX1_24.out (by omega) (by omega) HX2_25.out (by omega) (by omega) (by omega) (by omega)) (by rw [HU.out]) (by rw [HU.out]) (by rw [HU.out]) HD1.out HD2.out (d1 := d1) (d2 := d2) (v := (.bool k)) (b := false) (m1 := m1) (m2 := m2)).mono ?_)
    rintro e w5 ⟨AW1, cW1, AW2, cW2, rfl, hkW1, hkW2, hr1, hr2, hbt⟩
    have HEX_34 := Lib.hid (HEX_22.out.below hbt HEX_22.out.lt)
    have HEL_35 := Lib.hid (HEL_23.out.below hbt HEL_23.out.lt)
    have HEY_36 := Lib.hid (HEY_16.out.below hbt HEY_16.out.lt)
    clear HEX_22 HEL_23 HEY_16
    have HX1_37 := Lib.hid (HX1_24.out.keep hbt (by omega))
    have HX2_38 := Lib.hid (HX2_25.out.keep hbt (by omega))
    have HY1_39 := Lib.hid (HY1_26.out.keep hbt (by omega))
    have HY2_40 := Lib.hid (HY2_27.out.keep hbt (by omega))
    have HB_41 := Lib.hid (up HB_28.out hbt)
    have hz_5 := hbt.size
    clear HX1_24 HX2_25 HY1_26 HY2_27 HB_28
    clear hbt
    have HW1_42 := Lib.hid (hr1.wide (Nat.zero_le _) (Nat.le_refl _))
    clear hr1
    have HW2_43 := Lib.hid (hr2.wide (Nat.zero_le _) (Nat.le_refl _))
    clear hr2
    have HEW_44 := Lib.hid (Blk.new w5 26 #[.slice AW1 m1 cW1, .slice AW2 m2 cW2])
    have hbt := up_alloc (Below.refl _ w5) (.cells #[.slice AW1 m1 cW1, .slice AW2 m2 cW2] 26)
    have hs_6 : (w5.alloc (.cells #[.slice AW1 m1 cW1, .slice AW2 m2 cW2] 26)).heap.size = w5.heap.size + 1 := by simp
    have a_45 := HEY_36.out.cell 0
    have a_46 := HEY_36.out.cell 1
    have HEX_47 := Lib.hid (HEX_34.out.below hbt HEX_34.out.lt)
    have HEL_48 := Lib.hid (HEL_35.out.below hbt HEL_35.out.lt)
    have HEY_49 := Lib.hid (HEY_36.out.below hbt HEY_36.out.lt)
    clear HEX_34 HEL_35 HEY_36
    have HX1_50 := Lib.hid (HX1_37.out.keep hbt (by omega))
    have HX2_51 := Lib.hid (HX2_38.out.keep hbt (by omega))
    have HY1_52 := Lib.hid (HY1_39.out.keep hbt (by omega))
    have HY2_53 := Lib.hid (HY2_40.out.keep hbt (by omega))
    have HW1_54 := Lib.hid (HW1_42.out.keep hbt (by omega))
    have HW2_55 := Lib.hid (HW2_43.out.keep hbt (by omega))
    have HB_56 := Lib.hid (up HB_41.out hbt)
    have hz_6 := hbt.size
    clear HX1_37 HX2_38 HY1_39 HY2_40 HW1_42 HW2_43 HB_41
    clear hbt
    have a_57 := HEY_49.out.cell 0
    have a_58 := HEY_49.out.cell 1
    go_wp2_with (fail)
    try clear a_45 a_46 a_57 a_58
    generalize (w5.alloc (.cells #[.slice AW1 m1 cW1, .slice AW2 m2 cW2] 26)) = w6 at *
    (with_reducible refine (equalPost_same 0 _ m1 cY1 0 _ m2 cY2 0 _ cW1 0 _ cW2 AY1 AY2 AW1 AW2 d1 d2 _ HY1_52.out (by omega) (by omega) HY2_53.out (by omega) (by omega) HW1_54.out (by omega) HW2_55.out (by omega)).mono ?_)
    rintro e w7 ⟨rfl, hbt⟩
    have HEX_59 := Lib.hid (HEX_47.out.below hbt HEX_47.out.lt)
    have HEL_60 := Lib.hid (HEL_48.out.below hbt HEL_48.out.lt)
    have HEY_61 := Lib.hid (HEY_49.out.below hbt HEY_49.out.lt)
    have HEW_62 := Lib.hid (HEW_44.out.below hbt HEW_44.out.lt)
    clear HEX_47 HEL_48 HEY_49 HEW_44
    have HX1_63 := Lib.hid (HX1_50.out.keep hbt (by omega))
    have HX2_64 := Lib.hid (HX2_51.out.keep hbt (by omega))
    have HY1_65 := Lib.hid (HY1_52.out.keep hbt (by omega))
    have HY2_66 := Lib.hid (HY2_53.out.keep hbt (by omega))
    have HW1_67 := Lib.hid (HW1_54.out.keep hbt (by omega))
    have HW2_68 := Lib.hid (HW2_55.out.keep hbt (by omega))
    have HB_69 := Lib.hid (up HB_56.out hbt)
    have hz_7 := hbt.size
    clear HX1_50 HX2_51 HY1_52 HY2_53 HW1_54 HW2_55 HB_56
    clear hbt
    have a_70 := HEY_61.out.cell 0
    have a_71 := HEY_61.out.cell 1
    have a_72 := HEW_62.out.cell 0
    have a_73 := HEW_62.out.cell 1
    go_wp2_with (fail)
    try clear a_70 a_71 a_72 a_73
    (with_reducible refine (equalPost_same 0 _ m1 cY1 0 _ m2 cY2 0 _ cW1 0 _ cW2 AY1 AY2 AW1 AW2 d1 d2 _ HY1_65.out (by omega) (by omega) HY2_66.out (by omega) (by omega) HW1_67.out (by omega) HW2_68.out (by omega)).mono ?_)
    rintro e w8 ⟨rfl, hbt⟩
    have HEX_74 := Lib.hid (HEX_59.out.below hbt HEX_59.out.lt)
    have HEL_75 := Lib.hid (HEL_60.out.below hbt HEL_60.out.lt)
    have HEY_76 := Lib.hid (HEY_61.out.below hbt HEY_61.out.lt)
    have HEW_77 := Lib.hid (HEW_62.out.below hbt HEW_62.out.lt)
    clear HEX_59 HEL_60 HEY_61 HEW_62
    have HX1_78 := Lib.hid (HX1_63.out.keep hbt (by omega))
    have HX2_79 := Lib.hid (HX2_64.out.keep hbt (by omega))
    have HY1_80 := Lib.hid (HY1_65.out.keep hbt (by omega))
    have HY2_81 := Lib.hid (HY2_66.out.keep hbt (by omega))
    have HW1_82 := Lib.hid (HW1_67.out.keep hbt (by omega))
    have HW2_83 := Lib.hid (HW2_68.out.keep hbt (by omega))
    have HB_84 := Lib.hid (up HB_69.out hbt)
    have hz_8 := hbt.size
    clear HX1_63 HX2_64 HY1_65 HY2_66 HW1_67 HW2_68 HB_69
    clear hbt
    go_wp2
    go_ret
    exact ⟨rfl, HB_84.out⟩
  ·
    replace e2 := e2.symm
    subst e1 e2
    obtain ⟨q1, q2, hU2⟩ := send_behind (u := 5) hv (by omega)
    obtain ⟨F0, HF0⟩ : ∃ F0, Hid (frontO (ns ++ [(x, y, z)]) (x, y, z) = F0) := ⟨_, rfl⟩
    rw [HF0.out] at hU2
    have HST := Lib.hid (front_start (x, y, z) ns HL1.out)
    clear HCS hv hl hno
    have hee : (F0 == F0) = true := by simp
    obtain ⟨p1, hP1⟩ : ∃ m, q1.length = m := ⟨_, rfl⟩
    obtain ⟨p2, hP2⟩ : ∃ m, q2.length = m := ⟨_, rfl⟩
    have hlen2 := send_lens (ns ++ [(x, y, z)]) fs (y, z, 5)
    rw [hU2] at hlen2
    obtain ⟨hp1, hp2⟩ := hlen2
    dsimp only at hp1 hp2
    rw [hP1] at hp1
    rw [hP2] at hp2
    have HU2 := Lib.hid hU2
    have HP1 := Lib.hid hP1
    have HP2 := Lib.hid hP2
    clear hU2 hP1 hP2
    have HEX_85 := Lib.hid (Blk.new w1 26 #[.slice A1 n1 c1, .slice A2 n2 c2])
    have HEL_86 := Lib.hid (show Blk ((w1.alloc (.cells #[.slice A1 n1 c1, .slice A2 n2 c2] 26)).alloc (.cells #[.int .i64 x, .int .i64 y, .int .i64 z] 42)) (w1.heap.size + 1) 42 #[.int .i64 x, .int .i64 y, .int .i64 z] from by have h := Blk.new ((w1.alloc (.cells #[.slice A1 n1 c1, .slice A2 n2 c2] 26))) 42 #[.int .i64 x, .int .i64 y, .int .i64 z]; rwa [World.size_alloc] at h)
    have HEX_87 := Lib.hid (HEX_85.out.alloc (.cells #[.int .i64 x, .int .i64 y, .int .i64 z] 42))
    clear HEX_85
    have hbt := up_alloc (up_alloc (Below.refl _ w1) (.cells #[.slice A1 n1 c1, .slice A2 n2 c2] 26)) (.cells #[.int .i64 x, .int .i64 y, .int .i64 z] 42)
    have hs_2 : ((w1.alloc (.cells #[.slice A1 n1 c1, .slice A2 n2 c2] 26)).alloc (.cells #[.int .i64 x, .int .i64 y, .int .i64 z] 42)).heap.size = w1.heap.size + 1 + 1 := by simp
    have HX1_88 := Lib.hid (HX1_1.out.keep hbt (by omega))
    have HX2_89 := Lib.hid (HX2_2.out.keep hbt (by omega))
    have HB_90 := Lib.hid (up HB_0.out hbt)
    have hz_2 := hbt.size
    clear HX1_1 HX2_2 HB_0
    clear hbt
    go_wp2_with (fail)
    generalize ((w1.alloc (.cells #[.slice A1 n1 c1, .slice A2 n2 c2] 26)).alloc (.cells #[.int .i64 x, .int .i64 y, .int .i64 z] 42)) = w2 at *
    (with_reducible refine (post_at (WaitLetterI_any 0 _ n1 c1 A1 ns 0 _ n2 c2 A2 fs x y z _ HX1_88.out (by omega) (by omega) HX2_89.out (by omega) (by omega)) (by rw [HU.out]) (by rw [HU.out]) (by rw [HU.out]) HD1.out HD2.out (d1 := (ns ++ [(x, y, z)])) (d2 := fs) (v := (.bool false)) (b := true) (m1 := m1) (m2 := m2)).mono ?_)
    rintro e w3 ⟨AY1, cY1, AY2, cY2, rfl, hkY1, hkY2, hr1, hr2, hbt⟩
    have HEX_91 := Lib.hid (HEX_87.out.below hbt HEX_87.out.lt)
    have HEL_92 := Lib.hid (HEL_86.out.below hbt HEL_86.out.lt)
    clear HEX_87 HEL_86
    have HX1_93 := Lib.hid (HX1_88.out.keep hbt (by omega))
    have HX2_94 := Lib.hid (HX2_89.out.keep hbt (by omega))
    have HB_95 := Lib.hid (up HB_90.out hbt)
    have hz_3 := hbt.size
    clear HX1_88 HX2_89 HB_90
    clear hbt
    have HY1_96 := Lib.hid (hr1.wide (Nat.zero_le _) (Nat.le_refl _))
    clear hr1
    have HY2_97 := Lib.hid (hr2.wide (Nat.zero_le _) (Nat.le_refl _))
    clear hr2
    have HEY_98 := Lib.hid (Blk.new w3 26 #[.slice AY1 m1 cY1, .slice AY2 m2 cY2])
    have hbt := up_alloc (Below.refl _ w3) (.cells #[.slice AY1 m1 cY1, .slice AY2 m2 cY2] 26)
    have hs_4 : (w3.alloc (.cells #[.slice AY1 m1 cY1, .slice AY2 m2 cY2] 26)).heap.size = w3.heap.size + 1 := by simp
    have a_99 := HEX_91.out.cell 0
    have a_100 := HEX_91.out.cell 1
    have a_101 := HEL_92.out.cell 0
    have a_102 := HEL_92.out.cell 1
    have a_103 := HEL_92.out.cell 2
    have HEX_104 := Lib.hid (HEX_91.out.below hbt HEX_91.out.lt)
    have HEL_105 := Lib.hid (HEL_92.out.below hbt HEL_92.out.lt)
    clear HEX_91 HEL_92
    have HX1_106 := Lib.hid (HX1_93.out.keep hbt (by omega))
    have HX2_107 := Lib.hid (HX2_94.out.keep hbt (by omega))
    have HY1_108 := Lib.hid (HY1_96.out.keep hbt (by omega))
    have HY2_109 := Lib.hid (HY2_97.out.keep hbt (by omega))
    have HB_110 := Lib.hid (up HB_95.out hbt)
    have hz_4 := hbt.size
    clear HX1_93 HX2_94 HY1_96 HY2_97 HB_95
    clear hbt
    have a_111 := HEX_104.out.cell 0
    have a_112 := HEX_104.out.cell 1
    have a_113 := HEL_105.out.cell 0
    have a_114 := HEL_105.out.cell 1
    have a_115 := HEL_105.out.cell 2
    go_wp2_with (fail)
    try clear a_99 a_100 a_101 a_102 a_103 a_111 a_112 a_113 a_114 a_115
    generalize (w3.alloc (.cells #[.slice AY1 m1 cY1, .slice AY2 m2 cY2] 26)) = w4 at *
    (with_reducible refine (post_at (WaitLetterS_any 0 _ n1 c1 A1 ns 0 _ n2 c2 A2 fs x y z _ HX1_106.out (by omega) (by omega) HX2_107.out (by omega) (by omega) (by omega) (by omega)) (by rw [HU.out]) (by rw [HU.out]) (by rw [HU.out]) HD1.out HD2.out (d1 := (ns ++ [(x, y, z)])) (d2 := fs) (v := (.bool false)) (b := true) (m1 := m1) (m2 := m2)).mono ?_)
    rintro e w5 ⟨AW1, cW1, AW2, cW2, rfl, hkW1, hkW2, hr1, hr2, hbt⟩
    have HEX_116 := Lib.hid (HEX_104.out.below hbt HEX_104.out.lt)
    have HEL_117 := Lib.hid (HEL_105.out.below hbt HEL_105.out.lt)
    have HEY_118 := Lib.hid (HEY_98.out.below hbt HEY_98.out.lt)
    clear HEX_104 HEL_105 HEY_98
    have HX1_119 := Lib.hid (HX1_106.out.keep hbt (by omega))
    have HX2_120 := Lib.hid (HX2_107.out.keep hbt (by omega))
    have HY1_121 := Lib.hid (HY1_108.out.keep hbt (by omega))
    have HY2_122 := Lib.hid (HY2_109.out.keep hbt (by omega))
    have HB_123 := Lib.hid (up HB_110.out hbt)
    have hz_5 := hbt.size
    clear HX1_106 HX2_107 HY1_108 HY2_109 HB_110
    clear hbt
    have HW1_124 := Lib.hid (hr1.wide (Nat.zero_le _) (Nat.le_refl _))
    clear hr1
    have HW2_125 := Lib.hid (hr2.wide (Nat.zero_le _) (Nat.le_refl _))
    clear hr2
    have HEW_126 := Lib.hid (Blk.new w5 26 #[.slice AW1 m1 cW1, .slice AW2 m2 cW2])
    have hbt := up_alloc (Below.refl _ w5) (.cells #[.slice AW1 m1 cW1, .slice AW2 m2 cW2] 26)
    have hs_6 : (w5.alloc (.cells #[.slice AW1 m1 cW1, .slice AW2 m2 cW2] 26)).heap.size = w5.heap.size + 1 := by simp
    have a_127 := HEY_118.out.cell 0
    have a_128 := HEY_118.out.cell 1
    have HEX_129 := Lib.hid (HEX_116.out.below hbt HEX_116.out.lt)
    have HEL_130 := Lib.hid (HEL_117.out.below hbt HEL_117.out.lt)
    have HEY_131 := Lib.hid (HEY_118.out.below hbt HEY_118.out.lt)
    clear HEX_116 HEL_117 HEY_118
    have HX1_132 := Lib.hid (HX1_119.out.keep hbt (by omega))
    have HX2_133 := Lib.hid (HX2_120.out.keep hbt (by omega))
    have HY1_134 := Lib.hid (HY1_121.out.keep hbt (by omega))
    have HY2_135 := Lib.hid (HY2_122.out.keep hbt (by omega))
    have HW1_136 := Lib.hid (HW1_124.out.keep hbt (by omega))
    have HW2_137 := Lib.hid (HW2_125.out.keep hbt (by omega))
    have HB_138 := Lib.hid (up HB_123.out hbt)
    have hz_6 := hbt.size
    clear HX1_119 HX2_120 HY1_121 HY2_122 HW1_124 HW2_125 HB_123
    clear hbt
    have a_139 := HEY_131.out.cell 0
    have a_140 := HEY_131.out.cell 1
    go_wp2_with (fail)
    try clear a_127 a_128 a_139 a_140
    generalize (w5.alloc (.cells #[.slice AW1 m1 cW1, .slice AW2 m2 cW2] 26)) = w6 at *
    (with_reducible refine (equalPost_same 0 _ m1 cY1 0 _ m2 cY2 0 _ cW1 0 _ cW2 AY1 AY2 AW1 AW2 (ns ++ [(x, y, z)]) fs _ HY1_134.out (by omega) (by omega) HY2_135.out (by omega) (by omega) HW1_136.out (by omega) HW2_137.out (by omega)).mono ?_)
    rintro e w7 ⟨rfl, hbt⟩
    have HEX_141 := Lib.hid (HEX_129.out.below hbt HEX_129.out.lt)
    have HEL_142 := Lib.hid (HEL_130.out.below hbt HEL_130.out.lt)
    have HEY_143 := Lib.hid (HEY_131.out.below hbt HEY_131.out.lt)
    have HEW_144 := Lib.hid (HEW_126.out.below hbt HEW_126.out.lt)
    clear HEX_129 HEL_130 HEY_131 HEW_126
    have HX1_145 := Lib.hid (HX1_132.out.keep hbt (by omega))
    have HX2_146 := Lib.hid (HX2_133.out.keep hbt (by omega))
    have HY1_147 := Lib.hid (HY1_134.out.keep hbt (by omega))
    have HY2_148 := Lib.hid (HY2_135.out.keep hbt (by omega))
    have HW1_149 := Lib.hid (HW1_136.out.keep hbt (by omega))
    have HW2_150 := Lib.hid (HW2_137.out.keep hbt (by omega))
    have HB_151 := Lib.hid (up HB_138.out hbt)
    have hz_7 := hbt.size
    clear HX1_132 HX2_133 HY1_134 HY2_135 HW1_136 HW2_137 HB_138
    clear hbt
    have a_152 := HEY_143.out.cell 0
    have a_153 := HEY_143.out.cell 1
    have a_154 := HEW_144.out.cell 0
    have a_155 := HEW_144.out.cell 1
    have a_156 := HEL_142.out.cell 0
    have a_157 := HEL_142.out.cell 1
    have a_158 := HEL_142.out.cell 2
    go_wp2_with (fail)
    try clear a_152 a_153 a_154 a_155 a_156 a_157 a_158
    clear HW1_149
    clear HW2_150
    clear HEW_144
    (with_reducible refine (post_at (SendLetterI_any 0 _ m1 cY1 AY1 (ns ++ [(x, y, z)]) 0 _ m2 cY2 AY2 fs y z 5 _ HY1_147.out (by omega) (by omega) HY2_148.out (by omega) (by omega)) (by rw [HU2.out]) (by rw [HU2.out]) (by rw [HU2.out]) HP1.out HP2.out (d1 := q1) (d2 := q2) (v := (.int .i64 F0)) (b := true) (m1 := p1) (m2 := p2)).mono ?_)
    rintro e w8 ⟨AQ1, cQ1, AQ2, cQ2, rfl, hkQ1, hkQ2, hr1, hr2, hbt⟩
    have HEX_159 := Lib.hid (HEX_141.out.below hbt HEX_141.out.lt)
    have HEL_160 := Lib.hid (HEL_142.out.below hbt HEL_142.out.lt)
    have HEY_161 := Lib.hid (HEY_143.out.below hbt HEY_143.out.lt)
    clear HEX_141 HEL_142 HEY_143
    have HX1_162 := Lib.hid (HX1_145.out.keep hbt (by omega))
    have HX2_163 := Lib.hid (HX2_146.out.keep hbt (by omega))
    have HY1_164 := Lib.hid (HY1_147.out.keep hbt (by omega))
    have HY2_165 := Lib.hid (HY2_148.out.keep hbt (by omega))
    have HB_166 := Lib.hid (up HB_151.out hbt)
    have hz_8 := hbt.size
    clear HX1_145 HX2_146 HY1_147 HY2_148 HB_151
    clear hbt
    have HQ1_167 := Lib.hid (hr1.wide (Nat.zero_le _) (Nat.le_refl _))
    clear hr1
    have HQ2_168 := Lib.hid (hr2.wide (Nat.zero_le _) (Nat.le_refl _))
    clear hr2
    have HEQ_169 := Lib.hid (Blk.new w8 26 #[.slice AQ1 p1 cQ1, .slice AQ2 p2 cQ2])
    have hbt := up_alloc (Below.refl _ w8) (.cells #[.slice AQ1 p1 cQ1, .slice AQ2 p2 cQ2] 26)
    have hs_9 : (w8.alloc (.cells #[.slice AQ1 p1 cQ1, .slice AQ2 p2 cQ2] 26)).heap.size = w8.heap.size + 1 := by simp
    have a_170 := HEX_159.out.cell 0
    have a_171 := HEX_159.out.cell 1
    have a_172 := HEL_160.out.cell 0
    have a_173 := HEL_160.out.cell 1
    have a_174 := HEL_160.out.cell 2
    have HEX_175 := Lib.hid (HEX_159.out.below hbt HEX_159.out.lt)
    have HEL_176 := Lib.hid (HEL_160.out.below hbt HEL_160.out.lt)
    have HEY_177 := Lib.hid (HEY_161.out.below hbt HEY_161.out.lt)
    clear HEX_159 HEL_160 HEY_161
    have HX1_178 := Lib.hid (HX1_162.out.keep hbt (by omega))
    have HX2_179 := Lib.hid (HX2_163.out.keep hbt (by omega))
    have HY1_180 := Lib.hid (HY1_164.out.keep hbt (by omega))
    have HY2_181 := Lib.hid (HY2_165.out.keep hbt (by omega))
    have HQ1_182 := Lib.hid (HQ1_167.out.keep hbt (by omega))
    have HQ2_183 := Lib.hid (HQ2_168.out.keep hbt (by omega))
    have HB_184 := Lib.hid (up HB_166.out hbt)
    have hz_9 := hbt.size
    clear HX1_162 HX2_163 HY1_164 HY2_165 HQ1_167 HQ2_168 HB_166
    clear hbt
    have a_185 := HEX_175.out.cell 0
    have a_186 := HEX_175.out.cell 1
    have a_187 := HEL_176.out.cell 0
    have a_188 := HEL_176.out.cell 1
    have a_189 := HEL_176.out.cell 2
    go_wp2_with (fail)
    try clear a_170 a_171 a_172 a_173 a_174 a_185 a_186 a_187 a_188 a_189
    generalize (w8.alloc (.cells #[.slice AQ1 p1 cQ1, .slice AQ2 p2 cQ2] 26)) = w9 at *
    clear HY1_180
    clear HY2_181
    clear HEY_177
    clear HQ1_182
    clear HQ2_183
    clear HEQ_169
    go_loopw [14, 15] (fun fv iv wr => ∃ (k : Nat) (j F : Int), k ≤ n1 ∧ Hid (j = (k : Int) - 1) ∧ Hid (frontO (ns.drop k ++ [(x, y, z)]) (x, y, z) = F) ∧ fv = .int .i64 F ∧ iv = .int .i64 j ∧ Hid (Below w9.heap.size w9 wr))
       (fun _ iv _ => (intOf iv + 1).toNat)
    case atStart => exact ⟨n1, (n1 : Int) - 1, x, by omega, Lib.hid rfl, HST, rfl, by go_num, Below.refl _ _⟩
    case round =>
      obtain ⟨w10, HWR⟩ : ∃ x : World, x = wr := ⟨_, rfl⟩
      subst HWR
      obtain ⟨k, j, F, hk, HJ, HF, rfl, rfl, HLP⟩ := hrel
      have hlb := HLP.out
      have HEX_190 := Lib.hid (HEX_175.out.below hlb HEX_175.out.lt)
      have HEL_191 := Lib.hid (HEL_176.out.below hlb HEL_176.out.lt)
      clear HEX_175 HEL_176
      have HX1_192 := Lib.hid (HX1_178.out.keep hlb (by omega))
      have HX2_193 := Lib.hid (HX2_179.out.keep hlb (by omega))
      have HB_194 := Lib.hid (up HB_184.out hlb)
      have hz_10 := hlb.size
      clear HX1_178 HX2_179 HB_184
      clear hlb
      cases k with
      | zero =>
        have hj : j = -1 := by have := HJ.out; omega
        subst hj
        have hF : F = F0 := by rw [← HF.out, ← HF0.out]; rfl
        subst hF
        have a_195 := HEX_190.out.cell 0
        have a_196 := HEX_190.out.cell 1
        have a_197 := HEL_191.out.cell 0
        have a_198 := HEL_191.out.cell 1
        have a_199 := HEL_191.out.cell 2
        go_wp2
        try clear a_195 a_196 a_197 a_198 a_199
        go_ret
        exact ⟨rfl, HB_194.out⟩
      | succ i =>
        have hj : j = (i : Int) := by have := HJ.out; omega
        subst hj
        have hi0 : (0 : Int) ≤ (i : Int) := by omega
        have hlt : i < n1 := by omega
        have him : (i : Int) < (n1 : Int) := by omega
        obtain ⟨b, off, o, u, v, hAe, hbB, _, hg, hc0, hc1', hc2'⟩ := HX1_192.out.trip (k := i) hlt
        have HG := Lib.hid hg
        clear hg
        subst hAe
        have HFS := Lib.hid (front_step (s := (x, y, z)) HG.out)
        by_cases heu : u = y
        case neg =>
          have hb : (u == y) = false := by simpa using heu
          have HN2 := Lib.hid (HFS.out.trans ((if_neg (tri_ne1 heu)).trans HF.out))
          have a_200 := HEX_190.out.cell 0
          have a_201 := HEX_190.out.cell 1
          have a_202 := HEL_191.out.cell 0
          have a_203 := HEL_191.out.cell 1
          have a_204 := HEL_191.out.cell 2
          go_wp2_with (fail)
          go_quiet (fail)
          go_wp2
          go_roundw
          case rel => exact ⟨i, (i : Int) - 1, F, by omega, Lib.hid rfl, HN2, rfl, by go_num, up_drewN HLP.out _⟩
          case measure => (simp [intOf]) <;> omega
        subst heu
        by_cases hev : v = z
        case neg =>
          have hb : (v == z) = false := by simpa using hev
          have HN2 := Lib.hid (HFS.out.trans ((if_neg (tri_ne2 hev)).trans HF.out))
          have a_205 := HEX_190.out.cell 0
          have a_206 := HEX_190.out.cell 1
          have a_207 := HEL_191.out.cell 0
          have a_208 := HEL_191.out.cell 1
          have a_209 := HEL_191.out.cell 2
          go_wp2_with (fail)
          go_quiet (fail)
          go_wp2
          go_roundw
          case rel => exact ⟨i, (i : Int) - 1, F, by omega, Lib.hid rfl, HN2, rfl, by go_num, up_drewN HLP.out _⟩
          case measure => (simp [intOf]) <;> omega
        subst hev
        have HN2 := Lib.hid (HFS.out.trans (if_pos rfl))
        have a_210 := HEX_190.out.cell 0
        have a_211 := HEX_190.out.cell 1
        have a_212 := HEL_191.out.cell 0
        have a_213 := HEL_191.out.cell 1
        have a_214 := HEL_191.out.cell 2
        go_wp2_with (fail)
        go_quiet (fail)
        go_wp2
        go_roundw
        case rel => exact ⟨i, (i : Int) - 1, o, by omega, Lib.hid rfl, HN2, rfl, by go_num, up_drewN HLP.out _⟩
        case measure => (simp [intOf]) <;> omega
  ·
    clear HCS hg hi hv hl ha e1 e2
    have HEX_215 := Lib.hid (Blk.new w1 26 #[.slice A1 n1 c1, .slice A2 n2 c2])
    have HEL_216 := Lib.hid (show Blk ((w1.alloc (.cells #[.slice A1 n1 c1, .slice A2 n2 c2] 26)).alloc (.cells #[.int .i64 x, .int .i64 y, .int .i64 z] 42)) (w1.heap.size + 1) 42 #[.int .i64 x, .int .i64 y, .int .i64 z] from by have h := Blk.new ((w1.alloc (.cells #[.slice A1 n1 c1, .slice A2 n2 c2] 26))) 42 #[.int .i64 x, .int .i64 y, .int .i64 z]; rwa [World.size_alloc] at h)
    have HEX_217 := Lib.hid (HEX_215.out.alloc (.cells #[.int .i64 x, .int .i64 y, .int .i64 z] 42))
    clear HEX_215
    have hbt := up_alloc (up_alloc (Below.refl _ w1) (.cells #[.slice A1 n1 c1, .slice A2 n2 c2] 26)) (.cells #[.int .i64 x, .int .i64 y, .int .i64 z] 42)
    have hs_2 : ((w1.alloc (.cells #[.slice A1 n1 c1, .slice A2 n2 c2] 26)).alloc (.cells #[.int .i64 x, .int .i64 y, .int .i64 z] 42)).heap.size = w1.heap.size + 1 + 1 := by simp
    have HX1_218 := Lib.hid (HX1_1.out.keep hbt (by omega))
    have HX2_219 := Lib.hid (HX2_2.out.keep hbt (by omega))
    have HB_220 := Lib.hid (up HB_0.out hbt)
    have hz_2 := hbt.size
    clear HX1_1 HX2_2 HB_0
    clear hbt
    go_wp2_with (fail)
    generalize ((w1.alloc (.cells #[.slice A1 n1 c1, .slice A2 n2 c2] 26)).alloc (.cells #[.int .i64 x, .int .i64 y, .int .i64 z] 42)) = w2 at *
    (with_reducible refine (post_at (WaitLetterI_any 0 _ n1 c1 A1 ns 0 _ n2 c2 A2 fs x y z _ HX1_218.out (by omega) (by omega) HX2_219.out (by omega) (by omega)) (by rw [HU.out]) (by rw [HU.out]) (by rw [HU.out]) HD1.out HD2.out (d1 := d1) (d2 := d2) (v := (.bool true)) (b := true) (m1 := m1) (m2 := m2)).mono ?_)
    rintro e w3 ⟨AY1, cY1, AY2, cY2, rfl, hkY1, hkY2, hr1, hr2, hbt⟩
    have HEX_221 := Lib.hid (HEX_217.out.below hbt HEX_217.out.lt)
    have HEL_222 := Lib.hid (HEL_216.out.below hbt HEL_216.out.lt)
    clear HEX_217 HEL_216
    have HX1_223 := Lib.hid (HX1_218.out.keep hbt (by omega))
    have HX2_224 := Lib.hid (HX2_219.out.keep hbt (by omega))
    have HB_225 := Lib.hid (up HB_220.out hbt)
    have hz_3 := hbt.size
    clear HX1_218 HX2_219 HB_220
    clear hbt
    have HY1_226 := Lib.hid (hr1.wide (Nat.zero_le _) (Nat.le_refl _))
    clear hr1
    have HY2_227 := Lib.hid (hr2.wide (Nat.zero_le _) (Nat.le_refl _))
    clear hr2
    have HEY_228 := Lib.hid (Blk.new w3 26 #[.slice AY1 m1 cY1, .slice AY2 m2 cY2])
    have hbt := up_alloc (Below.refl _ w3) (.cells #[.slice AY1 m1 cY1, .slice AY2 m2 cY2] 26)
    have hs_4 : (w3.alloc (.cells #[.slice AY1 m1 cY1, .slice AY2 m2 cY2] 26)).heap.size = w3.heap.size + 1 := by simp
    have a_229 := HEX_221.out.cell 0
    have a_230 := HEX_221.out.cell 1
    have a_231 := HEL_222.out.cell 0
    have a_232 := HEL_222.out.cell 1
    have a_233 := HEL_222.out.cell 2
    have HEX_234 := Lib.hid (HEX_221.out.below hbt HEX_221.out.lt)
    have HEL_235 := Lib.hid (HEL_222.out.below hbt HEL_222.out.lt)
    clear HEX_221 HEL_222
    have HX1_236 := Lib.hid (HX1_223.out.keep hbt (by omega))
    have HX2_237 := Lib.hid (HX2_224.out.keep hbt (by omega))
    have HY1_238 := Lib.hid (HY1_226.out.keep hbt (by omega))
    have HY2_239 := Lib.hid (HY2_227.out.keep hbt (by omega))
    have HB_240 := Lib.hid (up HB_225.out hbt)
    have hz_4 := hbt.size
    clear HX1_223 HX2_224 HY1_226 HY2_227 HB_225
    clear hbt
    have a_241 := HEX_234.out.cell 0
    have a_242 := HEX_234.out.cell 1
    have a_243 := HEL_235.out.cell 0
    have a_244 := HEL_235.out.cell 1
    have a_245 := HEL_235.out.cell 2
    go_wp2_with (fail)
    try clear a_229 a_230 a_231 a_232 a_233 a_241 a_242 a_243 a_244 a_245
    generalize (w3.alloc (.cells #[.slice AY1 m1 cY1, .slice AY2 m2 cY2] 26)) = w4 at *
    (with_reducible refine (post_at (WaitLetterS_any 0 _ n1 c1 A1 ns 0 _ n2 c2 A2 fs x y z _ HX1_236.out (by omega) (by omega) HX2_237.out (by omega) (by omega) (by omega) (by omega)) (by rw [HU.out]) (by rw [HU.out]) (by rw [HU.out]) HD1.out HD2.out (d1 := d1) (d2 := d2) (v := (.bool true)) (b := true) (m1 := m1) (m2 := m2)).mono ?_)
    rintro e w5 ⟨AW1, cW1, AW2, cW2, rfl, hkW1, hkW2, hr1, hr2, hbt⟩
    have HEX_246 := Lib.hid (HEX_234.out.below hbt HEX_234.out.lt)
    have HEL_247 := Lib.hid (HEL_235.out.below hbt HEL_235.out.lt)
    have HEY_248 := Lib.hid (HEY_228.out.below hbt HEY_228.out.lt)
    clear HEX_234 HEL_235 HEY_228
    have HX1_249 := Lib.hid (HX1_236.out.keep hbt (by omega))
    have HX2_250 := Lib.hid (HX2_237.out.keep hbt (by omega))
    have HY1_251 := Lib.hid (HY1_238.out.keep hbt (by omega))
    have HY2_252 := Lib.hid (HY2_239.out.keep hbt (by omega))
    have HB_253 := Lib.hid (up HB_240.out hbt)
    have hz_5 := hbt.size
    clear HX1_236 HX2_237 HY1_238 HY2_239 HB_240
    clear hbt
    have HW1_254 := Lib.hid (hr1.wide (Nat.zero_le _) (Nat.le_refl _))
    clear hr1
    have HW2_255 := Lib.hid (hr2.wide (Nat.zero_le _) (Nat.le_refl _))
    clear hr2
    have HEW_256 := Lib.hid (Blk.new w5 26 #[.slice AW1 m1 cW1, .slice AW2 m2 cW2])
    have hbt := up_alloc (Below.refl _ w5) (.cells #[.slice AW1 m1 cW1, .slice AW2 m2 cW2] 26)
    have hs_6 : (w5.alloc (.cells #[.slice AW1 m1 cW1, .slice AW2 m2 cW2] 26)).heap.size = w5.heap.size + 1 := by simp
    have a_257 := HEY_248.out.cell 0
    have a_258 := HEY_248.out.cell 1
    have HEX_259 := Lib.hid (HEX_246.out.below hbt HEX_246.out.lt)
    have HEL_260 := Lib.hid (HEL_247.out.below hbt HEL_247.out.lt)
    have HEY_261 := Lib.hid (HEY_248.out.below hbt HEY_248.out.lt)
    clear HEX_246 HEL_247 HEY_248
    have HX1_262 := Lib.hid (HX1_249.out.keep hbt (by omega))
    have HX2_263 := Lib.hid (HX2_250.out.keep hbt (by omega))
    have HY1_264 := Lib.hid (HY1_251.out.keep hbt (by omega))
    have HY2_265 := Lib.hid (HY2_252.out.keep hbt (by omega))
    have HW1_266 := Lib.hid (HW1_254.out.keep hbt (by omega))
    have HW2_267 := Lib.hid (HW2_255.out.keep hbt (by omega))
    have HB_268 := Lib.hid (up HB_253.out hbt)
    have hz_6 := hbt.size
    clear HX1_249 HX2_250 HY1_251 HY2_252 HW1_254 HW2_255 HB_253
    clear hbt
    have a_269 := HEY_261.out.cell 0
    have a_270 := HEY_261.out.cell 1
    go_wp2_with (fail)
    try clear a_257 a_258 a_269 a_270
    generalize (w5.alloc (.cells #[.slice AW1 m1 cW1, .slice AW2 m2 cW2] 26)) = w6 at *
    (with_reducible refine (equalPost_same 0 _ m1 cY1 0 _ m2 cY2 0 _ cW1 0 _ cW2 AY1 AY2 AW1 AW2 d1 d2 _ HY1_264.out (by omega) (by omega) HY2_265.out (by omega) (by omega) HW1_266.out (by omega) HW2_267.out (by omega)).mono ?_)
    rintro e w7 ⟨rfl, hbt⟩
    have HEX_271 := Lib.hid (HEX_259.out.below hbt HEX_259.out.lt)
    have HEL_272 := Lib.hid (HEL_260.out.below hbt HEL_260.out.lt)
    have HEY_273 := Lib.hid (HEY_261.out.below hbt HEY_261.out.lt)
    have HEW_274 := Lib.hid (HEW_256.out.below hbt HEW_256.out.lt)
    clear HEX_259 HEL_260 HEY_261 HEW_256
    have HX1_275 := Lib.hid (HX1_262.out.keep hbt (by omega))
    have HX2_276 := Lib.hid (HX2_263.out.keep hbt (by omega))
    have HY1_277 := Lib.hid (HY1_264.out.keep hbt (by omega))
    have HY2_278 := Lib.hid (HY2_265.out.keep hbt (by omega))
    have HW1_279 := Lib.hid (HW1_266.out.keep hbt (by omega))
    have HW2_280 := Lib.hid (HW2_267.out.keep hbt (by omega))
    have HB_281 := Lib.hid (up HB_268.out hbt)
    have hz_7 := hbt.size
    clear HX1_262 HX2_263 HY1_264 HY2_265 HW1_266 HW2_267 HB_268
    clear hbt
    have a_282 := HEY_273.out.cell 0
    have a_283 := HEY_273.out.cell 1
    have a_284 := HEW_274.out.cell 0
    have a_285 := HEW_274.out.cell 1
    go_wp2_with (fail)
    try clear a_282 a_283 a_284 a_285
    (with_reducible refine (equalPost_same 0 _ m1 cY1 0 _ m2 cY2 0 _ cW1 0 _ cW2 AY1 AY2 AW1 AW2 d1 d2 _ HY1_277.out (by omega) (by omega) HY2_278.out (by omega) (by omega) HW1_279.out (by omega) HW2_280.out (by omega)).mono ?_)
    rintro e w8 ⟨rfl, hbt⟩
    have HEX_286 := Lib.hid (HEX_271.out.below hbt HEX_271.out.lt)
    have HEL_287 := Lib.hid (HEL_272.out.below hbt HEL_272.out.lt)
    have HEY_288 := Lib.hid (HEY_273.out.below hbt HEY_273.out.lt)
    have HEW_289 := Lib.hid (HEW_274.out.below hbt HEW_274.out.lt)
    clear HEX_271 HEL_272 HEY_273 HEW_274
    have HX1_290 := Lib.hid (HX1_275.out.keep hbt (by omega))
    have HX2_291 := Lib.hid (HX2_276.out.keep hbt (by omega))
    have HY1_292 := Lib.hid (HY1_277.out.keep hbt (by omega))
    have HY2_293 := Lib.hid (HY2_278.out.keep hbt (by omega))
    have HW1_294 := Lib.hid (HW1_279.out.keep hbt (by omega))
    have HW2_295 := Lib.hid (HW2_280.out.keep hbt (by omega))
    have HB_296 := Lib.hid (up HB_281.out hbt)
    have hz_8 := hbt.size
    clear HX1_275 HX2_276 HY1_277 HY2_278 HW1_279 HW2_280 HB_281
    clear hbt
    go_wp2
    go_ret
    exact ⟨rfl, HB_296.out⟩
end Go.Proofs.Ytgnffodnimafoaa
