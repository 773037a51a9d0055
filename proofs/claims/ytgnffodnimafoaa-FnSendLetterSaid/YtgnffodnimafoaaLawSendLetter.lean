/- The law FnSendLetter, walked: it returns true. (Written by a program over gen/lawlib.py.) -/
import Derived.Test.YtgnffodnimafoaaDrawT3
import Derived.Test.YtgnffodnimafoaaSendI
import Derived.Test.YtgnffodnimafoaaDropI
import Derived.Test.YtgnffodnimafoaaEqPost
import Derived.Test.YtgnffodnimafoaaLawPostM
import Derived.Test.YtgnffodnimafoaaLawPostN
import Derived.Test.YtgnffodnimafoaaPostO
import Derived.BigQuiet
import Derived.Deep.RegionLaw
import Derived.Test.YtgnffodnimafoaaLawPostP
set_option linter.unusedSimpArgs false
set_option linter.unusedVariables false
namespace Go.Proofs.Ytgnffodnimafoaa
open Go.RowKit

set_option maxRecDepth 100000 in
set_option maxHeartbeats 6400000 in
theorem lawSendLetter_any (n c : Nat) (A : Option Addr) (xs : List Int) (w : World) (hr : Rd w 0 w.heap.size 1 A n (bvs xs)) (hby : Bytes xs) (hc : n ≤ c) (hc2 : c ≤ 9223372036854775807) :
    Calls Try.prog 5 #[.slice A n c] w fun e w' => e = .returned (.bool true) ∧ Below w.heap.size w w' := by
  by_cases hbig : (1048576 : Int) < n
  · go_enter Try.func5, Try.ntmps5
    go_wp2
    go_ret
    exact ⟨rfl, Below.refl _ _⟩
  go_enter Try.func5, Try.ntmps5
  go_wp2_with (fail)
  (with_reducible refine (drawSendLetter_any n c A xs w hr hby (by omega) hc hc2).mono ?_)
  rintro e w1 ⟨A1, n1, c1, A2, n2, c2, ns, fs, x, y, z, rfl, hoff⟩
  clear hbig hr
  obtain ⟨hn1, hn2, hk1, hk2, hrd1, hrd2, hb1⟩ := hoff
  have HB_0 := Lib.hid hb1
  have hz_1 := hb1.size
  clear hb1
  have HL1 := Lib.hid hrd1.len3
  have HL2 := Lib.hid hrd2.len3
  have HX1_1 := Lib.hid (hrd1.wide (Nat.zero_le _) (Nat.le_refl _))
  clear hrd1
  have HX2_2 := Lib.hid (hrd2.wide (Nat.zero_le _) (Nat.le_refl _))
  clear hrd2
  obtain ⟨⟨⟨d1, d2⟩, k, b⟩, hU⟩ : ∃ u, sendOf ns fs (x, y, z) = u := ⟨_, rfl⟩
  have hlen := send_lens ns fs (x, y, z)
  rw [hU] at hlen
  obtain ⟨hm1, hm2⟩ := hlen
  dsimp only at hm1 hm2
  have HU := Lib.hid hU
  have HCS := Lib.hid (send_cases hU)
  clear hU
  obtain ⟨m1, hD1⟩ : ∃ m, d1.length = m := ⟨_, rfl⟩
  obtain ⟨m2, hD2⟩ : ∃ m, d2.length = m := ⟨_, rfl⟩
  rw [hD1] at hm1
  rw [hD2] at hm2
  have HD1 := Lib.hid hD1
  have HD2 := Lib.hid hD2
  clear hD1 hD2
  have hkk : (k != k) = false := by simp
  have hke : (k == k) = true := by simp
  rcases HCS.out with rfl | ⟨rfl, hk, e1, e2, hv, hl, hno⟩ | ⟨rfl, i, t, hg, hi, hk, hk0, e1, e2, hv, ha⟩
  ·
    clear HCS
    have HEX_3 := Lib.hid (Blk.new w1 26 #[.slice A1 n1 c1, .slice A2 n2 c2])
    have HEL_4 := Lib.hid (show Blk ((w1.alloc (.cells #[.slice A1 n1 c1, .slice A2 n2 c2] 26)).alloc (.cells #[.int .i64 x, .int .i64 y, .int .i64 z] 33)) (w1.heap.size + 1) 33 #[.int .i64 x, .int .i64 y, .int .i64 z] from by have h := Blk.new ((w1.alloc (.cells #[.slice A1 n1 c1, .slice A2 n2 c2] 26))) 33 #[.int .i64 x, .int .i64 y, .int .i64 z]; rwa [World.size_alloc] at h)
    have HEX_5 := Lib.hid (HEX_3.out.alloc (.cells #[.int .i64 x, .int .i64 y, .int .i64 z] 33))
    clear HEX_3
    have hbt := up_alloc (up_alloc (Below.refl _ w1) (.cells #[.slice A1 n1 c1, .slice A2 n2 c2] 26)) (.cells #[.int .i64 x, .int .i64 y, .int .i64 z] 33)
    have hs_2 : ((w1.alloc (.cells #[.slice A1 n1 c1, .slice A2 n2 c2] 26)).alloc (.cells #[.int .i64 x, .int .i64 y, .int .i64 z] 33)).heap.size = w1.heap.size + 1 + 1 := by simp
    have HX1_6 := Lib.hid (HX1_1.out.keep hbt (by omega))
    have HX2_7 := Lib.hid (HX2_2.out.keep hbt (by omega))
    have HB_8 := Lib.hid (up HB_0.out hbt)
    have hz_2 := hbt.size
    clear HX1_1 HX2_2 HB_0
    clear hbt
    go_wp2_with (fail)
    generalize ((w1.alloc (.cells #[.slice A1 n1 c1, .slice A2 n2 c2] 26)).alloc (.cells #[.int .i64 x, .int .i64 y, .int .i64 z] 33)) = w2 at *
    (with_reducible refine (post_at (SendLetterI_any 0 _ n1 c1 A1 ns 0 _ n2 c2 A2 fs x y z _ HX1_6.out (by omega) (by omega) HX2_7.out (by omega) (by omega)) (by rw [HU.out]) (by rw [HU.out]) (by rw [HU.out]) HD1.out HD2.out (d1 := d1) (d2 := d2) (v := (.int .i64 k)) (b := false) (m1 := m1) (m2 := m2)).mono ?_)
    rintro e w3 ⟨AY1, cY1, AY2, cY2, rfl, hkY1, hkY2, hr1, hr2, hbt⟩
    have HEX_9 := Lib.hid (HEX_5.out.below hbt HEX_5.out.lt)
    have HEL_10 := Lib.hid (HEL_4.out.below hbt HEL_4.out.lt)
    clear HEX_5 HEL_4
    have HX1_11 := Lib.hid (HX1_6.out.keep hbt (by omega))
    have HX2_12 := Lib.hid (HX2_7.out.keep hbt (by omega))
    have HB_13 := Lib.hid (up HB_8.out hbt)
    have hz_3 := hbt.size
    clear HX1_6 HX2_7 HB_8
    clear hbt
    have HY1_14 := Lib.hid (hr1.wide (Nat.zero_le _) (Nat.le_refl _))
    clear hr1
    have HY2_15 := Lib.hid (hr2.wide (Nat.zero_le _) (Nat.le_refl _))
    clear hr2
    have HEY_16 := Lib.hid (Blk.new w3 26 #[.slice AY1 m1 cY1, .slice AY2 m2 cY2])
    have hbt := up_alloc (Below.refl _ w3) (.cells #[.slice AY1 m1 cY1, .slice AY2 m2 cY2] 26)
    have hs_4 : (w3.alloc (.cells #[.slice AY1 m1 cY1, .slice AY2 m2 cY2] 26)).heap.size = w3.heap.size + 1 := by simp
    have a_17 := HEX_9.out.cell 0
    have a_18 := HEX_9.out.cell 1
    have a_19 := HEL_10.out.cell 0
    have a_20 := HEL_10.out.cell 1
    have a_21 := HEL_10.out.cell 2
    have HEX_22 := Lib.hid (HEX_9.out.below hbt HEX_9.out.lt)
    have HEL_23 := Lib.hid (HEL_10.out.below hbt HEL_10.out.lt)
    clear HEX_9 HEL_10
    have HX1_24 := Lib.hid (HX1_11.out.keep hbt (by omega))
    have HX2_25 := Lib.hid (HX2_12.out.keep hbt (by omega))
    have HY1_26 := Lib.hid (HY1_14.out.keep hbt (by omega))
    have HY2_27 := Lib.hid (HY2_15.out.keep hbt (by omega))
    have HB_28 := Lib.hid (up HB_13.out hbt)
    have hz_4 := hbt.size
    clear HX1_11 HX2_12 HY1_14 HY2_15 HB_13
    clear hbt
    have a_29 := HEX_22.out.cell 0
    have a_30 := HEX_22.out.cell 1
    have a_31 := HEL_23.out.cell 0
    have a_32 := HEL_23.out.cell 1
    have a_33 := HEL_23.out.cell 2
    go_wp2_with (fail)
    try clear a_17 a_18 a_19 a_20 a_21 a_29 a_30 a_31 a_32 a_33
    generalize (w3.alloc (.cells #[.slice AY1 m1 cY1, .slice AY2 m2 cY2] 26)) = w4 at *
    (with_reducible refine (post_at (SendLetterS_any 0 _ n1 c1 A1 ns 0 _ n2 c2 A2 fs x y z _ HX1_24.out (by omega) (by omega) HX2_25.out (by omega) (by omega) (by omega) (by omega)) (by rw [HU.out]) (by rw [HU.out]) (by rw [HU.out]) HD1.out HD2.out (d1 := d1) (d2 := d2) (v := (.int .i64 k)) (b := false) (m1 := m1) (m2 := m2)).mono ?_)
    rintro e w5 ⟨AW1, cW1, AW2, cW2, rfl, hkW1, hkW2, hr1, hr2, hbt⟩
    have HEX_34 := Lib.hid (HEX_22.out.below hbt HEX_22.out.lt)
    have HEL_35 := Lib.hid (HEL_23.out.below hbt HEL_23.out.lt)
    have HEY_36 := Lib.hid (HEY_16.out.below hbt HEY_16.out.lt)
    clear HEX_22 HEL_23 HEY_16
    have HX1_37 := Lib.hid (HX1_24.out.keep hbt (by omega))
    have HX2_38 := Lib.hid (HX2_25.out.keep hbt (by omega))
    have HY1_39 := Lib.hid (HY1_26.out.keep hbt (by omega))
    have HY2_40 := Lib.hid (HY2_27.out.keep hbt (by omega))
    have HB_41 := Lib.hid (up HB_28.out hbt)
    have hz_5 := hbt.size
    clear HX1_24 HX2_25 HY1_26 HY2_27 HB_28
    clear hbt
    have HW1_42 := Lib.hid (hr1.wide (Nat.zero_le _) (Nat.le_refl _))
    clear hr1
    have HW2_43 := Lib.hid (hr2.wide (Nat.zero_le _) (Nat.le_refl _))
    clear hr2
    have HEW_44 := Lib.hid (Blk.new w5 26 #[.slice AW1 m1 cW1, .slice AW2 m2 cW2])
    have hbt := up_alloc (Below.refl _ w5) (.cells #[.slice AW1 m1 cW1, .slice AW2 m2 cW2] 26)
    have hs_6 : (w5.alloc (.cells #[.slice AW1 m1 cW1, .slice AW2 m2 cW2] 26)).heap.size = w5.heap.size + 1 := by simp
    have a_45 := HEY_36.out.cell 0
    have a_46 := HEY_36.out.cell 1
    have HEX_47 := Lib.hid (HEX_34.out.below hbt HEX_34.out.lt)
    have HEL_48 := Lib.hid (HEL_35.out.below hbt HEL_35.out.lt)
    have HEY_49 := Lib.hid (HEY_36.out.below hbt HEY_36.out.lt)
    clear HEX_34 HEL_35 HEY_36
    have HX1_50 := Lib.hid (HX1_37.out.keep hbt (by omega))
    have HX2_51 := Lib.hid (HX2_38.out.keep hbt (by omega))
    have HY1_52 := Lib.hid (HY1_39.out.keep hbt (by omega))
    have HY2_53 := Lib.hid (HY2_40.out.keep hbt (by omega))
    have HW1_54 := Lib.hid (HW1_42.out.keep hbt (by omega))
    have HW2_55 := Lib.hid (HW2_43.out.keep hbt (by omega))
    have HB_56 := Lib.hid (up HB_41.out hbt)
    have hz_6 := hbt.size
    clear HX1_37 HX2_38 HY1_39 HY2_40 HW1_42 HW2_43 HB_41
    clear hbt
    have a_57 := HEY_49.out.cell 0
    have a_58 := HEY_49.out.cell 1
    go_wp2_with (fail)
    try clear a_45 a_46 a_57 a_58
    generalize (w5.alloc (.cells #[.slice AW1 m1 cW1, .slice AW2 m2 cW2] 26)) = w6 at *
    (with_reducible refine (equalPost_same 0 _ m1 cY1 0 _ m2 cY2 0 _ cW1 0 _ cW2 AY1 AY2 AW1 AW2 d1 d2 _ HY1_52.out (by omega) (by omega) HY2_53.out (by omega) (by omega) HW1_54.out (by omega) HW2_55.out (by omega)).mono ?_)
    rintro e w7 ⟨rfl, hbt⟩
    have HEX_59 := Lib.hid (HEX_47.out.below hbt HEX_47.out.lt)
    have HEL_60 := Lib.hid (HEL_48.out.below hbt HEL_48.out.lt)
    have HEY_61 := Lib.hid (HEY_49.out.below hbt HEY_49.out.lt)
    have HEW_62 := Lib.hid (HEW_44.out.below hbt HEW_44.out.lt)
    clear HEX_47 HEL_48 HEY_49 HEW_44
    have HX1_63 := Lib.hid (HX1_50.out.keep hbt (by omega))
    have HX2_64 := Lib.hid (HX2_51.out.keep hbt (by omega))
    have HY1_65 := Lib.hid (HY1_52.out.keep hbt (by omega))
    have HY2_66 := Lib.hid (HY2_53.out.keep hbt (by omega))
    have HW1_67 := Lib.hid (HW1_54.out.keep hbt (by omega))
    have HW2_68 := Lib.hid (HW2_55.out.keep hbt (by omega))
    have HB_69 := Lib.hid (up HB_56.out hbt)
    have hz_7 := hbt.size
    clear HX1_50 HX2_51 HY1_52 HY2_53 HW1_54 HW2_55 HB_56
    clear hbt
    have a_70 := HEY_61.out.cell 0
    have a_71 := HEY_61.out.cell 1
    have a_72 := HEW_62.out.cell 0
    have a_73 := HEW_62.out.cell 1
    go_wp2_with (fail)
    try clear a_70 a_71 a_72 a_73
    (with_reducible refine (equalPost_same 0 _ m1 cY1 0 _ m2 cY2 0 _ cW1 0 _ cW2 AY1 AY2 AW1 AW2 d1 d2 _ HY1_65.out (by omega) (by omega) HY2_66.out (by omega) (by omega) HW1_67.out (by omega) HW2_68.out (by omega)).mono ?_)
    rintro e w8 ⟨rfl, hbt⟩
    have HEX_74 := Lib.hid (HEX_59.out.below hbt HEX_59.out.lt)
    have HEL_75 := Lib.hid (HEL_60.out.below hbt HEL_60.out.lt)
    have HEY_76 := Lib.hid (HEY_61.out.below hbt HEY_61.out.lt)
    have HEW_77 := Lib.hid (HEW_62.out.below hbt HEW_62.out.lt)
    clear HEX_59 HEL_60 HEY_61 HEW_62
    have HX1_78 := Lib.hid (HX1_63.out.keep hbt (by omega))
    have HX2_79 := Lib.hid (HX2_64.out.keep hbt (by omega))
    have HY1_80 := Lib.hid (HY1_65.out.keep hbt (by omega))
    have HY2_81 := Lib.hid (HY2_66.out.keep hbt (by omega))
    have HW1_82 := Lib.hid (HW1_67.out.keep hbt (by omega))
    have HW2_83 := Lib.hid (HW2_68.out.keep hbt (by omega))
    have HB_84 := Lib.hid (up HB_69.out hbt)
    have hz_8 := hbt.size
    clear HX1_63 HX2_64 HY1_65 HY2_66 HW1_67 HW2_68 HB_69
    clear hbt
    go_wp2
    go_ret
    exact ⟨rfl, HB_84.out⟩
  ·
    replace e1 := e1.symm
    subst e1 e2 hk
    have HV := Lib.hid hv
    have hm1n : m1 = n1 := by rw [← HD1.out, HL1.out]
    have hm2n : m2 = n2 + 1 := by rw [← HD2.out, List.length_append, HL2.out]; rfl
    have hw1 : IntKind.i64.wrap ((n2 : Int) + 1) = (m2 : Int) := by rw [IntWalk.i64_in _ (by omega)]; omega
    have hw2 : IntKind.i64.wrap ((m2 : Int) - 1) = (n2 : Int) := by rw [IntWalk.i64_in _ (by omega)]; omega
    have hmm : ((m2 : Int) == (m2 : Int)) = true := by simp
    have hlt2 : (n2 : Int) < (m2 : Int) := by omega
    have hn0 : (0 : Int) ≤ (n2 : Int) := by omega
    clear HCS hv hl hno hm1n hm2n
    have HEX_85 := Lib.hid (Blk.new w1 26 #[.slice A1 n1 c1, .slice A2 n2 c2])
    have HEL_86 := Lib.hid (show Blk ((w1.alloc (.cells #[.slice A1 n1 c1, .slice A2 n2 c2] 26)).alloc (.cells #[.int .i64 x, .int .i64 y, .int .i64 z] 33)) (w1.heap.size + 1) 33 #[.int .i64 x, .int .i64 y, .int .i64 z] from by have h := Blk.new ((w1.alloc (.cells #[.slice A1 n1 c1, .slice A2 n2 c2] 26))) 33 #[.int .i64 x, .int .i64 y, .int .i64 z]; rwa [World.size_alloc] at h)
    have HEX_87 := Lib.hid (HEX_85.out.alloc (.cells #[.int .i64 x, .int .i64 y, .int .i64 z] 33))
    clear HEX_85
    have hbt := up_alloc (up_alloc (Below.refl _ w1) (.cells #[.slice A1 n1 c1, .slice A2 n2 c2] 26)) (.cells #[.int .i64 x, .int .i64 y, .int .i64 z] 33)
    have hs_2 : ((w1.alloc (.cells #[.slice A1 n1 c1, .slice A2 n2 c2] 26)).alloc (.cells #[.int .i64 x, .int .i64 y, .int .i64 z] 33)).heap.size = w1.heap.size + 1 + 1 := by simp
    have HX1_88 := Lib.hid (HX1_1.out.keep hbt (by omega))
    have HX2_89 := Lib.hid (HX2_2.out.keep hbt (by omega))
    have HB_90 := Lib.hid (up HB_0.out hbt)
    have hz_2 := hbt.size
    clear HX1_1 HX2_2 HB_0
    clear hbt
    go_wp2_with (fail)
    generalize ((w1.alloc (.cells #[.slice A1 n1 c1, .slice A2 n2 c2] 26)).alloc (.cells #[.int .i64 x, .int .i64 y, .int .i64 z] 33)) = w2 at *
    (with_reducible refine (post_at (SendLetterI_any 0 _ n1 c1 A1 ns 0 _ n2 c2 A2 fs x y z _ HX1_88.out (by omega) (by omega) HX2_89.out (by omega) (by omega)) (by rw [HU.out]) (by rw [HU.out]) (by rw [HU.out]) HD1.out HD2.out (d1 := ns) (d2 := (fs ++ [(x, y, z)])) (v := (.int .i64 (-1))) (b := true) (m1 := m1) (m2 := m2)).mono ?_)
    rintro e w3 ⟨AY1, cY1, AY2, cY2, rfl, hkY1, hkY2, hr1, hr2, hbt⟩
    have HEX_91 := Lib.hid (HEX_87.out.below hbt HEX_87.out.lt)
    have HEL_92 := Lib.hid (HEL_86.out.below hbt HEL_86.out.lt)
    clear HEX_87 HEL_86
    have HX1_93 := Lib.hid (HX1_88.out.keep hbt (by omega))
    have HX2_94 := Lib.hid (HX2_89.out.keep hbt (by omega))
    have HB_95 := Lib.hid (up HB_90.out hbt)
    have hz_3 := hbt.size
    clear HX1_88 HX2_89 HB_90
    clear hbt
    have HY1_96 := Lib.hid (hr1.wide (Nat.zero_le _) (Nat.le_refl _))
    clear hr1
    have HY2_97 := Lib.hid (hr2.wide (Nat.zero_le _) (Nat.le_refl _))
    clear hr2
    have HEY_98 := Lib.hid (Blk.new w3 26 #[.slice AY1 m1 cY1, .slice AY2 m2 cY2])
    have hbt := up_alloc (Below.refl _ w3) (.cells #[.slice AY1 m1 cY1, .slice AY2 m2 cY2] 26)
    have hs_4 : (w3.alloc (.cells #[.slice AY1 m1 cY1, .slice AY2 m2 cY2] 26)).heap.size = w3.heap.size + 1 := by simp
    have a_99 := HEX_91.out.cell 0
    have a_100 := HEX_91.out.cell 1
    have a_101 := HEL_92.out.cell 0
    have a_102 := HEL_92.out.cell 1
    have a_103 := HEL_92.out.cell 2
    have HEX_104 := Lib.hid (HEX_91.out.below hbt HEX_91.out.lt)
    have HEL_105 := Lib.hid (HEL_92.out.below hbt HEL_92.out.lt)
    clear HEX_91 HEL_92
    have HX1_106 := Lib.hid (HX1_93.out.keep hbt (by omega))
    have HX2_107 := Lib.hid (HX2_94.out.keep hbt (by omega))
    have HY1_108 := Lib.hid (HY1_96.out.keep hbt (by omega))
    have HY2_109 := Lib.hid (HY2_97.out.keep hbt (by omega))
    have HB_110 := Lib.hid (up HB_95.out hbt)
    have hz_4 := hbt.size
    clear HX1_93 HX2_94 HY1_96 HY2_97 HB_95
    clear hbt
    have a_111 := HEX_104.out.cell 0
    have a_112 := HEX_104.out.cell 1
    have a_113 := HEL_105.out.cell 0
    have a_114 := HEL_105.out.cell 1
    have a_115 := HEL_105.out.cell 2
    go_wp2_with (fail)
    try clear a_99 a_100 a_101 a_102 a_103 a_111 a_112 a_113 a_114 a_115
    generalize (w3.alloc (.cells #[.slice AY1 m1 cY1, .slice AY2 m2 cY2] 26)) = w4 at *
    (with_reducible refine (post_at (SendLetterS_any 0 _ n1 c1 A1 ns 0 _ n2 c2 A2 fs x y z _ HX1_106.out (by omega) (by omega) HX2_107.out (by omega) (by omega) (by omega) (by omega)) (by rw [HU.out]) (by rw [HU.out]) (by rw [HU.out]) HD1.out HD2.out (d1 := ns) (d2 := (fs ++ [(x, y, z)])) (v := (.int .i64 (-1))) (b := true) (m1 := m1) (m2 := m2)).mono ?_)
    rintro e w5 ⟨AW1, cW1, AW2, cW2, rfl, hkW1, hkW2, hr1, hr2, hbt⟩
    have HEX_116 := Lib.hid (HEX_104.out.below hbt HEX_104.out.lt)
    have HEL_117 := Lib.hid (HEL_105.out.below hbt HEL_105.out.lt)
    have HEY_118 := Lib.hid (HEY_98.out.below hbt HEY_98.out.lt)
    clear HEX_104 HEL_105 HEY_98
    have HX1_119 := Lib.hid (HX1_106.out.keep hbt (by omega))
    have HX2_120 := Lib.hid (HX2_107.out.keep hbt (by omega))
    have HY1_121 := Lib.hid (HY1_108.out.keep hbt (by omega))
    have HY2_122 := Lib.hid (HY2_109.out.keep hbt (by omega))
    have HB_123 := Lib.hid (up HB_110.out hbt)
    have hz_5 := hbt.size
    clear HX1_106 HX2_107 HY1_108 HY2_109 HB_110
    clear hbt
    have HW1_124 := Lib.hid (hr1.wide (Nat.zero_le _) (Nat.le_refl _))
    clear hr1
    have HW2_125 := Lib.hid (hr2.wide (Nat.zero_le _) (Nat.le_refl _))
    clear hr2
    have HEW_126 := Lib.hid (Blk.new w5 26 #[.slice AW1 m1 cW1, .slice AW2 m2 cW2])
    have hbt := up_alloc (Below.refl _ w5) (.cells #[.slice AW1 m1 cW1, .slice AW2 m2 cW2] 26)
    have hs_6 : (w5.alloc (.cells #[.slice AW1 m1 cW1, .slice AW2 m2 cW2] 26)).heap.size = w5.heap.size + 1 := by simp
    have a_127 := HEY_118.out.cell 0
    have a_128 := HEY_118.out.cell 1
    have HEX_129 := Lib.hid (HEX_116.out.below hbt HEX_116.out.lt)
    have HEL_130 := Lib.hid (HEL_117.out.below hbt HEL_117.out.lt)
    have HEY_131 := Lib.hid (HEY_118.out.below hbt HEY_118.out.lt)
    clear HEX_116 HEL_117 HEY_118
    have HX1_132 := Lib.hid (HX1_119.out.keep hbt (by omega))
    have HX2_133 := Lib.hid (HX2_120.out.keep hbt (by omega))
    have HY1_134 := Lib.hid (HY1_121.out.keep hbt (by omega))
    have HY2_135 := Lib.hid (HY2_122.out.keep hbt (by omega))
    have HW1_136 := Lib.hid (HW1_124.out.keep hbt (by omega))
    have HW2_137 := Lib.hid (HW2_125.out.keep hbt (by omega))
    have HB_138 := Lib.hid (up HB_123.out hbt)
    have hz_6 := hbt.size
    clear HX1_119 HX2_120 HY1_121 HY2_122 HW1_124 HW2_125 HB_123
    clear hbt
    have a_139 := HEY_131.out.cell 0
    have a_140 := HEY_131.out.cell 1
    go_wp2_with (fail)
    try clear a_127 a_128 a_139 a_140
    generalize (w5.alloc (.cells #[.slice AW1 m1 cW1, .slice AW2 m2 cW2] 26)) = w6 at *
    (with_reducible refine (equalPost_same 0 _ m1 cY1 0 _ m2 cY2 0 _ cW1 0 _ cW2 AY1 AY2 AW1 AW2 ns (fs ++ [(x, y, z)]) _ HY1_134.out (by omega) (by omega) HY2_135.out (by omega) (by omega) HW1_136.out (by omega) HW2_137.out (by omega)).mono ?_)
    rintro e w7 ⟨rfl, hbt⟩
    have HEX_141 := Lib.hid (HEX_129.out.below hbt HEX_129.out.lt)
    have HEL_142 := Lib.hid (HEL_130.out.below hbt HEL_130.out.lt)
    have HEY_143 := Lib.hid (HEY_131.out.below hbt HEY_131.out.lt)
    have HEW_144 := Lib.hid (HEW_126.out.below hbt HEW_126.out.lt)
    clear HEX_129 HEL_130 HEY_131 HEW_126
    have HX1_145 := Lib.hid (HX1_132.out.keep hbt (by omega))
    have HX2_146 := Lib.hid (HX2_133.out.keep hbt (by omega))
    have HY1_147 := Lib.hid (HY1_134.out.keep hbt (by omega))
    have HY2_148 := Lib.hid (HY2_135.out.keep hbt (by omega))
    have HW1_149 := Lib.hid (HW1_136.out.keep hbt (by omega))
    have HW2_150 := Lib.hid (HW2_137.out.keep hbt (by omega))
    have HB_151 := Lib.hid (up HB_138.out hbt)
    have hz_7 := hbt.size
    clear HX1_132 HX2_133 HY1_134 HY2_135 HW1_136 HW2_137 HB_138
    clear hbt
    have hlast : (fs ++ [(x, y, z)])[n2]? = some (x, y, z) := by rw [← HL2.out]; simp
    obtain ⟨b, off, x9, y9, z9, hAe, hbB, _, hg, hc0, hc1', hc2'⟩ := HY2_148.out.trip (k := n2) (by omega)
    have HG := Lib.hid hg
    clear hg
    subst hAe
    have hx9 := Option.some.inj (hlast.symm.trans HG.out)
    injection hx9 with e1 hx9
    injection hx9 with e2 e3
    subst e1 e2 e3
    clear hlast HG
    have HSW := Lib.hid (show ∀ wx, Below w7.heap.size w7 wx → wx.cell? ⟨w3.heap.size, 0, none⟩ = some (.slice AY1 m1 cY1) ∧ wx.cell? ⟨w3.heap.size, 1, none⟩ = some (.slice (some ⟨b, off, none⟩) m2 cY2) ∧ wx.cell? ⟨w1.heap.size, 0, none⟩ = some (.slice A1 n1 c1) ∧ wx.cell? ⟨w1.heap.size, 1, none⟩ = some (.slice A2 n2 c2) ∧ wx.cell? ⟨(w1.heap.size + 1), 0, none⟩ = some (.int .i64 x) ∧ wx.cell? ⟨(w1.heap.size + 1), 1, none⟩ = some (.int .i64 y) ∧ wx.cell? ⟨(w1.heap.size + 1), 2, none⟩ = some (.int .i64 z) ∧ wx.cell? ⟨b, off + n2 * 3, none⟩ = some (.int .i64 x) ∧ wx.cell? ⟨b, off + n2 * 3 + 1, none⟩ = some (.int .i64 y) ∧ wx.cell? ⟨b, off + n2 * 3 + 2, none⟩ = some (.int .i64 z) from fun wx hb => ⟨(hb.cell (by show w3.heap.size < w7.heap.size; omega)).trans (HEY_143.out.cell 0), (hb.cell (by show w3.heap.size < w7.heap.size; omega)).trans (HEY_143.out.cell 1), (hb.cell (by show w1.heap.size < w7.heap.size; omega)).trans (HEX_141.out.cell 0), (hb.cell (by show w1.heap.size < w7.heap.size; omega)).trans (HEX_141.out.cell 1), (hb.cell (by show (w1.heap.size + 1) < w7.heap.size; omega)).trans (HEL_142.out.cell 0), (hb.cell (by show (w1.heap.size + 1) < w7.heap.size; omega)).trans (HEL_142.out.cell 1), (hb.cell (by show (w1.heap.size + 1) < w7.heap.size; omega)).trans (HEL_142.out.cell 2), (hb.cell (by show b < w7.heap.size; omega)).trans (hc0), (hb.cell (by show b < w7.heap.size; omega)).trans (hc1'), (hb.cell (by show b < w7.heap.size; omega)).trans (hc2')⟩)
    clear hc0 hc1' hc2'
    have HC0 := Lib.hid (show ∀ wx, Below w7.heap.size w7 wx → Calls Try.prog 17 #[.slice AY1 m1 cY1, .slice A1 n1 c1] wx fun e w' => e = .returned (.bool true) ∧ Below w7.heap.size w7 w' from fun wx hb => (equalSubs_any 0 _ m1 cY1 0 _ n1 c1 AY1 A1 ns ns wx (HY1_147.out.keep hb (by omega)) (Nat.le_trans (by omega) hb.size) (by omega) (HX1_145.out.keep hb (by omega)) (Nat.le_trans (by omega) hb.size) (by omega)).mono fun e w' ⟨h1, h2⟩ => ⟨by rw [h1, beq_self_eq_true], up hb h2⟩)
    have HC1 := Lib.hid (show ∀ wx, Below w7.heap.size w7 wx → Calls Try.prog 16 #[.agg #[.slice AY1 m1 cY1, .slice (some ⟨b, off, none⟩) m2 cY2]] wx fun e w' => e = .returned (.bool true) ∧ Below w7.heap.size w7 w' from fun wx hb => (ValidPostI_any 0 _ m1 cY1 AY1 ns 0 _ m2 cY2 (some ⟨b, off, none⟩) (fs ++ [(x, y, z)]) wx (HY1_147.out.keep hb (by omega)) (Nat.le_trans (by omega) hb.size) (by omega) (HY2_148.out.keep hb (by omega)) (Nat.le_trans (by omega) hb.size) (by omega)).mono fun e w' ⟨h1, h2⟩ => ⟨by rw [h1, HV.out], up hb h2⟩)
    obtain ⟨kk0, kk1, kk2, kk3, kk4, kk5, kk6, kk7, kk8, kk9⟩ := HSW.out _ (Below.refl _ _)
    have hex : (x == x) = true := by simp
    have hey : (y == y) = true := by simp
    have hez : (z == z) = true := by simp
    go_wp2_with (fail)
    clear kk0 kk1 kk2 kk3 kk4 kk5 kk6 kk7 kk8 kk9
    go_region_held3 (fun wx => wx.cell? ⟨w3.heap.size, 0, none⟩ = some (.slice AY1 m1 cY1) ∧ wx.cell? ⟨w3.heap.size, 1, none⟩ = some (.slice (some ⟨b, off, none⟩) m2 cY2) ∧ wx.cell? ⟨w1.heap.size, 0, none⟩ = some (.slice A1 n1 c1) ∧ wx.cell? ⟨w1.heap.size, 1, none⟩ = some (.slice A2 n2 c2) ∧ wx.cell? ⟨(w1.heap.size + 1), 0, none⟩ = some (.int .i64 x) ∧ wx.cell? ⟨(w1.heap.size + 1), 1, none⟩ = some (.int .i64 y) ∧ wx.cell? ⟨(w1.heap.size + 1), 2, none⟩ = some (.int .i64 z) ∧ wx.cell? ⟨b, off + n2 * 3, none⟩ = some (.int .i64 x) ∧ wx.cell? ⟨b, off + n2 * 3 + 1, none⟩ = some (.int .i64 y) ∧ wx.cell? ⟨b, off + n2 * 3 + 2, none⟩ = some (.int .i64 z))
      (first | with_reducible exact HSW.out _ (Below.refl _ _) | with_reducible exact HSW.out _ (up_drew (Below.refl _ _)) | with_reducible exact HSW.out _ (HX0.out) | with_reducible exact HSW.out _ (HX1.out))
      ((first
        | (go_at_call 17; (with_reducible refine (HC0.out _ (up_drew (Below.refl _ _))).mono ?_); rintro e x0 ⟨rfl, hbx⟩; have HX0 := Lib.hid hbx; clear hbx)
        | (go_at_call 16; (with_reducible refine (HC1.out _ (up_drew (Below.refl _ _))).mono ?_); rintro e x1 ⟨rfl, hbx⟩; have HX1 := Lib.hid hbx; clear hbx)
        | (go_at_call 16; (with_reducible refine (HC1.out _ HX0.out).mono ?_); rintro e x1 ⟨rfl, hbx⟩; have HX1 := Lib.hid hbx; clear hbx)
        | fail "no arm"))
    all_goals
      go_wp2
      go_ret
      exact ⟨rfl, up HB_151.out HX1.out⟩
  ·
    replace e2 := e2.symm
    subst e2
    have HV := Lib.hid hv
    have hil := (List.getElem?_eq_some_iff.1 hg).1
    have hm1n : n1 = m1 + 1 := by rw [← HD1.out, e1, List.length_eraseIdx_of_lt hil]; have := HL1.out; omega
    have hw1 : IntKind.i64.wrap ((n1 : Int) - 1) = (m1 : Int) := by rw [IntWalk.i64_in _ (by omega)]; omega
    have hmm : ((m1 : Int) == (m1 : Int)) = true := by simp
    have hk0d : decide (k < 0) = false := decide_eq_false (by omega)
    clear HCS hg hi hv ha e1 hk hil hm1n
    have HEX_152 := Lib.hid (Blk.new w1 26 #[.slice A1 n1 c1, .slice A2 n2 c2])
    have HEL_153 := Lib.hid (show Blk ((w1.alloc (.cells #[.slice A1 n1 c1, .slice A2 n2 c2] 26)).alloc (.cells #[.int .i64 x, .int .i64 y, .int .i64 z] 33)) (w1.heap.size + 1) 33 #[.int .i64 x, .int .i64 y, .int .i64 z] from by have h := Blk.new ((w1.alloc (.cells #[.slice A1 n1 c1, .slice A2 n2 c2] 26))) 33 #[.int .i64 x, .int .i64 y, .int .i64 z]; rwa [World.size_alloc] at h)
    have HEX_154 := Lib.hid (HEX_152.out.alloc (.cells #[.int .i64 x, .int .i64 y, .int .i64 z] 33))
    clear HEX_152
    have hbt := up_alloc (up_alloc (Below.refl _ w1) (.cells #[.slice A1 n1 c1, .slice A2 n2 c2] 26)) (.cells #[.int .i64 x, .int .i64 y, .int .i64 z] 33)
    have hs_2 : ((w1.alloc (.cells #[.slice A1 n1 c1, .slice A2 n2 c2] 26)).alloc (.cells #[.int .i64 x, .int .i64 y, .int .i64 z] 33)).heap.size = w1.heap.size + 1 + 1 := by simp
    have HX1_155 := Lib.hid (HX1_1.out.keep hbt (by omega))
    have HX2_156 := Lib.hid (HX2_2.out.keep hbt (by omega))
    have HB_157 := Lib.hid (up HB_0.out hbt)
    have hz_2 := hbt.size
    clear HX1_1 HX2_2 HB_0
    clear hbt
    go_wp2_with (fail)
    generalize ((w1.alloc (.cells #[.slice A1 n1 c1, .slice A2 n2 c2] 26)).alloc (.cells #[.int .i64 x, .int .i64 y, .int .i64 z] 33)) = w2 at *
    (with_reducible refine (post_at (SendLetterI_any 0 _ n1 c1 A1 ns 0 _ n2 c2 A2 fs x y z _ HX1_155.out (by omega) (by omega) HX2_156.out (by omega) (by omega)) (by rw [HU.out]) (by rw [HU.out]) (by rw [HU.out]) HD1.out HD2.out (d1 := d1) (d2 := fs) (v := (.int .i64 k)) (b := true) (m1 := m1) (m2 := m2)).mono ?_)
    rintro e w3 ⟨AY1, cY1, AY2, cY2, rfl, hkY1, hkY2, hr1, hr2, hbt⟩
    have HEX_158 := Lib.hid (HEX_154.out.below hbt HEX_154.out.lt)
    have HEL_159 := Lib.hid (HEL_153.out.below hbt HEL_153.out.lt)
    clear HEX_154 HEL_153
    have HX1_160 := Lib.hid (HX1_155.out.keep hbt (by omega))
    have HX2_161 := Lib.hid (HX2_156.out.keep hbt (by omega))
    have HB_162 := Lib.hid (up HB_157.out hbt)
    have hz_3 := hbt.size
    clear HX1_155 HX2_156 HB_157
    clear hbt
    have HY1_163 := Lib.hid (hr1.wide (Nat.zero_le _) (Nat.le_refl _))
    clear hr1
    have HY2_164 := Lib.hid (hr2.wide (Nat.zero_le _) (Nat.le_refl _))
    clear hr2
    have HEY_165 := Lib.hid (Blk.new w3 26 #[.slice AY1 m1 cY1, .slice AY2 m2 cY2])
    have hbt := up_alloc (Below.refl _ w3) (.cells #[.slice AY1 m1 cY1, .slice AY2 m2 cY2] 26)
    have hs_4 : (w3.alloc (.cells #[.slice AY1 m1 cY1, .slice AY2 m2 cY2] 26)).heap.size = w3.heap.size + 1 := by simp
    have a_166 := HEX_158.out.cell 0
    have a_167 := HEX_158.out.cell 1
    have a_168 := HEL_159.out.cell 0
    have a_169 := HEL_159.out.cell 1
    have a_170 := HEL_159.out.cell 2
    have HEX_171 := Lib.hid (HEX_158.out.below hbt HEX_158.out.lt)
    have HEL_172 := Lib.hid (HEL_159.out.below hbt HEL_159.out.lt)
    clear HEX_158 HEL_159
    have HX1_173 := Lib.hid (HX1_160.out.keep hbt (by omega))
    have HX2_174 := Lib.hid (HX2_161.out.keep hbt (by omega))
    have HY1_175 := Lib.hid (HY1_163.out.keep hbt (by omega))
    have HY2_176 := Lib.hid (HY2_164.out.keep hbt (by omega))
    have HB_177 := Lib.hid (up HB_162.out hbt)
    have hz_4 := hbt.size
    clear HX1_160 HX2_161 HY1_163 HY2_164 HB_162
    clear hbt
    have a_178 := HEX_171.out.cell 0
    have a_179 := HEX_171.out.cell 1
    have a_180 := HEL_172.out.cell 0
    have a_181 := HEL_172.out.cell 1
    have a_182 := HEL_172.out.cell 2
    go_wp2_with (fail)
    try clear a_166 a_167 a_168 a_169 a_170 a_178 a_179 a_180 a_181 a_182
    generalize (w3.alloc (.cells #[.slice AY1 m1 cY1, .slice AY2 m2 cY2] 26)) = w4 at *
    (with_reducible refine (post_at (SendLetterS_any 0 _ n1 c1 A1 ns 0 _ n2 c2 A2 fs x y z _ HX1_173.out (by omega) (by omega) HX2_174.out (by omega) (by omega) (by omega) (by omega)) (by rw [HU.out]) (by rw [HU.out]) (by rw [HU.out]) HD1.out HD2.out (d1 := d1) (d2 := fs) (v := (.int .i64 k)) (b := true) (m1 := m1) (m2 := m2)).mono ?_)
    rintro e w5 ⟨AW1, cW1, AW2, cW2, rfl, hkW1, hkW2, hr1, hr2, hbt⟩
    have HEX_183 := Lib.hid (HEX_171.out.below hbt HEX_171.out.lt)
    have HEL_184 := Lib.hid (HEL_172.out.below hbt HEL_172.out.lt)
    have HEY_185 := Lib.hid (HEY_165.out.below hbt HEY_165.out.lt)
    clear HEX_171 HEL_172 HEY_165
    have HX1_186 := Lib.hid (HX1_173.out.keep hbt (by omega))
    have HX2_187 := Lib.hid (HX2_174.out.keep hbt (by omega))
    have HY1_188 := Lib.hid (HY1_175.out.keep hbt (by omega))
    have HY2_189 := Lib.hid (HY2_176.out.keep hbt (by omega))
    have HB_190 := Lib.hid (up HB_177.out hbt)
    have hz_5 := hbt.size
    clear HX1_173 HX2_174 HY1_175 HY2_176 HB_177
    clear hbt
    have HW1_191 := Lib.hid (hr1.wide (Nat.zero_le _) (Nat.le_refl _))
    clear hr1
    have HW2_192 := Lib.hid (hr2.wide (Nat.zero_le _) (Nat.le_refl _))
    clear hr2
    have HEW_193 := Lib.hid (Blk.new w5 26 #[.slice AW1 m1 cW1, .slice AW2 m2 cW2])
    have hbt := up_alloc (Below.refl _ w5) (.cells #[.slice AW1 m1 cW1, .slice AW2 m2 cW2] 26)
    have hs_6 : (w5.alloc (.cells #[.slice AW1 m1 cW1, .slice AW2 m2 cW2] 26)).heap.size = w5.heap.size + 1 := by simp
    have a_194 := HEY_185.out.cell 0
    have a_195 := HEY_185.out.cell 1
    have HEX_196 := Lib.hid (HEX_183.out.below hbt HEX_183.out.lt)
    have HEL_197 := Lib.hid (HEL_184.out.below hbt HEL_184.out.lt)
    have HEY_198 := Lib.hid (HEY_185.out.below hbt HEY_185.out.lt)
    clear HEX_183 HEL_184 HEY_185
    have HX1_199 := Lib.hid (HX1_186.out.keep hbt (by omega))
    have HX2_200 := Lib.hid (HX2_187.out.keep hbt (by omega))
    have HY1_201 := Lib.hid (HY1_188.out.keep hbt (by omega))
    have HY2_202 := Lib.hid (HY2_189.out.keep hbt (by omega))
    have HW1_203 := Lib.hid (HW1_191.out.keep hbt (by omega))
    have HW2_204 := Lib.hid (HW2_192.out.keep hbt (by omega))
    have HB_205 := Lib.hid (up HB_190.out hbt)
    have hz_6 := hbt.size
    clear HX1_186 HX2_187 HY1_188 HY2_189 HW1_191 HW2_192 HB_190
    clear hbt
    have a_206 := HEY_198.out.cell 0
    have a_207 := HEY_198.out.cell 1
    go_wp2_with (fail)
    try clear a_194 a_195 a_206 a_207
    generalize (w5.alloc (.cells #[.slice AW1 m1 cW1, .slice AW2 m2 cW2] 26)) = w6 at *
    (with_reducible refine (equalPost_same 0 _ m1 cY1 0 _ m2 cY2 0 _ cW1 0 _ cW2 AY1 AY2 AW1 AW2 d1 fs _ HY1_201.out (by omega) (by omega) HY2_202.out (by omega) (by omega) HW1_203.out (by omega) HW2_204.out (by omega)).mono ?_)
    rintro e w7 ⟨rfl, hbt⟩
    have HEX_208 := Lib.hid (HEX_196.out.below hbt HEX_196.out.lt)
    have HEL_209 := Lib.hid (HEL_197.out.below hbt HEL_197.out.lt)
    have HEY_210 := Lib.hid (HEY_198.out.below hbt HEY_198.out.lt)
    have HEW_211 := Lib.hid (HEW_193.out.below hbt HEW_193.out.lt)
    clear HEX_196 HEL_197 HEY_198 HEW_193
    have HX1_212 := Lib.hid (HX1_199.out.keep hbt (by omega))
    have HX2_213 := Lib.hid (HX2_200.out.keep hbt (by omega))
    have HY1_214 := Lib.hid (HY1_201.out.keep hbt (by omega))
    have HY2_215 := Lib.hid (HY2_202.out.keep hbt (by omega))
    have HW1_216 := Lib.hid (HW1_203.out.keep hbt (by omega))
    have HW2_217 := Lib.hid (HW2_204.out.keep hbt (by omega))
    have HB_218 := Lib.hid (up HB_205.out hbt)
    have hz_7 := hbt.size
    clear HX1_199 HX2_200 HY1_201 HY2_202 HW1_203 HW2_204 HB_205
    clear hbt
    have a_219 := HEY_210.out.cell 0
    have a_220 := HEY_210.out.cell 1
    have a_221 := HEX_208.out.cell 0
    have a_222 := HEX_208.out.cell 1
    go_wp2_with (fail)
    (with_reducible refine (equalLetters_any _ _ m2 cY2 _ _ n2 c2 AY2 A2 fs fs _ HY2_215.out (by omega) (by omega) HX2_213.out (by omega) (by omega)).mono ?_)
    rintro e w8 ⟨rfl, hbt⟩
    rw [beq_self_eq_true]
    have HEX_223 := Lib.hid (HEX_208.out.below hbt HEX_208.out.lt)
    have HEL_224 := Lib.hid (HEL_209.out.below hbt HEL_209.out.lt)
    have HEY_225 := Lib.hid (HEY_210.out.below hbt HEY_210.out.lt)
    have HEW_226 := Lib.hid (HEW_211.out.below hbt HEW_211.out.lt)
    clear HEX_208 HEL_209 HEY_210 HEW_211
    have HX1_227 := Lib.hid (HX1_212.out.keep hbt (by omega))
    have HX2_228 := Lib.hid (HX2_213.out.keep hbt (by omega))
    have HY1_229 := Lib.hid (HY1_214.out.keep hbt (by omega))
    have HY2_230 := Lib.hid (HY2_215.out.keep hbt (by omega))
    have HW1_231 := Lib.hid (HW1_216.out.keep hbt (by omega))
    have HW2_232 := Lib.hid (HW2_217.out.keep hbt (by omega))
    have HB_233 := Lib.hid (up HB_218.out hbt)
    have hz_8 := hbt.size
    clear HX1_212 HX2_213 HY1_214 HY2_215 HW1_216 HW2_217 HB_218
    clear hbt
    try clear a_219 a_220 a_221 a_222
    have a_234 := HEY_225.out.cell 0
    have a_235 := HEY_225.out.cell 1
    go_wp2_with (fail)
    try clear a_234 a_235
    (with_reducible refine (ValidPostI_any 0 _ m1 cY1 AY1 d1 0 _ m2 cY2 AY2 fs _ HY1_229.out (by omega) (by omega) HY2_230.out (by omega) (by omega)).mono ?_)
    rintro e w9 ⟨rfl, hbt⟩
    rw [HV.out]
    have HEX_236 := Lib.hid (HEX_223.out.below hbt HEX_223.out.lt)
    have HEL_237 := Lib.hid (HEL_224.out.below hbt HEL_224.out.lt)
    have HEY_238 := Lib.hid (HEY_225.out.below hbt HEY_225.out.lt)
    have HEW_239 := Lib.hid (HEW_226.out.below hbt HEW_226.out.lt)
    clear HEX_223 HEL_224 HEY_225 HEW_226
    have HX1_240 := Lib.hid (HX1_227.out.keep hbt (by omega))
    have HX2_241 := Lib.hid (HX2_228.out.keep hbt (by omega))
    have HY1_242 := Lib.hid (HY1_229.out.keep hbt (by omega))
    have HY2_243 := Lib.hid (HY2_230.out.keep hbt (by omega))
    have HW1_244 := Lib.hid (HW1_231.out.keep hbt (by omega))
    have HW2_245 := Lib.hid (HW2_232.out.keep hbt (by omega))
    have HB_246 := Lib.hid (up HB_233.out hbt)
    have hz_9 := hbt.size
    clear HX1_227 HX2_228 HY1_229 HY2_230 HW1_231 HW2_232 HB_233
    clear hbt
    go_wp2
    go_ret
    exact ⟨rfl, HB_246.out⟩
end Go.Proofs.Ytgnffodnimafoaa
