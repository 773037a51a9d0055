/- The law FnExactEarliestTimes, walked: it returns true. (Written by gen/exgen.py.) -/
import Derived.Test.YtdjpffmnohnpaaaExProc
import Derived.Test.YtdjpffmnohnpaaaExInt
import Derived.Test.YtdjpffmnohnpaaaPlanC
import Derived.Test.YtdjpffmnohnpaaaPlanD
import Derived.Deep.RegionHeld3
set_option linter.unusedSimpArgs false
set_option linter.unusedVariables false
namespace Go.Proofs.Ytdjpffmnohnpaaa
open Go.RowKit

set_option maxRecDepth 100000 in
set_option maxHeartbeats 6400000 in
theorem exEarliestTimes_any (nn cn n c : Nat) (An A : Option Addr) (ns : List (Int × Int)) (fs : List Flw) (w : World) (hnn : nn ≤ 9223372036854775807) (hn : n ≤ 9223372036854775807) (hrn : Rd w 0 w.heap.size 2 An nn (pvs ns)) (hr : FlsU w 0 w.heap.size A n fs) (n1 c1 : Nat) (A1 : Option Addr) (m1 : List Int) (hn1 : n1 ≤ 9223372036854775807) (hr1 : Rd w 0 w.heap.size 1 A1 n1 (ivs m1)) :
    Calls Try.prog 3 #[.agg #[.slice An nn cn, .slice A n c], .slice A1 n1 c1] w fun e w' => e = .returned (.bool true) ∧ Below w.heap.size w w' := by
  by_cases hg1 : (1048576 : Int) < n1
  · go_enter Try.func3, Try.ntmps3
    go_wp2
    go_ret
    exact ⟨rfl, up_alloc (Below.refl _ _) _⟩
  have hm1 : n1 ≤ 1048576 := by omega
  have hb0 := up_alloc (Below.refl _ w) (.cells #[.slice An nn cn, .slice A n c] 25)
  have hx0 := Blk.new w 25 #[.slice An nn cn, .slice A n c]
  have HX0 := Lib.hid hx0
  have hlt0 := hx0.lt
  have HLN := Lib.hid hrn.len2
  have HLF := Lib.hid hr.1
  clear hx0
  have HL1 := Lib.hid hr1.len1
  have HRN := Lib.hid hrn
  have HR0 := Lib.hid hr
  have HA1 := Lib.hid hr1
  clear hrn hr hr1
  go_enter Try.func3, Try.ntmps3
  go_wp2_with (fail)
  (with_reducible refine (szProcess_any 0 w.heap.size nn cn An ns 0 w.heap.size n c A fs 1048576 _ (HRN.out.keep hb0 (Nat.le_refl _)) hb0.size hnn (HR0.out.keep hb0 (Nat.le_refl _)) hb0.size hn (by omega) (by omega)).mono ?_)
  rintro e w1 ⟨hb1, he⟩
  have HB_0 := Lib.hid (up hb0 hb1)
  have HX_0 := Lib.hid (HX0.out.below hb1 hlt0)
  have hz1 : w.heap.size + 1 ≤ w1.heap.size := by have := hb1.size; omega
  clear hb1 hb0 HX0 hlt0
  rcases he with rfl | ⟨r, rfl, q0, _, q2, q3, q4⟩
  · go_wp2
    go_ret
    exact ⟨rfl, HB_0.out⟩
  have HS := Lib.hid (HR0.out.small q4)
  clear q4 HR0
  have hnn1 : ns.length ≤ 1048576 := by rw [HLN.out]; exact q2
  have hfl1 : fs.length ≤ 1048576 := by rw [HLF.out]; exact q3
  have hul0 : (earlyR ns fs m1).length ≤ 1048576 := Nat.le_trans (earlyR_len ns fs m1) (by have := HL1.out; omega)
  generalize hU0 : earlyR ns fs m1 = u0 at hul0
  have HU0 := Lib.hid hU0
  clear hU0
  have k_1 : w1.cell? ⟨w.heap.size, 0, none⟩ = some (.slice An nn cn) := HX_0.out.cell 0
  have k_2 : w1.cell? ⟨w.heap.size, 1, none⟩ = some (.slice A n c) := HX_0.out.cell 1
  go_wp2_with (fail)
  (with_reducible refine (toProcess_any 0 w.heap.size nn cn An ns 0 w.heap.size n c A fs w1 (HRN.out.keep HB_0.out (Nat.le_refl _)) HB_0.out.size q2 (HS.out.keep HB_0.out (Nat.le_refl _)) HB_0.out.size q3).mono ?_)
  rintro e w2 ⟨Ana, cna, Bfa, dfa, mida, rfl, hrt, hst, hlta, hmta, hft, hbt⟩
  have hz2 := hbt.size
  clear k_1 k_2
  have HB_3 := Lib.hid (up HB_0.out hbt)
  have HX_4 := Lib.hid (HX_0.out.below hbt (by omega))
  clear HB_0 HX_0
  have HNa := Lib.hid hrt
  have HMa := Lib.hid hst
  have HFa := Lib.hid hft
  clear hrt hst hft hbt
  go_wp2_with (fail)
  (with_reducible refine (toIntS_any 0 w.heap.size n1 c1 A1 m1 _ (HA1.out.keep HB_3.out (Nat.le_refl _)) HB_3.out.size hm1).mono ?_)
  rintro e w3 ⟨Asa1, csa1, rfl, _, hrt, hst, hbt⟩
  have hz3 := hbt.size
  have HB_5 := Lib.hid (up HB_3.out hbt)
  have HX_6 := Lib.hid (HX_4.out.below hbt (by omega))
  have HNa_7 := Lib.hid (HNa.out.keep hbt (by omega))
  have HMa_8 := Lib.hid (HMa.out.kept HNa.out hbt (by omega))
  have HFa_9 := Lib.hid (HFa.out.keep hbt (by omega) (by omega))
  clear HB_3 HX_4 HNa HMa HFa
  have HVa1 := Lib.hid hrt
  have HWa1 := Lib.hid hst
  clear hrt hst hbt
  go_wp2_with (fail)
  (with_reducible refine (EarliestTimesS_any w1.heap.size mida ns.length cna Ana ns mida w2.heap.size fs.length dfa Bfa fs w2.heap.size w3.heap.size n1 csa1 Asa1 m1 _ HNa_7.out (by omega) hnn1 (HFa_9.out.fls (by omega) (by omega)) (by omega) hfl1 HVa1.out (by omega) hm1).mono ?_)
  rw [HU0.out]
  rintro e w4 ⟨Ags1, cgs1, rfl, _, hrt, hst, hbt⟩
  have hz4 := hbt.size
  have HB_10 := Lib.hid (up HB_5.out hbt)
  have HX_11 := Lib.hid (HX_6.out.below hbt (by omega))
  have HNa_12 := Lib.hid (HNa_7.out.keep hbt (by omega))
  have HMa_13 := Lib.hid (HMa_8.out.kept HNa_7.out hbt (by omega))
  have HFa_14 := Lib.hid (HFa_9.out.keep hbt (by omega) (by omega))
  have HVa1_15 := Lib.hid (HVa1.out.keep hbt (by omega))
  have HWa1_16 := Lib.hid (HWa1.out.kept HVa1.out hbt (by omega))
  clear HB_5 HX_6 HNa_7 HMa_8 HFa_9 HVa1 HWa1
  have HGs1 := Lib.hid hrt
  have HHs1 := Lib.hid hst
  clear hrt hst hbt
  clear HMa_13
  clear HFa_14
  clear HNa_12
  clear HWa1_16
  clear HVa1_15
  clear HHs1
  have k_17 : w4.cell? ⟨w.heap.size, 0, none⟩ = some (.slice An nn cn) := HX_11.out.cell 0
  have k_18 : w4.cell? ⟨w.heap.size, 1, none⟩ = some (.slice A n c) := HX_11.out.cell 1
  go_wp2_with (fail)
  (with_reducible refine (toProcess_any 0 w.heap.size nn cn An ns 0 w.heap.size n c A fs w4 (HRN.out.keep HB_10.out (Nat.le_refl _)) HB_10.out.size q2 (HS.out.keep HB_10.out (Nat.le_refl _)) HB_10.out.size q3).mono ?_)
  rintro e w5 ⟨Anb, cnb, Bfb, dfb, midb, rfl, hrt, hst, hltb, hmtb, hft, hbt⟩
  have hz5 := hbt.size
  clear k_17 k_18
  have HB_19 := Lib.hid (up HB_10.out hbt)
  have HX_20 := Lib.hid (HX_11.out.below hbt (by omega))
  have HGs1_21 := Lib.hid (HGs1.out.keep hbt (by omega))
  clear HB_10 HX_11 HGs1
  have HNb := Lib.hid hrt
  have HMb := Lib.hid hst
  have HFb := Lib.hid hft
  clear hrt hst hft hbt
  have hba := up_alloc (Below.refl _ w5) (.cells #[.slice Anb ns.length cnb, .slice Bfb fs.length dfb] 32)
  have hp := Blk.new w5 32 #[.slice Anb ns.length cnb, .slice Bfb fs.length dfb]
  have hzz : w5.heap.size + 1 = (w5.alloc (.cells #[.slice Anb ns.length cnb, .slice Bfb fs.length dfb] 32)).heap.size := by simp
  generalize hWw6 : (w5.alloc (.cells #[.slice Anb ns.length cnb, .slice Bfb fs.length dfb] 32)) = w6 at hba hp hzz
  have hz6 : w5.heap.size + 1 ≤ w6.heap.size := by omega
  clear hzz
  have HB_22 := Lib.hid (up HB_19.out hba)
  have HX_23 := Lib.hid (HX_20.out.below hba (by omega))
  have HGs1_24 := Lib.hid (HGs1_21.out.keep hba (by omega))
  have HNb_25 := Lib.hid (HNb.out.keep hba (by omega))
  have HMb_26 := Lib.hid (HMb.out.kept HNb.out hba (by omega))
  have HFb_27 := Lib.hid (HFb.out.keep hba (by omega) (by omega))
  clear HB_19 HX_20 HGs1_21 HNb HMb HFb
  have HY := Lib.hid hp
  clear hba hp
  have HWE := Lib.hid hWw6
  clear hWw6
  go_wp2_with (fail)
  rw [HWE.out]
  (with_reducible refine (toIntS_any 0 w.heap.size n1 c1 A1 m1 _ (HA1.out.keep HB_22.out (Nat.le_refl _)) HB_22.out.size hm1).mono ?_)
  rintro e w7 ⟨Asb1, csb1, rfl, _, hrt, hst, hbt⟩
  have hz7 := hbt.size
  have HB_28 := Lib.hid (up HB_22.out hbt)
  have HX_29 := Lib.hid (HX_23.out.below hbt (by omega))
  have HGs1_30 := Lib.hid (HGs1_24.out.keep hbt (by omega))
  have HNb_31 := Lib.hid (HNb_25.out.keep hbt (by omega))
  have HMb_32 := Lib.hid (HMb_26.out.kept HNb_25.out hbt (by omega))
  have HFb_33 := Lib.hid (HFb_27.out.keep hbt (by omega) (by omega))
  have HY_34 := Lib.hid (HY.out.below hbt (by omega))
  clear HB_22 HX_23 HGs1_24 HNb_25 HMb_26 HFb_27 HY
  have HVb1 := Lib.hid hrt
  have HWb1 := Lib.hid hst
  clear hrt hst hbt
  have k_35 : w7.cell? ⟨w5.heap.size, 0, none⟩ = some (.slice Anb ns.length cnb) := HY_34.out.cell 0
  have k_36 : w7.cell? ⟨w5.heap.size, 1, none⟩ = some (.slice Bfb fs.length dfb) := HY_34.out.cell 1
  go_wp2_with (fail)
  (with_reducible refine (EarliestTimesI_any w4.heap.size midb ns.length cnb Anb ns midb w5.heap.size fs.length dfb Bfb fs w6.heap.size w7.heap.size n1 csb1 Asb1 m1 _ HNb_31.out (by omega) hnn1 (HFb_33.out.fls (by omega) (by omega)) (by omega) hfl1 HVb1.out (by omega) hm1).mono ?_)
  rw [HU0.out]
  rintro e w8 ⟨Agi2, cgi2, rfl, _, hrt, hst, hbt⟩
  have hz8 := hbt.size
  have HB_37 := Lib.hid (up HB_28.out hbt)
  have HX_38 := Lib.hid (HX_29.out.below hbt (by omega))
  have HGs1_39 := Lib.hid (HGs1_30.out.keep hbt (by omega))
  have HNb_40 := Lib.hid (HNb_31.out.keep hbt (by omega))
  have HMb_41 := Lib.hid (HMb_32.out.kept HNb_31.out hbt (by omega))
  have HFb_42 := Lib.hid (HFb_33.out.keep hbt (by omega) (by omega))
  have HY_43 := Lib.hid (HY_34.out.below hbt (by omega))
  have HVb1_44 := Lib.hid (HVb1.out.keep hbt (by omega))
  have HWb1_45 := Lib.hid (HWb1.out.kept HVb1.out hbt (by omega))
  clear HB_28 HX_29 HGs1_30 HNb_31 HMb_32 HFb_33 HY_34 HVb1 HWb1
  have HGi2 := Lib.hid hrt
  have HHi2 := Lib.hid hst
  clear hrt hst hbt
  clear k_35 k_36
  go_wp2_with (fail)
  (with_reducible refine (eqIntS_any _ _ u0.length cgi2 _ _ u0.length cgs1 Agi2 Ags1 u0 u0 _ HGi2.out (by omega) hul0 HGs1_39.out (by omega) hul0).mono ?_)
  rintro e w9 ⟨rfl, hbt⟩
  rw [beq_self_eq_true]
  have hz9 := hbt.size
  have HB_46 := Lib.hid (up HB_37.out hbt)
  have HX_47 := Lib.hid (HX_38.out.below hbt (by omega))
  have HGs1_48 := Lib.hid (HGs1_39.out.keep hbt (by omega))
  have HNb_49 := Lib.hid (HNb_40.out.keep hbt (by omega))
  have HMb_50 := Lib.hid (HMb_41.out.kept HNb_40.out hbt (by omega))
  have HFb_51 := Lib.hid (HFb_42.out.keep hbt (by omega) (by omega))
  have HY_52 := Lib.hid (HY_43.out.below hbt (by omega))
  have HVb1_53 := Lib.hid (HVb1_44.out.keep hbt (by omega))
  have HWb1_54 := Lib.hid (HWb1_45.out.kept HVb1_44.out hbt (by omega))
  have HGi2_55 := Lib.hid (HGi2.out.keep hbt (by omega))
  have HHi2_56 := Lib.hid (HHi2.out.kept HGi2.out hbt (by omega))
  clear HB_37 HX_38 HGs1_39 HNb_40 HMb_41 HFb_42 HY_43 HVb1_44 HWb1_45 HGi2 HHi2
  clear hbt
  have k_57 : w9.cell? ⟨w.heap.size, 0, none⟩ = some (.slice An nn cn) := HX_47.out.cell 0
  have k_58 : w9.cell? ⟨w.heap.size, 1, none⟩ = some (.slice A n c) := HX_47.out.cell 1
  have k_59 : w9.cell? ⟨w5.heap.size, 0, none⟩ = some (.slice Anb ns.length cnb) := HY_52.out.cell 0
  have k_60 : w9.cell? ⟨w5.heap.size, 1, none⟩ = some (.slice Bfb fs.length dfb) := HY_52.out.cell 1
  have HC := Lib.hid (toProcess_any 0 w.heap.size nn cn An ns 0 w.heap.size n c A fs w9.drew (HRN.out.keep (up_drew HB_46.out) (Nat.le_refl _)) HB_46.out.size q2 (HS.out.keep (up_drew HB_46.out) (Nat.le_refl _)) HB_46.out.size q3)
  go_wp2
  go_region_held3 (fun w' => w'.cell? ⟨w.heap.size, 0, none⟩ = some (.slice An nn cn) ∧ w'.cell? ⟨w.heap.size, 1, none⟩ = some (.slice A n c) ∧ w'.cell? ⟨w5.heap.size, 0, none⟩ = some (.slice Anb ns.length cnb) ∧ w'.cell? ⟨w5.heap.size, 1, none⟩ = some (.slice Bfb fs.length dfb))
    (first
      | exact ⟨k_57, k_58, k_59, k_60⟩
      | exact ⟨(hb7.cell (by show w.heap.size < w9.heap.size; omega)).trans k_57, (hb7.cell (by show w.heap.size < w9.heap.size; omega)).trans k_58, (hb7.cell (by show w5.heap.size < w9.heap.size; omega)).trans k_59, (hb7.cell (by show w5.heap.size < w9.heap.size; omega)).trans k_60⟩
      | exact ⟨(hb8.cell (by show w.heap.size < w10.heap.size; omega)).trans ((hb7.cell (by show w.heap.size < w9.heap.size; omega)).trans k_57), (hb8.cell (by show w.heap.size < w10.heap.size; omega)).trans ((hb7.cell (by show w.heap.size < w9.heap.size; omega)).trans k_58), (hb8.cell (by show w5.heap.size < w10.heap.size; omega)).trans ((hb7.cell (by show w5.heap.size < w9.heap.size; omega)).trans k_59), (hb8.cell (by show w5.heap.size < w10.heap.size; omega)).trans ((hb7.cell (by show w5.heap.size < w9.heap.size; omega)).trans k_60)⟩)
    ((first
      | (go_at_call 17; refine HC.out.mono ?_; rintro e w10 ⟨A7, c7, B7, d7, m7, rfl, hr7, _, hl7, hm7, hf7, hb7⟩; have hs7 : w9.heap.size ≤ w10.heap.size := hb7.size; have hlx7 : w9.heap.size ≤ m7 := hl7)
      | (go_at_call 21; refine (eqProcess_same w4.heap.size midb ns.length cnb _ m7 ns.length c7 Anb A7 ns midb w5.heap.size fs.length dfb m7 w10.heap.size fs.length d7 Bfb B7 fs w10 (HNb_49.out.keep (up (up_drew (Below.refl _ w9)) hb7) (by omega)) (by omega) hnn1 ((HFb_51.out.fls (by omega) (by omega)).keep (up (up_drew (Below.refl _ w9)) hb7) (by omega)) (by omega) hfl1 hr7 (by omega) (hf7.fls (by omega) hm7) (Nat.le_refl _)).mono ?_; rintro e w11 ⟨rfl, hb8⟩)))
  all_goals
    have hbt := up (up (up_drew (Below.refl _ w9)) hb7) hb8
    have hz11 : w9.heap.size ≤ w11.heap.size := hbt.size
    clear HC k_57 k_58 k_59 k_60
    have HB_61 := Lib.hid (up HB_46.out hbt)
    have HX_62 := Lib.hid (HX_47.out.below hbt (by omega))
    have HGs1_63 := Lib.hid (HGs1_48.out.keep hbt (by omega))
    have HNb_64 := Lib.hid (HNb_49.out.keep hbt (by omega))
    have HMb_65 := Lib.hid (HMb_50.out.kept HNb_49.out hbt (by omega))
    have HFb_66 := Lib.hid (HFb_51.out.keep hbt (by omega) (by omega))
    have HY_67 := Lib.hid (HY_52.out.below hbt (by omega))
    have HVb1_68 := Lib.hid (HVb1_53.out.keep hbt (by omega))
    have HWb1_69 := Lib.hid (HWb1_54.out.kept HVb1_53.out hbt (by omega))
    have HGi2_70 := Lib.hid (HGi2_55.out.keep hbt (by omega))
    have HHi2_71 := Lib.hid (HHi2_56.out.kept HGi2_55.out hbt (by omega))
    clear HB_46 HX_47 HGs1_48 HNb_49 HMb_50 HFb_51 HY_52 HVb1_53 HWb1_54 HGi2_55 HHi2_56
    clear hbt hb7 hb8 hr7 hf7
    go_wp2_with (fail)
    (with_reducible refine (toIntS_any 0 w.heap.size n1 c1 A1 m1 _ (HA1.out.keep HB_61.out (Nat.le_refl _)) HB_61.out.size hm1).mono ?_)
    rintro e w12 ⟨Asc1, csc1, rfl, _, hrt, hst, hbt⟩
    have hz12 := hbt.size
    have HB_72 := Lib.hid (up HB_61.out hbt)
    have HX_73 := Lib.hid (HX_62.out.below hbt (by omega))
    have HGs1_74 := Lib.hid (HGs1_63.out.keep hbt (by omega))
    have HNb_75 := Lib.hid (HNb_64.out.keep hbt (by omega))
    have HMb_76 := Lib.hid (HMb_65.out.kept HNb_64.out hbt (by omega))
    have HFb_77 := Lib.hid (HFb_66.out.keep hbt (by omega) (by omega))
    have HY_78 := Lib.hid (HY_67.out.below hbt (by omega))
    have HVb1_79 := Lib.hid (HVb1_68.out.keep hbt (by omega))
    have HWb1_80 := Lib.hid (HWb1_69.out.kept HVb1_68.out hbt (by omega))
    have HGi2_81 := Lib.hid (HGi2_70.out.keep hbt (by omega))
    have HHi2_82 := Lib.hid (HHi2_71.out.kept HGi2_70.out hbt (by omega))
    clear HB_61 HX_62 HGs1_63 HNb_64 HMb_65 HFb_66 HY_67 HVb1_68 HWb1_69 HGi2_70 HHi2_71
    have HVc1 := Lib.hid hrt
    have HWc1 := Lib.hid hst
    clear hrt hst hbt
    go_wp2_with (fail)
    (with_reducible refine (eqIntS_any _ _ n1 csb1 _ _ n1 csc1 Asb1 Asc1 m1 m1 _ HVb1_79.out (by omega) hm1 HVc1.out (by omega) hm1).mono ?_)
    rintro e w13 ⟨rfl, hbt⟩
    rw [beq_self_eq_true]
    have hz13 := hbt.size
    have HB_83 := Lib.hid (up HB_72.out hbt)
    have HX_84 := Lib.hid (HX_73.out.below hbt (by omega))
    have HGs1_85 := Lib.hid (HGs1_74.out.keep hbt (by omega))
    have HNb_86 := Lib.hid (HNb_75.out.keep hbt (by omega))
    have HMb_87 := Lib.hid (HMb_76.out.kept HNb_75.out hbt (by omega))
    have HFb_88 := Lib.hid (HFb_77.out.keep hbt (by omega) (by omega))
    have HY_89 := Lib.hid (HY_78.out.below hbt (by omega))
    have HVb1_90 := Lib.hid (HVb1_79.out.keep hbt (by omega))
    have HWb1_91 := Lib.hid (HWb1_80.out.kept HVb1_79.out hbt (by omega))
    have HGi2_92 := Lib.hid (HGi2_81.out.keep hbt (by omega))
    have HHi2_93 := Lib.hid (HHi2_82.out.kept HGi2_81.out hbt (by omega))
    have HVc1_94 := Lib.hid (HVc1.out.keep hbt (by omega))
    have HWc1_95 := Lib.hid (HWc1.out.kept HVc1.out hbt (by omega))
    clear HB_72 HX_73 HGs1_74 HNb_75 HMb_76 HFb_77 HY_78 HVb1_79 HWb1_80 HGi2_81 HHi2_82 HVc1 HWc1
    clear hbt
    clear HWc1_95
    clear HVc1_94
    have k_96 : w13.cell? ⟨w5.heap.size, 0, none⟩ = some (.slice Anb ns.length cnb) := HY_89.out.cell 0
    have k_97 : w13.cell? ⟨w5.heap.size, 1, none⟩ = some (.slice Bfb fs.length dfb) := HY_89.out.cell 1
    go_wp2_with (fail)
    (with_reducible refine (markProcess_bd w4.heap.size midb w5.heap.size ns.length cnb fs.length dfb Anb Bfb ns fs _ HNb_86.out HMb_87.out hnn1 HFb_88.out (by omega) (by omega) (by omega) hfl1).mono ?_)
    rintro e w15 ⟨rk, w14, rfl, hrk, hrk3, hbt, hwt⟩
    clear k_96 k_97
    have hz14 := hbt.size
    have hz15 := hwt.size
    clear HMb_87
    clear HFb_88
    clear HNb_86
    clear HY_89
    have HB_98 := Lib.hid (up HB_83.out hbt)
    have HX_99 := Lib.hid (HX_84.out.below hbt (by omega))
    have HGs1_100 := Lib.hid (HGs1_85.out.keep hbt (by omega))
    have HVb1_101 := Lib.hid (HVb1_90.out.keep hbt (by omega))
    have HWb1_102 := Lib.hid (HWb1_91.out.kept HVb1_90.out hbt (by omega))
    have HGi2_103 := Lib.hid (HGi2_92.out.keep hbt (by omega))
    have HHi2_104 := Lib.hid (HHi2_93.out.kept HGi2_92.out hbt (by omega))
    clear HB_83 HX_84 HGs1_85 HVb1_90 HWb1_91 HGi2_92 HHi2_93
    have HB_105 := Lib.hid (Within.below HB_98.out hwt (by omega))
    have HX_106 := Lib.hid (show Blk w15 w.heap.size 25 #[.slice An nn cn, .slice A n c] from (hwt.block w.heap.size (by omega) (by omega)).trans HX_99.out)
    have HGs1_107 := Lib.hid (HGs1_100.out.within hwt (by omega) (by omega))
    have HVb1_108 := Lib.hid (HVb1_101.out.within hwt (by omega) (by omega))
    have HWb1_109 := Lib.hid (HWb1_102.out.within HVb1_101.out hwt (by omega) (by omega))
    have HGi2_110 := Lib.hid (HGi2_103.out.within hwt (by omega) (by omega))
    have HHi2_111 := Lib.hid (HHi2_104.out.within HGi2_103.out hwt (by omega) (by omega))
    clear HB_98 HX_99 HGs1_100 HVb1_101 HWb1_102 HGi2_103 HHi2_104
    clear hbt hwt
    go_wp2_with (fail)
    (with_reducible refine (markIntS_any _ _ n1 csb1 Asb1 _ (rk) _ HVb1_108.out HWb1_109.out hm1 (by omega) (by omega)).mono ?_)
    rintro e w16 ⟨rfl, _, _, hin⟩
    have hwt := Within.grown hin (in_row HVb1_108.out)
    have hz16 := hwt.size
    clear HWb1_109
    clear HVb1_108
    have HB_112 := Lib.hid (Within.below HB_105.out hwt (by omega))
    have HX_113 := Lib.hid (show Blk w16 w.heap.size 25 #[.slice An nn cn, .slice A n c] from (hwt.block w.heap.size (by omega) (by omega)).trans HX_106.out)
    have HGs1_114 := Lib.hid (HGs1_107.out.within hwt (by omega) (by omega))
    have HGi2_115 := Lib.hid (HGi2_110.out.within hwt (by omega) (by omega))
    have HHi2_116 := Lib.hid (HHi2_111.out.within HGi2_110.out hwt (by omega) (by omega))
    clear HB_105 HX_106 HGs1_107 HGi2_110 HHi2_111
    clear hin hwt
    have hrkn : 0 ≤ rk + (n1 : Int) := by omega
    have hrkd : decide (rk + (n1 : Int) < 0) = false := decide_eq_false (by omega)
    go_wp2_with (fail)
    (with_reducible refine (eqIntS_any _ _ u0.length cgi2 _ _ u0.length cgs1 Agi2 Ags1 u0 u0 _ HGi2_115.out (by omega) hul0 HGs1_114.out (by omega) hul0).mono ?_)
    rintro e w17 ⟨rfl, hbt⟩
    rw [beq_self_eq_true]
    have hz17 := hbt.size
    have HB_117 := Lib.hid (up HB_112.out hbt)
    have HX_118 := Lib.hid (HX_113.out.below hbt (by omega))
    have HGs1_119 := Lib.hid (HGs1_114.out.keep hbt (by omega))
    have HGi2_120 := Lib.hid (HGi2_115.out.keep hbt (by omega))
    have HHi2_121 := Lib.hid (HHi2_116.out.kept HGi2_115.out hbt (by omega))
    clear HB_112 HX_113 HGs1_114 HGi2_115 HHi2_116
    clear hbt
    go_wp2_with (fail)
    (with_reducible refine (markIntS_any _ _ u0.length cgi2 Agi2 _ 1 _ HGi2_120.out HHi2_121.out hul0 (by omega) (by omega)).mono ?_)
    rintro e w18 ⟨rfl, hrg, _, hin⟩
    have hwt := Within.grown hin (in_row HGi2_120.out)
    have hz18 := hwt.size
    clear HHi2_121
    clear HGi2_120
    have HB_122 := Lib.hid (Within.below HB_117.out hwt (by omega))
    have HX_123 := Lib.hid (show Blk w18 w.heap.size 25 #[.slice An nn cn, .slice A n c] from (hwt.block w.heap.size (by omega) (by omega)).trans HX_118.out)
    have HGs1_124 := Lib.hid (HGs1_119.out.within hwt (by omega) (by omega))
    clear HB_117 HX_118 HGs1_119
    have HQ := Lib.hid hrg
    clear hin hwt hrg
    go_wp2_with (fail)
    (with_reducible refine (heldIntS_any _ _ u0.length cgi2 Agi2 1 _ HQ.out hul0 (by omega) (by omega)).mono ?_)
    rintro e w19 ⟨rfl, rfl⟩
    have k_125 : w18.cell? ⟨w.heap.size, 0, none⟩ = some (.slice An nn cn) := HX_123.out.cell 0
    have k_126 : w18.cell? ⟨w.heap.size, 1, none⟩ = some (.slice A n c) := HX_123.out.cell 1
    go_wp2_with (fail)
    (with_reducible refine (toProcess_any 0 w.heap.size nn cn An ns 0 w.heap.size n c A fs w18 (HRN.out.keep HB_122.out (Nat.le_refl _)) HB_122.out.size q2 (HS.out.keep HB_122.out (Nat.le_refl _)) HB_122.out.size q3).mono ?_)
    rintro e w19 ⟨And, cnd, Bfd, dfd, midd, rfl, hrt, hst, hltd, hmtd, hft, hbt⟩
    have hz19 := hbt.size
    clear k_125 k_126
    have HB_127 := Lib.hid (up HB_122.out hbt)
    have HX_128 := Lib.hid (HX_123.out.below hbt (by omega))
    have HGs1_129 := Lib.hid (HGs1_124.out.keep hbt (by omega))
    have HQ_130 := Lib.hid (HQ.out.keep hbt (by omega))
    clear HB_122 HX_123 HGs1_124 HQ
    have HNd := Lib.hid hrt
    have HMd := Lib.hid hst
    have HFd := Lib.hid hft
    clear hrt hst hft hbt
    go_wp2_with (fail)
    (with_reducible refine (toIntS_any 0 w.heap.size n1 c1 A1 m1 _ (HA1.out.keep HB_127.out (Nat.le_refl _)) HB_127.out.size hm1).mono ?_)
    rintro e w20 ⟨Asd1, csd1, rfl, _, hrt, hst, hbt⟩
    have hz20 := hbt.size
    have HB_131 := Lib.hid (up HB_127.out hbt)
    have HX_132 := Lib.hid (HX_128.out.below hbt (by omega))
    have HGs1_133 := Lib.hid (HGs1_129.out.keep hbt (by omega))
    have HQ_134 := Lib.hid (HQ_130.out.keep hbt (by omega))
    have HNd_135 := Lib.hid (HNd.out.keep hbt (by omega))
    have HMd_136 := Lib.hid (HMd.out.kept HNd.out hbt (by omega))
    have HFd_137 := Lib.hid (HFd.out.keep hbt (by omega) (by omega))
    clear HB_127 HX_128 HGs1_129 HQ_130 HNd HMd HFd
    have HVd1 := Lib.hid hrt
    have HWd1 := Lib.hid hst
    clear hrt hst hbt
    go_wp2_with (fail)
    (with_reducible refine (EarliestTimesI_any w18.heap.size midd ns.length cnd And ns midd w19.heap.size fs.length dfd Bfd fs w19.heap.size w20.heap.size n1 csd1 Asd1 m1 _ HNd_135.out (by omega) hnn1 (HFd_137.out.fls (by omega) (by omega)) (by omega) hfl1 HVd1.out (by omega) hm1).mono ?_)
    rw [HU0.out]
    rintro e w21 ⟨Agi3, cgi3, rfl, _, hrt, hst, hbt⟩
    have hz21 := hbt.size
    have HB_138 := Lib.hid (up HB_131.out hbt)
    have HX_139 := Lib.hid (HX_132.out.below hbt (by omega))
    have HGs1_140 := Lib.hid (HGs1_133.out.keep hbt (by omega))
    have HQ_141 := Lib.hid (HQ_134.out.keep hbt (by omega))
    have HNd_142 := Lib.hid (HNd_135.out.keep hbt (by omega))
    have HMd_143 := Lib.hid (HMd_136.out.kept HNd_135.out hbt (by omega))
    have HFd_144 := Lib.hid (HFd_137.out.keep hbt (by omega) (by omega))
    have HVd1_145 := Lib.hid (HVd1.out.keep hbt (by omega))
    have HWd1_146 := Lib.hid (HWd1.out.kept HVd1.out hbt (by omega))
    clear HB_131 HX_132 HGs1_133 HQ_134 HNd_135 HMd_136 HFd_137 HVd1 HWd1
    have HGi3 := Lib.hid hrt
    have HHi3 := Lib.hid hst
    clear hrt hst hbt
    clear HMd_143
    clear HFd_144
    clear HNd_142
    clear HWd1_146
    clear HVd1_145
    clear HHi3
    go_wp2_with (fail)
    (with_reducible refine (eqIntS_any _ _ u0.length cgi3 _ _ u0.length cgs1 Agi3 Ags1 u0 u0 _ HGi3.out (by omega) hul0 HGs1_140.out (by omega) hul0).mono ?_)
    rintro e w22 ⟨rfl, hbt⟩
    rw [beq_self_eq_true]
    have hz22 := hbt.size
    have HB_147 := Lib.hid (up HB_138.out hbt)
    have HX_148 := Lib.hid (HX_139.out.below hbt (by omega))
    have HGs1_149 := Lib.hid (HGs1_140.out.keep hbt (by omega))
    have HQ_150 := Lib.hid (HQ_141.out.keep hbt (by omega))
    have HGi3_151 := Lib.hid (HGi3.out.keep hbt (by omega))
    clear HB_138 HX_139 HGs1_140 HQ_141 HGi3
    clear hbt
    clear HGi3_151
    go_wp2_with (fail)
    (with_reducible refine (heldIntS_any _ _ u0.length cgi2 Agi2 1 _ HQ_150.out hul0 (by omega) (by omega)).mono ?_)
    rintro e wz ⟨rfl, rfl⟩
    go_wp2
    go_ret
    exact ⟨rfl, HB_147.out⟩
end Go.Proofs.Ytdjpffmnohnpaaa
