/- The law FnExactFireNode, walked: it returns true. (Written by gen/exgen.py.) -/
import Derived.Test.YtcckmabdflhfmaaExProc
import Derived.Test.YtcckmabdflhfmaaExInt
import Derived.Test.YtcckmabdflhfmaaTokFireB
import Derived.Deep.RegionHeld3
namespace Go.Proofs.Ytcckmabdflhfmaa
open Go.RowKit

set_option maxRecDepth 100000 in
set_option maxHeartbeats 6400000 in
theorem exFireNode_any (nn cn n c : Nat) (An A : Option Addr) (ns : List (Int × Int)) (fs : List Flw) (w : World) (hnn : nn ≤ 9223372036854775807) (hn : n ≤ 9223372036854775807) (hrn : Rd w 0 w.heap.size 2 An nn (pvs ns)) (hr : FlsU w 0 w.heap.size A n fs) (n1 c1 : Nat) (A1 : Option Addr) (m1 : List Int) (hn1 : n1 ≤ 9223372036854775807) (hr1 : Rd w 0 w.heap.size 1 A1 n1 (ivs m1)) (z2 : Int) (hz2 : in64 z2) (n3 c3 : Nat) (A3 : Option Addr) (m3 : List Int) (hn3 : n3 ≤ 9223372036854775807) (hr3 : Rd w 0 w.heap.size 1 A3 n3 (ivs m3)) :
    Calls Try.prog 3 #[.agg #[.slice An nn cn, .slice A n c], .slice A1 n1 c1, .int .i64 z2, .slice A3 n3 c3] w fun e w' => e = .returned (.bool true) ∧ Below w.heap.size w w' := by
  by_cases hg1 : (1048576 : Int) < n1
  · go_enter Try.func3, Try.ntmps3
    go_wp2
    go_ret
    exact ⟨rfl, up_alloc (Below.refl _ _) _⟩
  have hm1 : n1 ≤ 1048576 := by omega
  by_cases hg3 : (1048576 : Int) < n3
  · go_enter Try.func3, Try.ntmps3
    go_wp2
    go_ret
    exact ⟨rfl, up_alloc (Below.refl _ _) _⟩
  have hm3 : n3 ≤ 1048576 := by omega
  have hb0 := up_alloc (Below.refl _ w) (.cells #[.slice An nn cn, .slice A n c] 25)
  have hx0 := Blk.new w 25 #[.slice An nn cn, .slice A n c]
  have HX0 := Lib.hid hx0
  have hlt0 := hx0.lt
  have HLN := Lib.hid hrn.len2
  have HLF := Lib.hid hr.1
  clear hx0
  have HL1 := Lib.hid hr1.len1
  have HL3 := Lib.hid hr3.len1
  have HRN := Lib.hid hrn
  have HR0 := Lib.hid hr
  have HA1 := Lib.hid hr1
  have HA3 := Lib.hid hr3
  clear hrn hr hr1 hr3
  go_enter Try.func3, Try.ntmps3
  go_wp2_with (fail)
  (with_reducible refine (szProcess_any 0 w.heap.size nn cn An ns 0 w.heap.size n c A fs 1048576 _ (HRN.out.keep hb0 (Nat.le_refl _)) hb0.size hnn (HR0.out.keep hb0 (Nat.le_refl _)) hb0.size hn (by omega) (by omega)).mono ?_)
  rintro e w1 ⟨hb1, he⟩
  have HB_0 := Lib.hid (up hb0 hb1)
  have HX_0 := Lib.hid (HX0.out.below hb1 hlt0)
  have hz1 : w.heap.size + 1 ≤ w1.heap.size := by have := hb1.size; omega
  clear hb1 hb0 HX0 hlt0
  rcases he with rfl | ⟨r, rfl, q0, _, q2, q3, q4⟩
  · go_wp2
    go_ret
    exact ⟨rfl, HB_0.out⟩
  have HS := Lib.hid (HR0.out.small q4)
  clear q4 HR0
  have hnn1 : ns.length ≤ 1048576 := by rw [HLN.out]; exact q2
  have hfl1 : fs.length ≤ 1048576 := by rw [HLF.out]; exact q3
  have hul0 : ((fireOf ns fs m1 z2 m3).getD []).length ≤ 1048576 := Nat.le_trans (fireOf_len ns fs m1 z2 m3) (by have := HL1.out; omega)
  generalize hU0 : (fireOf ns fs m1 z2 m3).getD [] = u0 at hul0
  have HU0 := Lib.hid hU0
  clear hU0
  generalize hU1 : (fireOf ns fs m1 z2 m3).isSome = u1
  have hne1 : (u1 != u1) = false := by simp
  have HU1 := Lib.hid hU1
  clear hU1
  have k_1 : w1.cell? ⟨w.heap.size, 0, none⟩ = some (.slice An nn cn) := HX_0.out.cell 0
  have k_2 : w1.cell? ⟨w.heap.size, 1, none⟩ = some (.slice A n c) := HX_0.out.cell 1
  go_wp2_with (fail)
  (with_reducible refine (toProcess_any 0 w.heap.size nn cn An ns 0 w.heap.size n c A fs w1 (HRN.out.keep HB_0.out (Nat.le_refl _)) HB_0.out.size q2 (HS.out.keep HB_0.out (Nat.le_refl _)) HB_0.out.size q3).mono ?_)
  rintro e w2 ⟨Ana, cna, Bfa, dfa, mida, rfl, hrt, hst, hlta, hmta, hft, hbt⟩
  have hz2 := hbt.size
  clear k_1 k_2
  have HB_3 := Lib.hid (up HB_0.out hbt)
  have HX_4 := Lib.hid (HX_0.out.below hbt (by omega))
  clear HB_0 HX_0
  have HNa := Lib.hid hrt
  have HMa := Lib.hid hst
  have HFa := Lib.hid hft
  clear hrt hst hft hbt
  go_wp2_with (fail)
  (with_reducible refine (toIntS_any 0 w.heap.size n1 c1 A1 m1 _ (HA1.out.keep HB_3.out (Nat.le_refl _)) HB_3.out.size hm1).mono ?_)
  rintro e w3 ⟨Asa1, csa1, rfl, _, hrt, hst, hbt⟩
  have hz3 := hbt.size
  have HB_5 := Lib.hid (up HB_3.out hbt)
  have HX_6 := Lib.hid (HX_4.out.below hbt (by omega))
  have HNa_7 := Lib.hid (HNa.out.keep hbt (by omega))
  have HMa_8 := Lib.hid (HMa.out.kept HNa.out hbt (by omega))
  have HFa_9 := Lib.hid (HFa.out.keep hbt (by omega) (by omega))
  clear HB_3 HX_4 HNa HMa HFa
  have HVa1 := Lib.hid hrt
  have HWa1 := Lib.hid hst
  clear hrt hst hbt
  go_wp2_with (fail)
  (with_reducible refine (toIntS_any 0 w.heap.size n3 c3 A3 m3 _ (HA3.out.keep HB_5.out (Nat.le_refl _)) HB_5.out.size hm3).mono ?_)
  rintro e w4 ⟨Asa3, csa3, rfl, _, hrt, hst, hbt⟩
  have hz4 := hbt.size
  have HB_10 := Lib.hid (up HB_5.out hbt)
  have HX_11 := Lib.hid (HX_6.out.below hbt (by omega))
  have HNa_12 := Lib.hid (HNa_7.out.keep hbt (by omega))
  have HMa_13 := Lib.hid (HMa_8.out.kept HNa_7.out hbt (by omega))
  have HFa_14 := Lib.hid (HFa_9.out.keep hbt (by omega) (by omega))
  have HVa1_15 := Lib.hid (HVa1.out.keep hbt (by omega))
  have HWa1_16 := Lib.hid (HWa1.out.kept HVa1.out hbt (by omega))
  clear HB_5 HX_6 HNa_7 HMa_8 HFa_9 HVa1 HWa1
  have HVa3 := Lib.hid hrt
  have HWa3 := Lib.hid hst
  clear hrt hst hbt
  go_wp2_with (fail)
  (with_reducible refine (FireNodeS_ex w1.heap.size mida ns.length cna Ana ns mida w2.heap.size fs.length dfa Bfa fs w2.heap.size w3.heap.size n1 csa1 Asa1 m1 z2 w3.heap.size w4.heap.size n3 csa3 Asa3 m3 _ HNa_12.out (by omega) hnn1 (HFa_14.out.fls (by omega) (by omega)) (by omega) hfl1 HVa1_15.out (by omega) hm1 HVa3.out (by omega) hm3).mono ?_)
  rw [HU0.out, HU1.out]
  rintro e w5 ⟨Ags1, cgs1, rfl, _, hrt, hst, hbt⟩
  have hz5 := hbt.size
  have HB_17 := Lib.hid (up HB_10.out hbt)
  have HX_18 := Lib.hid (HX_11.out.below hbt (by omega))
  have HNa_19 := Lib.hid (HNa_12.out.keep hbt (by omega))
  have HMa_20 := Lib.hid (HMa_13.out.kept HNa_12.out hbt (by omega))
  have HFa_21 := Lib.hid (HFa_14.out.keep hbt (by omega) (by omega))
  have HVa1_22 := Lib.hid (HVa1_15.out.keep hbt (by omega))
  have HWa1_23 := Lib.hid (HWa1_16.out.kept HVa1_15.out hbt (by omega))
  have HVa3_24 := Lib.hid (HVa3.out.keep hbt (by omega))
  have HWa3_25 := Lib.hid (HWa3.out.kept HVa3.out hbt (by omega))
  clear HB_10 HX_11 HNa_12 HMa_13 HFa_14 HVa1_15 HWa1_16 HVa3 HWa3
  have HGs1 := Lib.hid hrt
  have HHs1 := Lib.hid hst
  clear hrt hst hbt
  clear HMa_20
  clear HFa_21
  clear HNa_19
  clear HWa1_23
  clear HVa1_22
  clear HWa3_25
  clear HVa3_24
  clear HHs1
  have k_26 : w5.cell? ⟨w.heap.size, 0, none⟩ = some (.slice An nn cn) := HX_18.out.cell 0
  have k_27 : w5.cell? ⟨w.heap.size, 1, none⟩ = some (.slice A n c) := HX_18.out.cell 1
  go_wp2_with (fail)
  (with_reducible refine (toProcess_any 0 w.heap.size nn cn An ns 0 w.heap.size n c A fs w5 (HRN.out.keep HB_17.out (Nat.le_refl _)) HB_17.out.size q2 (HS.out.keep HB_17.out (Nat.le_refl _)) HB_17.out.size q3).mono ?_)
  rintro e w6 ⟨Anb, cnb, Bfb, dfb, midb, rfl, hrt, hst, hltb, hmtb, hft, hbt⟩
  have hz6 := hbt.size
  clear k_26 k_27
  have HB_28 := Lib.hid (up HB_17.out hbt)
  have HX_29 := Lib.hid (HX_18.out.below hbt (by omega))
  have HGs1_30 := Lib.hid (HGs1.out.keep hbt (by omega))
  clear HB_17 HX_18 HGs1
  have HNb := Lib.hid hrt
  have HMb := Lib.hid hst
  have HFb := Lib.hid hft
  clear hrt hst hft hbt
  have hba := up_alloc (Below.refl _ w6) (.cells #[.slice Anb ns.length cnb, .slice Bfb fs.length dfb] 33)
  have hp := Blk.new w6 33 #[.slice Anb ns.length cnb, .slice Bfb fs.length dfb]
  have hzz : w6.heap.size + 1 = (w6.alloc (.cells #[.slice Anb ns.length cnb, .slice Bfb fs.length dfb] 33)).heap.size := by simp
  generalize hWw7 : (w6.alloc (.cells #[.slice Anb ns.length cnb, .slice Bfb fs.length dfb] 33)) = w7 at hba hp hzz
  have hz7 : w6.heap.size + 1 ≤ w7.heap.size := by omega
  clear hzz
  have HB_31 := Lib.hid (up HB_28.out hba)
  have HX_32 := Lib.hid (HX_29.out.below hba (by omega))
  have HGs1_33 := Lib.hid (HGs1_30.out.keep hba (by omega))
  have HNb_34 := Lib.hid (HNb.out.keep hba (by omega))
  have HMb_35 := Lib.hid (HMb.out.kept HNb.out hba (by omega))
  have HFb_36 := Lib.hid (HFb.out.keep hba (by omega) (by omega))
  clear HB_28 HX_29 HGs1_30 HNb HMb HFb
  have HY := Lib.hid hp
  clear hba hp
  have HWE := Lib.hid hWw7
  clear hWw7
  go_wp2_with (fail)
  rw [HWE.out]
  (with_reducible refine (toIntS_any 0 w.heap.size n1 c1 A1 m1 _ (HA1.out.keep HB_31.out (Nat.le_refl _)) HB_31.out.size hm1).mono ?_)
  rintro e w8 ⟨Asb1, csb1, rfl, _, hrt, hst, hbt⟩
  have hz8 := hbt.size
  have HB_37 := Lib.hid (up HB_31.out hbt)
  have HX_38 := Lib.hid (HX_32.out.below hbt (by omega))
  have HGs1_39 := Lib.hid (HGs1_33.out.keep hbt (by omega))
  have HNb_40 := Lib.hid (HNb_34.out.keep hbt (by omega))
  have HMb_41 := Lib.hid (HMb_35.out.kept HNb_34.out hbt (by omega))
  have HFb_42 := Lib.hid (HFb_36.out.keep hbt (by omega) (by omega))
  have HY_43 := Lib.hid (HY.out.below hbt (by omega))
  clear HB_31 HX_32 HGs1_33 HNb_34 HMb_35 HFb_36 HY
  have HVb1 := Lib.hid hrt
  have HWb1 := Lib.hid hst
  clear hrt hst hbt
  go_wp2_with (fail)
  (with_reducible refine (toIntS_any 0 w.heap.size n3 c3 A3 m3 _ (HA3.out.keep HB_37.out (Nat.le_refl _)) HB_37.out.size hm3).mono ?_)
  rintro e w9 ⟨Asb3, csb3, rfl, _, hrt, hst, hbt⟩
  have hz9 := hbt.size
  have HB_44 := Lib.hid (up HB_37.out hbt)
  have HX_45 := Lib.hid (HX_38.out.below hbt (by omega))
  have HGs1_46 := Lib.hid (HGs1_39.out.keep hbt (by omega))
  have HNb_47 := Lib.hid (HNb_40.out.keep hbt (by omega))
  have HMb_48 := Lib.hid (HMb_41.out.kept HNb_40.out hbt (by omega))
  have HFb_49 := Lib.hid (HFb_42.out.keep hbt (by omega) (by omega))
  have HY_50 := Lib.hid (HY_43.out.below hbt (by omega))
  have HVb1_51 := Lib.hid (HVb1.out.keep hbt (by omega))
  have HWb1_52 := Lib.hid (HWb1.out.kept HVb1.out hbt (by omega))
  clear HB_37 HX_38 HGs1_39 HNb_40 HMb_41 HFb_42 HY_43 HVb1 HWb1
  have HVb3 := Lib.hid hrt
  have HWb3 := Lib.hid hst
  clear hrt hst hbt
  have k_53 : w9.cell? ⟨w6.heap.size, 0, none⟩ = some (.slice Anb ns.length cnb) := HY_50.out.cell 0
  have k_54 : w9.cell? ⟨w6.heap.size, 1, none⟩ = some (.slice Bfb fs.length dfb) := HY_50.out.cell 1
  go_wp2_with (fail)
  (with_reducible refine (FireNodeI_ex w5.heap.size midb ns.length cnb Anb ns midb w6.heap.size fs.length dfb Bfb fs w7.heap.size w8.heap.size n1 csb1 Asb1 m1 z2 w8.heap.size w9.heap.size n3 csb3 Asb3 m3 _ HNb_47.out (by omega) hnn1 (HFb_49.out.fls (by omega) (by omega)) (by omega) hfl1 HVb1_51.out (by omega) hm1 HVb3.out (by omega) hm3).mono ?_)
  rw [HU0.out, HU1.out]
  rintro e w10 ⟨Agi2, cgi2, rfl, _, hrt, hst, hbt⟩
  have hz10 := hbt.size
  have HB_55 := Lib.hid (up HB_44.out hbt)
  have HX_56 := Lib.hid (HX_45.out.below hbt (by omega))
  have HGs1_57 := Lib.hid (HGs1_46.out.keep hbt (by omega))
  have HNb_58 := Lib.hid (HNb_47.out.keep hbt (by omega))
  have HMb_59 := Lib.hid (HMb_48.out.kept HNb_47.out hbt (by omega))
  have HFb_60 := Lib.hid (HFb_49.out.keep hbt (by omega) (by omega))
  have HY_61 := Lib.hid (HY_50.out.below hbt (by omega))
  have HVb1_62 := Lib.hid (HVb1_51.out.keep hbt (by omega))
  have HWb1_63 := Lib.hid (HWb1_52.out.kept HVb1_51.out hbt (by omega))
  have HVb3_64 := Lib.hid (HVb3.out.keep hbt (by omega))
  have HWb3_65 := Lib.hid (HWb3.out.kept HVb3.out hbt (by omega))
  clear HB_44 HX_45 HGs1_46 HNb_47 HMb_48 HFb_49 HY_50 HVb1_51 HWb1_52 HVb3 HWb3
  have HGi2 := Lib.hid hrt
  have HHi2 := Lib.hid hst
  clear hrt hst hbt
  clear k_53 k_54
  go_wp2_with (fail)
  (with_reducible refine (eqIntS_any _ _ u0.length cgi2 _ _ u0.length cgs1 Agi2 Ags1 u0 u0 _ HGi2.out (by omega) hul0 HGs1_57.out (by omega) hul0).mono ?_)
  rintro e w11 ⟨rfl, hbt⟩
  rw [beq_self_eq_true]
  have hz11 := hbt.size
  have HB_66 := Lib.hid (up HB_55.out hbt)
  have HX_67 := Lib.hid (HX_56.out.below hbt (by omega))
  have HGs1_68 := Lib.hid (HGs1_57.out.keep hbt (by omega))
  have HNb_69 := Lib.hid (HNb_58.out.keep hbt (by omega))
  have HMb_70 := Lib.hid (HMb_59.out.kept HNb_58.out hbt (by omega))
  have HFb_71 := Lib.hid (HFb_60.out.keep hbt (by omega) (by omega))
  have HY_72 := Lib.hid (HY_61.out.below hbt (by omega))
  have HVb1_73 := Lib.hid (HVb1_62.out.keep hbt (by omega))
  have HWb1_74 := Lib.hid (HWb1_63.out.kept HVb1_62.out hbt (by omega))
  have HVb3_75 := Lib.hid (HVb3_64.out.keep hbt (by omega))
  have HWb3_76 := Lib.hid (HWb3_65.out.kept HVb3_64.out hbt (by omega))
  have HGi2_77 := Lib.hid (HGi2.out.keep hbt (by omega))
  have HHi2_78 := Lib.hid (HHi2.out.kept HGi2.out hbt (by omega))
  clear HB_55 HX_56 HGs1_57 HNb_58 HMb_59 HFb_60 HY_61 HVb1_62 HWb1_63 HVb3_64 HWb3_65 HGi2 HHi2
  clear hbt
  have k_79 : w11.cell? ⟨w.heap.size, 0, none⟩ = some (.slice An nn cn) := HX_67.out.cell 0
  have k_80 : w11.cell? ⟨w.heap.size, 1, none⟩ = some (.slice A n c) := HX_67.out.cell 1
  have k_81 : w11.cell? ⟨w6.heap.size, 0, none⟩ = some (.slice Anb ns.length cnb) := HY_72.out.cell 0
  have k_82 : w11.cell? ⟨w6.heap.size, 1, none⟩ = some (.slice Bfb fs.length dfb) := HY_72.out.cell 1
  have HC := Lib.hid (toProcess_any 0 w.heap.size nn cn An ns 0 w.heap.size n c A fs w11.drew (HRN.out.keep (up_drew HB_66.out) (Nat.le_refl _)) HB_66.out.size q2 (HS.out.keep (up_drew HB_66.out) (Nat.le_refl _)) HB_66.out.size q3)
  go_wp2
  go_region_held3 (fun w' => w'.cell? ⟨w.heap.size, 0, none⟩ = some (.slice An nn cn) ∧ w'.cell? ⟨w.heap.size, 1, none⟩ = some (.slice A n c) ∧ w'.cell? ⟨w6.heap.size, 0, none⟩ = some (.slice Anb ns.length cnb) ∧ w'.cell? ⟨w6.heap.size, 1, none⟩ = some (.slice Bfb fs.length dfb))
    (first
      | exact ⟨k_79, k_80, k_81, k_82⟩
      | exact ⟨(hb7.cell (by show w.heap.size < w11.heap.size; omega)).trans k_79, (hb7.cell (by show w.heap.size < w11.heap.size; omega)).trans k_80, (hb7.cell (by show w6.heap.size < w11.heap.size; omega)).trans k_81, (hb7.cell (by show w6.heap.size < w11.heap.size; omega)).trans k_82⟩
      | exact ⟨(hb8.cell (by show w.heap.size < w12.heap.size; omega)).trans ((hb7.cell (by show w.heap.size < w11.heap.size; omega)).trans k_79), (hb8.cell (by show w.heap.size < w12.heap.size; omega)).trans ((hb7.cell (by show w.heap.size < w11.heap.size; omega)).trans k_80), (hb8.cell (by show w6.heap.size < w12.heap.size; omega)).trans ((hb7.cell (by show w6.heap.size < w11.heap.size; omega)).trans k_81), (hb8.cell (by show w6.heap.size < w12.heap.size; omega)).trans ((hb7.cell (by show w6.heap.size < w11.heap.size; omega)).trans k_82)⟩)
    ((first
      | (go_at_call 18; refine HC.out.mono ?_; rintro e w12 ⟨A7, c7, B7, d7, m7, rfl, hr7, _, hl7, hm7, hf7, hb7⟩; have hs7 : w11.heap.size ≤ w12.heap.size := hb7.size; have hlx7 : w11.heap.size ≤ m7 := hl7)
      | (go_at_call 22; refine (eqProcess_same w5.heap.size midb ns.length cnb _ m7 ns.length c7 Anb A7 ns midb w6.heap.size fs.length dfb m7 w12.heap.size fs.length d7 Bfb B7 fs w12 (HNb_69.out.keep (up (up_drew (Below.refl _ w11)) hb7) (by omega)) (by omega) hnn1 ((HFb_71.out.fls (by omega) (by omega)).keep (up (up_drew (Below.refl _ w11)) hb7) (by omega)) (by omega) hfl1 hr7 (by omega) (hf7.fls (by omega) hm7) (Nat.le_refl _)).mono ?_; rintro e w13 ⟨rfl, hb8⟩)))
  all_goals
    have hbt := up (up (up_drew (Below.refl _ w11)) hb7) hb8
    have hz13 : w11.heap.size ≤ w13.heap.size := hbt.size
    clear HC k_79 k_80 k_81 k_82
    have HB_83 := Lib.hid (up HB_66.out hbt)
    have HX_84 := Lib.hid (HX_67.out.below hbt (by omega))
    have HGs1_85 := Lib.hid (HGs1_68.out.keep hbt (by omega))
    have HNb_86 := Lib.hid (HNb_69.out.keep hbt (by omega))
    have HMb_87 := Lib.hid (HMb_70.out.kept HNb_69.out hbt (by omega))
    have HFb_88 := Lib.hid (HFb_71.out.keep hbt (by omega) (by omega))
    have HY_89 := Lib.hid (HY_72.out.below hbt (by omega))
    have HVb1_90 := Lib.hid (HVb1_73.out.keep hbt (by omega))
    have HWb1_91 := Lib.hid (HWb1_74.out.kept HVb1_73.out hbt (by omega))
    have HVb3_92 := Lib.hid (HVb3_75.out.keep hbt (by omega))
    have HWb3_93 := Lib.hid (HWb3_76.out.kept HVb3_75.out hbt (by omega))
    have HGi2_94 := Lib.hid (HGi2_77.out.keep hbt (by omega))
    have HHi2_95 := Lib.hid (HHi2_78.out.kept HGi2_77.out hbt (by omega))
    clear HB_66 HX_67 HGs1_68 HNb_69 HMb_70 HFb_71 HY_72 HVb1_73 HWb1_74 HVb3_75 HWb3_76 HGi2_77 HHi2_78
    clear hbt hb7 hb8 hr7 hf7
    go_wp2_with (fail)
    (with_reducible refine (toIntS_any 0 w.heap.size n1 c1 A1 m1 _ (HA1.out.keep HB_83.out (Nat.le_refl _)) HB_83.out.size hm1).mono ?_)
    rintro e w14 ⟨Asc1, csc1, rfl, _, hrt, hst, hbt⟩
    have hz14 := hbt.size
    have HB_96 := Lib.hid (up HB_83.out hbt)
    have HX_97 := Lib.hid (HX_84.out.below hbt (by omega))
    have HGs1_98 := Lib.hid (HGs1_85.out.keep hbt (by omega))
    have HNb_99 := Lib.hid (HNb_86.out.keep hbt (by omega))
    have HMb_100 := Lib.hid (HMb_87.out.kept HNb_86.out hbt (by omega))
    have HFb_101 := Lib.hid (HFb_88.out.keep hbt (by omega) (by omega))
    have HY_102 := Lib.hid (HY_89.out.below hbt (by omega))
    have HVb1_103 := Lib.hid (HVb1_90.out.keep hbt (by omega))
    have HWb1_104 := Lib.hid (HWb1_91.out.kept HVb1_90.out hbt (by omega))
    have HVb3_105 := Lib.hid (HVb3_92.out.keep hbt (by omega))
    have HWb3_106 := Lib.hid (HWb3_93.out.kept HVb3_92.out hbt (by omega))
    have HGi2_107 := Lib.hid (HGi2_94.out.keep hbt (by omega))
    have HHi2_108 := Lib.hid (HHi2_95.out.kept HGi2_94.out hbt (by omega))
    clear HB_83 HX_84 HGs1_85 HNb_86 HMb_87 HFb_88 HY_89 HVb1_90 HWb1_91 HVb3_92 HWb3_93 HGi2_94 HHi2_95
    have HVc1 := Lib.hid hrt
    have HWc1 := Lib.hid hst
    clear hrt hst hbt
    go_wp2_with (fail)
    (with_reducible refine (eqIntS_any _ _ n1 csb1 _ _ n1 csc1 Asb1 Asc1 m1 m1 _ HVb1_103.out (by omega) hm1 HVc1.out (by omega) hm1).mono ?_)
    rintro e w15 ⟨rfl, hbt⟩
    rw [beq_self_eq_true]
    have hz15 := hbt.size
    have HB_109 := Lib.hid (up HB_96.out hbt)
    have HX_110 := Lib.hid (HX_97.out.below hbt (by omega))
    have HGs1_111 := Lib.hid (HGs1_98.out.keep hbt (by omega))
    have HNb_112 := Lib.hid (HNb_99.out.keep hbt (by omega))
    have HMb_113 := Lib.hid (HMb_100.out.kept HNb_99.out hbt (by omega))
    have HFb_114 := Lib.hid (HFb_101.out.keep hbt (by omega) (by omega))
    have HY_115 := Lib.hid (HY_102.out.below hbt (by omega))
    have HVb1_116 := Lib.hid (HVb1_103.out.keep hbt (by omega))
    have HWb1_117 := Lib.hid (HWb1_104.out.kept HVb1_103.out hbt (by omega))
    have HVb3_118 := Lib.hid (HVb3_105.out.keep hbt (by omega))
    have HWb3_119 := Lib.hid (HWb3_106.out.kept HVb3_105.out hbt (by omega))
    have HGi2_120 := Lib.hid (HGi2_107.out.keep hbt (by omega))
    have HHi2_121 := Lib.hid (HHi2_108.out.kept HGi2_107.out hbt (by omega))
    have HVc1_122 := Lib.hid (HVc1.out.keep hbt (by omega))
    have HWc1_123 := Lib.hid (HWc1.out.kept HVc1.out hbt (by omega))
    clear HB_96 HX_97 HGs1_98 HNb_99 HMb_100 HFb_101 HY_102 HVb1_103 HWb1_104 HVb3_105 HWb3_106 HGi2_107 HHi2_108 HVc1 HWc1
    clear hbt
    clear HWc1_123
    clear HVc1_122
    go_wp2_with (fail)
    (with_reducible refine (toIntS_any 0 w.heap.size n3 c3 A3 m3 _ (HA3.out.keep HB_109.out (Nat.le_refl _)) HB_109.out.size hm3).mono ?_)
    rintro e w16 ⟨Asc3, csc3, rfl, _, hrt, hst, hbt⟩
    have hz16 := hbt.size
    have HB_124 := Lib.hid (up HB_109.out hbt)
    have HX_125 := Lib.hid (HX_110.out.below hbt (by omega))
    have HGs1_126 := Lib.hid (HGs1_111.out.keep hbt (by omega))
    have HNb_127 := Lib.hid (HNb_112.out.keep hbt (by omega))
    have HMb_128 := Lib.hid (HMb_113.out.kept HNb_112.out hbt (by omega))
    have HFb_129 := Lib.hid (HFb_114.out.keep hbt (by omega) (by omega))
    have HY_130 := Lib.hid (HY_115.out.below hbt (by omega))
    have HVb1_131 := Lib.hid (HVb1_116.out.keep hbt (by omega))
    have HWb1_132 := Lib.hid (HWb1_117.out.kept HVb1_116.out hbt (by omega))
    have HVb3_133 := Lib.hid (HVb3_118.out.keep hbt (by omega))
    have HWb3_134 := Lib.hid (HWb3_119.out.kept HVb3_118.out hbt (by omega))
    have HGi2_135 := Lib.hid (HGi2_120.out.keep hbt (by omega))
    have HHi2_136 := Lib.hid (HHi2_121.out.kept HGi2_120.out hbt (by omega))
    clear HB_109 HX_110 HGs1_111 HNb_112 HMb_113 HFb_114 HY_115 HVb1_116 HWb1_117 HVb3_118 HWb3_119 HGi2_120 HHi2_121
    have HVc3 := Lib.hid hrt
    have HWc3 := Lib.hid hst
    clear hrt hst hbt
    go_wp2_with (fail)
    (with_reducible refine (eqIntS_any _ _ n3 csb3 _ _ n3 csc3 Asb3 Asc3 m3 m3 _ HVb3_133.out (by omega) hm3 HVc3.out (by omega) hm3).mono ?_)
    rintro e w17 ⟨rfl, hbt⟩
    rw [beq_self_eq_true]
    have hz17 := hbt.size
    have HB_137 := Lib.hid (up HB_124.out hbt)
    have HX_138 := Lib.hid (HX_125.out.below hbt (by omega))
    have HGs1_139 := Lib.hid (HGs1_126.out.keep hbt (by omega))
    have HNb_140 := Lib.hid (HNb_127.out.keep hbt (by omega))
    have HMb_141 := Lib.hid (HMb_128.out.kept HNb_127.out hbt (by omega))
    have HFb_142 := Lib.hid (HFb_129.out.keep hbt (by omega) (by omega))
    have HY_143 := Lib.hid (HY_130.out.below hbt (by omega))
    have HVb1_144 := Lib.hid (HVb1_131.out.keep hbt (by omega))
    have HWb1_145 := Lib.hid (HWb1_132.out.kept HVb1_131.out hbt (by omega))
    have HVb3_146 := Lib.hid (HVb3_133.out.keep hbt (by omega))
    have HWb3_147 := Lib.hid (HWb3_134.out.kept HVb3_133.out hbt (by omega))
    have HGi2_148 := Lib.hid (HGi2_135.out.keep hbt (by omega))
    have HHi2_149 := Lib.hid (HHi2_136.out.kept HGi2_135.out hbt (by omega))
    have HVc3_150 := Lib.hid (HVc3.out.keep hbt (by omega))
    have HWc3_151 := Lib.hid (HWc3.out.kept HVc3.out hbt (by omega))
    clear HB_124 HX_125 HGs1_126 HNb_127 HMb_128 HFb_129 HY_130 HVb1_131 HWb1_132 HVb3_133 HWb3_134 HGi2_135 HHi2_136 HVc3 HWc3
    clear hbt
    clear HWc3_151
    clear HVc3_150
    have k_152 : w17.cell? ⟨w6.heap.size, 0, none⟩ = some (.slice Anb ns.length cnb) := HY_143.out.cell 0
    have k_153 : w17.cell? ⟨w6.heap.size, 1, none⟩ = some (.slice Bfb fs.length dfb) := HY_143.out.cell 1
    go_wp2_with (fail)
    (with_reducible refine (markProcess_bd w5.heap.size midb w6.heap.size ns.length cnb fs.length dfb Anb Bfb ns fs _ HNb_140.out HMb_141.out hnn1 HFb_142.out (by omega) (by omega) (by omega) hfl1).mono ?_)
    rintro e w19 ⟨rk, w18, rfl, hrk, hrk3, hbt, hwt⟩
    clear k_152 k_153
    have hz18 := hbt.size
    have hz19 := hwt.size
    clear HMb_141
    clear HFb_142
    clear HNb_140
    clear HY_143
    have HB_154 := Lib.hid (up HB_137.out hbt)
    have HX_155 := Lib.hid (HX_138.out.below hbt (by omega))
    have HGs1_156 := Lib.hid (HGs1_139.out.keep hbt (by omega))
    have HVb1_157 := Lib.hid (HVb1_144.out.keep hbt (by omega))
    have HWb1_158 := Lib.hid (HWb1_145.out.kept HVb1_144.out hbt (by omega))
    have HVb3_159 := Lib.hid (HVb3_146.out.keep hbt (by omega))
    have HWb3_160 := Lib.hid (HWb3_147.out.kept HVb3_146.out hbt (by omega))
    have HGi2_161 := Lib.hid (HGi2_148.out.keep hbt (by omega))
    have HHi2_162 := Lib.hid (HHi2_149.out.kept HGi2_148.out hbt (by omega))
    clear HB_137 HX_138 HGs1_139 HVb1_144 HWb1_145 HVb3_146 HWb3_147 HGi2_148 HHi2_149
    have HB_163 := Lib.hid (Within.below HB_154.out hwt (by omega))
    have HX_164 := Lib.hid (show Blk w19 w.heap.size 25 #[.slice An nn cn, .slice A n c] from (hwt.block w.heap.size (by omega) (by omega)).trans HX_155.out)
    have HGs1_165 := Lib.hid (HGs1_156.out.within hwt (by omega) (by omega))
    have HVb1_166 := Lib.hid (HVb1_157.out.within hwt (by omega) (by omega))
    have HWb1_167 := Lib.hid (HWb1_158.out.within HVb1_157.out hwt (by omega) (by omega))
    have HVb3_168 := Lib.hid (HVb3_159.out.within hwt (by omega) (by omega))
    have HWb3_169 := Lib.hid (HWb3_160.out.within HVb3_159.out hwt (by omega) (by omega))
    have HGi2_170 := Lib.hid (HGi2_161.out.within hwt (by omega) (by omega))
    have HHi2_171 := Lib.hid (HHi2_162.out.within HGi2_161.out hwt (by omega) (by omega))
    clear HB_154 HX_155 HGs1_156 HVb1_157 HWb1_158 HVb3_159 HWb3_160 HGi2_161 HHi2_162
    clear hbt hwt
    go_wp2_with (fail)
    (with_reducible refine (markIntS_any _ _ n1 csb1 Asb1 _ (rk) _ HVb1_166.out HWb1_167.out hm1 (by omega) (by omega)).mono ?_)
    rintro e w20 ⟨rfl, _, _, hin⟩
    have hwt := Within.grown hin (in_row HVb1_166.out)
    have hz20 := hwt.size
    clear HWb1_167
    clear HVb1_166
    have HB_172 := Lib.hid (Within.below HB_163.out hwt (by omega))
    have HX_173 := Lib.hid (show Blk w20 w.heap.size 25 #[.slice An nn cn, .slice A n c] from (hwt.block w.heap.size (by omega) (by omega)).trans HX_164.out)
    have HGs1_174 := Lib.hid (HGs1_165.out.within hwt (by omega) (by omega))
    have HVb3_175 := Lib.hid (HVb3_168.out.within hwt (by omega) (by omega))
    have HWb3_176 := Lib.hid (HWb3_169.out.within HVb3_168.out hwt (by omega) (by omega))
    have HGi2_177 := Lib.hid (HGi2_170.out.within hwt (by omega) (by omega))
    have HHi2_178 := Lib.hid (HHi2_171.out.within HGi2_170.out hwt (by omega) (by omega))
    clear HB_163 HX_164 HGs1_165 HVb3_168 HWb3_169 HGi2_170 HHi2_171
    clear hin hwt
    go_wp2_with (fail)
    (with_reducible refine (markIntS_any _ _ n3 csb3 Asb3 _ (rk + (n1 : Int)) _ HVb3_175.out HWb3_176.out hm3 (by omega) (by omega)).mono ?_)
    rintro e w21 ⟨rfl, _, _, hin⟩
    have hwt := Within.grown hin (in_row HVb3_175.out)
    have hz21 := hwt.size
    clear HWb3_176
    clear HVb3_175
    have HB_179 := Lib.hid (Within.below HB_172.out hwt (by omega))
    have HX_180 := Lib.hid (show Blk w21 w.heap.size 25 #[.slice An nn cn, .slice A n c] from (hwt.block w.heap.size (by omega) (by omega)).trans HX_173.out)
    have HGs1_181 := Lib.hid (HGs1_174.out.within hwt (by omega) (by omega))
    have HGi2_182 := Lib.hid (HGi2_177.out.within hwt (by omega) (by omega))
    have HHi2_183 := Lib.hid (HHi2_178.out.within HGi2_177.out hwt (by omega) (by omega))
    clear HB_172 HX_173 HGs1_174 HGi2_177 HHi2_178
    clear hin hwt
    have hrkn : 0 ≤ rk + (n1 : Int) + (n3 : Int) := by omega
    have hrkd : decide (rk + (n1 : Int) + (n3 : Int) < 0) = false := decide_eq_false (by omega)
    go_wp2_with (fail)
    (with_reducible refine (eqIntS_any _ _ u0.length cgi2 _ _ u0.length cgs1 Agi2 Ags1 u0 u0 _ HGi2_182.out (by omega) hul0 HGs1_181.out (by omega) hul0).mono ?_)
    rintro e w22 ⟨rfl, hbt⟩
    rw [beq_self_eq_true]
    have hz22 := hbt.size
    have HB_184 := Lib.hid (up HB_179.out hbt)
    have HX_185 := Lib.hid (HX_180.out.below hbt (by omega))
    have HGs1_186 := Lib.hid (HGs1_181.out.keep hbt (by omega))
    have HGi2_187 := Lib.hid (HGi2_182.out.keep hbt (by omega))
    have HHi2_188 := Lib.hid (HHi2_183.out.kept HGi2_182.out hbt (by omega))
    clear HB_179 HX_180 HGs1_181 HGi2_182 HHi2_183
    clear hbt
    go_wp2_with (fail)
    (with_reducible refine (markIntS_any _ _ u0.length cgi2 Agi2 _ 1 _ HGi2_187.out HHi2_188.out hul0 (by omega) (by omega)).mono ?_)
    rintro e w23 ⟨rfl, hrg, _, hin⟩
    have hwt := Within.grown hin (in_row HGi2_187.out)
    have hz23 := hwt.size
    clear HHi2_188
    clear HGi2_187
    have HB_189 := Lib.hid (Within.below HB_184.out hwt (by omega))
    have HX_190 := Lib.hid (show Blk w23 w.heap.size 25 #[.slice An nn cn, .slice A n c] from (hwt.block w.heap.size (by omega) (by omega)).trans HX_185.out)
    have HGs1_191 := Lib.hid (HGs1_186.out.within hwt (by omega) (by omega))
    clear HB_184 HX_185 HGs1_186
    have HQ := Lib.hid hrg
    clear hin hwt hrg
    go_wp2_with (fail)
    (with_reducible refine (heldIntS_any _ _ u0.length cgi2 Agi2 1 _ HQ.out hul0 (by omega) (by omega)).mono ?_)
    rintro e w24 ⟨rfl, rfl⟩
    have k_192 : w23.cell? ⟨w.heap.size, 0, none⟩ = some (.slice An nn cn) := HX_190.out.cell 0
    have k_193 : w23.cell? ⟨w.heap.size, 1, none⟩ = some (.slice A n c) := HX_190.out.cell 1
    go_wp2_with (fail)
    (with_reducible refine (toProcess_any 0 w.heap.size nn cn An ns 0 w.heap.size n c A fs w23 (HRN.out.keep HB_189.out (Nat.le_refl _)) HB_189.out.size q2 (HS.out.keep HB_189.out (Nat.le_refl _)) HB_189.out.size q3).mono ?_)
    rintro e w24 ⟨And, cnd, Bfd, dfd, midd, rfl, hrt, hst, hltd, hmtd, hft, hbt⟩
    have hz24 := hbt.size
    clear k_192 k_193
    have HB_194 := Lib.hid (up HB_189.out hbt)
    have HX_195 := Lib.hid (HX_190.out.below hbt (by omega))
    have HGs1_196 := Lib.hid (HGs1_191.out.keep hbt (by omega))
    have HQ_197 := Lib.hid (HQ.out.keep hbt (by omega))
    clear HB_189 HX_190 HGs1_191 HQ
    have HNd := Lib.hid hrt
    have HMd := Lib.hid hst
    have HFd := Lib.hid hft
    clear hrt hst hft hbt
    go_wp2_with (fail)
    (with_reducible refine (toIntS_any 0 w.heap.size n1 c1 A1 m1 _ (HA1.out.keep HB_194.out (Nat.le_refl _)) HB_194.out.size hm1).mono ?_)
    rintro e w25 ⟨Asd1, csd1, rfl, _, hrt, hst, hbt⟩
    have hz25 := hbt.size
    have HB_198 := Lib.hid (up HB_194.out hbt)
    have HX_199 := Lib.hid (HX_195.out.below hbt (by omega))
    have HGs1_200 := Lib.hid (HGs1_196.out.keep hbt (by omega))
    have HQ_201 := Lib.hid (HQ_197.out.keep hbt (by omega))
    have HNd_202 := Lib.hid (HNd.out.keep hbt (by omega))
    have HMd_203 := Lib.hid (HMd.out.kept HNd.out hbt (by omega))
    have HFd_204 := Lib.hid (HFd.out.keep hbt (by omega) (by omega))
    clear HB_194 HX_195 HGs1_196 HQ_197 HNd HMd HFd
    have HVd1 := Lib.hid hrt
    have HWd1 := Lib.hid hst
    clear hrt hst hbt
    go_wp2_with (fail)
    (with_reducible refine (toIntS_any 0 w.heap.size n3 c3 A3 m3 _ (HA3.out.keep HB_198.out (Nat.le_refl _)) HB_198.out.size hm3).mono ?_)
    rintro e w26 ⟨Asd3, csd3, rfl, _, hrt, hst, hbt⟩
    have hz26 := hbt.size
    have HB_205 := Lib.hid (up HB_198.out hbt)
    have HX_206 := Lib.hid (HX_199.out.below hbt (by omega))
    have HGs1_207 := Lib.hid (HGs1_200.out.keep hbt (by omega))
    have HQ_208 := Lib.hid (HQ_201.out.keep hbt (by omega))
    have HNd_209 := Lib.hid (HNd_202.out.keep hbt (by omega))
    have HMd_210 := Lib.hid (HMd_203.out.kept HNd_202.out hbt (by omega))
    have HFd_211 := Lib.hid (HFd_204.out.keep hbt (by omega) (by omega))
    have HVd1_212 := Lib.hid (HVd1.out.keep hbt (by omega))
    have HWd1_213 := Lib.hid (HWd1.out.kept HVd1.out hbt (by omega))
    clear HB_198 HX_199 HGs1_200 HQ_201 HNd_202 HMd_203 HFd_204 HVd1 HWd1
    have HVd3 := Lib.hid hrt
    have HWd3 := Lib.hid hst
    clear hrt hst hbt
    go_wp2_with (fail)
    (with_reducible refine (FireNodeI_ex w23.heap.size midd ns.length cnd And ns midd w24.heap.size fs.length dfd Bfd fs w24.heap.size w25.heap.size n1 csd1 Asd1 m1 z2 w25.heap.size w26.heap.size n3 csd3 Asd3 m3 _ HNd_209.out (by omega) hnn1 (HFd_211.out.fls (by omega) (by omega)) (by omega) hfl1 HVd1_212.out (by omega) hm1 HVd3.out (by omega) hm3).mono ?_)
    rw [HU0.out, HU1.out]
    rintro e w27 ⟨Agi3, cgi3, rfl, _, hrt, hst, hbt⟩
    have hz27 := hbt.size
    have HB_214 := Lib.hid (up HB_205.out hbt)
    have HX_215 := Lib.hid (HX_206.out.below hbt (by omega))
    have HGs1_216 := Lib.hid (HGs1_207.out.keep hbt (by omega))
    have HQ_217 := Lib.hid (HQ_208.out.keep hbt (by omega))
    have HNd_218 := Lib.hid (HNd_209.out.keep hbt (by omega))
    have HMd_219 := Lib.hid (HMd_210.out.kept HNd_209.out hbt (by omega))
    have HFd_220 := Lib.hid (HFd_211.out.keep hbt (by omega) (by omega))
    have HVd1_221 := Lib.hid (HVd1_212.out.keep hbt (by omega))
    have HWd1_222 := Lib.hid (HWd1_213.out.kept HVd1_212.out hbt (by omega))
    have HVd3_223 := Lib.hid (HVd3.out.keep hbt (by omega))
    have HWd3_224 := Lib.hid (HWd3.out.kept HVd3.out hbt (by omega))
    clear HB_205 HX_206 HGs1_207 HQ_208 HNd_209 HMd_210 HFd_211 HVd1_212 HWd1_213 HVd3 HWd3
    have HGi3 := Lib.hid hrt
    have HHi3 := Lib.hid hst
    clear hrt hst hbt
    clear HMd_219
    clear HFd_220
    clear HNd_218
    clear HWd1_222
    clear HVd1_221
    clear HWd3_224
    clear HVd3_223
    clear HHi3
    go_wp2_with (fail)
    (with_reducible refine (eqIntS_any _ _ u0.length cgi3 _ _ u0.length cgs1 Agi3 Ags1 u0 u0 _ HGi3.out (by omega) hul0 HGs1_216.out (by omega) hul0).mono ?_)
    rintro e w28 ⟨rfl, hbt⟩
    rw [beq_self_eq_true]
    have hz28 := hbt.size
    have HB_225 := Lib.hid (up HB_214.out hbt)
    have HX_226 := Lib.hid (HX_215.out.below hbt (by omega))
    have HGs1_227 := Lib.hid (HGs1_216.out.keep hbt (by omega))
    have HQ_228 := Lib.hid (HQ_217.out.keep hbt (by omega))
    have HGi3_229 := Lib.hid (HGi3.out.keep hbt (by omega))
    clear HB_214 HX_215 HGs1_216 HQ_217 HGi3
    clear hbt
    clear HGi3_229
    go_wp2_with (fail)
    (with_reducible refine (heldIntS_any _ _ u0.length cgi2 Agi2 1 _ HQ_228.out hul0 (by omega) (by omega)).mono ?_)
    rintro e wz ⟨rfl, rfl⟩
    go_wp2
    go_ret
    exact ⟨rfl, HB_225.out⟩
end Go.Proofs.Ytcckmabdflhfmaa
