/- The law FnExactDropLetters, walked: it returns true. (Written by gen/exdrop.py.) -/
import Derived.Test.YtjaangjcdhbajaaExMarkPost
import Derived.Test.YtjaangjcdhbajaaDropS
import Derived.Test.YtjaangjcdhbajaaDropI
import Derived.Deep.RegionHeld3
namespace Go.Proofs.Ytjaangjcdhbajaa
set_option linter.unusedSimpArgs false
set_option linter.unusedVariables false
open Go.RowKit

theorem drop_le (ns fs : List Tri) (z : Int) : (dropOf ns fs z).1.length ≤ ns.length ∧ (dropOf ns fs z).2.length ≤ fs.length := by
  unfold dropOf
  split
  · exact ⟨Nat.le_refl _, kept_le fs z⟩
  · exact ⟨Nat.zero_le _, Nat.zero_le _⟩
set_option maxRecDepth 100000 in
set_option maxHeartbeats 6400000 in
theorem exDropLetters_any (nn cn n c : Nat) (An A : Option Addr) (ns fs : List Tri) (w : World) (hnn : nn ≤ 9223372036854775807) (hn : n ≤ 9223372036854775807) (hrn : Rd w 0 w.heap.size 3 An nn (tvs ns)) (hr : Rd w 0 w.heap.size 3 A n (tvs fs)) (z : Int) (hz : in64 z) :
    Calls Try.prog 10 #[.agg #[.slice An nn cn, .slice A n c], .int .i64 z] w fun e w' => e = .returned (.bool true) ∧ Below w.heap.size w w' := by
  have hb0 := up_alloc (Below.refl _ w) (.cells #[.slice An nn cn, .slice A n c] 68)
  have hx0 := Blk.new w 68 #[.slice An nn cn, .slice A n c]
  have HX0 := Lib.hid hx0
  have hlt0 := hx0.lt
  have HLN := Lib.hid hrn.len3
  have HLF := Lib.hid hr.len3
  clear hx0
  have HRN := Lib.hid hrn
  have HS := Lib.hid hr
  clear hrn hr
  go_enter Try.func10, Try.ntmps10
  go_wp2_with (fail)
  (with_reducible refine (szPost_any 0 w.heap.size nn cn An ns 0 w.heap.size n c A fs 1048576 _ (HRN.out.keep hb0 (Nat.le_refl _)) hb0.size hnn (HS.out.keep hb0 (Nat.le_refl _)) hb0.size hn (by omega) (by omega)).mono ?_)
  rintro e w1 ⟨hb1, he⟩
  have HB_0 := Lib.hid (up hb0 hb1)
  have HX_0 := Lib.hid (HX0.out.below hb1 hlt0)
  have hz1 : w.heap.size + 1 ≤ w1.heap.size := by have := hb1.size; omega
  clear hb1 hb0 HX0 hlt0
  rcases he with rfl | ⟨r, rfl, q0, _, q2, q3⟩
  · go_wp2
    go_ret
    exact ⟨rfl, HB_0.out⟩
  have hnn1 : ns.length ≤ 1048576 := by rw [HLN.out]; exact q2
  have hfl1 : fs.length ≤ 1048576 := by rw [HLF.out]; exact q3
  have hul1 : (dropOf ns fs z).1.length ≤ 1048576 := Nat.le_trans (drop_le ns fs z).1 hnn1
  have hul2 : (dropOf ns fs z).2.length ≤ 1048576 := Nat.le_trans (drop_le ns fs z).2 hfl1
  generalize hU1 : (dropOf ns fs z).1 = d1 at hul1
  generalize hU2 : (dropOf ns fs z).2 = d2 at hul2
  have HU1 := Lib.hid hU1
  have HU2 := Lib.hid hU2
  clear hU1 hU2
  have k_1 : w1.cell? ⟨w.heap.size, 0, none⟩ = some (.slice An nn cn) := HX_0.out.cell 0
  have k_2 : w1.cell? ⟨w.heap.size, 1, none⟩ = some (.slice A n c) := HX_0.out.cell 1
  go_wp2_with (fail)
  (with_reducible refine (toPost_any 0 w.heap.size nn cn An ns 0 w.heap.size n c A fs w1 (HRN.out.keep HB_0.out (Nat.le_refl _)) HB_0.out.size q2 (HS.out.keep HB_0.out (Nat.le_refl _)) HB_0.out.size q3).mono ?_)
  rintro e w2 ⟨Ana, cna, Bfa, dfa, mida, rfl, hrt, hst, hlta, hmta, hft, hgt, hbt⟩
  have hz2 := hbt.size
  clear k_1 k_2
  have HB_3 := Lib.hid (up HB_0.out hbt)
  have HX_4 := Lib.hid (HX_0.out.below hbt (by omega))
  clear HB_0 HX_0
  have HNa := Lib.hid hrt
  have HMa := Lib.hid hst
  have HFa := Lib.hid hft
  have HPa := Lib.hid hgt
  clear hrt hst hft hgt hbt
  clear HMa HPa
  go_wp2_with (fail)
  (with_reducible refine (DropLettersS_any w1.heap.size mida ns.length cna Ana ns mida w2.heap.size fs.length dfa Bfa fs z _ HNa.out (by omega) hnn1 HFa.out (by omega) hfl1).mono ?_)
  rintro e w3 ⟨As1, ks1, cs1, As2, ks2, cs2, rfl, hrt, hft, hbt⟩
  rw [HU1.out] at hrt
  rw [HU2.out] at hft
  have hz3 := hbt.size
  have HB_5 := Lib.hid (up HB_3.out hbt)
  have HX_6 := Lib.hid (HX_4.out.below hbt (by omega))
  have HNa_7 := Lib.hid (HNa.out.keep hbt (by omega))
  have HFa_8 := Lib.hid (HFa.out.keep hbt (by omega))
  clear HB_3 HX_4 HNa HFa
  have hks1 : ks1 ≤ 1048576 := by have := hrt.len3; omega
  have hks2 : ks2 ≤ 1048576 := by have := hft.len3; omega
  have HG1 := Lib.hid hrt
  have HG2 := Lib.hid hft
  clear hrt hft hbt
  clear HNa_7
  clear HFa_8
  have hba := up_alloc (Below.refl _ w3) (.cells #[.slice As1 ks1 cs1, .slice As2 ks2 cs2] 74)
  have hp := Blk.new w3 74 #[.slice As1 ks1 cs1, .slice As2 ks2 cs2]
  have hzz : w3.heap.size + 1 = (w3.alloc (.cells #[.slice As1 ks1 cs1, .slice As2 ks2 cs2] 74)).heap.size := by simp
  generalize hWw4 : (w3.alloc (.cells #[.slice As1 ks1 cs1, .slice As2 ks2 cs2] 74)) = w4 at hba hp hzz
  have hz4 : w3.heap.size + 1 ≤ w4.heap.size := by omega
  clear hzz
  have HB_9 := Lib.hid (up HB_5.out hba)
  have HX_10 := Lib.hid (HX_6.out.below hba (by omega))
  have HG1_11 := Lib.hid (HG1.out.keep hba (by omega))
  have HG2_12 := Lib.hid (HG2.out.keep hba (by omega))
  clear HB_5 HX_6 HG1 HG2
  have HYs := Lib.hid hp
  clear hba hp
  have HWEs := Lib.hid hWw4
  clear hWw4
  have k_13 : (w3.alloc (.cells #[.slice As1 ks1 cs1, .slice As2 ks2 cs2] 74)).cell? ⟨w.heap.size, 0, none⟩ = some (.slice An nn cn) := by rw [HWEs.out]; exact HX_10.out.cell 0
  have k_14 : (w3.alloc (.cells #[.slice As1 ks1 cs1, .slice As2 ks2 cs2] 74)).cell? ⟨w.heap.size, 1, none⟩ = some (.slice A n c) := by rw [HWEs.out]; exact HX_10.out.cell 1
  go_wp2_with (fail)
  rw [HWEs.out]
  (with_reducible refine (toPost_any 0 w.heap.size nn cn An ns 0 w.heap.size n c A fs w4 (HRN.out.keep HB_9.out (Nat.le_refl _)) HB_9.out.size q2 (HS.out.keep HB_9.out (Nat.le_refl _)) HB_9.out.size q3).mono ?_)
  rintro e w5 ⟨Anb, cnb, Bfb, dfb, midb, rfl, hrt, hst, hltb, hmtb, hft, hgt, hbt⟩
  have hz5 := hbt.size
  clear k_13 k_14
  have HB_15 := Lib.hid (up HB_9.out hbt)
  have HX_16 := Lib.hid (HX_10.out.below hbt (by omega))
  have HG1_17 := Lib.hid (HG1_11.out.keep hbt (by omega))
  have HG2_18 := Lib.hid (HG2_12.out.keep hbt (by omega))
  have HYs_19 := Lib.hid (HYs.out.below hbt (by omega))
  clear HB_9 HX_10 HG1_11 HG2_12 HYs
  have HNb := Lib.hid hrt
  have HMb := Lib.hid hst
  have HFb := Lib.hid hft
  have HPb := Lib.hid hgt
  clear hrt hst hft hgt hbt
  have hba := up_alloc (Below.refl _ w5) (.cells #[.slice Anb ns.length cnb, .slice Bfb fs.length dfb] 74)
  have hp := Blk.new w5 74 #[.slice Anb ns.length cnb, .slice Bfb fs.length dfb]
  have hzz : w5.heap.size + 1 = (w5.alloc (.cells #[.slice Anb ns.length cnb, .slice Bfb fs.length dfb] 74)).heap.size := by simp
  generalize hWw6 : (w5.alloc (.cells #[.slice Anb ns.length cnb, .slice Bfb fs.length dfb] 74)) = w6 at hba hp hzz
  have hz6 : w5.heap.size + 1 ≤ w6.heap.size := by omega
  clear hzz
  have HB_20 := Lib.hid (up HB_15.out hba)
  have HX_21 := Lib.hid (HX_16.out.below hba (by omega))
  have HG1_22 := Lib.hid (HG1_17.out.keep hba (by omega))
  have HG2_23 := Lib.hid (HG2_18.out.keep hba (by omega))
  have HYs_24 := Lib.hid (HYs_19.out.below hba (by omega))
  have HNb_25 := Lib.hid (HNb.out.keep hba (by omega))
  have HFb_26 := Lib.hid (HFb.out.keep hba (by omega))
  have HMb_27 := Lib.hid (HMb.out.kept HNb.out hba (by omega))
  have HPb_28 := Lib.hid (HPb.out.kept HFb.out hba (by omega))
  clear HB_15 HX_16 HG1_17 HG2_18 HYs_19 HNb HFb HMb HPb
  have HYb := Lib.hid hp
  clear hba hp
  have HWEb := Lib.hid hWw6
  clear hWw6
  have k_29 : (w5.alloc (.cells #[.slice Anb ns.length cnb, .slice Bfb fs.length dfb] 74)).cell? ⟨w5.heap.size, 0, none⟩ = some (.slice Anb ns.length cnb) := by rw [HWEb.out]; exact HYb.out.cell 0
  have k_30 : (w5.alloc (.cells #[.slice Anb ns.length cnb, .slice Bfb fs.length dfb] 74)).cell? ⟨w5.heap.size, 1, none⟩ = some (.slice Bfb fs.length dfb) := by rw [HWEb.out]; exact HYb.out.cell 1
  go_wp2_with (fail)
  rw [HWEb.out]
  (with_reducible refine (DropLettersI_any w4.heap.size midb ns.length cnb Anb ns midb w5.heap.size fs.length dfb Bfb fs z _ HNb_25.out (by omega) hnn1 HFb_26.out (by omega) hfl1).mono ?_)
  rintro e w7 ⟨Ai1i, ki1i, ci1i, Ai2i, ki2i, ci2i, rfl, hcr, hbt⟩
  rw [HU1.out, HU2.out] at hcr
  have hz7 := hbt.size
  obtain ⟨lii, uii, lji, uji, hAi, hBi, hCi, hDi, hEi, hrt, hst, hft, hgt⟩ := hcr.parts hbt.size
  have HB_31 := Lib.hid (up HB_20.out hbt)
  have HX_32 := Lib.hid (HX_21.out.below hbt (by omega))
  have HG1_33 := Lib.hid (HG1_22.out.keep hbt (by omega))
  have HG2_34 := Lib.hid (HG2_23.out.keep hbt (by omega))
  have HYs_35 := Lib.hid (HYs_24.out.below hbt (by omega))
  have HNb_36 := Lib.hid (HNb_25.out.keep hbt (by omega))
  have HFb_37 := Lib.hid (HFb_26.out.keep hbt (by omega))
  have HMb_38 := Lib.hid (HMb_27.out.kept HNb_25.out hbt (by omega))
  have HPb_39 := Lib.hid (HPb_28.out.kept HFb_26.out hbt (by omega))
  have HYb_40 := Lib.hid (HYb.out.below hbt (by omega))
  clear HB_20 HX_21 HG1_22 HG2_23 HYs_24 HNb_25 HFb_26 HMb_27 HPb_28 HYb
  have hki1i : ki1i ≤ 1048576 := by have := hrt.len3; omega
  have hki2i : ki2i ≤ 1048576 := by have := hft.len3; omega
  have HIi := Lib.hid hrt
  have HJi := Lib.hid hst
  have HKi := Lib.hid hft
  have HLi := Lib.hid hgt
  clear hrt hst hft hgt hbt hcr
  clear k_29 k_30
  have hba := up_alloc (Below.refl _ w7) (.cells #[.slice Ai1i ki1i ci1i, .slice Ai2i ki2i ci2i] 74)
  have hp := Blk.new w7 74 #[.slice Ai1i ki1i ci1i, .slice Ai2i ki2i ci2i]
  have hzz : w7.heap.size + 1 = (w7.alloc (.cells #[.slice Ai1i ki1i ci1i, .slice Ai2i ki2i ci2i] 74)).heap.size := by simp
  generalize hWw8 : (w7.alloc (.cells #[.slice Ai1i ki1i ci1i, .slice Ai2i ki2i ci2i] 74)) = w8 at hba hp hzz
  have hz8 : w7.heap.size + 1 ≤ w8.heap.size := by omega
  clear hzz
  have HB_41 := Lib.hid (up HB_31.out hba)
  have HX_42 := Lib.hid (HX_32.out.below hba (by omega))
  have HG1_43 := Lib.hid (HG1_33.out.keep hba (by omega))
  have HG2_44 := Lib.hid (HG2_34.out.keep hba (by omega))
  have HYs_45 := Lib.hid (HYs_35.out.below hba (by omega))
  have HNb_46 := Lib.hid (HNb_36.out.keep hba (by omega))
  have HFb_47 := Lib.hid (HFb_37.out.keep hba (by omega))
  have HMb_48 := Lib.hid (HMb_38.out.kept HNb_36.out hba (by omega))
  have HPb_49 := Lib.hid (HPb_39.out.kept HFb_37.out hba (by omega))
  have HYb_50 := Lib.hid (HYb_40.out.below hba (by omega))
  have HIi_51 := Lib.hid (HIi.out.keep hba (by omega))
  have HKi_52 := Lib.hid (HKi.out.keep hba (by omega))
  have HJi_53 := Lib.hid (HJi.out.kept HIi.out hba (by omega))
  have HLi_54 := Lib.hid (HLi.out.kept HKi.out hba (by omega))
  clear HB_31 HX_32 HG1_33 HG2_34 HYs_35 HNb_36 HFb_37 HMb_38 HPb_39 HYb_40 HIi HKi HJi HLi
  have HYi := Lib.hid hp
  clear hba hp
  have HWEi := Lib.hid hWw8
  clear hWw8
  have k_55 : (w7.alloc (.cells #[.slice Ai1i ki1i ci1i, .slice Ai2i ki2i ci2i] 74)).cell? ⟨w7.heap.size, 0, none⟩ = some (.slice Ai1i ki1i ci1i) := by rw [HWEi.out]; exact HYi.out.cell 0
  have k_56 : (w7.alloc (.cells #[.slice Ai1i ki1i ci1i, .slice Ai2i ki2i ci2i] 74)).cell? ⟨w7.heap.size, 1, none⟩ = some (.slice Ai2i ki2i ci2i) := by rw [HWEi.out]; exact HYi.out.cell 1
  have k_57 : (w7.alloc (.cells #[.slice Ai1i ki1i ci1i, .slice Ai2i ki2i ci2i] 74)).cell? ⟨w3.heap.size, 0, none⟩ = some (.slice As1 ks1 cs1) := by rw [HWEi.out]; exact HYs_45.out.cell 0
  have k_58 : (w7.alloc (.cells #[.slice Ai1i ki1i ci1i, .slice Ai2i ki2i ci2i] 74)).cell? ⟨w3.heap.size, 1, none⟩ = some (.slice As2 ks2 cs2) := by rw [HWEi.out]; exact HYs_45.out.cell 1
  go_wp2_with (fail)
  rw [HWEi.out]
  (with_reducible refine (eqPost_same lii uii ki1i ci1i w2.heap.size w3.heap.size ks1 cs1 Ai1i As1 d1 lji uji ki2i ci2i w2.heap.size w3.heap.size ks2 cs2 Ai2i As2 d2 _ HIi_51.out (by omega) hki1i HKi_52.out (by omega) hki2i HG1_43.out (by omega) HG2_44.out (by omega)).mono ?_)
  rintro e w9 ⟨rfl, hbt⟩
  have hz9 := hbt.size
  clear k_55 k_56 k_57 k_58
  have HB_59 := Lib.hid (up HB_41.out hbt)
  have HX_60 := Lib.hid (HX_42.out.below hbt (by omega))
  have HG1_61 := Lib.hid (HG1_43.out.keep hbt (by omega))
  have HG2_62 := Lib.hid (HG2_44.out.keep hbt (by omega))
  have HYs_63 := Lib.hid (HYs_45.out.below hbt (by omega))
  have HNb_64 := Lib.hid (HNb_46.out.keep hbt (by omega))
  have HFb_65 := Lib.hid (HFb_47.out.keep hbt (by omega))
  have HMb_66 := Lib.hid (HMb_48.out.kept HNb_46.out hbt (by omega))
  have HPb_67 := Lib.hid (HPb_49.out.kept HFb_47.out hbt (by omega))
  have HYb_68 := Lib.hid (HYb_50.out.below hbt (by omega))
  have HIi_69 := Lib.hid (HIi_51.out.keep hbt (by omega))
  have HKi_70 := Lib.hid (HKi_52.out.keep hbt (by omega))
  have HJi_71 := Lib.hid (HJi_53.out.kept HIi_51.out hbt (by omega))
  have HLi_72 := Lib.hid (HLi_54.out.kept HKi_52.out hbt (by omega))
  have HYi_73 := Lib.hid (HYi.out.below hbt (by omega))
  clear HB_41 HX_42 HG1_43 HG2_44 HYs_45 HNb_46 HFb_47 HMb_48 HPb_49 HYb_50 HIi_51 HKi_52 HJi_53 HLi_54 HYi
  clear hbt
  have k_74 : w9.cell? ⟨w.heap.size, 0, none⟩ = some (.slice An nn cn) := HX_60.out.cell 0
  have k_75 : w9.cell? ⟨w.heap.size, 1, none⟩ = some (.slice A n c) := HX_60.out.cell 1
  have k_76 : w9.cell? ⟨w5.heap.size, 0, none⟩ = some (.slice Anb ns.length cnb) := HYb_68.out.cell 0
  have k_77 : w9.cell? ⟨w5.heap.size, 1, none⟩ = some (.slice Bfb fs.length dfb) := HYb_68.out.cell 1
  have HC := Lib.hid (toPost_any 0 w.heap.size nn cn An ns 0 w.heap.size n c A fs w9.drew (HRN.out.keep (up_drew HB_59.out) (Nat.le_refl _)) HB_59.out.size q2 (HS.out.keep (up_drew HB_59.out) (Nat.le_refl _)) HB_59.out.size q3)
  go_wp2
  go_region_held3 (fun w' => w'.cell? ⟨w.heap.size, 0, none⟩ = some (.slice An nn cn) ∧ w'.cell? ⟨w.heap.size, 1, none⟩ = some (.slice A n c) ∧ w'.cell? ⟨w5.heap.size, 0, none⟩ = some (.slice Anb ns.length cnb) ∧ w'.cell? ⟨w5.heap.size, 1, none⟩ = some (.slice Bfb fs.length dfb))
    (first
      | exact ⟨k_74, k_75, k_76, k_77⟩
      | exact ⟨(hb7.cell (by show w.heap.size < w9.heap.size; omega)).trans k_74, (hb7.cell (by show w.heap.size < w9.heap.size; omega)).trans k_75, (hb7.cell (by show w5.heap.size < w9.heap.size; omega)).trans k_76, (hb7.cell (by show w5.heap.size < w9.heap.size; omega)).trans k_77⟩
      | exact ⟨(hb8.cell (by show w.heap.size < w10.heap.size; omega)).trans ((hb7.cell (by show w.heap.size < w9.heap.size; omega)).trans k_74), (hb8.cell (by show w.heap.size < w10.heap.size; omega)).trans ((hb7.cell (by show w.heap.size < w9.heap.size; omega)).trans k_75), (hb8.cell (by show w5.heap.size < w10.heap.size; omega)).trans ((hb7.cell (by show w5.heap.size < w9.heap.size; omega)).trans k_76), (hb8.cell (by show w5.heap.size < w10.heap.size; omega)).trans ((hb7.cell (by show w5.heap.size < w9.heap.size; omega)).trans k_77)⟩)
    ((first
      | (go_at_call 41; refine HC.out.mono ?_; rintro e w10 ⟨A7, c7, B7, d7, m7, rfl, hr7, _, hl7, hm7, hf7, _, hb7⟩; have hs7 : w9.heap.size ≤ w10.heap.size := hb7.size; have hlx7 : w9.heap.size ≤ m7 := hl7)
      | (go_at_call 43; refine (eqPost_same w4.heap.size midb ns.length cnb _ m7 ns.length c7 Anb A7 ns midb w5.heap.size fs.length dfb m7 w10.heap.size fs.length d7 Bfb B7 fs w10 (HNb_64.out.keep (up (up_drew (Below.refl _ w9)) hb7) (by omega)) (by omega) hnn1 (HFb_65.out.keep (up (up_drew (Below.refl _ w9)) hb7) (by omega)) (by omega) hfl1 hr7 (by omega) hf7 (Nat.le_refl _)).mono ?_; rintro e w11 ⟨rfl, hb8⟩)))
  all_goals
    have hbt := up (up (up_drew (Below.refl _ w9)) hb7) hb8
    have hz11 : w9.heap.size ≤ w11.heap.size := hbt.size
    clear HC k_74 k_75 k_76 k_77
    have HB_78 := Lib.hid (up HB_59.out hbt)
    have HX_79 := Lib.hid (HX_60.out.below hbt (by omega))
    have HG1_80 := Lib.hid (HG1_61.out.keep hbt (by omega))
    have HG2_81 := Lib.hid (HG2_62.out.keep hbt (by omega))
    have HYs_82 := Lib.hid (HYs_63.out.below hbt (by omega))
    have HNb_83 := Lib.hid (HNb_64.out.keep hbt (by omega))
    have HFb_84 := Lib.hid (HFb_65.out.keep hbt (by omega))
    have HMb_85 := Lib.hid (HMb_66.out.kept HNb_64.out hbt (by omega))
    have HPb_86 := Lib.hid (HPb_67.out.kept HFb_65.out hbt (by omega))
    have HYb_87 := Lib.hid (HYb_68.out.below hbt (by omega))
    have HIi_88 := Lib.hid (HIi_69.out.keep hbt (by omega))
    have HKi_89 := Lib.hid (HKi_70.out.keep hbt (by omega))
    have HJi_90 := Lib.hid (HJi_71.out.kept HIi_69.out hbt (by omega))
    have HLi_91 := Lib.hid (HLi_72.out.kept HKi_70.out hbt (by omega))
    have HYi_92 := Lib.hid (HYi_73.out.below hbt (by omega))
    clear HB_59 HX_60 HG1_61 HG2_62 HYs_63 HNb_64 HFb_65 HMb_66 HPb_67 HYb_68 HIi_69 HKi_70 HJi_71 HLi_72 HYi_73
    clear hbt hb7 hb8 hr7 hf7
    have k_93 : w11.cell? ⟨w5.heap.size, 0, none⟩ = some (.slice Anb ns.length cnb) := HYb_87.out.cell 0
    have k_94 : w11.cell? ⟨w5.heap.size, 1, none⟩ = some (.slice Bfb fs.length dfb) := HYb_87.out.cell 1
    go_wp2_with (fail)
    (with_reducible refine (markPost_any w4.heap.size w5.heap.size w4.heap.size midb midb w5.heap.size ns.length cnb fs.length dfb Anb Bfb  _ _ 1 _ HNb_83.out HMb_85.out hnn1 HFb_84.out HPb_86.out hfl1 (by omega) (by omega) (by omega) (by omega) (by omega) (by omega) (by omega) (by omega)).mono ?_)
    rintro e w13 ⟨rfl, hrt, hft, w12, hbt, hwt⟩
    clear k_93 k_94
    have hz12 := hbt.size
    have hz13 := hwt.size
    clear HMb_85
    clear HPb_86
    clear HNb_83
    clear HFb_84
    have HB_95 := Lib.hid (up HB_78.out hbt)
    have HX_96 := Lib.hid (HX_79.out.below hbt (by omega))
    have HG1_97 := Lib.hid (HG1_80.out.keep hbt (by omega))
    have HG2_98 := Lib.hid (HG2_81.out.keep hbt (by omega))
    have HYs_99 := Lib.hid (HYs_82.out.below hbt (by omega))
    have HYb_100 := Lib.hid (HYb_87.out.below hbt (by omega))
    have HIi_101 := Lib.hid (HIi_88.out.keep hbt (by omega))
    have HKi_102 := Lib.hid (HKi_89.out.keep hbt (by omega))
    have HJi_103 := Lib.hid (HJi_90.out.kept HIi_88.out hbt (by omega))
    have HLi_104 := Lib.hid (HLi_91.out.kept HKi_89.out hbt (by omega))
    have HYi_105 := Lib.hid (HYi_92.out.below hbt (by omega))
    clear HB_78 HX_79 HG1_80 HG2_81 HYs_82 HYb_87 HIi_88 HKi_89 HJi_90 HLi_91 HYi_92
    have HB_106 := Lib.hid (Within.below HB_95.out hwt (by omega))
    have HX_107 := Lib.hid (show Blk w13 w.heap.size 68 #[.slice An nn cn, .slice A n c] from (hwt.block w.heap.size (by omega) (by omega)).trans HX_96.out)
    have HG1_108 := Lib.hid (HG1_97.out.within hwt (by omega) (by omega))
    have HG2_109 := Lib.hid (HG2_98.out.within hwt (by omega) (by omega))
    have HYs_110 := Lib.hid (show Blk w13 w3.heap.size 74 #[.slice As1 ks1 cs1, .slice As2 ks2 cs2] from (hwt.block w3.heap.size (by omega) (by omega)).trans HYs_99.out)
    have HYb_111 := Lib.hid (show Blk w13 w5.heap.size 74 #[.slice Anb ns.length cnb, .slice Bfb fs.length dfb] from (hwt.block w5.heap.size (by omega) (by omega)).trans HYb_100.out)
    have HIi_112 := Lib.hid (HIi_101.out.within hwt (by omega) (by omega))
    have HKi_113 := Lib.hid (HKi_102.out.within hwt (by omega) (by omega))
    have HJi_114 := Lib.hid (HJi_103.out.within HIi_101.out hwt (by omega) (by omega))
    have HLi_115 := Lib.hid (HLi_104.out.within HKi_102.out hwt (by omega) (by omega))
    have HYi_116 := Lib.hid (show Blk w13 w7.heap.size 74 #[.slice Ai1i ki1i ci1i, .slice Ai2i ki2i ci2i] from (hwt.block w7.heap.size (by omega) (by omega)).trans HYi_105.out)
    clear HB_95 HX_96 HG1_97 HG2_98 HYs_99 HYb_100 HIi_101 HKi_102 HJi_103 HLi_104 HYi_105
    clear hbt hwt
    clear HYb_111
    have hrkd : decide ((1 : Int) + 3 * (ns.length : Int) + 3 * (fs.length : Int) < 0) = false := decide_eq_false (by omega)
    have k_117 : w13.cell? ⟨w7.heap.size, 0, none⟩ = some (.slice Ai1i ki1i ci1i) := HYi_116.out.cell 0
    have k_118 : w13.cell? ⟨w7.heap.size, 1, none⟩ = some (.slice Ai2i ki2i ci2i) := HYi_116.out.cell 1
    have k_119 : w13.cell? ⟨w3.heap.size, 0, none⟩ = some (.slice As1 ks1 cs1) := HYs_110.out.cell 0
    have k_120 : w13.cell? ⟨w3.heap.size, 1, none⟩ = some (.slice As2 ks2 cs2) := HYs_110.out.cell 1
    go_wp2_with (fail)
    (with_reducible refine (eqPost_same lii uii ki1i ci1i w2.heap.size w3.heap.size ks1 cs1 Ai1i As1 d1 lji uji ki2i ci2i w2.heap.size w3.heap.size ks2 cs2 Ai2i As2 d2 _ HIi_112.out (by omega) hki1i HKi_113.out (by omega) hki2i HG1_108.out (by omega) HG2_109.out (by omega)).mono ?_)
    rintro e w14 ⟨rfl, hbt⟩
    have hz14 := hbt.size
    clear k_117 k_118 k_119 k_120
    have HB_121 := Lib.hid (up HB_106.out hbt)
    have HX_122 := Lib.hid (HX_107.out.below hbt (by omega))
    have HG1_123 := Lib.hid (HG1_108.out.keep hbt (by omega))
    have HG2_124 := Lib.hid (HG2_109.out.keep hbt (by omega))
    have HYs_125 := Lib.hid (HYs_110.out.below hbt (by omega))
    have HIi_126 := Lib.hid (HIi_112.out.keep hbt (by omega))
    have HKi_127 := Lib.hid (HKi_113.out.keep hbt (by omega))
    have HJi_128 := Lib.hid (HJi_114.out.kept HIi_112.out hbt (by omega))
    have HLi_129 := Lib.hid (HLi_115.out.kept HKi_113.out hbt (by omega))
    have HYi_130 := Lib.hid (HYi_116.out.below hbt (by omega))
    clear HB_106 HX_107 HG1_108 HG2_109 HYs_110 HIi_112 HKi_113 HJi_114 HLi_115 HYi_116
    clear hbt
    have k_131 : w14.cell? ⟨w7.heap.size, 0, none⟩ = some (.slice Ai1i ki1i ci1i) := HYi_130.out.cell 0
    have k_132 : w14.cell? ⟨w7.heap.size, 1, none⟩ = some (.slice Ai2i ki2i ci2i) := HYi_130.out.cell 1
    go_wp2_with (fail)
    (with_reducible refine (markPost_any w6.heap.size w7.heap.size lii uii lji uji ki1i ci1i ki2i ci2i Ai1i Ai2i  _ _ 1 _ HIi_126.out HJi_128.out hki1i HKi_127.out HLi_129.out hki2i (by omega) (by omega) (by omega) (by omega) (by omega) (by omega) (by omega) (by omega)).mono ?_)
    rintro e w16 ⟨rfl, hrt, hft, w15, hbt, hwt⟩
    clear k_131 k_132
    have hz15 := hbt.size
    have hz16 := hwt.size
    clear HJi_128
    clear HLi_129
    clear HIi_126
    clear HKi_127
    have HB_133 := Lib.hid (up HB_121.out hbt)
    have HX_134 := Lib.hid (HX_122.out.below hbt (by omega))
    have HG1_135 := Lib.hid (HG1_123.out.keep hbt (by omega))
    have HG2_136 := Lib.hid (HG2_124.out.keep hbt (by omega))
    have HYs_137 := Lib.hid (HYs_125.out.below hbt (by omega))
    have HYi_138 := Lib.hid (HYi_130.out.below hbt (by omega))
    clear HB_121 HX_122 HG1_123 HG2_124 HYs_125 HYi_130
    have HB_139 := Lib.hid (Within.below HB_133.out hwt (by omega))
    have HX_140 := Lib.hid (show Blk w16 w.heap.size 68 #[.slice An nn cn, .slice A n c] from (hwt.block w.heap.size (by omega) (by omega)).trans HX_134.out)
    have HG1_141 := Lib.hid (HG1_135.out.within hwt (by omega) (by omega))
    have HG2_142 := Lib.hid (HG2_136.out.within hwt (by omega) (by omega))
    have HYs_143 := Lib.hid (show Blk w16 w3.heap.size 74 #[.slice As1 ks1 cs1, .slice As2 ks2 cs2] from (hwt.block w3.heap.size (by omega) (by omega)).trans HYs_137.out)
    have HYi_144 := Lib.hid (show Blk w16 w7.heap.size 74 #[.slice Ai1i ki1i ci1i, .slice Ai2i ki2i ci2i] from (hwt.block w7.heap.size (by omega) (by omega)).trans HYi_138.out)
    clear HB_133 HX_134 HG1_135 HG2_136 HYs_137 HYi_138
    clear hbt hwt
    have HQ1 := Lib.hid hrt
    have HQ2 := Lib.hid hft
    clear hrt hft
    have k_145 : w16.cell? ⟨w7.heap.size, 0, none⟩ = some (.slice Ai1i ki1i ci1i) := HYi_144.out.cell 0
    have k_146 : w16.cell? ⟨w7.heap.size, 1, none⟩ = some (.slice Ai2i ki2i ci2i) := HYi_144.out.cell 1
    go_wp2_with (fail)
    (with_reducible refine (heldPost_any lii uii lji uji ki1i ci1i ki2i ci2i Ai1i Ai2i 1 _ HQ1.out hki1i HQ2.out hki2i (by omega) (by omega) (by omega) (by omega)).mono ?_)
    rintro e w17 ⟨rfl, hbt⟩
    have hz17 := hbt.size
    clear k_145 k_146
    have HB_147 := Lib.hid (up HB_139.out hbt)
    have HX_148 := Lib.hid (HX_140.out.below hbt (by omega))
    have HG1_149 := Lib.hid (HG1_141.out.keep hbt (by omega))
    have HG2_150 := Lib.hid (HG2_142.out.keep hbt (by omega))
    have HYs_151 := Lib.hid (HYs_143.out.below hbt (by omega))
    have HYi_152 := Lib.hid (HYi_144.out.below hbt (by omega))
    have HQ1_153 := Lib.hid (HQ1.out.keep hbt (by omega))
    have HQ2_154 := Lib.hid (HQ2.out.keep hbt (by omega))
    clear HB_139 HX_140 HG1_141 HG2_142 HYs_143 HYi_144 HQ1 HQ2
    clear hbt
    have hrke : decide ((1 : Int) + 3 * (ki1i : Int) + 3 * (ki2i : Int) < 0) = false := decide_eq_false (by omega)
    have k_155 : w17.cell? ⟨w.heap.size, 0, none⟩ = some (.slice An nn cn) := HX_148.out.cell 0
    have k_156 : w17.cell? ⟨w.heap.size, 1, none⟩ = some (.slice A n c) := HX_148.out.cell 1
    go_wp2_with (fail)
    (with_reducible refine (toPost_any 0 w.heap.size nn cn An ns 0 w.heap.size n c A fs w17 (HRN.out.keep HB_147.out (Nat.le_refl _)) HB_147.out.size q2 (HS.out.keep HB_147.out (Nat.le_refl _)) HB_147.out.size q3).mono ?_)
    rintro e w18 ⟨And, cnd, Bfd, dfd, midd, rfl, hrt, hst, hltd, hmtd, hft, hgt, hbt⟩
    have hz18 := hbt.size
    clear k_155 k_156
    have HB_157 := Lib.hid (up HB_147.out hbt)
    have HX_158 := Lib.hid (HX_148.out.below hbt (by omega))
    have HG1_159 := Lib.hid (HG1_149.out.keep hbt (by omega))
    have HG2_160 := Lib.hid (HG2_150.out.keep hbt (by omega))
    have HYs_161 := Lib.hid (HYs_151.out.below hbt (by omega))
    have HYi_162 := Lib.hid (HYi_152.out.below hbt (by omega))
    have HQ1_163 := Lib.hid (HQ1_153.out.keep hbt (by omega))
    have HQ2_164 := Lib.hid (HQ2_154.out.keep hbt (by omega))
    clear HB_147 HX_148 HG1_149 HG2_150 HYs_151 HYi_152 HQ1_153 HQ2_154
    have HNd := Lib.hid hrt
    have HMd := Lib.hid hst
    have HFd := Lib.hid hft
    have HPd := Lib.hid hgt
    clear hrt hst hft hgt hbt
    clear HMd HPd
    go_wp2_with (fail)
    (with_reducible refine (DropLettersI_any w17.heap.size midd ns.length cnd And ns midd w18.heap.size fs.length dfd Bfd fs z _ HNd.out (by omega) hnn1 HFd.out (by omega) hfl1).mono ?_)
    rintro e w19 ⟨Ai1j, ki1j, ci1j, Ai2j, ki2j, ci2j, rfl, hcr, hbt⟩
    rw [HU1.out, HU2.out] at hcr
    have hz19 := hbt.size
    obtain ⟨lij, uij, ljj, ujj, hAj, hBj, hCj, hDj, hEj, hrt, hst, hft, hgt⟩ := hcr.parts hbt.size
    have HB_165 := Lib.hid (up HB_157.out hbt)
    have HX_166 := Lib.hid (HX_158.out.below hbt (by omega))
    have HG1_167 := Lib.hid (HG1_159.out.keep hbt (by omega))
    have HG2_168 := Lib.hid (HG2_160.out.keep hbt (by omega))
    have HYs_169 := Lib.hid (HYs_161.out.below hbt (by omega))
    have HYi_170 := Lib.hid (HYi_162.out.below hbt (by omega))
    have HQ1_171 := Lib.hid (HQ1_163.out.keep hbt (by omega))
    have HQ2_172 := Lib.hid (HQ2_164.out.keep hbt (by omega))
    have HNd_173 := Lib.hid (HNd.out.keep hbt (by omega))
    have HFd_174 := Lib.hid (HFd.out.keep hbt (by omega))
    clear HB_157 HX_158 HG1_159 HG2_160 HYs_161 HYi_162 HQ1_163 HQ2_164 HNd HFd
    have hki1j : ki1j ≤ 1048576 := by have := hrt.len3; omega
    have hki2j : ki2j ≤ 1048576 := by have := hft.len3; omega
    have HIj := Lib.hid hrt
    have HJj := Lib.hid hst
    have HKj := Lib.hid hft
    have HLj := Lib.hid hgt
    clear hrt hst hft hgt hbt hcr
    clear HJj HLj
    clear HNd_173
    clear HFd_174
    have hba := up_alloc (Below.refl _ w19) (.cells #[.slice Ai1j ki1j ci1j, .slice Ai2j ki2j ci2j] 74)
    have hp := Blk.new w19 74 #[.slice Ai1j ki1j ci1j, .slice Ai2j ki2j ci2j]
    have hzz : w19.heap.size + 1 = (w19.alloc (.cells #[.slice Ai1j ki1j ci1j, .slice Ai2j ki2j ci2j] 74)).heap.size := by simp
    generalize hWw20 : (w19.alloc (.cells #[.slice Ai1j ki1j ci1j, .slice Ai2j ki2j ci2j] 74)) = w20 at hba hp hzz
    have hz20 : w19.heap.size + 1 ≤ w20.heap.size := by omega
    clear hzz
    have HB_175 := Lib.hid (up HB_165.out hba)
    have HX_176 := Lib.hid (HX_166.out.below hba (by omega))
    have HG1_177 := Lib.hid (HG1_167.out.keep hba (by omega))
    have HG2_178 := Lib.hid (HG2_168.out.keep hba (by omega))
    have HYs_179 := Lib.hid (HYs_169.out.below hba (by omega))
    have HYi_180 := Lib.hid (HYi_170.out.below hba (by omega))
    have HQ1_181 := Lib.hid (HQ1_171.out.keep hba (by omega))
    have HQ2_182 := Lib.hid (HQ2_172.out.keep hba (by omega))
    have HIj_183 := Lib.hid (HIj.out.keep hba (by omega))
    have HKj_184 := Lib.hid (HKj.out.keep hba (by omega))
    clear HB_165 HX_166 HG1_167 HG2_168 HYs_169 HYi_170 HQ1_171 HQ2_172 HIj HKj
    have HYj := Lib.hid hp
    clear hba hp
    have HWEj := Lib.hid hWw20
    clear hWw20
    have k_185 : (w19.alloc (.cells #[.slice Ai1j ki1j ci1j, .slice Ai2j ki2j ci2j] 74)).cell? ⟨w19.heap.size, 0, none⟩ = some (.slice Ai1j ki1j ci1j) := by rw [HWEj.out]; exact HYj.out.cell 0
    have k_186 : (w19.alloc (.cells #[.slice Ai1j ki1j ci1j, .slice Ai2j ki2j ci2j] 74)).cell? ⟨w19.heap.size, 1, none⟩ = some (.slice Ai2j ki2j ci2j) := by rw [HWEj.out]; exact HYj.out.cell 1
    have k_187 : (w19.alloc (.cells #[.slice Ai1j ki1j ci1j, .slice Ai2j ki2j ci2j] 74)).cell? ⟨w3.heap.size, 0, none⟩ = some (.slice As1 ks1 cs1) := by rw [HWEj.out]; exact HYs_179.out.cell 0
    have k_188 : (w19.alloc (.cells #[.slice Ai1j ki1j ci1j, .slice Ai2j ki2j ci2j] 74)).cell? ⟨w3.heap.size, 1, none⟩ = some (.slice As2 ks2 cs2) := by rw [HWEj.out]; exact HYs_179.out.cell 1
    go_wp2_with (fail)
    rw [HWEj.out]
    (with_reducible refine (eqPost_same lij uij ki1j ci1j w2.heap.size w3.heap.size ks1 cs1 Ai1j As1 d1 ljj ujj ki2j ci2j w2.heap.size w3.heap.size ks2 cs2 Ai2j As2 d2 _ HIj_183.out (by omega) hki1j HKj_184.out (by omega) hki2j HG1_177.out (by omega) HG2_178.out (by omega)).mono ?_)
    rintro e w21 ⟨rfl, hbt⟩
    have hz21 := hbt.size
    clear k_185 k_186 k_187 k_188
    have HB_189 := Lib.hid (up HB_175.out hbt)
    have HX_190 := Lib.hid (HX_176.out.below hbt (by omega))
    have HG1_191 := Lib.hid (HG1_177.out.keep hbt (by omega))
    have HG2_192 := Lib.hid (HG2_178.out.keep hbt (by omega))
    have HYs_193 := Lib.hid (HYs_179.out.below hbt (by omega))
    have HYi_194 := Lib.hid (HYi_180.out.below hbt (by omega))
    have HQ1_195 := Lib.hid (HQ1_181.out.keep hbt (by omega))
    have HQ2_196 := Lib.hid (HQ2_182.out.keep hbt (by omega))
    have HIj_197 := Lib.hid (HIj_183.out.keep hbt (by omega))
    have HKj_198 := Lib.hid (HKj_184.out.keep hbt (by omega))
    have HYj_199 := Lib.hid (HYj.out.below hbt (by omega))
    clear HB_175 HX_176 HG1_177 HG2_178 HYs_179 HYi_180 HQ1_181 HQ2_182 HIj_183 HKj_184 HYj
    clear hbt
    have k_200 : w21.cell? ⟨w7.heap.size, 0, none⟩ = some (.slice Ai1i ki1i ci1i) := HYi_194.out.cell 0
    have k_201 : w21.cell? ⟨w7.heap.size, 1, none⟩ = some (.slice Ai2i ki2i ci2i) := HYi_194.out.cell 1
    go_wp2_with (fail)
    (with_reducible refine (heldPost_any lii uii lji uji ki1i ci1i ki2i ci2i Ai1i Ai2i 1 _ HQ1_195.out hki1i HQ2_196.out hki2i (by omega) (by omega) (by omega) (by omega)).mono ?_)
    rintro e w22 ⟨rfl, hbt⟩
    have hz22 := hbt.size
    clear k_200 k_201
    have HB_202 := Lib.hid (up HB_189.out hbt)
    have HX_203 := Lib.hid (HX_190.out.below hbt (by omega))
    have HG1_204 := Lib.hid (HG1_191.out.keep hbt (by omega))
    have HG2_205 := Lib.hid (HG2_192.out.keep hbt (by omega))
    have HYs_206 := Lib.hid (HYs_193.out.below hbt (by omega))
    have HYi_207 := Lib.hid (HYi_194.out.below hbt (by omega))
    have HQ1_208 := Lib.hid (HQ1_195.out.keep hbt (by omega))
    have HQ2_209 := Lib.hid (HQ2_196.out.keep hbt (by omega))
    have HIj_210 := Lib.hid (HIj_197.out.keep hbt (by omega))
    have HKj_211 := Lib.hid (HKj_198.out.keep hbt (by omega))
    have HYj_212 := Lib.hid (HYj_199.out.below hbt (by omega))
    clear HB_189 HX_190 HG1_191 HG2_192 HYs_193 HYi_194 HQ1_195 HQ2_196 HIj_197 HKj_198 HYj_199
    clear hbt
    go_wp2
    go_ret
    exact ⟨rfl, HB_202.out⟩
end Go.Proofs.Ytjaangjcdhbajaa
