/- The law FnExactIsFaithful, walked: it returns true. (Written by gen/exgen3.py.) -/
import Derived.Test.YtmhbfdcikdhehaaExProc
import Derived.Test.YtmhbfdcikdhehaaExInt
import Derived.Test.YtmhbfdcikdhehaaMoveFI
import Derived.Deep.RegionHeld3
set_option linter.unusedSimpArgs false
set_option linter.unusedVariables false
namespace Go.Proofs.Ytmhbfdcikdhehaa
open Go.RowKit

set_option maxRecDepth 100000 in
set_option maxHeartbeats 12800000 in
theorem exIsFaithful_any (nn0 cn0 n0 c0 : Nat) (An0 A0 : Option Addr) (ns0 : List (Int × Int)) (fs0 : List Flw) (w : World) (hnn0 : nn0 ≤ 9223372036854775807) (hn0 : n0 ≤ 9223372036854775807) (hrn0 : Rd w 0 w.heap.size 2 An0 nn0 (pvs ns0)) (hr0 : FlsU w 0 w.heap.size A0 n0 fs0) (nn1 cn1 n1 c1 : Nat) (An1 A1 : Option Addr) (ns1 : List (Int × Int)) (fs1 : List Flw) (hnn1 : nn1 ≤ 9223372036854775807) (hn1 : n1 ≤ 9223372036854775807) (hrn1 : Rd w 0 w.heap.size 2 An1 nn1 (pvs ns1)) (hr1 : FlsU w 0 w.heap.size A1 n1 fs1) (n2 c2 : Nat) (A2 : Option Addr) (m2 : List Int) (hn2 : n2 ≤ 9223372036854775807) (hr2 : Rd w 0 w.heap.size 1 A2 n2 (ivs m2)) :
    Calls Try.prog 8 #[.agg #[.slice An0 nn0 cn0, .slice A0 n0 c0], .agg #[.slice An1 nn1 cn1, .slice A1 n1 c1], .slice A2 n2 c2] w fun e w' => e = .returned (.bool true) ∧ Below w.heap.size w w' := by
  by_cases hg2 : (1048576 : Int) < n2
  · go_enter Try.func8, Try.ntmps8
    go_wp2
    go_ret
    exact ⟨rfl, up_alloc (up_alloc (Below.refl _ _) _) _⟩
  have hm2 : n2 ≤ 1048576 := by omega
  have hb0 := up_alloc (up_alloc (Below.refl _ w) (.cells #[.slice An0 nn0 cn0, .slice A0 n0 c0] 51)) (.cells #[.slice An1 nn1 cn1, .slice A1 n1 c1] 51)
  have hx0 : Blk ((w.alloc (.cells #[.slice An0 nn0 cn0, .slice A0 n0 c0] 51)).alloc (.cells #[.slice An1 nn1 cn1, .slice A1 n1 c1] 51)) (w.heap.size) 51 #[.slice An0 nn0 cn0, .slice A0 n0 c0] := by simpa using ((Blk.new w 51 #[.slice An0 nn0 cn0, .slice A0 n0 c0]).alloc (.cells #[.slice An1 nn1 cn1, .slice A1 n1 c1] 51))
  have HX0 := Lib.hid hx0
  clear hx0
  have hx1 : Blk ((w.alloc (.cells #[.slice An0 nn0 cn0, .slice A0 n0 c0] 51)).alloc (.cells #[.slice An1 nn1 cn1, .slice A1 n1 c1] 51)) (w.heap.size + 1) 51 #[.slice An1 nn1 cn1, .slice A1 n1 c1] := by simpa using (Blk.new (w.alloc (.cells #[.slice An0 nn0 cn0, .slice A0 n0 c0] 51)) 51 #[.slice An1 nn1 cn1, .slice A1 n1 c1])
  have HX1 := Lib.hid hx1
  clear hx1
  have hzw : ((w.alloc (.cells #[.slice An0 nn0 cn0, .slice A0 n0 c0] 51)).alloc (.cells #[.slice An1 nn1 cn1, .slice A1 n1 c1] 51)).heap.size = w.heap.size + 1 + 1 := by simp
  have hz0 : w.heap.size + 1 + 1 ≤ ((w.alloc (.cells #[.slice An0 nn0 cn0, .slice A0 n0 c0] 51)).alloc (.cells #[.slice An1 nn1 cn1, .slice A1 n1 c1] 51)).heap.size := by omega
  clear hzw
  have HLN0 := Lib.hid hrn0.len2
  have HLF0 := Lib.hid hr0.1
  have HRN0 := Lib.hid hrn0
  have HR0 := Lib.hid hr0
  clear hrn0 hr0
  have HLN1 := Lib.hid hrn1.len2
  have HLF1 := Lib.hid hr1.1
  have HRN1 := Lib.hid hrn1
  have HR1 := Lib.hid hr1
  clear hrn1 hr1
  have HL2 := Lib.hid hr2.len1
  have HA2 := Lib.hid hr2
  clear hr2
  have HB0 := Lib.hid hb0
  clear hb0
  go_enter Try.func8, Try.ntmps8
  have k_1 : ((w.alloc (.cells #[.slice An0 nn0 cn0, .slice A0 n0 c0] 51)).alloc (.cells #[.slice An1 nn1 cn1, .slice A1 n1 c1] 51)).cell? ⟨w.heap.size, 0, none⟩ = some (.slice An0 nn0 cn0) := HX0.out.cell 0
  have k_2 : ((w.alloc (.cells #[.slice An0 nn0 cn0, .slice A0 n0 c0] 51)).alloc (.cells #[.slice An1 nn1 cn1, .slice A1 n1 c1] 51)).cell? ⟨w.heap.size, 1, none⟩ = some (.slice A0 n0 c0) := HX0.out.cell 1
  go_wp2_with (fail)
  (with_reducible refine (szProcess_any 0 w.heap.size nn0 cn0 An0 ns0 0 w.heap.size n0 c0 A0 fs0 1048576 _ (HRN0.out.keep HB0.out (Nat.le_refl _)) HB0.out.size hnn0 (HR0.out.keep HB0.out (Nat.le_refl _)) HB0.out.size hn0 (by omega) (by omega)).mono ?_)
  rintro e w1 ⟨hbt, he⟩
  have hz1 : ((w.alloc (.cells #[.slice An0 nn0 cn0, .slice A0 n0 c0] 51)).alloc (.cells #[.slice An1 nn1 cn1, .slice A1 n1 c1] 51)).heap.size ≤ w1.heap.size := hbt.size
  clear k_1 k_2
  have HB_3 := Lib.hid (up HB0.out hbt)
  have HX0_4 := Lib.hid (HX0.out.below hbt (by omega))
  have HX1_5 := Lib.hid (HX1.out.below hbt (by omega))
  clear HB0 HX0 HX1
  clear hbt
  rcases he with rfl | ⟨r0, rfl, q00, q01, q02, q03, q04⟩
  · go_wp2
    go_ret
    exact ⟨rfl, HB_3.out⟩
  have hz1' : w.heap.size + 1 + 1 ≤ w1.heap.size := by omega
  clear hz0 hz1
  have HS0 := Lib.hid (HR0.out.small q04)
  clear q04 HR0
  have hnn1_0 : ns0.length ≤ 1048576 := by rw [HLN0.out]; exact q02
  have hfl1_0 : fs0.length ≤ 1048576 := by rw [HLF0.out]; exact q03
  have k_6 : w1.cell? ⟨w.heap.size + 1, 0, none⟩ = some (.slice An1 nn1 cn1) := HX1_5.out.cell 0
  have k_7 : w1.cell? ⟨w.heap.size + 1, 1, none⟩ = some (.slice A1 n1 c1) := HX1_5.out.cell 1
  go_wp2_with (fail)
  (with_reducible refine (szProcess_any 0 w.heap.size nn1 cn1 An1 ns1 0 w.heap.size n1 c1 A1 fs1 r0 _ (HRN1.out.keep HB_3.out (Nat.le_refl _)) HB_3.out.size hnn1 (HR1.out.keep HB_3.out (Nat.le_refl _)) HB_3.out.size hn1 (by omega) (by omega)).mono ?_)
  rintro e w2 ⟨hbt, he⟩
  have hz2 : w1.heap.size ≤ w2.heap.size := hbt.size
  clear k_6 k_7
  have HB_8 := Lib.hid (up HB_3.out hbt)
  have HX0_9 := Lib.hid (HX0_4.out.below hbt (by omega))
  have HX1_10 := Lib.hid (HX1_5.out.below hbt (by omega))
  clear HB_3 HX0_4 HX1_5
  clear hbt
  rcases he with rfl | ⟨r1, rfl, q10, q11, q12, q13, q14⟩
  · go_wp2
    go_ret
    exact ⟨rfl, HB_8.out⟩
  have HS1 := Lib.hid (HR1.out.small q14)
  clear q14 HR1
  have hnn1_1 : ns1.length ≤ 1048576 := by rw [HLN1.out]; exact q12
  have hfl1_1 : fs1.length ≤ 1048576 := by rw [HLF1.out]; exact q13
  generalize hU0 : faithOf ns0 fs0 ns1 fs1 m2 = u0
  have hne0 : (u0 != u0) = false := by simp
  have HU0 := Lib.hid hU0
  clear hU0
  have HC0 : Hid (∀ wx : World, Below w2.heap.size w2 wx → Calls Try.prog 23 #[.agg #[.slice An0 nn0 cn0, .slice A0 n0 c0]] wx (ToProc ns0 fs0 wx)) := fun wx hbx => toProcess_any 0 w.heap.size nn0 cn0 An0 ns0 0 w.heap.size n0 c0 A0 fs0 wx (HRN0.out.keep (up HB_8.out hbx) (Nat.le_refl _)) (up HB_8.out hbx).size q02 (HS0.out.keep (up HB_8.out hbx) (Nat.le_refl _)) (up HB_8.out hbx).size q03
  have HC1 : Hid (∀ wx : World, Below w2.heap.size w2 wx → Calls Try.prog 23 #[.agg #[.slice An1 nn1 cn1, .slice A1 n1 c1]] wx (ToProc ns1 fs1 wx)) := fun wx hbx => toProcess_any 0 w.heap.size nn1 cn1 An1 ns1 0 w.heap.size n1 c1 A1 fs1 wx (HRN1.out.keep (up HB_8.out hbx) (Nat.le_refl _)) (up HB_8.out hbx).size q12 (HS1.out.keep (up HB_8.out hbx) (Nat.le_refl _)) (up HB_8.out hbx).size q13
  have HC2 : Hid (∀ wx : World, Below w2.heap.size w2 wx → Calls Try.prog 24 #[.slice A2 n2 c2] wx (Fresh (ivs m2) 1 n2 wx)) := fun wx hbx => toIntS_any 0 w.heap.size n2 c2 A2 m2 wx (HA2.out.keep (up HB_8.out hbx) (Nat.le_refl _)) (up HB_8.out hbx).size hm2
  have HSW : Hid (∀ wx : World, Below w2.heap.size w2 wx → wx.cell? ⟨w.heap.size, 0, none⟩ = some (.slice An0 nn0 cn0) ∧ wx.cell? ⟨w.heap.size, 1, none⟩ = some (.slice A0 n0 c0) ∧ wx.cell? ⟨w.heap.size + 1, 0, none⟩ = some (.slice An1 nn1 cn1) ∧ wx.cell? ⟨w.heap.size + 1, 1, none⟩ = some (.slice A1 n1 c1)) := fun wx hbx => ⟨(HX0_9.out.below hbx (by omega)).cell 0, (HX0_9.out.below hbx (by omega)).cell 1, (HX1_10.out.below hbx (by omega)).cell 0, (HX1_10.out.below hbx (by omega)).cell 1⟩
  go_wp2
  go_region_held3 (fun w' => w'.cell? ⟨w.heap.size, 0, none⟩ = some (.slice An0 nn0 cn0) ∧ w'.cell? ⟨w.heap.size, 1, none⟩ = some (.slice A0 n0 c0) ∧ w'.cell? ⟨w.heap.size + 1, 0, none⟩ = some (.slice An1 nn1 cn1) ∧ w'.cell? ⟨w.heap.size + 1, 1, none⟩ = some (.slice A1 n1 c1))
    (first
      | exact HSW.out _ (Below.refl _ _)
      | exact HSW.out _ (up_drew (Below.refl _ _))
      | exact HSW.out _ hBa0
      | exact HSW.out _ hBa1
      | exact HSW.out _ hBa2
      | exact HSW.out _ hBl)
    ((first
      | (go_at_call 23; (with_reducible refine (HC0.out _ (up_drew (Below.refl _ w2))).mono ?_); rintro e w3 ⟨Ana0, cna0, Bfa0, dfa0, mida0, rfl, hNa0, hMa0, hlta0, hmta0, hFa0, hbta0⟩; have hBa0 := up (up_drew (Below.refl _ w2)) hbta0; have hz3 : w2.heap.size ≤ w3.heap.size := hbta0.size; have hlua0 : w2.heap.size ≤ mida0 := hlta0)
      | (go_at_call 23; (with_reducible refine (HC1.out _ hBa0).mono ?_); rintro e w4 ⟨Ana1, cna1, Bfa1, dfa1, mida1, rfl, hNa1, hMa1, hlta1, hmta1, hFa1, hbta1⟩; have hBa1 := up hBa0 hbta1; have hz4 : w3.heap.size ≤ w4.heap.size := hbta1.size; have hlua1 : w3.heap.size ≤ mida1 := hlta1; have Na0_a1 := hNa0.keep hbta1 (by omega); have Fa0_a1 := hFa0.keep hbta1 (by omega) (by omega))
      | (go_at_call 24; (with_reducible refine (HC2.out _ hBa1).mono ?_); rintro e w5 ⟨Asa2, csa2, rfl, _, hVa2, hWa2, hbta2⟩; have hBa2 := up hBa1 hbta2; have hz5 : w4.heap.size ≤ w5.heap.size := hbta2.size; have Na0_a2 := Na0_a1.keep hbta2 (by omega); have Fa0_a2 := Fa0_a1.keep hbta2 (by omega) (by omega); have Na1_a2 := hNa1.keep hbta2 (by omega); have Fa1_a2 := hFa1.keep hbta2 (by omega) (by omega))
      | (go_at_call 19; (with_reducible refine (IsFaithfulS_any w2.drew.heap.size mida0 ns0.length cna0 Ana0 ns0 mida0 w3.heap.size fs0.length dfa0 Bfa0 fs0 w3.heap.size mida1 ns1.length cna1 Ana1 ns1 mida1 w4.heap.size fs1.length dfa1 Bfa1 fs1 w4.heap.size w5.heap.size n2 csa2 Asa2 m2 _ Na0_a2 (by omega) hnn1_0 (Fa0_a2.fls (by omega) (by omega)) (by omega) hfl1_0 Na1_a2 (by omega) hnn1_1 (Fa1_a2.fls (by omega) (by omega)) (by omega) hfl1_1 hVa2 (by omega) hm2).mono ?_); rw [HU0.out]; rintro e w6 ⟨rfl, hbts1⟩; have hBl := up hBa2 hbts1; have hz6 : w5.heap.size ≤ w6.heap.size := hbts1.size)))
  all_goals
    clear HSW HC0 HC1 HC2
    have HB_11 := Lib.hid (up HB_8.out hBl)
    have HX0_12 := Lib.hid (HX0_9.out.below hBl (by omega))
    have HX1_13 := Lib.hid (HX1_10.out.below hBl (by omega))
    clear HB_8 HX0_9 HX1_10
    clear hVa2
    have k_14 : w6.cell? ⟨w.heap.size, 0, none⟩ = some (.slice An0 nn0 cn0) := HX0_12.out.cell 0
    have k_15 : w6.cell? ⟨w.heap.size, 1, none⟩ = some (.slice A0 n0 c0) := HX0_12.out.cell 1
    go_wp2_with (fail)
    (with_reducible refine (toProcess_any 0 w.heap.size nn0 cn0 An0 ns0 0 w.heap.size n0 c0 A0 fs0 _ (HRN0.out.keep HB_11.out (Nat.le_refl _)) HB_11.out.size q02 (HS0.out.keep HB_11.out (Nat.le_refl _)) HB_11.out.size q03).mono ?_)
    rintro e w7 ⟨Anb0, cnb0, Bfb0, dfb0, midb0, rfl, hNb0, hMb0, hltb0, hmtb0, hFb0, hbtb0⟩
    have hz7 := hbtb0.size
    clear k_14 k_15
    have HB_16 := Lib.hid (up HB_11.out hbtb0)
    have HX0_17 := Lib.hid (HX0_12.out.below hbtb0 (by omega))
    have HX1_18 := Lib.hid (HX1_13.out.below hbtb0 (by omega))
    clear HB_11 HX0_12 HX1_13
    have HNb0 := Lib.hid hNb0
    have HMb0 := Lib.hid hMb0
    have HFb0 := Lib.hid hFb0
    clear hNb0 hMb0 hFb0 hbtb0
    have hba := up_alloc (Below.refl _ w7) (.cells #[.slice Anb0 ns0.length cnb0, .slice Bfb0 fs0.length dfb0] 26)
    have hp := Blk.new w7 26 #[.slice Anb0 ns0.length cnb0, .slice Bfb0 fs0.length dfb0]
    have hzz : w7.heap.size + 1 = (w7.alloc (.cells #[.slice Anb0 ns0.length cnb0, .slice Bfb0 fs0.length dfb0] 26)).heap.size := by simp
    generalize hWw8 : (w7.alloc (.cells #[.slice Anb0 ns0.length cnb0, .slice Bfb0 fs0.length dfb0] 26)) = w8 at hba hp hzz
    have hz8 : w7.heap.size + 1 ≤ w8.heap.size := by omega
    clear hzz
    have HB_19 := Lib.hid (up HB_16.out hba)
    have HX0_20 := Lib.hid (HX0_17.out.below hba (by omega))
    have HX1_21 := Lib.hid (HX1_18.out.below hba (by omega))
    have HNb0_22 := Lib.hid (HNb0.out.keep hba (by omega))
    have HMb0_23 := Lib.hid (HMb0.out.kept HNb0.out hba (by omega))
    have HFb0_24 := Lib.hid (HFb0.out.keep hba (by omega) (by omega))
    clear HB_16 HX0_17 HX1_18 HNb0 HMb0 HFb0
    have HY0 := Lib.hid hp
    clear hba hp
    have HWE0 := Lib.hid hWw8
    clear hWw8
    have k_25 : (w7.alloc (.cells #[.slice Anb0 ns0.length cnb0, .slice Bfb0 fs0.length dfb0] 26)).cell? ⟨w.heap.size + 1, 0, none⟩ = some (.slice An1 nn1 cn1) := by rw [HWE0.out]; exact HX1_21.out.cell 0
    have k_26 : (w7.alloc (.cells #[.slice Anb0 ns0.length cnb0, .slice Bfb0 fs0.length dfb0] 26)).cell? ⟨w.heap.size + 1, 1, none⟩ = some (.slice A1 n1 c1) := by rw [HWE0.out]; exact HX1_21.out.cell 1
    go_wp2_with (fail)
    rw [HWE0.out]
    (with_reducible refine (toProcess_any 0 w.heap.size nn1 cn1 An1 ns1 0 w.heap.size n1 c1 A1 fs1 _ (HRN1.out.keep HB_19.out (Nat.le_refl _)) HB_19.out.size q12 (HS1.out.keep HB_19.out (Nat.le_refl _)) HB_19.out.size q13).mono ?_)
    rintro e w9 ⟨Anb1, cnb1, Bfb1, dfb1, midb1, rfl, hNb1, hMb1, hltb1, hmtb1, hFb1, hbtb1⟩
    clear HWE0
    have hz9 := hbtb1.size
    clear k_25 k_26
    have HB_27 := Lib.hid (up HB_19.out hbtb1)
    have HX0_28 := Lib.hid (HX0_20.out.below hbtb1 (by omega))
    have HX1_29 := Lib.hid (HX1_21.out.below hbtb1 (by omega))
    have HNb0_30 := Lib.hid (HNb0_22.out.keep hbtb1 (by omega))
    have HMb0_31 := Lib.hid (HMb0_23.out.kept HNb0_22.out hbtb1 (by omega))
    have HFb0_32 := Lib.hid (HFb0_24.out.keep hbtb1 (by omega) (by omega))
    have HY0_33 := Lib.hid (HY0.out.below hbtb1 (by omega))
    clear HB_19 HX0_20 HX1_21 HNb0_22 HMb0_23 HFb0_24 HY0
    have HNb1 := Lib.hid hNb1
    have HMb1 := Lib.hid hMb1
    have HFb1 := Lib.hid hFb1
    clear hNb1 hMb1 hFb1 hbtb1
    have hba := up_alloc (Below.refl _ w9) (.cells #[.slice Anb1 ns1.length cnb1, .slice Bfb1 fs1.length dfb1] 26)
    have hp := Blk.new w9 26 #[.slice Anb1 ns1.length cnb1, .slice Bfb1 fs1.length dfb1]
    have hzz : w9.heap.size + 1 = (w9.alloc (.cells #[.slice Anb1 ns1.length cnb1, .slice Bfb1 fs1.length dfb1] 26)).heap.size := by simp
    generalize hWw10 : (w9.alloc (.cells #[.slice Anb1 ns1.length cnb1, .slice Bfb1 fs1.length dfb1] 26)) = w10 at hba hp hzz
    have hz10 : w9.heap.size + 1 ≤ w10.heap.size := by omega
    clear hzz
    have HB_34 := Lib.hid (up HB_27.out hba)
    have HX0_35 := Lib.hid (HX0_28.out.below hba (by omega))
    have HX1_36 := Lib.hid (HX1_29.out.below hba (by omega))
    have HNb0_37 := Lib.hid (HNb0_30.out.keep hba (by omega))
    have HMb0_38 := Lib.hid (HMb0_31.out.kept HNb0_30.out hba (by omega))
    have HFb0_39 := Lib.hid (HFb0_32.out.keep hba (by omega) (by omega))
    have HY0_40 := Lib.hid (HY0_33.out.below hba (by omega))
    have HNb1_41 := Lib.hid (HNb1.out.keep hba (by omega))
    have HMb1_42 := Lib.hid (HMb1.out.kept HNb1.out hba (by omega))
    have HFb1_43 := Lib.hid (HFb1.out.keep hba (by omega) (by omega))
    clear HB_27 HX0_28 HX1_29 HNb0_30 HMb0_31 HFb0_32 HY0_33 HNb1 HMb1 HFb1
    have HY1 := Lib.hid hp
    clear hba hp
    have HWE1 := Lib.hid hWw10
    clear hWw10
    go_wp2_with (fail)
    rw [HWE1.out]
    (with_reducible refine (toIntS_any 0 w.heap.size n2 c2 A2 m2 _ (HA2.out.keep HB_34.out (Nat.le_refl _)) HB_34.out.size hm2).mono ?_)
    rintro e w11 ⟨Asb2, csb2, rfl, _, hVb2, hWb2, hbtb2⟩
    clear HWE1
    have hz11 := hbtb2.size
    have HB_44 := Lib.hid (up HB_34.out hbtb2)
    have HX0_45 := Lib.hid (HX0_35.out.below hbtb2 (by omega))
    have HX1_46 := Lib.hid (HX1_36.out.below hbtb2 (by omega))
    have HNb0_47 := Lib.hid (HNb0_37.out.keep hbtb2 (by omega))
    have HMb0_48 := Lib.hid (HMb0_38.out.kept HNb0_37.out hbtb2 (by omega))
    have HFb0_49 := Lib.hid (HFb0_39.out.keep hbtb2 (by omega) (by omega))
    have HY0_50 := Lib.hid (HY0_40.out.below hbtb2 (by omega))
    have HNb1_51 := Lib.hid (HNb1_41.out.keep hbtb2 (by omega))
    have HMb1_52 := Lib.hid (HMb1_42.out.kept HNb1_41.out hbtb2 (by omega))
    have HFb1_53 := Lib.hid (HFb1_43.out.keep hbtb2 (by omega) (by omega))
    have HY1_54 := Lib.hid (HY1.out.below hbtb2 (by omega))
    clear HB_34 HX0_35 HX1_36 HNb0_37 HMb0_38 HFb0_39 HY0_40 HNb1_41 HMb1_42 HFb1_43 HY1
    have HVb2 := Lib.hid hVb2
    have HWb2 := Lib.hid hWb2
    clear hVb2 hWb2 hbtb2
    have k_55 : w11.cell? ⟨w7.heap.size, 0, none⟩ = some (.slice Anb0 ns0.length cnb0) := HY0_50.out.cell 0
    have k_56 : w11.cell? ⟨w7.heap.size, 1, none⟩ = some (.slice Bfb0 fs0.length dfb0) := HY0_50.out.cell 1
    have k_57 : w11.cell? ⟨w9.heap.size, 0, none⟩ = some (.slice Anb1 ns1.length cnb1) := HY1_54.out.cell 0
    have k_58 : w11.cell? ⟨w9.heap.size, 1, none⟩ = some (.slice Bfb1 fs1.length dfb1) := HY1_54.out.cell 1
    go_wp2_with (fail)
    (with_reducible refine (IsFaithfulI_any w6.heap.size midb0 ns0.length cnb0 Anb0 ns0 midb0 w7.heap.size fs0.length dfb0 Bfb0 fs0 w8.heap.size midb1 ns1.length cnb1 Anb1 ns1 midb1 w9.heap.size fs1.length dfb1 Bfb1 fs1 w10.heap.size w11.heap.size n2 csb2 Asb2 m2 _ HNb0_47.out (by omega) hnn1_0 (HFb0_49.out.fls (by omega) (by omega)) (by omega) hfl1_0 HNb1_51.out (by omega) hnn1_1 (HFb1_53.out.fls (by omega) (by omega)) (by omega) hfl1_1 HVb2.out (by omega) hm2).mono ?_)
    rw [HU0.out]
    rintro e w12 ⟨rfl, hbti2⟩
    have hz12 := hbti2.size
    clear k_55 k_56 k_57 k_58
    have HB_59 := Lib.hid (up HB_44.out hbti2)
    have HX0_60 := Lib.hid (HX0_45.out.below hbti2 (by omega))
    have HX1_61 := Lib.hid (HX1_46.out.below hbti2 (by omega))
    have HNb0_62 := Lib.hid (HNb0_47.out.keep hbti2 (by omega))
    have HMb0_63 := Lib.hid (HMb0_48.out.kept HNb0_47.out hbti2 (by omega))
    have HFb0_64 := Lib.hid (HFb0_49.out.keep hbti2 (by omega) (by omega))
    have HY0_65 := Lib.hid (HY0_50.out.below hbti2 (by omega))
    have HNb1_66 := Lib.hid (HNb1_51.out.keep hbti2 (by omega))
    have HMb1_67 := Lib.hid (HMb1_52.out.kept HNb1_51.out hbti2 (by omega))
    have HFb1_68 := Lib.hid (HFb1_53.out.keep hbti2 (by omega) (by omega))
    have HY1_69 := Lib.hid (HY1_54.out.below hbti2 (by omega))
    have HVb2_70 := Lib.hid (HVb2.out.keep hbti2 (by omega))
    have HWb2_71 := Lib.hid (HWb2.out.kept HVb2.out hbti2 (by omega))
    clear HB_44 HX0_45 HX1_46 HNb0_47 HMb0_48 HFb0_49 HY0_50 HNb1_51 HMb1_52 HFb1_53 HY1_54 HVb2 HWb2
    clear hbti2
    have HC : Hid (∀ wx : World, Below w12.heap.size w12 wx → Calls Try.prog 23 #[.agg #[.slice An0 nn0 cn0, .slice A0 n0 c0]] wx (ToProc ns0 fs0 wx)) := fun wx hbx => toProcess_any 0 w.heap.size nn0 cn0 An0 ns0 0 w.heap.size n0 c0 A0 fs0 wx (HRN0.out.keep (up HB_59.out hbx) (Nat.le_refl _)) (up HB_59.out hbx).size q02 (HS0.out.keep (up HB_59.out hbx) (Nat.le_refl _)) (up HB_59.out hbx).size q03
    have HSW : Hid (∀ wx : World, Below w12.heap.size w12 wx → wx.cell? ⟨w.heap.size, 0, none⟩ = some (.slice An0 nn0 cn0) ∧ wx.cell? ⟨w.heap.size, 1, none⟩ = some (.slice A0 n0 c0) ∧ wx.cell? ⟨w7.heap.size, 0, none⟩ = some (.slice Anb0 ns0.length cnb0) ∧ wx.cell? ⟨w7.heap.size, 1, none⟩ = some (.slice Bfb0 fs0.length dfb0)) := fun wx hbx => ⟨(HX0_60.out.below hbx (by omega)).cell 0, (HX0_60.out.below hbx (by omega)).cell 1, (HY0_65.out.below hbx (by omega)).cell 0, (HY0_65.out.below hbx (by omega)).cell 1⟩
    go_wp2
    go_region_held3 (fun w' => w'.cell? ⟨w.heap.size, 0, none⟩ = some (.slice An0 nn0 cn0) ∧ w'.cell? ⟨w.heap.size, 1, none⟩ = some (.slice A0 n0 c0) ∧ w'.cell? ⟨w7.heap.size, 0, none⟩ = some (.slice Anb0 ns0.length cnb0) ∧ w'.cell? ⟨w7.heap.size, 1, none⟩ = some (.slice Bfb0 fs0.length dfb0))
      (first | exact HSW.out _ (Below.refl _ _) | exact HSW.out _ (up_drew (Below.refl _ _)) | exact HSW.out _ hB7 | exact HSW.out _ hB8)
      ((first
        | (go_at_call 23; (with_reducible refine (HC.out _ (up_drew (Below.refl _ w12))).mono ?_); rintro e w13 ⟨Anq0, cnq0, Bfq0, dfq0, midq0, rfl, hNq0, hMq0, hltq0, hmtq0, hFq0, hbtq0⟩; have hB7 := up (up_drew (Below.refl _ w12)) hbtq0; have hs7 : w12.heap.size ≤ w13.heap.size := hbtq0.size; have hlu7 : w12.heap.size ≤ midq0 := hltq0)
        | (go_at_call 26; (with_reducible refine (eqProcess_same w6.heap.size midb0 ns0.length cnb0 _ midq0 ns0.length cnq0 Anb0 Anq0 ns0 midb0 w7.heap.size fs0.length dfb0 midq0 w13.heap.size fs0.length dfq0 Bfb0 Bfq0 fs0 w13 (HNb0_62.out.keep hB7 (by omega)) (by omega) hnn1_0 ((HFb0_64.out.fls (by omega) (by omega)).keep hB7 (by omega)) (by omega) hfl1_0 hNq0 (by omega) (hFq0.fls (by omega) hmtq0) (Nat.le_refl _)).mono ?_); rintro e w14 ⟨rfl, hbt8⟩; have hB8 := up hB7 hbt8)))
    all_goals
      have hz14 : w12.heap.size ≤ w14.heap.size := hB8.size
      clear HC HSW hNq0 hMq0 hFq0 hbt8 hbtq0
      have HB_72 := Lib.hid (up HB_59.out hB8)
      have HX0_73 := Lib.hid (HX0_60.out.below hB8 (by omega))
      have HX1_74 := Lib.hid (HX1_61.out.below hB8 (by omega))
      have HNb0_75 := Lib.hid (HNb0_62.out.keep hB8 (by omega))
      have HMb0_76 := Lib.hid (HMb0_63.out.kept HNb0_62.out hB8 (by omega))
      have HFb0_77 := Lib.hid (HFb0_64.out.keep hB8 (by omega) (by omega))
      have HY0_78 := Lib.hid (HY0_65.out.below hB8 (by omega))
      have HNb1_79 := Lib.hid (HNb1_66.out.keep hB8 (by omega))
      have HMb1_80 := Lib.hid (HMb1_67.out.kept HNb1_66.out hB8 (by omega))
      have HFb1_81 := Lib.hid (HFb1_68.out.keep hB8 (by omega) (by omega))
      have HY1_82 := Lib.hid (HY1_69.out.below hB8 (by omega))
      have HVb2_83 := Lib.hid (HVb2_70.out.keep hB8 (by omega))
      have HWb2_84 := Lib.hid (HWb2_71.out.kept HVb2_70.out hB8 (by omega))
      clear HB_59 HX0_60 HX1_61 HNb0_62 HMb0_63 HFb0_64 HY0_65 HNb1_66 HMb1_67 HFb1_68 HY1_69 HVb2_70 HWb2_71
      clear hB8 hB7
      have HC : Hid (∀ wx : World, Below w14.heap.size w14 wx → Calls Try.prog 23 #[.agg #[.slice An1 nn1 cn1, .slice A1 n1 c1]] wx (ToProc ns1 fs1 wx)) := fun wx hbx => toProcess_any 0 w.heap.size nn1 cn1 An1 ns1 0 w.heap.size n1 c1 A1 fs1 wx (HRN1.out.keep (up HB_72.out hbx) (Nat.le_refl _)) (up HB_72.out hbx).size q12 (HS1.out.keep (up HB_72.out hbx) (Nat.le_refl _)) (up HB_72.out hbx).size q13
      have HSW : Hid (∀ wx : World, Below w14.heap.size w14 wx → wx.cell? ⟨w.heap.size + 1, 0, none⟩ = some (.slice An1 nn1 cn1) ∧ wx.cell? ⟨w.heap.size + 1, 1, none⟩ = some (.slice A1 n1 c1) ∧ wx.cell? ⟨w9.heap.size, 0, none⟩ = some (.slice Anb1 ns1.length cnb1) ∧ wx.cell? ⟨w9.heap.size, 1, none⟩ = some (.slice Bfb1 fs1.length dfb1)) := fun wx hbx => ⟨(HX1_74.out.below hbx (by omega)).cell 0, (HX1_74.out.below hbx (by omega)).cell 1, (HY1_82.out.below hbx (by omega)).cell 0, (HY1_82.out.below hbx (by omega)).cell 1⟩
      go_wp2
      go_region_held3 (fun w' => w'.cell? ⟨w.heap.size + 1, 0, none⟩ = some (.slice An1 nn1 cn1) ∧ w'.cell? ⟨w.heap.size + 1, 1, none⟩ = some (.slice A1 n1 c1) ∧ w'.cell? ⟨w9.heap.size, 0, none⟩ = some (.slice Anb1 ns1.length cnb1) ∧ w'.cell? ⟨w9.heap.size, 1, none⟩ = some (.slice Bfb1 fs1.length dfb1))
        (first | exact HSW.out _ (Below.refl _ _) | exact HSW.out _ (up_drew (Below.refl _ _)) | exact HSW.out _ hB7 | exact HSW.out _ hB8)
        ((first
          | (go_at_call 23; (with_reducible refine (HC.out _ (up_drew (Below.refl _ w14))).mono ?_); rintro e w15 ⟨Anq1, cnq1, Bfq1, dfq1, midq1, rfl, hNq1, hMq1, hltq1, hmtq1, hFq1, hbtq1⟩; have hB7 := up (up_drew (Below.refl _ w14)) hbtq1; have hs7 : w14.heap.size ≤ w15.heap.size := hbtq1.size; have hlu7 : w14.heap.size ≤ midq1 := hltq1)
          | (go_at_call 26; (with_reducible refine (eqProcess_same w8.heap.size midb1 ns1.length cnb1 _ midq1 ns1.length cnq1 Anb1 Anq1 ns1 midb1 w9.heap.size fs1.length dfb1 midq1 w15.heap.size fs1.length dfq1 Bfb1 Bfq1 fs1 w15 (HNb1_79.out.keep hB7 (by omega)) (by omega) hnn1_1 ((HFb1_81.out.fls (by omega) (by omega)).keep hB7 (by omega)) (by omega) hfl1_1 hNq1 (by omega) (hFq1.fls (by omega) hmtq1) (Nat.le_refl _)).mono ?_); rintro e w16 ⟨rfl, hbt8⟩; have hB8 := up hB7 hbt8)))
      all_goals
        have hz16 : w14.heap.size ≤ w16.heap.size := hB8.size
        clear HC HSW hNq1 hMq1 hFq1 hbt8 hbtq1
        have HB_85 := Lib.hid (up HB_72.out hB8)
        have HX0_86 := Lib.hid (HX0_73.out.below hB8 (by omega))
        have HX1_87 := Lib.hid (HX1_74.out.below hB8 (by omega))
        have HNb0_88 := Lib.hid (HNb0_75.out.keep hB8 (by omega))
        have HMb0_89 := Lib.hid (HMb0_76.out.kept HNb0_75.out hB8 (by omega))
        have HFb0_90 := Lib.hid (HFb0_77.out.keep hB8 (by omega) (by omega))
        have HY0_91 := Lib.hid (HY0_78.out.below hB8 (by omega))
        have HNb1_92 := Lib.hid (HNb1_79.out.keep hB8 (by omega))
        have HMb1_93 := Lib.hid (HMb1_80.out.kept HNb1_79.out hB8 (by omega))
        have HFb1_94 := Lib.hid (HFb1_81.out.keep hB8 (by omega) (by omega))
        have HY1_95 := Lib.hid (HY1_82.out.below hB8 (by omega))
        have HVb2_96 := Lib.hid (HVb2_83.out.keep hB8 (by omega))
        have HWb2_97 := Lib.hid (HWb2_84.out.kept HVb2_83.out hB8 (by omega))
        clear HB_72 HX0_73 HX1_74 HNb0_75 HMb0_76 HFb0_77 HY0_78 HNb1_79 HMb1_80 HFb1_81 HY1_82 HVb2_83 HWb2_84
        clear hB8 hB7
        go_wp2_with (fail)
        (with_reducible refine (toIntS_any 0 w.heap.size n2 c2 A2 m2 _ (HA2.out.keep HB_85.out (Nat.le_refl _)) HB_85.out.size hm2).mono ?_)
        rintro e w17 ⟨Asc2, csc2, rfl, _, hVc2, hWc2, hbtc2⟩
        have hz17 := hbtc2.size
        have HB_98 := Lib.hid (up HB_85.out hbtc2)
        have HX0_99 := Lib.hid (HX0_86.out.below hbtc2 (by omega))
        have HX1_100 := Lib.hid (HX1_87.out.below hbtc2 (by omega))
        have HNb0_101 := Lib.hid (HNb0_88.out.keep hbtc2 (by omega))
        have HMb0_102 := Lib.hid (HMb0_89.out.kept HNb0_88.out hbtc2 (by omega))
        have HFb0_103 := Lib.hid (HFb0_90.out.keep hbtc2 (by omega) (by omega))
        have HY0_104 := Lib.hid (HY0_91.out.below hbtc2 (by omega))
        have HNb1_105 := Lib.hid (HNb1_92.out.keep hbtc2 (by omega))
        have HMb1_106 := Lib.hid (HMb1_93.out.kept HNb1_92.out hbtc2 (by omega))
        have HFb1_107 := Lib.hid (HFb1_94.out.keep hbtc2 (by omega) (by omega))
        have HY1_108 := Lib.hid (HY1_95.out.below hbtc2 (by omega))
        have HVb2_109 := Lib.hid (HVb2_96.out.keep hbtc2 (by omega))
        have HWb2_110 := Lib.hid (HWb2_97.out.kept HVb2_96.out hbtc2 (by omega))
        clear HB_85 HX0_86 HX1_87 HNb0_88 HMb0_89 HFb0_90 HY0_91 HNb1_92 HMb1_93 HFb1_94 HY1_95 HVb2_96 HWb2_97
        have HVc2 := Lib.hid hVc2
        have HWc2 := Lib.hid hWc2
        clear hVc2 hWc2 hbtc2
        go_wp2_with (fail)
        (with_reducible refine (eqIntS_any _ _ n2 csb2 _ _ n2 csc2 Asb2 Asc2 m2 m2 _ HVb2_109.out (by omega) hm2 HVc2.out (by omega) hm2).mono ?_)
        rintro e w18 ⟨rfl, hbt⟩
        rw [beq_self_eq_true]
        have hz18 := hbt.size
        have HB_111 := Lib.hid (up HB_98.out hbt)
        have HX0_112 := Lib.hid (HX0_99.out.below hbt (by omega))
        have HX1_113 := Lib.hid (HX1_100.out.below hbt (by omega))
        have HNb0_114 := Lib.hid (HNb0_101.out.keep hbt (by omega))
        have HMb0_115 := Lib.hid (HMb0_102.out.kept HNb0_101.out hbt (by omega))
        have HFb0_116 := Lib.hid (HFb0_103.out.keep hbt (by omega) (by omega))
        have HY0_117 := Lib.hid (HY0_104.out.below hbt (by omega))
        have HNb1_118 := Lib.hid (HNb1_105.out.keep hbt (by omega))
        have HMb1_119 := Lib.hid (HMb1_106.out.kept HNb1_105.out hbt (by omega))
        have HFb1_120 := Lib.hid (HFb1_107.out.keep hbt (by omega) (by omega))
        have HY1_121 := Lib.hid (HY1_108.out.below hbt (by omega))
        have HVb2_122 := Lib.hid (HVb2_109.out.keep hbt (by omega))
        have HWb2_123 := Lib.hid (HWb2_110.out.kept HVb2_109.out hbt (by omega))
        have HVc2_124 := Lib.hid (HVc2.out.keep hbt (by omega))
        have HWc2_125 := Lib.hid (HWc2.out.kept HVc2.out hbt (by omega))
        clear HB_98 HX0_99 HX1_100 HNb0_101 HMb0_102 HFb0_103 HY0_104 HNb1_105 HMb1_106 HFb1_107 HY1_108 HVb2_109 HWb2_110 HVc2 HWc2
        clear hbt
        clear HWc2_125
        clear HVc2_124
        go_wp2
        go_ret
        exact ⟨rfl, HB_111.out⟩
end Go.Proofs.Ytmhbfdcikdhehaa
