/- The law FnExactMoveMarks, walked: it returns true. (Written by gen/exgen3.py.) -/
import Derived.Test.YtmhbfdcikdhehaaExProc
import Derived.Test.YtmhbfdcikdhehaaExInt
import Derived.Test.YtmhbfdcikdhehaaMoveK
import Derived.Deep.RegionHeld3
set_option linter.unusedSimpArgs false
set_option linter.unusedVariables false
namespace Go.Proofs.Ytmhbfdcikdhehaa
open Go.RowKit

set_option maxRecDepth 100000 in
set_option maxHeartbeats 12800000 in
theorem exMoveMarks_any (nn0 cn0 n0 c0 : Nat) (An0 A0 : Option Addr) (ns0 : List (Int × Int)) (fs0 : List Flw) (w : World) (hnn0 : nn0 ≤ 9223372036854775807) (hn0 : n0 ≤ 9223372036854775807) (hrn0 : Rd w 0 w.heap.size 2 An0 nn0 (pvs ns0)) (hr0 : FlsU w 0 w.heap.size A0 n0 fs0) (nn1 cn1 n1 c1 : Nat) (An1 A1 : Option Addr) (ns1 : List (Int × Int)) (fs1 : List Flw) (hnn1 : nn1 ≤ 9223372036854775807) (hn1 : n1 ≤ 9223372036854775807) (hrn1 : Rd w 0 w.heap.size 2 An1 nn1 (pvs ns1)) (hr1 : FlsU w 0 w.heap.size A1 n1 fs1) (n2 c2 : Nat) (A2 : Option Addr) (m2 : List Int) (hn2 : n2 ≤ 9223372036854775807) (hr2 : Rd w 0 w.heap.size 1 A2 n2 (ivs m2)) (n3 c3 : Nat) (A3 : Option Addr) (m3 : List Int) (hn3 : n3 ≤ 9223372036854775807) (hr3 : Rd w 0 w.heap.size 1 A3 n3 (ivs m3)) :
    Calls Try.prog 7 #[.agg #[.slice An0 nn0 cn0, .slice A0 n0 c0], .agg #[.slice An1 nn1 cn1, .slice A1 n1 c1], .slice A2 n2 c2, .slice A3 n3 c3] w fun e w' => e = .returned (.bool true) ∧ Below w.heap.size w w' := by
  by_cases hg2 : (1048576 : Int) < n2
  · go_enter Try.func7, Try.ntmps7
    go_wp2
    go_ret
    exact ⟨rfl, up_alloc (up_alloc (Below.refl _ _) _) _⟩
  have hm2 : n2 ≤ 1048576 := by omega
  by_cases hg3 : (1048576 : Int) < n3
  · go_enter Try.func7, Try.ntmps7
    go_wp2
    go_ret
    exact ⟨rfl, up_alloc (up_alloc (Below.refl _ _) _) _⟩
  have hm3 : n3 ≤ 1048576 := by omega
  have hb0 := up_alloc (up_alloc (Below.refl _ w) (.cells #[.slice An0 nn0 cn0, .slice A0 n0 c0] 51)) (.cells #[.slice An1 nn1 cn1, .slice A1 n1 c1] 51)
  have hx0 : Blk ((w.alloc (.cells #[.slice An0 nn0 cn0, .slice A0 n0 c0] 51)).alloc (.cells #[.slice An1 nn1 cn1, .slice A1 n1 c1] 51)) (w.heap.size) 51 #[.slice An0 nn0 cn0, .slice A0 n0 c0] := by simpa using ((Blk.new w 51 #[.slice An0 nn0 cn0, .slice A0 n0 c0]).alloc (.cells #[.slice An1 nn1 cn1, .slice A1 n1 c1] 51))
  have HX0 := Lib.hid hx0
  clear hx0
  have hx1 : Blk ((w.alloc (.cells #[.slice An0 nn0 cn0, .slice A0 n0 c0] 51)).alloc (.cells #[.slice An1 nn1 cn1, .slice A1 n1 c1] 51)) (w.heap.size + 1) 51 #[.slice An1 nn1 cn1, .slice A1 n1 c1] := by simpa using (Blk.new (w.alloc (.cells #[.slice An0 nn0 cn0, .slice A0 n0 c0] 51)) 51 #[.slice An1 nn1 cn1, .slice A1 n1 c1])
  have HX1 := Lib.hid hx1
  clear hx1
  have hzw : ((w.alloc (.cells #[.slice An0 nn0 cn0, .slice A0 n0 c0] 51)).alloc (.cells #[.slice An1 nn1 cn1, .slice A1 n1 c1] 51)).heap.size = w.heap.size + 1 + 1 := by simp
  have hz0 : w.heap.size + 1 + 1 ≤ ((w.alloc (.cells #[.slice An0 nn0 cn0, .slice A0 n0 c0] 51)).alloc (.cells #[.slice An1 nn1 cn1, .slice A1 n1 c1] 51)).heap.size := by omega
  clear hzw
  have HLN0 := Lib.hid hrn0.len2
  have HLF0 := Lib.hid hr0.1
  have HRN0 := Lib.hid hrn0
  have HR0 := Lib.hid hr0
  clear hrn0 hr0
  have HLN1 := Lib.hid hrn1.len2
  have HLF1 := Lib.hid hr1.1
  have HRN1 := Lib.hid hrn1
  have HR1 := Lib.hid hr1
  clear hrn1 hr1
  have HL2 := Lib.hid hr2.len1
  have HA2 := Lib.hid hr2
  clear hr2
  have HL3 := Lib.hid hr3.len1
  have HA3 := Lib.hid hr3
  clear hr3
  have HB0 := Lib.hid hb0
  clear hb0
  go_enter Try.func7, Try.ntmps7
  have k_1 : ((w.alloc (.cells #[.slice An0 nn0 cn0, .slice A0 n0 c0] 51)).alloc (.cells #[.slice An1 nn1 cn1, .slice A1 n1 c1] 51)).cell? ⟨w.heap.size, 0, none⟩ = some (.slice An0 nn0 cn0) := HX0.out.cell 0
  have k_2 : ((w.alloc (.cells #[.slice An0 nn0 cn0, .slice A0 n0 c0] 51)).alloc (.cells #[.slice An1 nn1 cn1, .slice A1 n1 c1] 51)).cell? ⟨w.heap.size, 1, none⟩ = some (.slice A0 n0 c0) := HX0.out.cell 1
  go_wp2_with (fail)
  (with_reducible refine (szProcess_any 0 w.heap.size nn0 cn0 An0 ns0 0 w.heap.size n0 c0 A0 fs0 1048576 _ (HRN0.out.keep HB0.out (Nat.le_refl _)) HB0.out.size hnn0 (HR0.out.keep HB0.out (Nat.le_refl _)) HB0.out.size hn0 (by omega) (by omega)).mono ?_)
  rintro e w1 ⟨hbt, he⟩
  have hz1 : ((w.alloc (.cells #[.slice An0 nn0 cn0, .slice A0 n0 c0] 51)).alloc (.cells #[.slice An1 nn1 cn1, .slice A1 n1 c1] 51)).heap.size ≤ w1.heap.size := hbt.size
  clear k_1 k_2
  have HB_3 := Lib.hid (up HB0.out hbt)
  have HX0_4 := Lib.hid (HX0.out.below hbt (by omega))
  have HX1_5 := Lib.hid (HX1.out.below hbt (by omega))
  clear HB0 HX0 HX1
  clear hbt
  rcases he with rfl | ⟨r0, rfl, q00, q01, q02, q03, q04⟩
  · go_wp2
    go_ret
    exact ⟨rfl, HB_3.out⟩
  have hz1' : w.heap.size + 1 + 1 ≤ w1.heap.size := by omega
  clear hz0 hz1
  have HS0 := Lib.hid (HR0.out.small q04)
  clear q04 HR0
  have hnn1_0 : ns0.length ≤ 1048576 := by rw [HLN0.out]; exact q02
  have hfl1_0 : fs0.length ≤ 1048576 := by rw [HLF0.out]; exact q03
  have k_6 : w1.cell? ⟨w.heap.size + 1, 0, none⟩ = some (.slice An1 nn1 cn1) := HX1_5.out.cell 0
  have k_7 : w1.cell? ⟨w.heap.size + 1, 1, none⟩ = some (.slice A1 n1 c1) := HX1_5.out.cell 1
  go_wp2_with (fail)
  (with_reducible refine (szProcess_any 0 w.heap.size nn1 cn1 An1 ns1 0 w.heap.size n1 c1 A1 fs1 r0 _ (HRN1.out.keep HB_3.out (Nat.le_refl _)) HB_3.out.size hnn1 (HR1.out.keep HB_3.out (Nat.le_refl _)) HB_3.out.size hn1 (by omega) (by omega)).mono ?_)
  rintro e w2 ⟨hbt, he⟩
  have hz2 : w1.heap.size ≤ w2.heap.size := hbt.size
  clear k_6 k_7
  have HB_8 := Lib.hid (up HB_3.out hbt)
  have HX0_9 := Lib.hid (HX0_4.out.below hbt (by omega))
  have HX1_10 := Lib.hid (HX1_5.out.below hbt (by omega))
  clear HB_3 HX0_4 HX1_5
  clear hbt
  rcases he with rfl | ⟨r1, rfl, q10, q11, q12, q13, q14⟩
  · go_wp2
    go_ret
    exact ⟨rfl, HB_8.out⟩
  have HS1 := Lib.hid (HR1.out.small q14)
  clear q14 HR1
  have hnn1_1 : ns1.length ≤ 1048576 := by rw [HLN1.out]; exact q12
  have hfl1_1 : fs1.length ≤ 1048576 := by rw [HLF1.out]; exact q13
  have hul0 : ((moveOf ns0 fs0 ns1 fs1 m2 m3).getD []).length ≤ 1048576 := Nat.le_trans (move_len ns0 fs0 ns1 fs1 m2 m3) (by exact hfl1_1)
  generalize hU0 : (moveOf ns0 fs0 ns1 fs1 m2 m3).getD [] = u0 at hul0
  have HU0 := Lib.hid hU0
  clear hU0
  generalize hU1 : (moveOf ns0 fs0 ns1 fs1 m2 m3).isSome = u1
  have hne1 : (u1 != u1) = false := by simp
  have HU1 := Lib.hid hU1
  clear hU1
  have HC0 : Hid (∀ wx : World, Below w2.heap.size w2 wx → Calls Try.prog 23 #[.agg #[.slice An0 nn0 cn0, .slice A0 n0 c0]] wx (ToProc ns0 fs0 wx)) := fun wx hbx => toProcess_any 0 w.heap.size nn0 cn0 An0 ns0 0 w.heap.size n0 c0 A0 fs0 wx (HRN0.out.keep (up HB_8.out hbx) (Nat.le_refl _)) (up HB_8.out hbx).size q02 (HS0.out.keep (up HB_8.out hbx) (Nat.le_refl _)) (up HB_8.out hbx).size q03
  have HC1 : Hid (∀ wx : World, Below w2.heap.size w2 wx → Calls Try.prog 23 #[.agg #[.slice An1 nn1 cn1, .slice A1 n1 c1]] wx (ToProc ns1 fs1 wx)) := fun wx hbx => toProcess_any 0 w.heap.size nn1 cn1 An1 ns1 0 w.heap.size n1 c1 A1 fs1 wx (HRN1.out.keep (up HB_8.out hbx) (Nat.le_refl _)) (up HB_8.out hbx).size q12 (HS1.out.keep (up HB_8.out hbx) (Nat.le_refl _)) (up HB_8.out hbx).size q13
  have HC2 : Hid (∀ wx : World, Below w2.heap.size w2 wx → Calls Try.prog 24 #[.slice A2 n2 c2] wx (Fresh (ivs m2) 1 n2 wx)) := fun wx hbx => toIntS_any 0 w.heap.size n2 c2 A2 m2 wx (HA2.out.keep (up HB_8.out hbx) (Nat.le_refl _)) (up HB_8.out hbx).size hm2
  have HC3 : Hid (∀ wx : World, Below w2.heap.size w2 wx → Calls Try.prog 24 #[.slice A3 n3 c3] wx (Fresh (ivs m3) 1 n3 wx)) := fun wx hbx => toIntS_any 0 w.heap.size n3 c3 A3 m3 wx (HA3.out.keep (up HB_8.out hbx) (Nat.le_refl _)) (up HB_8.out hbx).size hm3
  have HSW : Hid (∀ wx : World, Below w2.heap.size w2 wx → wx.cell? ⟨w.heap.size, 0, none⟩ = some (.slice An0 nn0 cn0) ∧ wx.cell? ⟨w.heap.size, 1, none⟩ = some (.slice A0 n0 c0) ∧ wx.cell? ⟨w.heap.size + 1, 0, none⟩ = some (.slice An1 nn1 cn1) ∧ wx.cell? ⟨w.heap.size + 1, 1, none⟩ = some (.slice A1 n1 c1)) := fun wx hbx => ⟨(HX0_9.out.below hbx (by omega)).cell 0, (HX0_9.out.below hbx (by omega)).cell 1, (HX1_10.out.below hbx (by omega)).cell 0, (HX1_10.out.below hbx (by omega)).cell 1⟩
  go_wp2
  go_region_held3 (fun w' => w'.cell? ⟨w.heap.size, 0, none⟩ = some (.slice An0 nn0 cn0) ∧ w'.cell? ⟨w.heap.size, 1, none⟩ = some (.slice A0 n0 c0) ∧ w'.cell? ⟨w.heap.size + 1, 0, none⟩ = some (.slice An1 nn1 cn1) ∧ w'.cell? ⟨w.heap.size + 1, 1, none⟩ = some (.slice A1 n1 c1))
    (first
      | exact HSW.out _ (Below.refl _ _)
      | exact HSW.out _ (up_drew (Below.refl _ _))
      | exact HSW.out _ hBa0
      | exact HSW.out _ hBa1
      | exact HSW.out _ hBa2
      | exact HSW.out _ hBa3
      | exact HSW.out _ hBl)
    ((first
      | (go_at_call 23; (with_reducible refine (HC0.out _ (up_drew (Below.refl _ w2))).mono ?_); rintro e w3 ⟨Ana0, cna0, Bfa0, dfa0, mida0, rfl, hNa0, hMa0, hlta0, hmta0, hFa0, hbta0⟩; have hBa0 := up (up_drew (Below.refl _ w2)) hbta0; have hz3 : w2.heap.size ≤ w3.heap.size := hbta0.size; have hlua0 : w2.heap.size ≤ mida0 := hlta0)
      | (go_at_call 23; (with_reducible refine (HC1.out _ hBa0).mono ?_); rintro e w4 ⟨Ana1, cna1, Bfa1, dfa1, mida1, rfl, hNa1, hMa1, hlta1, hmta1, hFa1, hbta1⟩; have hBa1 := up hBa0 hbta1; have hz4 : w3.heap.size ≤ w4.heap.size := hbta1.size; have hlua1 : w3.heap.size ≤ mida1 := hlta1; have Na0_a1 := hNa0.keep hbta1 (by omega); have Fa0_a1 := hFa0.keep hbta1 (by omega) (by omega))
      | (go_at_call 24; (with_reducible refine (HC2.out _ hBa1).mono ?_); rintro e w5 ⟨Asa2, csa2, rfl, _, hVa2, hWa2, hbta2⟩; have hBa2 := up hBa1 hbta2; have hz5 : w4.heap.size ≤ w5.heap.size := hbta2.size; have Na0_a2 := Na0_a1.keep hbta2 (by omega); have Fa0_a2 := Fa0_a1.keep hbta2 (by omega) (by omega); have Na1_a2 := hNa1.keep hbta2 (by omega); have Fa1_a2 := hFa1.keep hbta2 (by omega) (by omega))
      | (go_at_call 24; (with_reducible refine (HC3.out _ hBa2).mono ?_); rintro e w6 ⟨Asa3, csa3, rfl, _, hVa3, hWa3, hbta3⟩; have hBa3 := up hBa2 hbta3; have hz6 : w5.heap.size ≤ w6.heap.size := hbta3.size; have Na0_a3 := Na0_a2.keep hbta3 (by omega); have Fa0_a3 := Fa0_a2.keep hbta3 (by omega) (by omega); have Na1_a3 := Na1_a2.keep hbta3 (by omega); have Fa1_a3 := Fa1_a2.keep hbta3 (by omega) (by omega); have Va2_a3 := hVa2.keep hbta3 (by omega))
      | (go_at_call 11; (with_reducible refine (MoveMarksS_any w2.drew.heap.size mida0 ns0.length cna0 Ana0 ns0 mida0 w3.heap.size fs0.length dfa0 Bfa0 fs0 w3.heap.size mida1 ns1.length cna1 Ana1 ns1 mida1 w4.heap.size fs1.length dfa1 Bfa1 fs1 w4.heap.size w5.heap.size n2 csa2 Asa2 m2 w5.heap.size w6.heap.size n3 csa3 Asa3 m3 _ Na0_a3 (by omega) hnn1_0 (Fa0_a3.fls (by omega) (by omega)) (by omega) hfl1_0 Na1_a3 (by omega) hnn1_1 (Fa1_a3.fls (by omega) (by omega)) (by omega) hfl1_1 Va2_a3 (by omega) hm2 hVa3 (by omega) hm3).mono ?_); rw [HU0.out, HU1.out]; rintro e w7 ⟨Ags1, cgs1, rfl, _, hGs1, hHs1, hbts1⟩; have hBl := up hBa3 hbts1; have hz7 : w6.heap.size ≤ w7.heap.size := hbts1.size)))
  all_goals
    clear HSW HC0 HC1 HC2 HC3
    have HB_11 := Lib.hid (up HB_8.out hBl)
    have HX0_12 := Lib.hid (HX0_9.out.below hBl (by omega))
    have HX1_13 := Lib.hid (HX1_10.out.below hBl (by omega))
    clear HB_8 HX0_9 HX1_10
    have HGs1 := Lib.hid hGs1
    have HHs1 := Lib.hid hHs1
    clear hGs1 hHs1
    clear hVa3
    clear HHs1
    have k_14 : w7.cell? ⟨w.heap.size, 0, none⟩ = some (.slice An0 nn0 cn0) := HX0_12.out.cell 0
    have k_15 : w7.cell? ⟨w.heap.size, 1, none⟩ = some (.slice A0 n0 c0) := HX0_12.out.cell 1
    go_wp2_with (fail)
    (with_reducible refine (toProcess_any 0 w.heap.size nn0 cn0 An0 ns0 0 w.heap.size n0 c0 A0 fs0 _ (HRN0.out.keep HB_11.out (Nat.le_refl _)) HB_11.out.size q02 (HS0.out.keep HB_11.out (Nat.le_refl _)) HB_11.out.size q03).mono ?_)
    rintro e w8 ⟨Anb0, cnb0, Bfb0, dfb0, midb0, rfl, hNb0, hMb0, hltb0, hmtb0, hFb0, hbtb0⟩
    have hz8 := hbtb0.size
    clear k_14 k_15
    have HB_16 := Lib.hid (up HB_11.out hbtb0)
    have HX0_17 := Lib.hid (HX0_12.out.below hbtb0 (by omega))
    have HX1_18 := Lib.hid (HX1_13.out.below hbtb0 (by omega))
    have HGs1_19 := Lib.hid (HGs1.out.keep hbtb0 (by omega))
    clear HB_11 HX0_12 HX1_13 HGs1
    have HNb0 := Lib.hid hNb0
    have HMb0 := Lib.hid hMb0
    have HFb0 := Lib.hid hFb0
    clear hNb0 hMb0 hFb0 hbtb0
    have hba := up_alloc (Below.refl _ w8) (.cells #[.slice Anb0 ns0.length cnb0, .slice Bfb0 fs0.length dfb0] 26)
    have hp := Blk.new w8 26 #[.slice Anb0 ns0.length cnb0, .slice Bfb0 fs0.length dfb0]
    have hzz : w8.heap.size + 1 = (w8.alloc (.cells #[.slice Anb0 ns0.length cnb0, .slice Bfb0 fs0.length dfb0] 26)).heap.size := by simp
    generalize hWw9 : (w8.alloc (.cells #[.slice Anb0 ns0.length cnb0, .slice Bfb0 fs0.length dfb0] 26)) = w9 at hba hp hzz
    have hz9 : w8.heap.size + 1 ≤ w9.heap.size := by omega
    clear hzz
    have HB_20 := Lib.hid (up HB_16.out hba)
    have HX0_21 := Lib.hid (HX0_17.out.below hba (by omega))
    have HX1_22 := Lib.hid (HX1_18.out.below hba (by omega))
    have HGs1_23 := Lib.hid (HGs1_19.out.keep hba (by omega))
    have HNb0_24 := Lib.hid (HNb0.out.keep hba (by omega))
    have HMb0_25 := Lib.hid (HMb0.out.kept HNb0.out hba (by omega))
    have HFb0_26 := Lib.hid (HFb0.out.keep hba (by omega) (by omega))
    clear HB_16 HX0_17 HX1_18 HGs1_19 HNb0 HMb0 HFb0
    have HY0 := Lib.hid hp
    clear hba hp
    have HWE0 := Lib.hid hWw9
    clear hWw9
    have k_27 : (w8.alloc (.cells #[.slice Anb0 ns0.length cnb0, .slice Bfb0 fs0.length dfb0] 26)).cell? ⟨w.heap.size + 1, 0, none⟩ = some (.slice An1 nn1 cn1) := by rw [HWE0.out]; exact HX1_22.out.cell 0
    have k_28 : (w8.alloc (.cells #[.slice Anb0 ns0.length cnb0, .slice Bfb0 fs0.length dfb0] 26)).cell? ⟨w.heap.size + 1, 1, none⟩ = some (.slice A1 n1 c1) := by rw [HWE0.out]; exact HX1_22.out.cell 1
    go_wp2_with (fail)
    rw [HWE0.out]
    (with_reducible refine (toProcess_any 0 w.heap.size nn1 cn1 An1 ns1 0 w.heap.size n1 c1 A1 fs1 _ (HRN1.out.keep HB_20.out (Nat.le_refl _)) HB_20.out.size q12 (HS1.out.keep HB_20.out (Nat.le_refl _)) HB_20.out.size q13).mono ?_)
    rintro e w10 ⟨Anb1, cnb1, Bfb1, dfb1, midb1, rfl, hNb1, hMb1, hltb1, hmtb1, hFb1, hbtb1⟩
    clear HWE0
    have hz10 := hbtb1.size
    clear k_27 k_28
    have HB_29 := Lib.hid (up HB_20.out hbtb1)
    have HX0_30 := Lib.hid (HX0_21.out.below hbtb1 (by omega))
    have HX1_31 := Lib.hid (HX1_22.out.below hbtb1 (by omega))
    have HGs1_32 := Lib.hid (HGs1_23.out.keep hbtb1 (by omega))
    have HNb0_33 := Lib.hid (HNb0_24.out.keep hbtb1 (by omega))
    have HMb0_34 := Lib.hid (HMb0_25.out.kept HNb0_24.out hbtb1 (by omega))
    have HFb0_35 := Lib.hid (HFb0_26.out.keep hbtb1 (by omega) (by omega))
    have HY0_36 := Lib.hid (HY0.out.below hbtb1 (by omega))
    clear HB_20 HX0_21 HX1_22 HGs1_23 HNb0_24 HMb0_25 HFb0_26 HY0
    have HNb1 := Lib.hid hNb1
    have HMb1 := Lib.hid hMb1
    have HFb1 := Lib.hid hFb1
    clear hNb1 hMb1 hFb1 hbtb1
    have hba := up_alloc (Below.refl _ w10) (.cells #[.slice Anb1 ns1.length cnb1, .slice Bfb1 fs1.length dfb1] 26)
    have hp := Blk.new w10 26 #[.slice Anb1 ns1.length cnb1, .slice Bfb1 fs1.length dfb1]
    have hzz : w10.heap.size + 1 = (w10.alloc (.cells #[.slice Anb1 ns1.length cnb1, .slice Bfb1 fs1.length dfb1] 26)).heap.size := by simp
    generalize hWw11 : (w10.alloc (.cells #[.slice Anb1 ns1.length cnb1, .slice Bfb1 fs1.length dfb1] 26)) = w11 at hba hp hzz
    have hz11 : w10.heap.size + 1 ≤ w11.heap.size := by omega
    clear hzz
    have HB_37 := Lib.hid (up HB_29.out hba)
    have HX0_38 := Lib.hid (HX0_30.out.below hba (by omega))
    have HX1_39 := Lib.hid (HX1_31.out.below hba (by omega))
    have HGs1_40 := Lib.hid (HGs1_32.out.keep hba (by omega))
    have HNb0_41 := Lib.hid (HNb0_33.out.keep hba (by omega))
    have HMb0_42 := Lib.hid (HMb0_34.out.kept HNb0_33.out hba (by omega))
    have HFb0_43 := Lib.hid (HFb0_35.out.keep hba (by omega) (by omega))
    have HY0_44 := Lib.hid (HY0_36.out.below hba (by omega))
    have HNb1_45 := Lib.hid (HNb1.out.keep hba (by omega))
    have HMb1_46 := Lib.hid (HMb1.out.kept HNb1.out hba (by omega))
    have HFb1_47 := Lib.hid (HFb1.out.keep hba (by omega) (by omega))
    clear HB_29 HX0_30 HX1_31 HGs1_32 HNb0_33 HMb0_34 HFb0_35 HY0_36 HNb1 HMb1 HFb1
    have HY1 := Lib.hid hp
    clear hba hp
    have HWE1 := Lib.hid hWw11
    clear hWw11
    go_wp2_with (fail)
    rw [HWE1.out]
    (with_reducible refine (toIntS_any 0 w.heap.size n2 c2 A2 m2 _ (HA2.out.keep HB_37.out (Nat.le_refl _)) HB_37.out.size hm2).mono ?_)
    rintro e w12 ⟨Asb2, csb2, rfl, _, hVb2, hWb2, hbtb2⟩
    clear HWE1
    have hz12 := hbtb2.size
    have HB_48 := Lib.hid (up HB_37.out hbtb2)
    have HX0_49 := Lib.hid (HX0_38.out.below hbtb2 (by omega))
    have HX1_50 := Lib.hid (HX1_39.out.below hbtb2 (by omega))
    have HGs1_51 := Lib.hid (HGs1_40.out.keep hbtb2 (by omega))
    have HNb0_52 := Lib.hid (HNb0_41.out.keep hbtb2 (by omega))
    have HMb0_53 := Lib.hid (HMb0_42.out.kept HNb0_41.out hbtb2 (by omega))
    have HFb0_54 := Lib.hid (HFb0_43.out.keep hbtb2 (by omega) (by omega))
    have HY0_55 := Lib.hid (HY0_44.out.below hbtb2 (by omega))
    have HNb1_56 := Lib.hid (HNb1_45.out.keep hbtb2 (by omega))
    have HMb1_57 := Lib.hid (HMb1_46.out.kept HNb1_45.out hbtb2 (by omega))
    have HFb1_58 := Lib.hid (HFb1_47.out.keep hbtb2 (by omega) (by omega))
    have HY1_59 := Lib.hid (HY1.out.below hbtb2 (by omega))
    clear HB_37 HX0_38 HX1_39 HGs1_40 HNb0_41 HMb0_42 HFb0_43 HY0_44 HNb1_45 HMb1_46 HFb1_47 HY1
    have HVb2 := Lib.hid hVb2
    have HWb2 := Lib.hid hWb2
    clear hVb2 hWb2 hbtb2
    go_wp2_with (fail)
    (with_reducible refine (toIntS_any 0 w.heap.size n3 c3 A3 m3 _ (HA3.out.keep HB_48.out (Nat.le_refl _)) HB_48.out.size hm3).mono ?_)
    rintro e w13 ⟨Asb3, csb3, rfl, _, hVb3, hWb3, hbtb3⟩
    have hz13 := hbtb3.size
    have HB_60 := Lib.hid (up HB_48.out hbtb3)
    have HX0_61 := Lib.hid (HX0_49.out.below hbtb3 (by omega))
    have HX1_62 := Lib.hid (HX1_50.out.below hbtb3 (by omega))
    have HGs1_63 := Lib.hid (HGs1_51.out.keep hbtb3 (by omega))
    have HNb0_64 := Lib.hid (HNb0_52.out.keep hbtb3 (by omega))
    have HMb0_65 := Lib.hid (HMb0_53.out.kept HNb0_52.out hbtb3 (by omega))
    have HFb0_66 := Lib.hid (HFb0_54.out.keep hbtb3 (by omega) (by omega))
    have HY0_67 := Lib.hid (HY0_55.out.below hbtb3 (by omega))
    have HNb1_68 := Lib.hid (HNb1_56.out.keep hbtb3 (by omega))
    have HMb1_69 := Lib.hid (HMb1_57.out.kept HNb1_56.out hbtb3 (by omega))
    have HFb1_70 := Lib.hid (HFb1_58.out.keep hbtb3 (by omega) (by omega))
    have HY1_71 := Lib.hid (HY1_59.out.below hbtb3 (by omega))
    have HVb2_72 := Lib.hid (HVb2.out.keep hbtb3 (by omega))
    have HWb2_73 := Lib.hid (HWb2.out.kept HVb2.out hbtb3 (by omega))
    clear HB_48 HX0_49 HX1_50 HGs1_51 HNb0_52 HMb0_53 HFb0_54 HY0_55 HNb1_56 HMb1_57 HFb1_58 HY1_59 HVb2 HWb2
    have HVb3 := Lib.hid hVb3
    have HWb3 := Lib.hid hWb3
    clear hVb3 hWb3 hbtb3
    have k_74 : w13.cell? ⟨w8.heap.size, 0, none⟩ = some (.slice Anb0 ns0.length cnb0) := HY0_67.out.cell 0
    have k_75 : w13.cell? ⟨w8.heap.size, 1, none⟩ = some (.slice Bfb0 fs0.length dfb0) := HY0_67.out.cell 1
    have k_76 : w13.cell? ⟨w10.heap.size, 0, none⟩ = some (.slice Anb1 ns1.length cnb1) := HY1_71.out.cell 0
    have k_77 : w13.cell? ⟨w10.heap.size, 1, none⟩ = some (.slice Bfb1 fs1.length dfb1) := HY1_71.out.cell 1
    go_wp2_with (fail)
    (with_reducible refine (MoveMarksI_any w7.heap.size midb0 ns0.length cnb0 Anb0 ns0 midb0 w8.heap.size fs0.length dfb0 Bfb0 fs0 w9.heap.size midb1 ns1.length cnb1 Anb1 ns1 midb1 w10.heap.size fs1.length dfb1 Bfb1 fs1 w11.heap.size w12.heap.size n2 csb2 Asb2 m2 w12.heap.size w13.heap.size n3 csb3 Asb3 m3 _ HNb0_64.out (by omega) hnn1_0 (HFb0_66.out.fls (by omega) (by omega)) (by omega) hfl1_0 HNb1_68.out (by omega) hnn1_1 (HFb1_70.out.fls (by omega) (by omega)) (by omega) hfl1_1 HVb2_72.out (by omega) hm2 HVb3.out (by omega) hm3).mono ?_)
    rw [HU0.out, HU1.out]
    rintro e w14 ⟨Agi2, cgi2, rfl, _, hGi2, hHi2, hbti2⟩
    have hz14 := hbti2.size
    clear k_74 k_75 k_76 k_77
    have HB_78 := Lib.hid (up HB_60.out hbti2)
    have HX0_79 := Lib.hid (HX0_61.out.below hbti2 (by omega))
    have HX1_80 := Lib.hid (HX1_62.out.below hbti2 (by omega))
    have HGs1_81 := Lib.hid (HGs1_63.out.keep hbti2 (by omega))
    have HNb0_82 := Lib.hid (HNb0_64.out.keep hbti2 (by omega))
    have HMb0_83 := Lib.hid (HMb0_65.out.kept HNb0_64.out hbti2 (by omega))
    have HFb0_84 := Lib.hid (HFb0_66.out.keep hbti2 (by omega) (by omega))
    have HY0_85 := Lib.hid (HY0_67.out.below hbti2 (by omega))
    have HNb1_86 := Lib.hid (HNb1_68.out.keep hbti2 (by omega))
    have HMb1_87 := Lib.hid (HMb1_69.out.kept HNb1_68.out hbti2 (by omega))
    have HFb1_88 := Lib.hid (HFb1_70.out.keep hbti2 (by omega) (by omega))
    have HY1_89 := Lib.hid (HY1_71.out.below hbti2 (by omega))
    have HVb2_90 := Lib.hid (HVb2_72.out.keep hbti2 (by omega))
    have HWb2_91 := Lib.hid (HWb2_73.out.kept HVb2_72.out hbti2 (by omega))
    have HVb3_92 := Lib.hid (HVb3.out.keep hbti2 (by omega))
    have HWb3_93 := Lib.hid (HWb3.out.kept HVb3.out hbti2 (by omega))
    clear HB_60 HX0_61 HX1_62 HGs1_63 HNb0_64 HMb0_65 HFb0_66 HY0_67 HNb1_68 HMb1_69 HFb1_70 HY1_71 HVb2_72 HWb2_73 HVb3 HWb3
    clear hbti2
    have HGi2 := Lib.hid hGi2
    have HHi2 := Lib.hid hHi2
    clear hGi2 hHi2
    go_wp2_with (fail)
    (with_reducible refine (eqIntS_any _ _ u0.length cgi2 _ _ u0.length cgs1 Agi2 Ags1 u0 u0 _ HGi2.out (by omega) hul0 HGs1_81.out (by omega) hul0).mono ?_)
    rintro e w15 ⟨rfl, hbt⟩
    rw [beq_self_eq_true]
    have hz15 := hbt.size
    have HB_94 := Lib.hid (up HB_78.out hbt)
    have HX0_95 := Lib.hid (HX0_79.out.below hbt (by omega))
    have HX1_96 := Lib.hid (HX1_80.out.below hbt (by omega))
    have HGs1_97 := Lib.hid (HGs1_81.out.keep hbt (by omega))
    have HNb0_98 := Lib.hid (HNb0_82.out.keep hbt (by omega))
    have HMb0_99 := Lib.hid (HMb0_83.out.kept HNb0_82.out hbt (by omega))
    have HFb0_100 := Lib.hid (HFb0_84.out.keep hbt (by omega) (by omega))
    have HY0_101 := Lib.hid (HY0_85.out.below hbt (by omega))
    have HNb1_102 := Lib.hid (HNb1_86.out.keep hbt (by omega))
    have HMb1_103 := Lib.hid (HMb1_87.out.kept HNb1_86.out hbt (by omega))
    have HFb1_104 := Lib.hid (HFb1_88.out.keep hbt (by omega) (by omega))
    have HY1_105 := Lib.hid (HY1_89.out.below hbt (by omega))
    have HVb2_106 := Lib.hid (HVb2_90.out.keep hbt (by omega))
    have HWb2_107 := Lib.hid (HWb2_91.out.kept HVb2_90.out hbt (by omega))
    have HVb3_108 := Lib.hid (HVb3_92.out.keep hbt (by omega))
    have HWb3_109 := Lib.hid (HWb3_93.out.kept HVb3_92.out hbt (by omega))
    have HGi2_110 := Lib.hid (HGi2.out.keep hbt (by omega))
    have HHi2_111 := Lib.hid (HHi2.out.kept HGi2.out hbt (by omega))
    clear HB_78 HX0_79 HX1_80 HGs1_81 HNb0_82 HMb0_83 HFb0_84 HY0_85 HNb1_86 HMb1_87 HFb1_88 HY1_89 HVb2_90 HWb2_91 HVb3_92 HWb3_93 HGi2 HHi2
    clear hbt
    have HC : Hid (∀ wx : World, Below w15.heap.size w15 wx → Calls Try.prog 23 #[.agg #[.slice An0 nn0 cn0, .slice A0 n0 c0]] wx (ToProc ns0 fs0 wx)) := fun wx hbx => toProcess_any 0 w.heap.size nn0 cn0 An0 ns0 0 w.heap.size n0 c0 A0 fs0 wx (HRN0.out.keep (up HB_94.out hbx) (Nat.le_refl _)) (up HB_94.out hbx).size q02 (HS0.out.keep (up HB_94.out hbx) (Nat.le_refl _)) (up HB_94.out hbx).size q03
    have HSW : Hid (∀ wx : World, Below w15.heap.size w15 wx → wx.cell? ⟨w.heap.size, 0, none⟩ = some (.slice An0 nn0 cn0) ∧ wx.cell? ⟨w.heap.size, 1, none⟩ = some (.slice A0 n0 c0) ∧ wx.cell? ⟨w8.heap.size, 0, none⟩ = some (.slice Anb0 ns0.length cnb0) ∧ wx.cell? ⟨w8.heap.size, 1, none⟩ = some (.slice Bfb0 fs0.length dfb0)) := fun wx hbx => ⟨(HX0_95.out.below hbx (by omega)).cell 0, (HX0_95.out.below hbx (by omega)).cell 1, (HY0_101.out.below hbx (by omega)).cell 0, (HY0_101.out.below hbx (by omega)).cell 1⟩
    go_wp2
    go_region_held3 (fun w' => w'.cell? ⟨w.heap.size, 0, none⟩ = some (.slice An0 nn0 cn0) ∧ w'.cell? ⟨w.heap.size, 1, none⟩ = some (.slice A0 n0 c0) ∧ w'.cell? ⟨w8.heap.size, 0, none⟩ = some (.slice Anb0 ns0.length cnb0) ∧ w'.cell? ⟨w8.heap.size, 1, none⟩ = some (.slice Bfb0 fs0.length dfb0))
      (first | exact HSW.out _ (Below.refl _ _) | exact HSW.out _ (up_drew (Below.refl _ _)) | exact HSW.out _ hB7 | exact HSW.out _ hB8)
      ((first
        | (go_at_call 23; (with_reducible refine (HC.out _ (up_drew (Below.refl _ w15))).mono ?_); rintro e w16 ⟨Anq0, cnq0, Bfq0, dfq0, midq0, rfl, hNq0, hMq0, hltq0, hmtq0, hFq0, hbtq0⟩; have hB7 := up (up_drew (Below.refl _ w15)) hbtq0; have hs7 : w15.heap.size ≤ w16.heap.size := hbtq0.size; have hlu7 : w15.heap.size ≤ midq0 := hltq0)
        | (go_at_call 26; (with_reducible refine (eqProcess_same w7.heap.size midb0 ns0.length cnb0 _ midq0 ns0.length cnq0 Anb0 Anq0 ns0 midb0 w8.heap.size fs0.length dfb0 midq0 w16.heap.size fs0.length dfq0 Bfb0 Bfq0 fs0 w16 (HNb0_98.out.keep hB7 (by omega)) (by omega) hnn1_0 ((HFb0_100.out.fls (by omega) (by omega)).keep hB7 (by omega)) (by omega) hfl1_0 hNq0 (by omega) (hFq0.fls (by omega) hmtq0) (Nat.le_refl _)).mono ?_); rintro e w17 ⟨rfl, hbt8⟩; have hB8 := up hB7 hbt8)))
    all_goals
      have hz17 : w15.heap.size ≤ w17.heap.size := hB8.size
      clear HC HSW hNq0 hMq0 hFq0 hbt8 hbtq0
      have HB_112 := Lib.hid (up HB_94.out hB8)
      have HX0_113 := Lib.hid (HX0_95.out.below hB8 (by omega))
      have HX1_114 := Lib.hid (HX1_96.out.below hB8 (by omega))
      have HGs1_115 := Lib.hid (HGs1_97.out.keep hB8 (by omega))
      have HNb0_116 := Lib.hid (HNb0_98.out.keep hB8 (by omega))
      have HMb0_117 := Lib.hid (HMb0_99.out.kept HNb0_98.out hB8 (by omega))
      have HFb0_118 := Lib.hid (HFb0_100.out.keep hB8 (by omega) (by omega))
      have HY0_119 := Lib.hid (HY0_101.out.below hB8 (by omega))
      have HNb1_120 := Lib.hid (HNb1_102.out.keep hB8 (by omega))
      have HMb1_121 := Lib.hid (HMb1_103.out.kept HNb1_102.out hB8 (by omega))
      have HFb1_122 := Lib.hid (HFb1_104.out.keep hB8 (by omega) (by omega))
      have HY1_123 := Lib.hid (HY1_105.out.below hB8 (by omega))
      have HVb2_124 := Lib.hid (HVb2_106.out.keep hB8 (by omega))
      have HWb2_125 := Lib.hid (HWb2_107.out.kept HVb2_106.out hB8 (by omega))
      have HVb3_126 := Lib.hid (HVb3_108.out.keep hB8 (by omega))
      have HWb3_127 := Lib.hid (HWb3_109.out.kept HVb3_108.out hB8 (by omega))
      have HGi2_128 := Lib.hid (HGi2_110.out.keep hB8 (by omega))
      have HHi2_129 := Lib.hid (HHi2_111.out.kept HGi2_110.out hB8 (by omega))
      clear HB_94 HX0_95 HX1_96 HGs1_97 HNb0_98 HMb0_99 HFb0_100 HY0_101 HNb1_102 HMb1_103 HFb1_104 HY1_105 HVb2_106 HWb2_107 HVb3_108 HWb3_109 HGi2_110 HHi2_111
      clear hB8 hB7
      have HC : Hid (∀ wx : World, Below w17.heap.size w17 wx → Calls Try.prog 23 #[.agg #[.slice An1 nn1 cn1, .slice A1 n1 c1]] wx (ToProc ns1 fs1 wx)) := fun wx hbx => toProcess_any 0 w.heap.size nn1 cn1 An1 ns1 0 w.heap.size n1 c1 A1 fs1 wx (HRN1.out.keep (up HB_112.out hbx) (Nat.le_refl _)) (up HB_112.out hbx).size q12 (HS1.out.keep (up HB_112.out hbx) (Nat.le_refl _)) (up HB_112.out hbx).size q13
      have HSW : Hid (∀ wx : World, Below w17.heap.size w17 wx → wx.cell? ⟨w.heap.size + 1, 0, none⟩ = some (.slice An1 nn1 cn1) ∧ wx.cell? ⟨w.heap.size + 1, 1, none⟩ = some (.slice A1 n1 c1) ∧ wx.cell? ⟨w10.heap.size, 0, none⟩ = some (.slice Anb1 ns1.length cnb1) ∧ wx.cell? ⟨w10.heap.size, 1, none⟩ = some (.slice Bfb1 fs1.length dfb1)) := fun wx hbx => ⟨(HX1_114.out.below hbx (by omega)).cell 0, (HX1_114.out.below hbx (by omega)).cell 1, (HY1_123.out.below hbx (by omega)).cell 0, (HY1_123.out.below hbx (by omega)).cell 1⟩
      go_wp2
      go_region_held3 (fun w' => w'.cell? ⟨w.heap.size + 1, 0, none⟩ = some (.slice An1 nn1 cn1) ∧ w'.cell? ⟨w.heap.size + 1, 1, none⟩ = some (.slice A1 n1 c1) ∧ w'.cell? ⟨w10.heap.size, 0, none⟩ = some (.slice Anb1 ns1.length cnb1) ∧ w'.cell? ⟨w10.heap.size, 1, none⟩ = some (.slice Bfb1 fs1.length dfb1))
        (first | exact HSW.out _ (Below.refl _ _) | exact HSW.out _ (up_drew (Below.refl _ _)) | exact HSW.out _ hB7 | exact HSW.out _ hB8)
        ((first
          | (go_at_call 23; (with_reducible refine (HC.out _ (up_drew (Below.refl _ w17))).mono ?_); rintro e w18 ⟨Anq1, cnq1, Bfq1, dfq1, midq1, rfl, hNq1, hMq1, hltq1, hmtq1, hFq1, hbtq1⟩; have hB7 := up (up_drew (Below.refl _ w17)) hbtq1; have hs7 : w17.heap.size ≤ w18.heap.size := hbtq1.size; have hlu7 : w17.heap.size ≤ midq1 := hltq1)
          | (go_at_call 26; (with_reducible refine (eqProcess_same w9.heap.size midb1 ns1.length cnb1 _ midq1 ns1.length cnq1 Anb1 Anq1 ns1 midb1 w10.heap.size fs1.length dfb1 midq1 w18.heap.size fs1.length dfq1 Bfb1 Bfq1 fs1 w18 (HNb1_120.out.keep hB7 (by omega)) (by omega) hnn1_1 ((HFb1_122.out.fls (by omega) (by omega)).keep hB7 (by omega)) (by omega) hfl1_1 hNq1 (by omega) (hFq1.fls (by omega) hmtq1) (Nat.le_refl _)).mono ?_); rintro e w19 ⟨rfl, hbt8⟩; have hB8 := up hB7 hbt8)))
      all_goals
        have hz19 : w17.heap.size ≤ w19.heap.size := hB8.size
        clear HC HSW hNq1 hMq1 hFq1 hbt8 hbtq1
        have HB_130 := Lib.hid (up HB_112.out hB8)
        have HX0_131 := Lib.hid (HX0_113.out.below hB8 (by omega))
        have HX1_132 := Lib.hid (HX1_114.out.below hB8 (by omega))
        have HGs1_133 := Lib.hid (HGs1_115.out.keep hB8 (by omega))
        have HNb0_134 := Lib.hid (HNb0_116.out.keep hB8 (by omega))
        have HMb0_135 := Lib.hid (HMb0_117.out.kept HNb0_116.out hB8 (by omega))
        have HFb0_136 := Lib.hid (HFb0_118.out.keep hB8 (by omega) (by omega))
        have HY0_137 := Lib.hid (HY0_119.out.below hB8 (by omega))
        have HNb1_138 := Lib.hid (HNb1_120.out.keep hB8 (by omega))
        have HMb1_139 := Lib.hid (HMb1_121.out.kept HNb1_120.out hB8 (by omega))
        have HFb1_140 := Lib.hid (HFb1_122.out.keep hB8 (by omega) (by omega))
        have HY1_141 := Lib.hid (HY1_123.out.below hB8 (by omega))
        have HVb2_142 := Lib.hid (HVb2_124.out.keep hB8 (by omega))
        have HWb2_143 := Lib.hid (HWb2_125.out.kept HVb2_124.out hB8 (by omega))
        have HVb3_144 := Lib.hid (HVb3_126.out.keep hB8 (by omega))
        have HWb3_145 := Lib.hid (HWb3_127.out.kept HVb3_126.out hB8 (by omega))
        have HGi2_146 := Lib.hid (HGi2_128.out.keep hB8 (by omega))
        have HHi2_147 := Lib.hid (HHi2_129.out.kept HGi2_128.out hB8 (by omega))
        clear HB_112 HX0_113 HX1_114 HGs1_115 HNb0_116 HMb0_117 HFb0_118 HY0_119 HNb1_120 HMb1_121 HFb1_122 HY1_123 HVb2_124 HWb2_125 HVb3_126 HWb3_127 HGi2_128 HHi2_129
        clear hB8 hB7
        go_wp2_with (fail)
        (with_reducible refine (toIntS_any 0 w.heap.size n2 c2 A2 m2 _ (HA2.out.keep HB_130.out (Nat.le_refl _)) HB_130.out.size hm2).mono ?_)
        rintro e w20 ⟨Asc2, csc2, rfl, _, hVc2, hWc2, hbtc2⟩
        have hz20 := hbtc2.size
        have HB_148 := Lib.hid (up HB_130.out hbtc2)
        have HX0_149 := Lib.hid (HX0_131.out.below hbtc2 (by omega))
        have HX1_150 := Lib.hid (HX1_132.out.below hbtc2 (by omega))
        have HGs1_151 := Lib.hid (HGs1_133.out.keep hbtc2 (by omega))
        have HNb0_152 := Lib.hid (HNb0_134.out.keep hbtc2 (by omega))
        have HMb0_153 := Lib.hid (HMb0_135.out.kept HNb0_134.out hbtc2 (by omega))
        have HFb0_154 := Lib.hid (HFb0_136.out.keep hbtc2 (by omega) (by omega))
        have HY0_155 := Lib.hid (HY0_137.out.below hbtc2 (by omega))
        have HNb1_156 := Lib.hid (HNb1_138.out.keep hbtc2 (by omega))
        have HMb1_157 := Lib.hid (HMb1_139.out.kept HNb1_138.out hbtc2 (by omega))
        have HFb1_158 := Lib.hid (HFb1_140.out.keep hbtc2 (by omega) (by omega))
        have HY1_159 := Lib.hid (HY1_141.out.below hbtc2 (by omega))
        have HVb2_160 := Lib.hid (HVb2_142.out.keep hbtc2 (by omega))
        have HWb2_161 := Lib.hid (HWb2_143.out.kept HVb2_142.out hbtc2 (by omega))
        have HVb3_162 := Lib.hid (HVb3_144.out.keep hbtc2 (by omega))
        have HWb3_163 := Lib.hid (HWb3_145.out.kept HVb3_144.out hbtc2 (by omega))
        have HGi2_164 := Lib.hid (HGi2_146.out.keep hbtc2 (by omega))
        have HHi2_165 := Lib.hid (HHi2_147.out.kept HGi2_146.out hbtc2 (by omega))
        clear HB_130 HX0_131 HX1_132 HGs1_133 HNb0_134 HMb0_135 HFb0_136 HY0_137 HNb1_138 HMb1_139 HFb1_140 HY1_141 HVb2_142 HWb2_143 HVb3_144 HWb3_145 HGi2_146 HHi2_147
        have HVc2 := Lib.hid hVc2
        have HWc2 := Lib.hid hWc2
        clear hVc2 hWc2 hbtc2
        go_wp2_with (fail)
        (with_reducible refine (eqIntS_any _ _ n2 csb2 _ _ n2 csc2 Asb2 Asc2 m2 m2 _ HVb2_160.out (by omega) hm2 HVc2.out (by omega) hm2).mono ?_)
        rintro e w21 ⟨rfl, hbt⟩
        rw [beq_self_eq_true]
        have hz21 := hbt.size
        have HB_166 := Lib.hid (up HB_148.out hbt)
        have HX0_167 := Lib.hid (HX0_149.out.below hbt (by omega))
        have HX1_168 := Lib.hid (HX1_150.out.below hbt (by omega))
        have HGs1_169 := Lib.hid (HGs1_151.out.keep hbt (by omega))
        have HNb0_170 := Lib.hid (HNb0_152.out.keep hbt (by omega))
        have HMb0_171 := Lib.hid (HMb0_153.out.kept HNb0_152.out hbt (by omega))
        have HFb0_172 := Lib.hid (HFb0_154.out.keep hbt (by omega) (by omega))
        have HY0_173 := Lib.hid (HY0_155.out.below hbt (by omega))
        have HNb1_174 := Lib.hid (HNb1_156.out.keep hbt (by omega))
        have HMb1_175 := Lib.hid (HMb1_157.out.kept HNb1_156.out hbt (by omega))
        have HFb1_176 := Lib.hid (HFb1_158.out.keep hbt (by omega) (by omega))
        have HY1_177 := Lib.hid (HY1_159.out.below hbt (by omega))
        have HVb2_178 := Lib.hid (HVb2_160.out.keep hbt (by omega))
        have HWb2_179 := Lib.hid (HWb2_161.out.kept HVb2_160.out hbt (by omega))
        have HVb3_180 := Lib.hid (HVb3_162.out.keep hbt (by omega))
        have HWb3_181 := Lib.hid (HWb3_163.out.kept HVb3_162.out hbt (by omega))
        have HGi2_182 := Lib.hid (HGi2_164.out.keep hbt (by omega))
        have HHi2_183 := Lib.hid (HHi2_165.out.kept HGi2_164.out hbt (by omega))
        have HVc2_184 := Lib.hid (HVc2.out.keep hbt (by omega))
        have HWc2_185 := Lib.hid (HWc2.out.kept HVc2.out hbt (by omega))
        clear HB_148 HX0_149 HX1_150 HGs1_151 HNb0_152 HMb0_153 HFb0_154 HY0_155 HNb1_156 HMb1_157 HFb1_158 HY1_159 HVb2_160 HWb2_161 HVb3_162 HWb3_163 HGi2_164 HHi2_165 HVc2 HWc2
        clear hbt
        clear HWc2_185
        clear HVc2_184
        go_wp2_with (fail)
        (with_reducible refine (toIntS_any 0 w.heap.size n3 c3 A3 m3 _ (HA3.out.keep HB_166.out (Nat.le_refl _)) HB_166.out.size hm3).mono ?_)
        rintro e w22 ⟨Asc3, csc3, rfl, _, hVc3, hWc3, hbtc3⟩
        have hz22 := hbtc3.size
        have HB_186 := Lib.hid (up HB_166.out hbtc3)
        have HX0_187 := Lib.hid (HX0_167.out.below hbtc3 (by omega))
        have HX1_188 := Lib.hid (HX1_168.out.below hbtc3 (by omega))
        have HGs1_189 := Lib.hid (HGs1_169.out.keep hbtc3 (by omega))
        have HNb0_190 := Lib.hid (HNb0_170.out.keep hbtc3 (by omega))
        have HMb0_191 := Lib.hid (HMb0_171.out.kept HNb0_170.out hbtc3 (by omega))
        have HFb0_192 := Lib.hid (HFb0_172.out.keep hbtc3 (by omega) (by omega))
        have HY0_193 := Lib.hid (HY0_173.out.below hbtc3 (by omega))
        have HNb1_194 := Lib.hid (HNb1_174.out.keep hbtc3 (by omega))
        have HMb1_195 := Lib.hid (HMb1_175.out.kept HNb1_174.out hbtc3 (by omega))
        have HFb1_196 := Lib.hid (HFb1_176.out.keep hbtc3 (by omega) (by omega))
        have HY1_197 := Lib.hid (HY1_177.out.below hbtc3 (by omega))
        have HVb2_198 := Lib.hid (HVb2_178.out.keep hbtc3 (by omega))
        have HWb2_199 := Lib.hid (HWb2_179.out.kept HVb2_178.out hbtc3 (by omega))
        have HVb3_200 := Lib.hid (HVb3_180.out.keep hbtc3 (by omega))
        have HWb3_201 := Lib.hid (HWb3_181.out.kept HVb3_180.out hbtc3 (by omega))
        have HGi2_202 := Lib.hid (HGi2_182.out.keep hbtc3 (by omega))
        have HHi2_203 := Lib.hid (HHi2_183.out.kept HGi2_182.out hbtc3 (by omega))
        clear HB_166 HX0_167 HX1_168 HGs1_169 HNb0_170 HMb0_171 HFb0_172 HY0_173 HNb1_174 HMb1_175 HFb1_176 HY1_177 HVb2_178 HWb2_179 HVb3_180 HWb3_181 HGi2_182 HHi2_183
        have HVc3 := Lib.hid hVc3
        have HWc3 := Lib.hid hWc3
        clear hVc3 hWc3 hbtc3
        go_wp2_with (fail)
        (with_reducible refine (eqIntS_any _ _ n3 csb3 _ _ n3 csc3 Asb3 Asc3 m3 m3 _ HVb3_200.out (by omega) hm3 HVc3.out (by omega) hm3).mono ?_)
        rintro e w23 ⟨rfl, hbt⟩
        rw [beq_self_eq_true]
        have hz23 := hbt.size
        have HB_204 := Lib.hid (up HB_186.out hbt)
        have HX0_205 := Lib.hid (HX0_187.out.below hbt (by omega))
        have HX1_206 := Lib.hid (HX1_188.out.below hbt (by omega))
        have HGs1_207 := Lib.hid (HGs1_189.out.keep hbt (by omega))
        have HNb0_208 := Lib.hid (HNb0_190.out.keep hbt (by omega))
        have HMb0_209 := Lib.hid (HMb0_191.out.kept HNb0_190.out hbt (by omega))
        have HFb0_210 := Lib.hid (HFb0_192.out.keep hbt (by omega) (by omega))
        have HY0_211 := Lib.hid (HY0_193.out.below hbt (by omega))
        have HNb1_212 := Lib.hid (HNb1_194.out.keep hbt (by omega))
        have HMb1_213 := Lib.hid (HMb1_195.out.kept HNb1_194.out hbt (by omega))
        have HFb1_214 := Lib.hid (HFb1_196.out.keep hbt (by omega) (by omega))
        have HY1_215 := Lib.hid (HY1_197.out.below hbt (by omega))
        have HVb2_216 := Lib.hid (HVb2_198.out.keep hbt (by omega))
        have HWb2_217 := Lib.hid (HWb2_199.out.kept HVb2_198.out hbt (by omega))
        have HVb3_218 := Lib.hid (HVb3_200.out.keep hbt (by omega))
        have HWb3_219 := Lib.hid (HWb3_201.out.kept HVb3_200.out hbt (by omega))
        have HGi2_220 := Lib.hid (HGi2_202.out.keep hbt (by omega))
        have HHi2_221 := Lib.hid (HHi2_203.out.kept HGi2_202.out hbt (by omega))
        have HVc3_222 := Lib.hid (HVc3.out.keep hbt (by omega))
        have HWc3_223 := Lib.hid (HWc3.out.kept HVc3.out hbt (by omega))
        clear HB_186 HX0_187 HX1_188 HGs1_189 HNb0_190 HMb0_191 HFb0_192 HY0_193 HNb1_194 HMb1_195 HFb1_196 HY1_197 HVb2_198 HWb2_199 HVb3_200 HWb3_201 HGi2_202 HHi2_203 HVc3 HWc3
        clear hbt
        clear HWc3_223
        clear HVc3_222
        have k_224 : w23.cell? ⟨w8.heap.size, 0, none⟩ = some (.slice Anb0 ns0.length cnb0) := HY0_211.out.cell 0
        have k_225 : w23.cell? ⟨w8.heap.size, 1, none⟩ = some (.slice Bfb0 fs0.length dfb0) := HY0_211.out.cell 1
        go_wp2_with (fail)
        (with_reducible refine (markProcess_from (1) (by omega) (by omega) w7.heap.size midb0 w8.heap.size ns0.length cnb0 fs0.length dfb0 Anb0 Bfb0 ns0 fs0 _ HNb0_208.out HMb0_209.out hnn1_0 HFb0_210.out (by omega) (by omega) (by omega) hfl1_0).mono ?_)
        rintro e w25 ⟨rk0, w24, rfl, hrk0, hrl0, hbt, hwt⟩
        clear k_224 k_225
        have hz24 := hbt.size
        have hz25 := hwt.size
        clear HMb0_209
        clear HFb0_210
        clear HNb0_208
        clear HY0_211
        have HB_226 := Lib.hid (up HB_204.out hbt)
        have HX0_227 := Lib.hid (HX0_205.out.below hbt (by omega))
        have HX1_228 := Lib.hid (HX1_206.out.below hbt (by omega))
        have HGs1_229 := Lib.hid (HGs1_207.out.keep hbt (by omega))
        have HNb1_230 := Lib.hid (HNb1_212.out.keep hbt (by omega))
        have HMb1_231 := Lib.hid (HMb1_213.out.kept HNb1_212.out hbt (by omega))
        have HFb1_232 := Lib.hid (HFb1_214.out.keep hbt (by omega) (by omega))
        have HY1_233 := Lib.hid (HY1_215.out.below hbt (by omega))
        have HVb2_234 := Lib.hid (HVb2_216.out.keep hbt (by omega))
        have HWb2_235 := Lib.hid (HWb2_217.out.kept HVb2_216.out hbt (by omega))
        have HVb3_236 := Lib.hid (HVb3_218.out.keep hbt (by omega))
        have HWb3_237 := Lib.hid (HWb3_219.out.kept HVb3_218.out hbt (by omega))
        have HGi2_238 := Lib.hid (HGi2_220.out.keep hbt (by omega))
        have HHi2_239 := Lib.hid (HHi2_221.out.kept HGi2_220.out hbt (by omega))
        clear HB_204 HX0_205 HX1_206 HGs1_207 HNb1_212 HMb1_213 HFb1_214 HY1_215 HVb2_216 HWb2_217 HVb3_218 HWb3_219 HGi2_220 HHi2_221
        have HB_240 := Lib.hid (Within.below HB_226.out hwt (by omega))
        have HX0_241 := Lib.hid (show Blk w25 (w.heap.size) 51 #[.slice An0 nn0 cn0, .slice A0 n0 c0] from (hwt.block (w.heap.size) (by omega) (by omega)).trans HX0_227.out)
        have HX1_242 := Lib.hid (show Blk w25 (w.heap.size + 1) 51 #[.slice An1 nn1 cn1, .slice A1 n1 c1] from (hwt.block (w.heap.size + 1) (by omega) (by omega)).trans HX1_228.out)
        have HGs1_243 := Lib.hid (HGs1_229.out.within hwt (by omega) (by omega))
        have HNb1_244 := Lib.hid (HNb1_230.out.within hwt (by omega) (by omega))
        have HMb1_245 := Lib.hid (HMb1_231.out.within HNb1_230.out hwt (by omega) (by omega))
        have HFb1_246 := Lib.hid (HFb1_232.out.within hwt (by omega) (by omega) (by omega) (by omega))
        have HY1_247 := Lib.hid (show Blk w25 (w10.heap.size) 26 #[.slice Anb1 ns1.length cnb1, .slice Bfb1 fs1.length dfb1] from (hwt.block (w10.heap.size) (by omega) (by omega)).trans HY1_233.out)
        have HVb2_248 := Lib.hid (HVb2_234.out.within hwt (by omega) (by omega))
        have HWb2_249 := Lib.hid (HWb2_235.out.within HVb2_234.out hwt (by omega) (by omega))
        have HVb3_250 := Lib.hid (HVb3_236.out.within hwt (by omega) (by omega))
        have HWb3_251 := Lib.hid (HWb3_237.out.within HVb3_236.out hwt (by omega) (by omega))
        have HGi2_252 := Lib.hid (HGi2_238.out.within hwt (by omega) (by omega))
        have HHi2_253 := Lib.hid (HHi2_239.out.within HGi2_238.out hwt (by omega) (by omega))
        clear HB_226 HX0_227 HX1_228 HGs1_229 HNb1_230 HMb1_231 HFb1_232 HY1_233 HVb2_234 HWb2_235 HVb3_236 HWb3_237 HGi2_238 HHi2_239
        clear hbt hwt
        have k_254 : w25.cell? ⟨w10.heap.size, 0, none⟩ = some (.slice Anb1 ns1.length cnb1) := HY1_247.out.cell 0
        have k_255 : w25.cell? ⟨w10.heap.size, 1, none⟩ = some (.slice Bfb1 fs1.length dfb1) := HY1_247.out.cell 1
        go_wp2_with (fail)
        (with_reducible refine (markProcess_from (rk0) (by omega) (by omega) w9.heap.size midb1 w10.heap.size ns1.length cnb1 fs1.length dfb1 Anb1 Bfb1 ns1 fs1 _ HNb1_244.out HMb1_245.out hnn1_1 HFb1_246.out (by omega) (by omega) (by omega) hfl1_1).mono ?_)
        rintro e w27 ⟨rk1, w26, rfl, hrk1, hrl1, hbt, hwt⟩
        clear k_254 k_255
        have hz26 := hbt.size
        have hz27 := hwt.size
        clear HMb1_245
        clear HFb1_246
        clear HNb1_244
        clear HY1_247
        have HB_256 := Lib.hid (up HB_240.out hbt)
        have HX0_257 := Lib.hid (HX0_241.out.below hbt (by omega))
        have HX1_258 := Lib.hid (HX1_242.out.below hbt (by omega))
        have HGs1_259 := Lib.hid (HGs1_243.out.keep hbt (by omega))
        have HVb2_260 := Lib.hid (HVb2_248.out.keep hbt (by omega))
        have HWb2_261 := Lib.hid (HWb2_249.out.kept HVb2_248.out hbt (by omega))
        have HVb3_262 := Lib.hid (HVb3_250.out.keep hbt (by omega))
        have HWb3_263 := Lib.hid (HWb3_251.out.kept HVb3_250.out hbt (by omega))
        have HGi2_264 := Lib.hid (HGi2_252.out.keep hbt (by omega))
        have HHi2_265 := Lib.hid (HHi2_253.out.kept HGi2_252.out hbt (by omega))
        clear HB_240 HX0_241 HX1_242 HGs1_243 HVb2_248 HWb2_249 HVb3_250 HWb3_251 HGi2_252 HHi2_253
        have HB_266 := Lib.hid (Within.below HB_256.out hwt (by omega))
        have HX0_267 := Lib.hid (show Blk w27 (w.heap.size) 51 #[.slice An0 nn0 cn0, .slice A0 n0 c0] from (hwt.block (w.heap.size) (by omega) (by omega)).trans HX0_257.out)
        have HX1_268 := Lib.hid (show Blk w27 (w.heap.size + 1) 51 #[.slice An1 nn1 cn1, .slice A1 n1 c1] from (hwt.block (w.heap.size + 1) (by omega) (by omega)).trans HX1_258.out)
        have HGs1_269 := Lib.hid (HGs1_259.out.within hwt (by omega) (by omega))
        have HVb2_270 := Lib.hid (HVb2_260.out.within hwt (by omega) (by omega))
        have HWb2_271 := Lib.hid (HWb2_261.out.within HVb2_260.out hwt (by omega) (by omega))
        have HVb3_272 := Lib.hid (HVb3_262.out.within hwt (by omega) (by omega))
        have HWb3_273 := Lib.hid (HWb3_263.out.within HVb3_262.out hwt (by omega) (by omega))
        have HGi2_274 := Lib.hid (HGi2_264.out.within hwt (by omega) (by omega))
        have HHi2_275 := Lib.hid (HHi2_265.out.within HGi2_264.out hwt (by omega) (by omega))
        clear HB_256 HX0_257 HX1_258 HGs1_259 HVb2_260 HWb2_261 HVb3_262 HWb3_263 HGi2_264 HHi2_265
        clear hbt hwt
        go_wp2_with (fail)
        (with_reducible refine (markIntS_any _ _ n2 csb2 Asb2 _ (rk1) _ HVb2_270.out HWb2_271.out hm2 (by omega) (by omega)).mono ?_)
        rintro e w28 ⟨rfl, _, _, hin⟩
        have hwt := Within.grown hin (in_row HVb2_270.out)
        have hz28 := hwt.size
        clear HWb2_271
        clear HVb2_270
        have HB_276 := Lib.hid (Within.below HB_266.out hwt (by omega))
        have HX0_277 := Lib.hid (show Blk w28 (w.heap.size) 51 #[.slice An0 nn0 cn0, .slice A0 n0 c0] from (hwt.block (w.heap.size) (by omega) (by omega)).trans HX0_267.out)
        have HX1_278 := Lib.hid (show Blk w28 (w.heap.size + 1) 51 #[.slice An1 nn1 cn1, .slice A1 n1 c1] from (hwt.block (w.heap.size + 1) (by omega) (by omega)).trans HX1_268.out)
        have HGs1_279 := Lib.hid (HGs1_269.out.within hwt (by omega) (by omega))
        have HVb3_280 := Lib.hid (HVb3_272.out.within hwt (by omega) (by omega))
        have HWb3_281 := Lib.hid (HWb3_273.out.within HVb3_272.out hwt (by omega) (by omega))
        have HGi2_282 := Lib.hid (HGi2_274.out.within hwt (by omega) (by omega))
        have HHi2_283 := Lib.hid (HHi2_275.out.within HGi2_274.out hwt (by omega) (by omega))
        clear HB_266 HX0_267 HX1_268 HGs1_269 HVb3_272 HWb3_273 HGi2_274 HHi2_275
        clear hin hwt
        go_wp2_with (fail)
        (with_reducible refine (markIntS_any _ _ n3 csb3 Asb3 _ (rk1 + (n2 : Int)) _ HVb3_280.out HWb3_281.out hm3 (by omega) (by omega)).mono ?_)
        rintro e w29 ⟨rfl, _, _, hin⟩
        have hwt := Within.grown hin (in_row HVb3_280.out)
        have hz29 := hwt.size
        clear HWb3_281
        clear HVb3_280
        have HB_284 := Lib.hid (Within.below HB_276.out hwt (by omega))
        have HX0_285 := Lib.hid (show Blk w29 (w.heap.size) 51 #[.slice An0 nn0 cn0, .slice A0 n0 c0] from (hwt.block (w.heap.size) (by omega) (by omega)).trans HX0_277.out)
        have HX1_286 := Lib.hid (show Blk w29 (w.heap.size + 1) 51 #[.slice An1 nn1 cn1, .slice A1 n1 c1] from (hwt.block (w.heap.size + 1) (by omega) (by omega)).trans HX1_278.out)
        have HGs1_287 := Lib.hid (HGs1_279.out.within hwt (by omega) (by omega))
        have HGi2_288 := Lib.hid (HGi2_282.out.within hwt (by omega) (by omega))
        have HHi2_289 := Lib.hid (HHi2_283.out.within HGi2_282.out hwt (by omega) (by omega))
        clear HB_276 HX0_277 HX1_278 HGs1_279 HGi2_282 HHi2_283
        clear hin hwt
        have hrkn : 0 ≤ rk1 + (n2 : Int) + (n3 : Int) := by omega
        have hrkd : decide (rk1 + (n2 : Int) + (n3 : Int) < 0) = false := decide_eq_false (by omega)
        go_wp2_with (fail)
        (with_reducible refine (eqIntS_any _ _ u0.length cgi2 _ _ u0.length cgs1 Agi2 Ags1 u0 u0 _ HGi2_288.out (by omega) hul0 HGs1_287.out (by omega) hul0).mono ?_)
        rintro e w30 ⟨rfl, hbt⟩
        rw [beq_self_eq_true]
        have hz30 := hbt.size
        have HB_290 := Lib.hid (up HB_284.out hbt)
        have HX0_291 := Lib.hid (HX0_285.out.below hbt (by omega))
        have HX1_292 := Lib.hid (HX1_286.out.below hbt (by omega))
        have HGs1_293 := Lib.hid (HGs1_287.out.keep hbt (by omega))
        have HGi2_294 := Lib.hid (HGi2_288.out.keep hbt (by omega))
        have HHi2_295 := Lib.hid (HHi2_289.out.kept HGi2_288.out hbt (by omega))
        clear HB_284 HX0_285 HX1_286 HGs1_287 HGi2_288 HHi2_289
        clear hbt
        go_wp2_with (fail)
        (with_reducible refine (markIntS_any _ _ u0.length cgi2 Agi2 _ 1 _ HGi2_294.out HHi2_295.out hul0 (by omega) (by omega)).mono ?_)
        rintro e w31 ⟨rfl, hrg, _, hin⟩
        have hwt := Within.grown hin (in_row HGi2_294.out)
        have hz31 := hwt.size
        clear HHi2_295
        clear HGi2_294
        have HB_296 := Lib.hid (Within.below HB_290.out hwt (by omega))
        have HX0_297 := Lib.hid (show Blk w31 (w.heap.size) 51 #[.slice An0 nn0 cn0, .slice A0 n0 c0] from (hwt.block (w.heap.size) (by omega) (by omega)).trans HX0_291.out)
        have HX1_298 := Lib.hid (show Blk w31 (w.heap.size + 1) 51 #[.slice An1 nn1 cn1, .slice A1 n1 c1] from (hwt.block (w.heap.size + 1) (by omega) (by omega)).trans HX1_292.out)
        have HGs1_299 := Lib.hid (HGs1_293.out.within hwt (by omega) (by omega))
        clear HB_290 HX0_291 HX1_292 HGs1_293
        have HQ := Lib.hid hrg
        clear hin hwt hrg
        go_wp2_with (fail)
        (with_reducible refine (heldIntS_any _ _ u0.length cgi2 Agi2 1 _ HQ.out hul0 (by omega) (by omega)).mono ?_)
        rintro e w32 ⟨rfl, rfl⟩
        have HC0 : Hid (∀ wx : World, Below w31.heap.size w31 wx → Calls Try.prog 23 #[.agg #[.slice An0 nn0 cn0, .slice A0 n0 c0]] wx (ToProc ns0 fs0 wx)) := fun wx hbx => toProcess_any 0 w.heap.size nn0 cn0 An0 ns0 0 w.heap.size n0 c0 A0 fs0 wx (HRN0.out.keep (up HB_296.out hbx) (Nat.le_refl _)) (up HB_296.out hbx).size q02 (HS0.out.keep (up HB_296.out hbx) (Nat.le_refl _)) (up HB_296.out hbx).size q03
        have HC1 : Hid (∀ wx : World, Below w31.heap.size w31 wx → Calls Try.prog 23 #[.agg #[.slice An1 nn1 cn1, .slice A1 n1 c1]] wx (ToProc ns1 fs1 wx)) := fun wx hbx => toProcess_any 0 w.heap.size nn1 cn1 An1 ns1 0 w.heap.size n1 c1 A1 fs1 wx (HRN1.out.keep (up HB_296.out hbx) (Nat.le_refl _)) (up HB_296.out hbx).size q12 (HS1.out.keep (up HB_296.out hbx) (Nat.le_refl _)) (up HB_296.out hbx).size q13
        have HC2 : Hid (∀ wx : World, Below w31.heap.size w31 wx → Calls Try.prog 24 #[.slice A2 n2 c2] wx (Fresh (ivs m2) 1 n2 wx)) := fun wx hbx => toIntS_any 0 w.heap.size n2 c2 A2 m2 wx (HA2.out.keep (up HB_296.out hbx) (Nat.le_refl _)) (up HB_296.out hbx).size hm2
        have HC3 : Hid (∀ wx : World, Below w31.heap.size w31 wx → Calls Try.prog 24 #[.slice A3 n3 c3] wx (Fresh (ivs m3) 1 n3 wx)) := fun wx hbx => toIntS_any 0 w.heap.size n3 c3 A3 m3 wx (HA3.out.keep (up HB_296.out hbx) (Nat.le_refl _)) (up HB_296.out hbx).size hm3
        have HSW : Hid (∀ wx : World, Below w31.heap.size w31 wx → wx.cell? ⟨w.heap.size, 0, none⟩ = some (.slice An0 nn0 cn0) ∧ wx.cell? ⟨w.heap.size, 1, none⟩ = some (.slice A0 n0 c0) ∧ wx.cell? ⟨w.heap.size + 1, 0, none⟩ = some (.slice An1 nn1 cn1) ∧ wx.cell? ⟨w.heap.size + 1, 1, none⟩ = some (.slice A1 n1 c1)) := fun wx hbx => ⟨(HX0_297.out.below hbx (by omega)).cell 0, (HX0_297.out.below hbx (by omega)).cell 1, (HX1_298.out.below hbx (by omega)).cell 0, (HX1_298.out.below hbx (by omega)).cell 1⟩
        go_wp2
        go_region_held3 (fun w' => w'.cell? ⟨w.heap.size, 0, none⟩ = some (.slice An0 nn0 cn0) ∧ w'.cell? ⟨w.heap.size, 1, none⟩ = some (.slice A0 n0 c0) ∧ w'.cell? ⟨w.heap.size + 1, 0, none⟩ = some (.slice An1 nn1 cn1) ∧ w'.cell? ⟨w.heap.size + 1, 1, none⟩ = some (.slice A1 n1 c1))
          (first
            | exact HSW.out _ (Below.refl _ _)
            | exact HSW.out _ (up_drew (Below.refl _ _))
            | exact HSW.out _ hBd0
            | exact HSW.out _ hBd1
            | exact HSW.out _ hBd2
            | exact HSW.out _ hBd3
            | exact HSW.out _ hBl)
          ((first
            | (go_at_call 23; (with_reducible refine (HC0.out _ (up_drew (Below.refl _ w31))).mono ?_); rintro e w32 ⟨And0, cnd0, Bfd0, dfd0, midd0, rfl, hNd0, hMd0, hltd0, hmtd0, hFd0, hbtd0⟩; have hBd0 := up (up_drew (Below.refl _ w31)) hbtd0; have hz32 : w31.heap.size ≤ w32.heap.size := hbtd0.size; have hlud0 : w31.heap.size ≤ midd0 := hltd0)
            | (go_at_call 23; (with_reducible refine (HC1.out _ hBd0).mono ?_); rintro e w33 ⟨And1, cnd1, Bfd1, dfd1, midd1, rfl, hNd1, hMd1, hltd1, hmtd1, hFd1, hbtd1⟩; have hBd1 := up hBd0 hbtd1; have hz33 : w32.heap.size ≤ w33.heap.size := hbtd1.size; have hlud1 : w32.heap.size ≤ midd1 := hltd1; have Nd0_d1 := hNd0.keep hbtd1 (by omega); have Fd0_d1 := hFd0.keep hbtd1 (by omega) (by omega))
            | (go_at_call 24; (with_reducible refine (HC2.out _ hBd1).mono ?_); rintro e w34 ⟨Asd2, csd2, rfl, _, hVd2, hWd2, hbtd2⟩; have hBd2 := up hBd1 hbtd2; have hz34 : w33.heap.size ≤ w34.heap.size := hbtd2.size; have Nd0_d2 := Nd0_d1.keep hbtd2 (by omega); have Fd0_d2 := Fd0_d1.keep hbtd2 (by omega) (by omega); have Nd1_d2 := hNd1.keep hbtd2 (by omega); have Fd1_d2 := hFd1.keep hbtd2 (by omega) (by omega))
            | (go_at_call 24; (with_reducible refine (HC3.out _ hBd2).mono ?_); rintro e w35 ⟨Asd3, csd3, rfl, _, hVd3, hWd3, hbtd3⟩; have hBd3 := up hBd2 hbtd3; have hz35 : w34.heap.size ≤ w35.heap.size := hbtd3.size; have Nd0_d3 := Nd0_d2.keep hbtd3 (by omega); have Fd0_d3 := Fd0_d2.keep hbtd3 (by omega) (by omega); have Nd1_d3 := Nd1_d2.keep hbtd3 (by omega); have Fd1_d3 := Fd1_d2.keep hbtd3 (by omega) (by omega); have Vd2_d3 := hVd2.keep hbtd3 (by omega))
            | (go_at_call 10; (with_reducible refine (MoveMarksI_any w31.drew.heap.size midd0 ns0.length cnd0 And0 ns0 midd0 w32.heap.size fs0.length dfd0 Bfd0 fs0 w32.heap.size midd1 ns1.length cnd1 And1 ns1 midd1 w33.heap.size fs1.length dfd1 Bfd1 fs1 w33.heap.size w34.heap.size n2 csd2 Asd2 m2 w34.heap.size w35.heap.size n3 csd3 Asd3 m3 _ Nd0_d3 (by omega) hnn1_0 (Fd0_d3.fls (by omega) (by omega)) (by omega) hfl1_0 Nd1_d3 (by omega) hnn1_1 (Fd1_d3.fls (by omega) (by omega)) (by omega) hfl1_1 Vd2_d3 (by omega) hm2 hVd3 (by omega) hm3).mono ?_); rw [HU0.out, HU1.out]; rintro e w36 ⟨Agi3, cgi3, rfl, _, hGi3, hHi3, hbti3⟩; have hBl := up hBd3 hbti3; have hz36 : w35.heap.size ≤ w36.heap.size := hbti3.size)))
        all_goals
          clear HSW HC0 HC1 HC2 HC3
          have HB_300 := Lib.hid (up HB_296.out hBl)
          have HX0_301 := Lib.hid (HX0_297.out.below hBl (by omega))
          have HX1_302 := Lib.hid (HX1_298.out.below hBl (by omega))
          have HGs1_303 := Lib.hid (HGs1_299.out.keep hBl (by omega))
          have HQ_304 := Lib.hid (HQ.out.keep hBl (by omega))
          clear HB_296 HX0_297 HX1_298 HGs1_299 HQ
          have HGi3 := Lib.hid hGi3
          have HHi3 := Lib.hid hHi3
          clear hGi3 hHi3
          clear hVd3
          clear HHi3
          go_wp2_with (fail)
          (with_reducible refine (eqIntS_any _ _ u0.length cgi3 _ _ u0.length cgs1 Agi3 Ags1 u0 u0 _ HGi3.out (by omega) hul0 HGs1_303.out (by omega) hul0).mono ?_)
          rintro e w37 ⟨rfl, hbt⟩
          rw [beq_self_eq_true]
          have hz37 := hbt.size
          have HB_305 := Lib.hid (up HB_300.out hbt)
          have HX0_306 := Lib.hid (HX0_301.out.below hbt (by omega))
          have HX1_307 := Lib.hid (HX1_302.out.below hbt (by omega))
          have HGs1_308 := Lib.hid (HGs1_303.out.keep hbt (by omega))
          have HQ_309 := Lib.hid (HQ_304.out.keep hbt (by omega))
          have HGi3_310 := Lib.hid (HGi3.out.keep hbt (by omega))
          clear HB_300 HX0_301 HX1_302 HGs1_303 HQ_304 HGi3
          clear hbt
          clear HGi3_310
          go_wp2_with (fail)
          (with_reducible refine (heldIntS_any _ _ u0.length cgi2 Agi2 1 _ HQ_309.out hul0 (by omega) (by omega)).mono ?_)
          rintro e wz ⟨rfl, rfl⟩
          go_wp2
          go_ret
          exact ⟨rfl, HB_305.out⟩
end Go.Proofs.Ytmhbfdcikdhehaa
