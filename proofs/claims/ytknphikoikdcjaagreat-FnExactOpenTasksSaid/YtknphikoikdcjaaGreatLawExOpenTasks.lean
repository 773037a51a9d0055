/- The law FnExactOpenTasks, walked: it returns true. (Written by gen/exgen3.py.) -/
import Derived.Test.YtknphikoikdcjaaGreatExProc
import Derived.Test.YtknphikoikdcjaaGreatExInt
import Derived.Test.YtknphikoikdcjaaGreatRunG
import Derived.Test.YtknphikoikdcjaaGreatExInst
import Derived.Test.YtknphikoikdcjaaGreatExInstM
import Derived.Deep.RegionHeld3
set_option linter.unusedSimpArgs false
set_option linter.unusedVariables false
namespace Go.Proofs.YtknphikoikdcjaaGreat
open Go.RowKit

set_option maxRecDepth 100000 in
set_option maxHeartbeats 12800000 in
theorem exOpenTasks_any (nn0 cn0 n0 c0 : Nat) (An0 A0 : Option Addr) (ns0 : List (Int × Int)) (fs0 : List Flw) (w : World) (hnn0 : nn0 ≤ 9223372036854775807) (hn0 : n0 ≤ 9223372036854775807) (hrn0 : Rd w 0 w.heap.size 2 An0 nn0 (pvs ns0)) (hr0 : FlsU w 0 w.heap.size A0 n0 fs0) (nm1 cm1 nv1 cv1 nt1 ct1 : Nat) (Am1 Av1 At1 : Option Addr) (cl1 : Int) (ms1 vs1 : List Int) (ts1 : List (Int × Int)) (hnm1 : nm1 ≤ 9223372036854775807) (hnv1 : nv1 ≤ 9223372036854775807) (hnt1 : nt1 ≤ 9223372036854775807) (hrm1 : Rd w 0 w.heap.size 1 Am1 nm1 (ivs ms1)) (hrv1 : Rd w 0 w.heap.size 1 Av1 nv1 (ivs vs1)) (hrt1 : Rd w 0 w.heap.size 2 At1 nt1 (pvs ts1)) :
    Calls Tryz.prog 5 #[.agg #[.slice An0 nn0 cn0, .slice A0 n0 c0], .agg #[.slice Am1 nm1 cm1, .slice Av1 nv1 cv1, .int .i64 cl1, .slice At1 nt1 ct1]] w fun e w' => e = .returned (.bool true) ∧ Below w.heap.size w w' := by
  have hb0 := up_alloc (up_alloc (Below.refl _ w) (.cells #[.slice An0 nn0 cn0, .slice A0 n0 c0] 25)) (.cells #[.slice Am1 nm1 cm1, .slice Av1 nv1 cv1, .int .i64 cl1, .slice At1 nt1 ct1] 29)
  have hx0 : Blk ((w.alloc (.cells #[.slice An0 nn0 cn0, .slice A0 n0 c0] 25)).alloc (.cells #[.slice Am1 nm1 cm1, .slice Av1 nv1 cv1, .int .i64 cl1, .slice At1 nt1 ct1] 29)) (w.heap.size) 25 #[.slice An0 nn0 cn0, .slice A0 n0 c0] := by simpa using ((Blk.new w 25 #[.slice An0 nn0 cn0, .slice A0 n0 c0]).alloc (.cells #[.slice Am1 nm1 cm1, .slice Av1 nv1 cv1, .int .i64 cl1, .slice At1 nt1 ct1] 29))
  have HX0 := Lib.hid hx0
  clear hx0
  have hx1 : Blk ((w.alloc (.cells #[.slice An0 nn0 cn0, .slice A0 n0 c0] 25)).alloc (.cells #[.slice Am1 nm1 cm1, .slice Av1 nv1 cv1, .int .i64 cl1, .slice At1 nt1 ct1] 29)) (w.heap.size + 1) 29 #[.slice Am1 nm1 cm1, .slice Av1 nv1 cv1, .int .i64 cl1, .slice At1 nt1 ct1] := by simpa using (Blk.new (w.alloc (.cells #[.slice An0 nn0 cn0, .slice A0 n0 c0] 25)) 29 #[.slice Am1 nm1 cm1, .slice Av1 nv1 cv1, .int .i64 cl1, .slice At1 nt1 ct1])
  have HX1 := Lib.hid hx1
  clear hx1
  have hzw : ((w.alloc (.cells #[.slice An0 nn0 cn0, .slice A0 n0 c0] 25)).alloc (.cells #[.slice Am1 nm1 cm1, .slice Av1 nv1 cv1, .int .i64 cl1, .slice At1 nt1 ct1] 29)).heap.size = w.heap.size + 1 + 1 := by simp
  have hz0 : w.heap.size + 1 + 1 ≤ ((w.alloc (.cells #[.slice An0 nn0 cn0, .slice A0 n0 c0] 25)).alloc (.cells #[.slice Am1 nm1 cm1, .slice Av1 nv1 cv1, .int .i64 cl1, .slice At1 nt1 ct1] 29)).heap.size := by omega
  clear hzw
  have HLN0 := Lib.hid hrn0.len2
  have HLF0 := Lib.hid hr0.1
  have HRN0 := Lib.hid hrn0
  have HR0 := Lib.hid hr0
  clear hrn0 hr0
  have HXM1 := Lib.hid hrm1
  have HXV1 := Lib.hid hrv1
  have HXT1 := Lib.hid hrt1
  clear hrm1 hrv1 hrt1
  have HB0 := Lib.hid hb0
  clear hb0
  go_enter Tryz.func5, Tryz.ntmps5
  have k_1 : ((w.alloc (.cells #[.slice An0 nn0 cn0, .slice A0 n0 c0] 25)).alloc (.cells #[.slice Am1 nm1 cm1, .slice Av1 nv1 cv1, .int .i64 cl1, .slice At1 nt1 ct1] 29)).cell? ⟨w.heap.size, 0, none⟩ = some (.slice An0 nn0 cn0) := HX0.out.cell 0
  have k_2 : ((w.alloc (.cells #[.slice An0 nn0 cn0, .slice A0 n0 c0] 25)).alloc (.cells #[.slice Am1 nm1 cm1, .slice Av1 nv1 cv1, .int .i64 cl1, .slice At1 nt1 ct1] 29)).cell? ⟨w.heap.size, 1, none⟩ = some (.slice A0 n0 c0) := HX0.out.cell 1
  go_wp2_with (fail)
  (with_reducible refine (szProcess_any 0 w.heap.size nn0 cn0 An0 ns0 0 w.heap.size n0 c0 A0 fs0 1048576 _ (HRN0.out.keep HB0.out (Nat.le_refl _)) HB0.out.size hnn0 (HR0.out.keep HB0.out (Nat.le_refl _)) HB0.out.size hn0 (by omega) (by omega)).mono ?_)
  rintro e w1 ⟨hbt, he⟩
  have hz1 : ((w.alloc (.cells #[.slice An0 nn0 cn0, .slice A0 n0 c0] 25)).alloc (.cells #[.slice Am1 nm1 cm1, .slice Av1 nv1 cv1, .int .i64 cl1, .slice At1 nt1 ct1] 29)).heap.size ≤ w1.heap.size := hbt.size
  clear k_1 k_2
  have HB_3 := Lib.hid (up HB0.out hbt)
  have HX0_4 := Lib.hid (HX0.out.below hbt (by omega))
  have HX1_5 := Lib.hid (HX1.out.below hbt (by omega))
  clear HB0 HX0 HX1
  clear hbt
  rcases he with rfl | ⟨r0, rfl, q00, q01, q02, q03, q04⟩
  · go_wp2
    go_ret
    exact ⟨rfl, HB_3.out⟩
  have hz1' : w.heap.size + 1 + 1 ≤ w1.heap.size := by omega
  clear hz0 hz1
  have HS0 := Lib.hid (HR0.out.small q04)
  clear q04 HR0
  have hnn1_0 : ns0.length ≤ 1048576 := by rw [HLN0.out]; exact q02
  have hfl1_0 : fs0.length ≤ 1048576 := by rw [HLF0.out]; exact q03
  have k_6 : w1.cell? ⟨w.heap.size + 1, 0, none⟩ = some (.slice Am1 nm1 cm1) := HX1_5.out.cell 0
  have k_7 : w1.cell? ⟨w.heap.size + 1, 1, none⟩ = some (.slice Av1 nv1 cv1) := HX1_5.out.cell 1
  have k_8 : w1.cell? ⟨w.heap.size + 1, 2, none⟩ = some (.int .i64 cl1) := HX1_5.out.cell 2
  have k_9 : w1.cell? ⟨w.heap.size + 1, 3, none⟩ = some (.slice At1 nt1 ct1) := HX1_5.out.cell 3
  go_wp2_with (fail)
  (with_reducible refine (szInstance_any nm1 cm1 nv1 cv1 nt1 ct1 Am1 Av1 At1 cl1 r0 _ hnm1 hnv1 hnt1 (by omega) (by omega)).mono ?_)
  rintro e w2 ⟨hbt, he⟩
  have hz2 : w1.heap.size ≤ w2.heap.size := hbt.size
  clear k_6 k_7 k_8 k_9
  have HB_10 := Lib.hid (up HB_3.out hbt)
  have HX0_11 := Lib.hid (HX0_4.out.below hbt (by omega))
  have HX1_12 := Lib.hid (HX1_5.out.below hbt (by omega))
  clear HB_3 HX0_4 HX1_5
  clear hbt
  rcases he with rfl | ⟨r1, rfl, q10, q11, q12, q13, q14⟩
  · go_wp2
    go_ret
    exact ⟨rfl, HB_10.out⟩
  have hul0 : (tasksOf ns0 fs0 ms1 vs1 cl1 ts1).length ≤ 1048576 := Nat.le_trans (tasksOf_len ns0 fs0 ms1 vs1 cl1 ts1) (by exact hnn1_0)
  generalize hU0 : tasksOf ns0 fs0 ms1 vs1 cl1 ts1 = u0 at hul0
  have HU0 := Lib.hid hU0
  clear hU0
  have HC0 : Hid (∀ wx : World, Below w2.heap.size w2 wx → Calls Tryz.prog 15 #[.agg #[.slice An0 nn0 cn0, .slice A0 n0 c0]] wx (ToProc ns0 fs0 wx)) := fun wx hbx => toProcess_any 0 w.heap.size nn0 cn0 An0 ns0 0 w.heap.size n0 c0 A0 fs0 wx (HRN0.out.keep (up HB_10.out hbx) (Nat.le_refl _)) (up HB_10.out hbx).size q02 (HS0.out.keep (up HB_10.out hbx) (Nat.le_refl _)) (up HB_10.out hbx).size q03
  have HC1 : Hid (∀ wx : World, Below w2.heap.size w2 wx → Calls Tryz.prog 17 #[.agg #[.slice Am1 nm1 cm1, .slice Av1 nv1 cv1, .int .i64 cl1, .slice At1 nt1 ct1]] wx (ToInst ms1 vs1 cl1 ts1 nm1 nv1 nt1 wx)) := fun wx hbx => toInstance_any nm1 cm1 nv1 cv1 nt1 ct1 Am1 Av1 At1 cl1 0 w.heap.size 0 w.heap.size 0 w.heap.size ms1 vs1 ts1 wx (HXM1.out.keep (up HB_10.out hbx) (Nat.le_refl _)) (up HB_10.out hbx).size q12 (HXV1.out.keep (up HB_10.out hbx) (Nat.le_refl _)) (up HB_10.out hbx).size q13 (HXT1.out.keep (up HB_10.out hbx) (Nat.le_refl _)) (up HB_10.out hbx).size q14
  have HSW : Hid (∀ wx : World, Below w2.heap.size w2 wx → wx.cell? ⟨w.heap.size, 0, none⟩ = some (.slice An0 nn0 cn0) ∧ wx.cell? ⟨w.heap.size, 1, none⟩ = some (.slice A0 n0 c0) ∧ wx.cell? ⟨w.heap.size + 1, 0, none⟩ = some (.slice Am1 nm1 cm1) ∧ wx.cell? ⟨w.heap.size + 1, 1, none⟩ = some (.slice Av1 nv1 cv1) ∧ wx.cell? ⟨w.heap.size + 1, 2, none⟩ = some (.int .i64 cl1) ∧ wx.cell? ⟨w.heap.size + 1, 3, none⟩ = some (.slice At1 nt1 ct1)) := fun wx hbx => ⟨(HX0_11.out.below hbx (by omega)).cell 0, (HX0_11.out.below hbx (by omega)).cell 1, (HX1_12.out.below hbx (by omega)).cell 0, (HX1_12.out.below hbx (by omega)).cell 1, (HX1_12.out.below hbx (by omega)).cell 2, (HX1_12.out.below hbx (by omega)).cell 3⟩
  go_wp2
  go_region_held3 (fun w' => w'.cell? ⟨w.heap.size, 0, none⟩ = some (.slice An0 nn0 cn0) ∧ w'.cell? ⟨w.heap.size, 1, none⟩ = some (.slice A0 n0 c0) ∧ w'.cell? ⟨w.heap.size + 1, 0, none⟩ = some (.slice Am1 nm1 cm1) ∧ w'.cell? ⟨w.heap.size + 1, 1, none⟩ = some (.slice Av1 nv1 cv1) ∧ w'.cell? ⟨w.heap.size + 1, 2, none⟩ = some (.int .i64 cl1) ∧ w'.cell? ⟨w.heap.size + 1, 3, none⟩ = some (.slice At1 nt1 ct1))
    (first
      | exact HSW.out _ (Below.refl _ _)
      | exact HSW.out _ (up_drew (Below.refl _ _))
      | exact HSW.out _ hBa0
      | exact HSW.out _ hBa1
      | exact HSW.out _ hBl)
    ((first
      | (go_at_call 15; (with_reducible refine (HC0.out _ (up_drew (Below.refl _ w2))).mono ?_); rintro e w3 ⟨Ana0, cna0, Bfa0, dfa0, mida0, rfl, hNa0, hMa0, hlta0, hmta0, hFa0, hbta0⟩; have hBa0 := up (up_drew (Below.refl _ w2)) hbta0; have hz3 : w2.heap.size ≤ w3.heap.size := hbta0.size; have hlua0 : w2.heap.size ≤ mida0 := hlta0)
      | (go_at_call 17; (with_reducible refine (HC1.out _ hBa0).mono ?_); rintro e w4 ⟨Axa1, cxa1, Aya1, cya1, Aza1, cza1, mxa1, mya1, rfl, ⟨hcaa1, hcba1, hcda1⟩, ⟨hmaa1, hmba1, hmca1⟩, ⟨hAa1, haa1⟩, ⟨hCa1, hca1⟩, ⟨hDa1, hda1⟩, hbta1⟩; have hBa1 := up hBa0 hbta1; have hz4 : w3.heap.size ≤ w4.heap.size := hbta1.size; have Na0_a1 := hNa0.keep hbta1 (by omega); have Fa0_a1 := hFa0.keep hbta1 (by omega) (by omega))
      | (go_at_call 28; (with_reducible refine (OpenTasksS_any w2.drew.heap.size mida0 ns0.length cna0 Ana0 ns0 mida0 w3.heap.size fs0.length dfa0 Bfa0 fs0 w3.heap.size mxa1 nm1 cxa1 Axa1 ms1 mxa1 mya1 nv1 cya1 Aya1 vs1 cl1 mya1 w4.heap.size nt1 cza1 Aza1 ts1 _ Na0_a1 (by omega) hnn1_0 (Fa0_a1.fls (by omega) (by omega)) (by omega) hfl1_0 hAa1 (by omega) q12 hCa1 (by omega) q13 hDa1 (by omega) q14).mono ?_); rw [HU0.out]; rintro e w5 ⟨Ags1, cgs1, rfl, _, hGs1, hHs1, hbts1⟩; have hBl := up hBa1 hbts1; have hz5 : w4.heap.size ≤ w5.heap.size := hbts1.size)))
  all_goals
    clear HSW HC0 HC1
    have HB_13 := Lib.hid (up HB_10.out hBl)
    have HX0_14 := Lib.hid (HX0_11.out.below hBl (by omega))
    have HX1_15 := Lib.hid (HX1_12.out.below hBl (by omega))
    clear HB_10 HX0_11 HX1_12
    have HGs1 := Lib.hid hGs1
    have HHs1 := Lib.hid hHs1
    clear hGs1 hHs1
    clear hAa1 hCa1 hDa1
    clear HHs1
    have k_16 : w5.cell? ⟨w.heap.size, 0, none⟩ = some (.slice An0 nn0 cn0) := HX0_14.out.cell 0
    have k_17 : w5.cell? ⟨w.heap.size, 1, none⟩ = some (.slice A0 n0 c0) := HX0_14.out.cell 1
    go_wp2_with (fail)
    (with_reducible refine (toProcess_any 0 w.heap.size nn0 cn0 An0 ns0 0 w.heap.size n0 c0 A0 fs0 _ (HRN0.out.keep HB_13.out (Nat.le_refl _)) HB_13.out.size q02 (HS0.out.keep HB_13.out (Nat.le_refl _)) HB_13.out.size q03).mono ?_)
    rintro e w6 ⟨Anb0, cnb0, Bfb0, dfb0, midb0, rfl, hNb0, hMb0, hltb0, hmtb0, hFb0, hbtb0⟩
    have hz6 := hbtb0.size
    clear k_16 k_17
    have HB_18 := Lib.hid (up HB_13.out hbtb0)
    have HX0_19 := Lib.hid (HX0_14.out.below hbtb0 (by omega))
    have HX1_20 := Lib.hid (HX1_15.out.below hbtb0 (by omega))
    have HGs1_21 := Lib.hid (HGs1.out.keep hbtb0 (by omega))
    clear HB_13 HX0_14 HX1_15 HGs1
    have HNb0 := Lib.hid hNb0
    have HMb0 := Lib.hid hMb0
    have HFb0 := Lib.hid hFb0
    clear hNb0 hMb0 hFb0 hbtb0
    have hba := up_alloc (Below.refl _ w6) (.cells #[.slice Anb0 ns0.length cnb0, .slice Bfb0 fs0.length dfb0] 40)
    have hp := Blk.new w6 40 #[.slice Anb0 ns0.length cnb0, .slice Bfb0 fs0.length dfb0]
    have hzz : w6.heap.size + 1 = (w6.alloc (.cells #[.slice Anb0 ns0.length cnb0, .slice Bfb0 fs0.length dfb0] 40)).heap.size := by simp
    generalize hWw7 : (w6.alloc (.cells #[.slice Anb0 ns0.length cnb0, .slice Bfb0 fs0.length dfb0] 40)) = w7 at hba hp hzz
    have hz7 : w6.heap.size + 1 ≤ w7.heap.size := by omega
    clear hzz
    have HB_22 := Lib.hid (up HB_18.out hba)
    have HX0_23 := Lib.hid (HX0_19.out.below hba (by omega))
    have HX1_24 := Lib.hid (HX1_20.out.below hba (by omega))
    have HGs1_25 := Lib.hid (HGs1_21.out.keep hba (by omega))
    have HNb0_26 := Lib.hid (HNb0.out.keep hba (by omega))
    have HMb0_27 := Lib.hid (HMb0.out.kept HNb0.out hba (by omega))
    have HFb0_28 := Lib.hid (HFb0.out.keep hba (by omega) (by omega))
    clear HB_18 HX0_19 HX1_20 HGs1_21 HNb0 HMb0 HFb0
    have HY0 := Lib.hid hp
    clear hba hp
    have HWE0 := Lib.hid hWw7
    clear hWw7
    have k_29 : (w6.alloc (.cells #[.slice Anb0 ns0.length cnb0, .slice Bfb0 fs0.length dfb0] 40)).cell? ⟨w.heap.size + 1, 0, none⟩ = some (.slice Am1 nm1 cm1) := by rw [HWE0.out]; exact HX1_24.out.cell 0
    have k_30 : (w6.alloc (.cells #[.slice Anb0 ns0.length cnb0, .slice Bfb0 fs0.length dfb0] 40)).cell? ⟨w.heap.size + 1, 1, none⟩ = some (.slice Av1 nv1 cv1) := by rw [HWE0.out]; exact HX1_24.out.cell 1
    have k_31 : (w6.alloc (.cells #[.slice Anb0 ns0.length cnb0, .slice Bfb0 fs0.length dfb0] 40)).cell? ⟨w.heap.size + 1, 2, none⟩ = some (.int .i64 cl1) := by rw [HWE0.out]; exact HX1_24.out.cell 2
    have k_32 : (w6.alloc (.cells #[.slice Anb0 ns0.length cnb0, .slice Bfb0 fs0.length dfb0] 40)).cell? ⟨w.heap.size + 1, 3, none⟩ = some (.slice At1 nt1 ct1) := by rw [HWE0.out]; exact HX1_24.out.cell 3
    go_wp2_with (fail)
    rw [HWE0.out]
    (with_reducible refine (toInstance_any nm1 cm1 nv1 cv1 nt1 ct1 Am1 Av1 At1 cl1 0 w.heap.size 0 w.heap.size 0 w.heap.size ms1 vs1 ts1 _ (HXM1.out.keep HB_22.out (Nat.le_refl _)) HB_22.out.size q12 (HXV1.out.keep HB_22.out (Nat.le_refl _)) HB_22.out.size q13 (HXT1.out.keep HB_22.out (Nat.le_refl _)) HB_22.out.size q14).mono ?_)
    rintro e w8 ⟨Axb1, cxb1, Ayb1, cyb1, Azb1, czb1, mxb1, myb1, rfl, ⟨hcab1, hcbb1, hcdb1⟩, ⟨hmab1, hmbb1, hmcb1⟩, ⟨hAb1, hab1⟩, ⟨hCb1, hcb1⟩, ⟨hDb1, hdb1⟩, hbtb1⟩
    clear HWE0
    have hz8 := hbtb1.size
    clear k_29 k_30 k_31 k_32
    have HB_33 := Lib.hid (up HB_22.out hbtb1)
    have HX0_34 := Lib.hid (HX0_23.out.below hbtb1 (by omega))
    have HX1_35 := Lib.hid (HX1_24.out.below hbtb1 (by omega))
    have HGs1_36 := Lib.hid (HGs1_25.out.keep hbtb1 (by omega))
    have HNb0_37 := Lib.hid (HNb0_26.out.keep hbtb1 (by omega))
    have HMb0_38 := Lib.hid (HMb0_27.out.kept HNb0_26.out hbtb1 (by omega))
    have HFb0_39 := Lib.hid (HFb0_28.out.keep hbtb1 (by omega) (by omega))
    have HY0_40 := Lib.hid (HY0.out.below hbtb1 (by omega))
    clear HB_22 HX0_23 HX1_24 HGs1_25 HNb0_26 HMb0_27 HFb0_28 HY0
    have HAb1 := Lib.hid hAb1
    have HSAb1 := Lib.hid hab1
    have HCb1 := Lib.hid hCb1
    have HSCb1 := Lib.hid hcb1
    have HDb1 := Lib.hid hDb1
    have HSDb1 := Lib.hid hdb1
    clear hAb1 hab1 hCb1 hcb1 hDb1 hdb1 hbtb1
    have hba := up_alloc (Below.refl _ w8) (.cells #[.slice Axb1 nm1 cxb1, .slice Ayb1 nv1 cyb1, .int .i64 cl1, .slice Azb1 nt1 czb1] 34)
    have hp := Blk.new w8 34 #[.slice Axb1 nm1 cxb1, .slice Ayb1 nv1 cyb1, .int .i64 cl1, .slice Azb1 nt1 czb1]
    have hzz : w8.heap.size + 1 = (w8.alloc (.cells #[.slice Axb1 nm1 cxb1, .slice Ayb1 nv1 cyb1, .int .i64 cl1, .slice Azb1 nt1 czb1] 34)).heap.size := by simp
    generalize hWw9 : (w8.alloc (.cells #[.slice Axb1 nm1 cxb1, .slice Ayb1 nv1 cyb1, .int .i64 cl1, .slice Azb1 nt1 czb1] 34)) = w9 at hba hp hzz
    have hz9 : w8.heap.size + 1 ≤ w9.heap.size := by omega
    clear hzz
    have HB_41 := Lib.hid (up HB_33.out hba)
    have HX0_42 := Lib.hid (HX0_34.out.below hba (by omega))
    have HX1_43 := Lib.hid (HX1_35.out.below hba (by omega))
    have HGs1_44 := Lib.hid (HGs1_36.out.keep hba (by omega))
    have HNb0_45 := Lib.hid (HNb0_37.out.keep hba (by omega))
    have HMb0_46 := Lib.hid (HMb0_38.out.kept HNb0_37.out hba (by omega))
    have HFb0_47 := Lib.hid (HFb0_39.out.keep hba (by omega) (by omega))
    have HY0_48 := Lib.hid (HY0_40.out.below hba (by omega))
    have HAb1_49 := Lib.hid (HAb1.out.keep hba (by omega))
    have HSAb1_50 := Lib.hid (HSAb1.out.kept HAb1.out hba (by omega))
    have HCb1_51 := Lib.hid (HCb1.out.keep hba (by omega))
    have HSCb1_52 := Lib.hid (HSCb1.out.kept HCb1.out hba (by omega))
    have HDb1_53 := Lib.hid (HDb1.out.keep hba (by omega))
    have HSDb1_54 := Lib.hid (HSDb1.out.kept HDb1.out hba (by omega))
    clear HB_33 HX0_34 HX1_35 HGs1_36 HNb0_37 HMb0_38 HFb0_39 HY0_40 HAb1 HSAb1 HCb1 HSCb1 HDb1 HSDb1
    have HY1 := Lib.hid hp
    clear hba hp
    have HWE1 := Lib.hid hWw9
    clear hWw9
    have k_55 : (w8.alloc (.cells #[.slice Axb1 nm1 cxb1, .slice Ayb1 nv1 cyb1, .int .i64 cl1, .slice Azb1 nt1 czb1] 34)).cell? ⟨w6.heap.size, 0, none⟩ = some (.slice Anb0 ns0.length cnb0) := by rw [HWE1.out]; exact HY0_48.out.cell 0
    have k_56 : (w8.alloc (.cells #[.slice Axb1 nm1 cxb1, .slice Ayb1 nv1 cyb1, .int .i64 cl1, .slice Azb1 nt1 czb1] 34)).cell? ⟨w6.heap.size, 1, none⟩ = some (.slice Bfb0 fs0.length dfb0) := by rw [HWE1.out]; exact HY0_48.out.cell 1
    have k_57 : (w8.alloc (.cells #[.slice Axb1 nm1 cxb1, .slice Ayb1 nv1 cyb1, .int .i64 cl1, .slice Azb1 nt1 czb1] 34)).cell? ⟨w8.heap.size, 0, none⟩ = some (.slice Axb1 nm1 cxb1) := by rw [HWE1.out]; exact HY1.out.cell 0
    have k_58 : (w8.alloc (.cells #[.slice Axb1 nm1 cxb1, .slice Ayb1 nv1 cyb1, .int .i64 cl1, .slice Azb1 nt1 czb1] 34)).cell? ⟨w8.heap.size, 1, none⟩ = some (.slice Ayb1 nv1 cyb1) := by rw [HWE1.out]; exact HY1.out.cell 1
    have k_59 : (w8.alloc (.cells #[.slice Axb1 nm1 cxb1, .slice Ayb1 nv1 cyb1, .int .i64 cl1, .slice Azb1 nt1 czb1] 34)).cell? ⟨w8.heap.size, 2, none⟩ = some (.int .i64 cl1) := by rw [HWE1.out]; exact HY1.out.cell 2
    have k_60 : (w8.alloc (.cells #[.slice Axb1 nm1 cxb1, .slice Ayb1 nv1 cyb1, .int .i64 cl1, .slice Azb1 nt1 czb1] 34)).cell? ⟨w8.heap.size, 3, none⟩ = some (.slice Azb1 nt1 czb1) := by rw [HWE1.out]; exact HY1.out.cell 3
    go_wp2_with (fail)
    rw [HWE1.out]
    (with_reducible refine (OpenTasksI_any w5.heap.size midb0 ns0.length cnb0 Anb0 ns0 midb0 w6.heap.size fs0.length dfb0 Bfb0 fs0 w7.heap.size mxb1 nm1 cxb1 Axb1 ms1 mxb1 myb1 nv1 cyb1 Ayb1 vs1 cl1 myb1 w8.heap.size nt1 czb1 Azb1 ts1 _ HNb0_45.out (by omega) hnn1_0 (HFb0_47.out.fls (by omega) (by omega)) (by omega) hfl1_0 HAb1_49.out (by omega) q12 HCb1_51.out (by omega) q13 HDb1_53.out (by omega) q14).mono ?_)
    rw [HU0.out]
    rintro e w10 ⟨Agi2, cgi2, rfl, _, hGi2, hHi2, hbti2⟩
    clear HWE1
    have hz10 := hbti2.size
    clear k_55 k_56 k_57 k_58 k_59 k_60
    have HB_61 := Lib.hid (up HB_41.out hbti2)
    have HX0_62 := Lib.hid (HX0_42.out.below hbti2 (by omega))
    have HX1_63 := Lib.hid (HX1_43.out.below hbti2 (by omega))
    have HGs1_64 := Lib.hid (HGs1_44.out.keep hbti2 (by omega))
    have HNb0_65 := Lib.hid (HNb0_45.out.keep hbti2 (by omega))
    have HMb0_66 := Lib.hid (HMb0_46.out.kept HNb0_45.out hbti2 (by omega))
    have HFb0_67 := Lib.hid (HFb0_47.out.keep hbti2 (by omega) (by omega))
    have HY0_68 := Lib.hid (HY0_48.out.below hbti2 (by omega))
    have HAb1_69 := Lib.hid (HAb1_49.out.keep hbti2 (by omega))
    have HSAb1_70 := Lib.hid (HSAb1_50.out.kept HAb1_49.out hbti2 (by omega))
    have HCb1_71 := Lib.hid (HCb1_51.out.keep hbti2 (by omega))
    have HSCb1_72 := Lib.hid (HSCb1_52.out.kept HCb1_51.out hbti2 (by omega))
    have HDb1_73 := Lib.hid (HDb1_53.out.keep hbti2 (by omega))
    have HSDb1_74 := Lib.hid (HSDb1_54.out.kept HDb1_53.out hbti2 (by omega))
    have HY1_75 := Lib.hid (HY1.out.below hbti2 (by omega))
    clear HB_41 HX0_42 HX1_43 HGs1_44 HNb0_45 HMb0_46 HFb0_47 HY0_48 HAb1_49 HSAb1_50 HCb1_51 HSCb1_52 HDb1_53 HSDb1_54 HY1
    clear hbti2
    have HGi2 := Lib.hid hGi2
    have HHi2 := Lib.hid hHi2
    clear hGi2 hHi2
    go_wp2_with (fail)
    (with_reducible refine (eqIntS_any _ _ u0.length cgi2 _ _ u0.length cgs1 Agi2 Ags1 u0 u0 _ HGi2.out (by omega) hul0 HGs1_64.out (by omega) hul0).mono ?_)
    rintro e w11 ⟨rfl, hbt⟩
    rw [beq_self_eq_true]
    have hz11 := hbt.size
    have HB_76 := Lib.hid (up HB_61.out hbt)
    have HX0_77 := Lib.hid (HX0_62.out.below hbt (by omega))
    have HX1_78 := Lib.hid (HX1_63.out.below hbt (by omega))
    have HGs1_79 := Lib.hid (HGs1_64.out.keep hbt (by omega))
    have HNb0_80 := Lib.hid (HNb0_65.out.keep hbt (by omega))
    have HMb0_81 := Lib.hid (HMb0_66.out.kept HNb0_65.out hbt (by omega))
    have HFb0_82 := Lib.hid (HFb0_67.out.keep hbt (by omega) (by omega))
    have HY0_83 := Lib.hid (HY0_68.out.below hbt (by omega))
    have HAb1_84 := Lib.hid (HAb1_69.out.keep hbt (by omega))
    have HSAb1_85 := Lib.hid (HSAb1_70.out.kept HAb1_69.out hbt (by omega))
    have HCb1_86 := Lib.hid (HCb1_71.out.keep hbt (by omega))
    have HSCb1_87 := Lib.hid (HSCb1_72.out.kept HCb1_71.out hbt (by omega))
    have HDb1_88 := Lib.hid (HDb1_73.out.keep hbt (by omega))
    have HSDb1_89 := Lib.hid (HSDb1_74.out.kept HDb1_73.out hbt (by omega))
    have HY1_90 := Lib.hid (HY1_75.out.below hbt (by omega))
    have HGi2_91 := Lib.hid (HGi2.out.keep hbt (by omega))
    have HHi2_92 := Lib.hid (HHi2.out.kept HGi2.out hbt (by omega))
    clear HB_61 HX0_62 HX1_63 HGs1_64 HNb0_65 HMb0_66 HFb0_67 HY0_68 HAb1_69 HSAb1_70 HCb1_71 HSCb1_72 HDb1_73 HSDb1_74 HY1_75 HGi2 HHi2
    clear hbt
    have HC : Hid (∀ wx : World, Below w11.heap.size w11 wx → Calls Tryz.prog 15 #[.agg #[.slice An0 nn0 cn0, .slice A0 n0 c0]] wx (ToProc ns0 fs0 wx)) := fun wx hbx => toProcess_any 0 w.heap.size nn0 cn0 An0 ns0 0 w.heap.size n0 c0 A0 fs0 wx (HRN0.out.keep (up HB_76.out hbx) (Nat.le_refl _)) (up HB_76.out hbx).size q02 (HS0.out.keep (up HB_76.out hbx) (Nat.le_refl _)) (up HB_76.out hbx).size q03
    have HSW : Hid (∀ wx : World, Below w11.heap.size w11 wx → wx.cell? ⟨w.heap.size, 0, none⟩ = some (.slice An0 nn0 cn0) ∧ wx.cell? ⟨w.heap.size, 1, none⟩ = some (.slice A0 n0 c0) ∧ wx.cell? ⟨w6.heap.size, 0, none⟩ = some (.slice Anb0 ns0.length cnb0) ∧ wx.cell? ⟨w6.heap.size, 1, none⟩ = some (.slice Bfb0 fs0.length dfb0)) := fun wx hbx => ⟨(HX0_77.out.below hbx (by omega)).cell 0, (HX0_77.out.below hbx (by omega)).cell 1, (HY0_83.out.below hbx (by omega)).cell 0, (HY0_83.out.below hbx (by omega)).cell 1⟩
    go_wp2
    go_region_held3 (fun w' => w'.cell? ⟨w.heap.size, 0, none⟩ = some (.slice An0 nn0 cn0) ∧ w'.cell? ⟨w.heap.size, 1, none⟩ = some (.slice A0 n0 c0) ∧ w'.cell? ⟨w6.heap.size, 0, none⟩ = some (.slice Anb0 ns0.length cnb0) ∧ w'.cell? ⟨w6.heap.size, 1, none⟩ = some (.slice Bfb0 fs0.length dfb0))
      (first | exact HSW.out _ (Below.refl _ _) | exact HSW.out _ (up_drew (Below.refl _ _)) | exact HSW.out _ hB7 | exact HSW.out _ hB8)
      ((first
        | (go_at_call 15; (with_reducible refine (HC.out _ (up_drew (Below.refl _ w11))).mono ?_); rintro e w12 ⟨Anq0, cnq0, Bfq0, dfq0, midq0, rfl, hNq0, hMq0, hltq0, hmtq0, hFq0, hbtq0⟩; have hB7 := up (up_drew (Below.refl _ w11)) hbtq0; have hs7 : w11.heap.size ≤ w12.heap.size := hbtq0.size; have hlu7 : w11.heap.size ≤ midq0 := hltq0)
        | (go_at_call 20; (with_reducible refine (eqProcess_same w5.heap.size midb0 ns0.length cnb0 _ midq0 ns0.length cnq0 Anb0 Anq0 ns0 midb0 w6.heap.size fs0.length dfb0 midq0 w12.heap.size fs0.length dfq0 Bfb0 Bfq0 fs0 w12 (HNb0_80.out.keep hB7 (by omega)) (by omega) hnn1_0 ((HFb0_82.out.fls (by omega) (by omega)).keep hB7 (by omega)) (by omega) hfl1_0 hNq0 (by omega) (hFq0.fls (by omega) hmtq0) (Nat.le_refl _)).mono ?_); rintro e w13 ⟨rfl, hbt8⟩; have hB8 := up hB7 hbt8)))
    all_goals
      have hz13 : w11.heap.size ≤ w13.heap.size := hB8.size
      clear HC HSW hNq0 hMq0 hFq0 hbt8 hbtq0
      have HB_93 := Lib.hid (up HB_76.out hB8)
      have HX0_94 := Lib.hid (HX0_77.out.below hB8 (by omega))
      have HX1_95 := Lib.hid (HX1_78.out.below hB8 (by omega))
      have HGs1_96 := Lib.hid (HGs1_79.out.keep hB8 (by omega))
      have HNb0_97 := Lib.hid (HNb0_80.out.keep hB8 (by omega))
      have HMb0_98 := Lib.hid (HMb0_81.out.kept HNb0_80.out hB8 (by omega))
      have HFb0_99 := Lib.hid (HFb0_82.out.keep hB8 (by omega) (by omega))
      have HY0_100 := Lib.hid (HY0_83.out.below hB8 (by omega))
      have HAb1_101 := Lib.hid (HAb1_84.out.keep hB8 (by omega))
      have HSAb1_102 := Lib.hid (HSAb1_85.out.kept HAb1_84.out hB8 (by omega))
      have HCb1_103 := Lib.hid (HCb1_86.out.keep hB8 (by omega))
      have HSCb1_104 := Lib.hid (HSCb1_87.out.kept HCb1_86.out hB8 (by omega))
      have HDb1_105 := Lib.hid (HDb1_88.out.keep hB8 (by omega))
      have HSDb1_106 := Lib.hid (HSDb1_89.out.kept HDb1_88.out hB8 (by omega))
      have HY1_107 := Lib.hid (HY1_90.out.below hB8 (by omega))
      have HGi2_108 := Lib.hid (HGi2_91.out.keep hB8 (by omega))
      have HHi2_109 := Lib.hid (HHi2_92.out.kept HGi2_91.out hB8 (by omega))
      clear HB_76 HX0_77 HX1_78 HGs1_79 HNb0_80 HMb0_81 HFb0_82 HY0_83 HAb1_84 HSAb1_85 HCb1_86 HSCb1_87 HDb1_88 HSDb1_89 HY1_90 HGi2_91 HHi2_92
      clear hB8 hB7
      have HC : Hid (∀ wx : World, Below w13.heap.size w13 wx → Calls Tryz.prog 17 #[.agg #[.slice Am1 nm1 cm1, .slice Av1 nv1 cv1, .int .i64 cl1, .slice At1 nt1 ct1]] wx (ToInst ms1 vs1 cl1 ts1 nm1 nv1 nt1 wx)) := fun wx hbx => toInstance_any nm1 cm1 nv1 cv1 nt1 ct1 Am1 Av1 At1 cl1 0 w.heap.size 0 w.heap.size 0 w.heap.size ms1 vs1 ts1 wx (HXM1.out.keep (up HB_93.out hbx) (Nat.le_refl _)) (up HB_93.out hbx).size q12 (HXV1.out.keep (up HB_93.out hbx) (Nat.le_refl _)) (up HB_93.out hbx).size q13 (HXT1.out.keep (up HB_93.out hbx) (Nat.le_refl _)) (up HB_93.out hbx).size q14
      have HSW : Hid (∀ wx : World, Below w13.heap.size w13 wx → wx.cell? ⟨w.heap.size + 1, 0, none⟩ = some (.slice Am1 nm1 cm1) ∧ wx.cell? ⟨w.heap.size + 1, 1, none⟩ = some (.slice Av1 nv1 cv1) ∧ wx.cell? ⟨w.heap.size + 1, 2, none⟩ = some (.int .i64 cl1) ∧ wx.cell? ⟨w.heap.size + 1, 3, none⟩ = some (.slice At1 nt1 ct1) ∧ wx.cell? ⟨w8.heap.size, 0, none⟩ = some (.slice Axb1 nm1 cxb1) ∧ wx.cell? ⟨w8.heap.size, 1, none⟩ = some (.slice Ayb1 nv1 cyb1) ∧ wx.cell? ⟨w8.heap.size, 2, none⟩ = some (.int .i64 cl1) ∧ wx.cell? ⟨w8.heap.size, 3, none⟩ = some (.slice Azb1 nt1 czb1)) := fun wx hbx => ⟨(HX1_95.out.below hbx (by omega)).cell 0, (HX1_95.out.below hbx (by omega)).cell 1, (HX1_95.out.below hbx (by omega)).cell 2, (HX1_95.out.below hbx (by omega)).cell 3, (HY1_107.out.below hbx (by omega)).cell 0, (HY1_107.out.below hbx (by omega)).cell 1, (HY1_107.out.below hbx (by omega)).cell 2, (HY1_107.out.below hbx (by omega)).cell 3⟩
      go_wp2
      go_region_held3 (fun w' => w'.cell? ⟨w.heap.size + 1, 0, none⟩ = some (.slice Am1 nm1 cm1) ∧ w'.cell? ⟨w.heap.size + 1, 1, none⟩ = some (.slice Av1 nv1 cv1) ∧ w'.cell? ⟨w.heap.size + 1, 2, none⟩ = some (.int .i64 cl1) ∧ w'.cell? ⟨w.heap.size + 1, 3, none⟩ = some (.slice At1 nt1 ct1) ∧ w'.cell? ⟨w8.heap.size, 0, none⟩ = some (.slice Axb1 nm1 cxb1) ∧ w'.cell? ⟨w8.heap.size, 1, none⟩ = some (.slice Ayb1 nv1 cyb1) ∧ w'.cell? ⟨w8.heap.size, 2, none⟩ = some (.int .i64 cl1) ∧ w'.cell? ⟨w8.heap.size, 3, none⟩ = some (.slice Azb1 nt1 czb1))
        (first | exact HSW.out _ (Below.refl _ _) | exact HSW.out _ (up_drew (Below.refl _ _)) | exact HSW.out _ hB7 | exact HSW.out _ hB8)
        ((first
          | (go_at_call 17; (with_reducible refine (HC.out _ (up_drew (Below.refl _ w13))).mono ?_); rintro e w14 ⟨Axq1, cxq1, Ayq1, cyq1, Azq1, czq1, mxq1, myq1, rfl, ⟨hcaq1, hcbq1, hcdq1⟩, ⟨hmaq1, hmbq1, hmcq1⟩, ⟨hAq1, haq1⟩, ⟨hCq1, hcq1⟩, ⟨hDq1, hdq1⟩, hbtq1⟩; have hB7 := up (up_drew (Below.refl _ w13)) hbtq1; have hs7 : w13.heap.size ≤ w14.heap.size := hbtq1.size)
          | (go_at_call 19; (with_reducible refine (eqInstance_same nm1 nv1 nt1 cxb1 cyb1 czb1 cxq1 cyq1 czq1 Axb1 Ayb1 Azb1 Axq1 Ayq1 Azq1 cl1 w7.heap.size mxb1 mxb1 myb1 myb1 w8.heap.size _ mxq1 mxq1 myq1 myq1 w14.heap.size ms1 vs1 ts1 w14 (HAb1_101.out.keep hB7 (by omega)) (by omega) q12 (HCb1_103.out.keep hB7 (by omega)) (by omega) q13 (HDb1_105.out.keep hB7 (by omega)) (by omega) q14 hAq1 (by omega) hCq1 (by omega) hDq1 (by omega)).mono ?_); rintro e w15 ⟨rfl, hbt8⟩; have hB8 := up hB7 hbt8)))
      all_goals
        have hz15 : w13.heap.size ≤ w15.heap.size := hB8.size
        clear HC HSW hAq1 haq1 hCq1 hcq1 hDq1 hdq1 hbt8 hbtq1
        have HB_110 := Lib.hid (up HB_93.out hB8)
        have HX0_111 := Lib.hid (HX0_94.out.below hB8 (by omega))
        have HX1_112 := Lib.hid (HX1_95.out.below hB8 (by omega))
        have HGs1_113 := Lib.hid (HGs1_96.out.keep hB8 (by omega))
        have HNb0_114 := Lib.hid (HNb0_97.out.keep hB8 (by omega))
        have HMb0_115 := Lib.hid (HMb0_98.out.kept HNb0_97.out hB8 (by omega))
        have HFb0_116 := Lib.hid (HFb0_99.out.keep hB8 (by omega) (by omega))
        have HY0_117 := Lib.hid (HY0_100.out.below hB8 (by omega))
        have HAb1_118 := Lib.hid (HAb1_101.out.keep hB8 (by omega))
        have HSAb1_119 := Lib.hid (HSAb1_102.out.kept HAb1_101.out hB8 (by omega))
        have HCb1_120 := Lib.hid (HCb1_103.out.keep hB8 (by omega))
        have HSCb1_121 := Lib.hid (HSCb1_104.out.kept HCb1_103.out hB8 (by omega))
        have HDb1_122 := Lib.hid (HDb1_105.out.keep hB8 (by omega))
        have HSDb1_123 := Lib.hid (HSDb1_106.out.kept HDb1_105.out hB8 (by omega))
        have HY1_124 := Lib.hid (HY1_107.out.below hB8 (by omega))
        have HGi2_125 := Lib.hid (HGi2_108.out.keep hB8 (by omega))
        have HHi2_126 := Lib.hid (HHi2_109.out.kept HGi2_108.out hB8 (by omega))
        clear HB_93 HX0_94 HX1_95 HGs1_96 HNb0_97 HMb0_98 HFb0_99 HY0_100 HAb1_101 HSAb1_102 HCb1_103 HSCb1_104 HDb1_105 HSDb1_106 HY1_107 HGi2_108 HHi2_109
        clear hB8 hB7
        have k_127 : w15.cell? ⟨w6.heap.size, 0, none⟩ = some (.slice Anb0 ns0.length cnb0) := HY0_117.out.cell 0
        have k_128 : w15.cell? ⟨w6.heap.size, 1, none⟩ = some (.slice Bfb0 fs0.length dfb0) := HY0_117.out.cell 1
        go_wp2_with (fail)
        (with_reducible refine (markProcess_from (1) (by omega) (by omega) w5.heap.size midb0 w6.heap.size ns0.length cnb0 fs0.length dfb0 Anb0 Bfb0 ns0 fs0 _ HNb0_114.out HMb0_115.out hnn1_0 HFb0_116.out (by omega) (by omega) (by omega) hfl1_0).mono ?_)
        rintro e w17 ⟨rk0, w16, rfl, hrk0, hrl0, hbt, hwt⟩
        clear k_127 k_128
        have hz16 := hbt.size
        have hz17 := hwt.size
        clear HMb0_115
        clear HFb0_116
        clear HNb0_114
        clear HY0_117
        have HB_129 := Lib.hid (up HB_110.out hbt)
        have HX0_130 := Lib.hid (HX0_111.out.below hbt (by omega))
        have HX1_131 := Lib.hid (HX1_112.out.below hbt (by omega))
        have HGs1_132 := Lib.hid (HGs1_113.out.keep hbt (by omega))
        have HAb1_133 := Lib.hid (HAb1_118.out.keep hbt (by omega))
        have HSAb1_134 := Lib.hid (HSAb1_119.out.kept HAb1_118.out hbt (by omega))
        have HCb1_135 := Lib.hid (HCb1_120.out.keep hbt (by omega))
        have HSCb1_136 := Lib.hid (HSCb1_121.out.kept HCb1_120.out hbt (by omega))
        have HDb1_137 := Lib.hid (HDb1_122.out.keep hbt (by omega))
        have HSDb1_138 := Lib.hid (HSDb1_123.out.kept HDb1_122.out hbt (by omega))
        have HY1_139 := Lib.hid (HY1_124.out.below hbt (by omega))
        have HGi2_140 := Lib.hid (HGi2_125.out.keep hbt (by omega))
        have HHi2_141 := Lib.hid (HHi2_126.out.kept HGi2_125.out hbt (by omega))
        clear HB_110 HX0_111 HX1_112 HGs1_113 HAb1_118 HSAb1_119 HCb1_120 HSCb1_121 HDb1_122 HSDb1_123 HY1_124 HGi2_125 HHi2_126
        have HB_142 := Lib.hid (Within.below HB_129.out hwt (by omega))
        have HX0_143 := Lib.hid (show Blk w17 (w.heap.size) 25 #[.slice An0 nn0 cn0, .slice A0 n0 c0] from (hwt.block (w.heap.size) (by omega) (by omega)).trans HX0_130.out)
        have HX1_144 := Lib.hid (show Blk w17 (w.heap.size + 1) 29 #[.slice Am1 nm1 cm1, .slice Av1 nv1 cv1, .int .i64 cl1, .slice At1 nt1 ct1] from (hwt.block (w.heap.size + 1) (by omega) (by omega)).trans HX1_131.out)
        have HGs1_145 := Lib.hid (HGs1_132.out.within hwt (by omega) (by omega))
        have HAb1_146 := Lib.hid (HAb1_133.out.within hwt (by omega) (by omega))
        have HSAb1_147 := Lib.hid (HSAb1_134.out.within HAb1_133.out hwt (by omega) (by omega))
        have HCb1_148 := Lib.hid (HCb1_135.out.within hwt (by omega) (by omega))
        have HSCb1_149 := Lib.hid (HSCb1_136.out.within HCb1_135.out hwt (by omega) (by omega))
        have HDb1_150 := Lib.hid (HDb1_137.out.within hwt (by omega) (by omega))
        have HSDb1_151 := Lib.hid (HSDb1_138.out.within HDb1_137.out hwt (by omega) (by omega))
        have HY1_152 := Lib.hid (show Blk w17 (w8.heap.size) 34 #[.slice Axb1 nm1 cxb1, .slice Ayb1 nv1 cyb1, .int .i64 cl1, .slice Azb1 nt1 czb1] from (hwt.block (w8.heap.size) (by omega) (by omega)).trans HY1_139.out)
        have HGi2_153 := Lib.hid (HGi2_140.out.within hwt (by omega) (by omega))
        have HHi2_154 := Lib.hid (HHi2_141.out.within HGi2_140.out hwt (by omega) (by omega))
        clear HB_129 HX0_130 HX1_131 HGs1_132 HAb1_133 HSAb1_134 HCb1_135 HSCb1_136 HDb1_137 HSDb1_138 HY1_139 HGi2_140 HHi2_141
        clear hbt hwt
        have k_155 : w17.cell? ⟨w8.heap.size, 0, none⟩ = some (.slice Axb1 nm1 cxb1) := HY1_152.out.cell 0
        have k_156 : w17.cell? ⟨w8.heap.size, 1, none⟩ = some (.slice Ayb1 nv1 cyb1) := HY1_152.out.cell 1
        have k_157 : w17.cell? ⟨w8.heap.size, 2, none⟩ = some (.int .i64 cl1) := HY1_152.out.cell 2
        have k_158 : w17.cell? ⟨w8.heap.size, 3, none⟩ = some (.slice Azb1 nt1 czb1) := HY1_152.out.cell 3
        go_wp2_with (fail)
        (with_reducible refine (markInstance_from (rk0) (by omega) (by omega) w7.heap.size mxb1 myb1 w8.heap.size nm1 cxb1 nv1 cyb1 nt1 czb1 Axb1 Ayb1 Azb1 cl1 ms1 vs1 ts1 _ HAb1_146.out HSAb1_147.out q12 HCb1_148.out HSCb1_149.out q13 HDb1_150.out HSDb1_151.out q14 (by omega) (by omega) (by omega) (by omega)).mono ?_)
        rintro e w19 ⟨rk1, w18, rfl, hrk1, hrl1, hbt, hwt⟩
        clear k_155 k_156 k_157 k_158
        have hz18 := hbt.size
        have hz19 := hwt.size
        clear HSAb1_147
        clear HAb1_146
        clear HSCb1_149
        clear HCb1_148
        clear HSDb1_151
        clear HDb1_150
        clear HY1_152
        have HB_159 := Lib.hid (up HB_142.out hbt)
        have HX0_160 := Lib.hid (HX0_143.out.below hbt (by omega))
        have HX1_161 := Lib.hid (HX1_144.out.below hbt (by omega))
        have HGs1_162 := Lib.hid (HGs1_145.out.keep hbt (by omega))
        have HGi2_163 := Lib.hid (HGi2_153.out.keep hbt (by omega))
        have HHi2_164 := Lib.hid (HHi2_154.out.kept HGi2_153.out hbt (by omega))
        clear HB_142 HX0_143 HX1_144 HGs1_145 HGi2_153 HHi2_154
        have HB_165 := Lib.hid (Within.below HB_159.out hwt (by omega))
        have HX0_166 := Lib.hid (show Blk w19 (w.heap.size) 25 #[.slice An0 nn0 cn0, .slice A0 n0 c0] from (hwt.block (w.heap.size) (by omega) (by omega)).trans HX0_160.out)
        have HX1_167 := Lib.hid (show Blk w19 (w.heap.size + 1) 29 #[.slice Am1 nm1 cm1, .slice Av1 nv1 cv1, .int .i64 cl1, .slice At1 nt1 ct1] from (hwt.block (w.heap.size + 1) (by omega) (by omega)).trans HX1_161.out)
        have HGs1_168 := Lib.hid (HGs1_162.out.within hwt (by omega) (by omega))
        have HGi2_169 := Lib.hid (HGi2_163.out.within hwt (by omega) (by omega))
        have HHi2_170 := Lib.hid (HHi2_164.out.within HGi2_163.out hwt (by omega) (by omega))
        clear HB_159 HX0_160 HX1_161 HGs1_162 HGi2_163 HHi2_164
        clear hbt hwt
        have hrkn : 0 ≤ rk1 := by omega
        have hrkd : decide (rk1 < 0) = false := decide_eq_false (by omega)
        go_wp2_with (fail)
        (with_reducible refine (eqIntS_any _ _ u0.length cgi2 _ _ u0.length cgs1 Agi2 Ags1 u0 u0 _ HGi2_169.out (by omega) hul0 HGs1_168.out (by omega) hul0).mono ?_)
        rintro e w20 ⟨rfl, hbt⟩
        rw [beq_self_eq_true]
        have hz20 := hbt.size
        have HB_171 := Lib.hid (up HB_165.out hbt)
        have HX0_172 := Lib.hid (HX0_166.out.below hbt (by omega))
        have HX1_173 := Lib.hid (HX1_167.out.below hbt (by omega))
        have HGs1_174 := Lib.hid (HGs1_168.out.keep hbt (by omega))
        have HGi2_175 := Lib.hid (HGi2_169.out.keep hbt (by omega))
        have HHi2_176 := Lib.hid (HHi2_170.out.kept HGi2_169.out hbt (by omega))
        clear HB_165 HX0_166 HX1_167 HGs1_168 HGi2_169 HHi2_170
        clear hbt
        go_wp2_with (fail)
        (with_reducible refine (markIntS_any _ _ u0.length cgi2 Agi2 _ 1 _ HGi2_175.out HHi2_176.out hul0 (by omega) (by omega)).mono ?_)
        rintro e w21 ⟨rfl, hrg, _, hin⟩
        have hwt := Within.grown hin (in_row HGi2_175.out)
        have hz21 := hwt.size
        clear HHi2_176
        clear HGi2_175
        have HB_177 := Lib.hid (Within.below HB_171.out hwt (by omega))
        have HX0_178 := Lib.hid (show Blk w21 (w.heap.size) 25 #[.slice An0 nn0 cn0, .slice A0 n0 c0] from (hwt.block (w.heap.size) (by omega) (by omega)).trans HX0_172.out)
        have HX1_179 := Lib.hid (show Blk w21 (w.heap.size + 1) 29 #[.slice Am1 nm1 cm1, .slice Av1 nv1 cv1, .int .i64 cl1, .slice At1 nt1 ct1] from (hwt.block (w.heap.size + 1) (by omega) (by omega)).trans HX1_173.out)
        have HGs1_180 := Lib.hid (HGs1_174.out.within hwt (by omega) (by omega))
        clear HB_171 HX0_172 HX1_173 HGs1_174
        have HQ := Lib.hid hrg
        clear hin hwt hrg
        go_wp2_with (fail)
        (with_reducible refine (heldIntS_any _ _ u0.length cgi2 Agi2 1 _ HQ.out hul0 (by omega) (by omega)).mono ?_)
        rintro e w22 ⟨rfl, rfl⟩
        have HC0 : Hid (∀ wx : World, Below w21.heap.size w21 wx → Calls Tryz.prog 15 #[.agg #[.slice An0 nn0 cn0, .slice A0 n0 c0]] wx (ToProc ns0 fs0 wx)) := fun wx hbx => toProcess_any 0 w.heap.size nn0 cn0 An0 ns0 0 w.heap.size n0 c0 A0 fs0 wx (HRN0.out.keep (up HB_177.out hbx) (Nat.le_refl _)) (up HB_177.out hbx).size q02 (HS0.out.keep (up HB_177.out hbx) (Nat.le_refl _)) (up HB_177.out hbx).size q03
        have HC1 : Hid (∀ wx : World, Below w21.heap.size w21 wx → Calls Tryz.prog 17 #[.agg #[.slice Am1 nm1 cm1, .slice Av1 nv1 cv1, .int .i64 cl1, .slice At1 nt1 ct1]] wx (ToInst ms1 vs1 cl1 ts1 nm1 nv1 nt1 wx)) := fun wx hbx => toInstance_any nm1 cm1 nv1 cv1 nt1 ct1 Am1 Av1 At1 cl1 0 w.heap.size 0 w.heap.size 0 w.heap.size ms1 vs1 ts1 wx (HXM1.out.keep (up HB_177.out hbx) (Nat.le_refl _)) (up HB_177.out hbx).size q12 (HXV1.out.keep (up HB_177.out hbx) (Nat.le_refl _)) (up HB_177.out hbx).size q13 (HXT1.out.keep (up HB_177.out hbx) (Nat.le_refl _)) (up HB_177.out hbx).size q14
        have HSW : Hid (∀ wx : World, Below w21.heap.size w21 wx → wx.cell? ⟨w.heap.size, 0, none⟩ = some (.slice An0 nn0 cn0) ∧ wx.cell? ⟨w.heap.size, 1, none⟩ = some (.slice A0 n0 c0) ∧ wx.cell? ⟨w.heap.size + 1, 0, none⟩ = some (.slice Am1 nm1 cm1) ∧ wx.cell? ⟨w.heap.size + 1, 1, none⟩ = some (.slice Av1 nv1 cv1) ∧ wx.cell? ⟨w.heap.size + 1, 2, none⟩ = some (.int .i64 cl1) ∧ wx.cell? ⟨w.heap.size + 1, 3, none⟩ = some (.slice At1 nt1 ct1)) := fun wx hbx => ⟨(HX0_178.out.below hbx (by omega)).cell 0, (HX0_178.out.below hbx (by omega)).cell 1, (HX1_179.out.below hbx (by omega)).cell 0, (HX1_179.out.below hbx (by omega)).cell 1, (HX1_179.out.below hbx (by omega)).cell 2, (HX1_179.out.below hbx (by omega)).cell 3⟩
        go_wp2
        go_region_held3 (fun w' => w'.cell? ⟨w.heap.size, 0, none⟩ = some (.slice An0 nn0 cn0) ∧ w'.cell? ⟨w.heap.size, 1, none⟩ = some (.slice A0 n0 c0) ∧ w'.cell? ⟨w.heap.size + 1, 0, none⟩ = some (.slice Am1 nm1 cm1) ∧ w'.cell? ⟨w.heap.size + 1, 1, none⟩ = some (.slice Av1 nv1 cv1) ∧ w'.cell? ⟨w.heap.size + 1, 2, none⟩ = some (.int .i64 cl1) ∧ w'.cell? ⟨w.heap.size + 1, 3, none⟩ = some (.slice At1 nt1 ct1))
          (first
            | exact HSW.out _ (Below.refl _ _)
            | exact HSW.out _ (up_drew (Below.refl _ _))
            | exact HSW.out _ hBd0
            | exact HSW.out _ hBd1
            | exact HSW.out _ hBl)
          ((first
            | (go_at_call 15; (with_reducible refine (HC0.out _ (up_drew (Below.refl _ w21))).mono ?_); rintro e w22 ⟨And0, cnd0, Bfd0, dfd0, midd0, rfl, hNd0, hMd0, hltd0, hmtd0, hFd0, hbtd0⟩; have hBd0 := up (up_drew (Below.refl _ w21)) hbtd0; have hz22 : w21.heap.size ≤ w22.heap.size := hbtd0.size; have hlud0 : w21.heap.size ≤ midd0 := hltd0)
            | (go_at_call 17; (with_reducible refine (HC1.out _ hBd0).mono ?_); rintro e w23 ⟨Axd1, cxd1, Ayd1, cyd1, Azd1, czd1, mxd1, myd1, rfl, ⟨hcad1, hcbd1, hcdd1⟩, ⟨hmad1, hmbd1, hmcd1⟩, ⟨hAd1, had1⟩, ⟨hCd1, hcd1⟩, ⟨hDd1, hdd1⟩, hbtd1⟩; have hBd1 := up hBd0 hbtd1; have hz23 : w22.heap.size ≤ w23.heap.size := hbtd1.size; have Nd0_d1 := hNd0.keep hbtd1 (by omega); have Fd0_d1 := hFd0.keep hbtd1 (by omega) (by omega))
            | (go_at_call 29; (with_reducible refine (OpenTasksI_any w21.drew.heap.size midd0 ns0.length cnd0 And0 ns0 midd0 w22.heap.size fs0.length dfd0 Bfd0 fs0 w22.heap.size mxd1 nm1 cxd1 Axd1 ms1 mxd1 myd1 nv1 cyd1 Ayd1 vs1 cl1 myd1 w23.heap.size nt1 czd1 Azd1 ts1 _ Nd0_d1 (by omega) hnn1_0 (Fd0_d1.fls (by omega) (by omega)) (by omega) hfl1_0 hAd1 (by omega) q12 hCd1 (by omega) q13 hDd1 (by omega) q14).mono ?_); rw [HU0.out]; rintro e w24 ⟨Agi3, cgi3, rfl, _, hGi3, hHi3, hbti3⟩; have hBl := up hBd1 hbti3; have hz24 : w23.heap.size ≤ w24.heap.size := hbti3.size)))
        all_goals
          clear HSW HC0 HC1
          have HB_181 := Lib.hid (up HB_177.out hBl)
          have HX0_182 := Lib.hid (HX0_178.out.below hBl (by omega))
          have HX1_183 := Lib.hid (HX1_179.out.below hBl (by omega))
          have HGs1_184 := Lib.hid (HGs1_180.out.keep hBl (by omega))
          have HQ_185 := Lib.hid (HQ.out.keep hBl (by omega))
          clear HB_177 HX0_178 HX1_179 HGs1_180 HQ
          have HGi3 := Lib.hid hGi3
          have HHi3 := Lib.hid hHi3
          clear hGi3 hHi3
          clear hAd1 hCd1 hDd1
          clear HHi3
          go_wp2_with (fail)
          (with_reducible refine (eqIntS_any _ _ u0.length cgi3 _ _ u0.length cgs1 Agi3 Ags1 u0 u0 _ HGi3.out (by omega) hul0 HGs1_184.out (by omega) hul0).mono ?_)
          rintro e w25 ⟨rfl, hbt⟩
          rw [beq_self_eq_true]
          have hz25 := hbt.size
          have HB_186 := Lib.hid (up HB_181.out hbt)
          have HX0_187 := Lib.hid (HX0_182.out.below hbt (by omega))
          have HX1_188 := Lib.hid (HX1_183.out.below hbt (by omega))
          have HGs1_189 := Lib.hid (HGs1_184.out.keep hbt (by omega))
          have HQ_190 := Lib.hid (HQ_185.out.keep hbt (by omega))
          have HGi3_191 := Lib.hid (HGi3.out.keep hbt (by omega))
          clear HB_181 HX0_182 HX1_183 HGs1_184 HQ_185 HGi3
          clear hbt
          clear HGi3_191
          go_wp2_with (fail)
          (with_reducible refine (heldIntS_any _ _ u0.length cgi2 Agi2 1 _ HQ_190.out hul0 (by omega) (by omega)).mono ?_)
          rintro e wz ⟨rfl, rfl⟩
          go_wp2
          go_ret
          exact ⟨rfl, HB_186.out⟩
end Go.Proofs.YtknphikoikdcjaaGreat
