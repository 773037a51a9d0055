/- The law FnExactNextDue, walked: it returns true. (Written by gen/exgen3.py.) -/
import Derived.Test.YtknphikoikdcjaaExProc
import Derived.Test.YtknphikoikdcjaaExInt
import Derived.Test.YtknphikoikdcjaaRunF
import Derived.Test.YtknphikoikdcjaaRunS
import Derived.Test.YtknphikoikdcjaaExInst
import Derived.Deep.RegionHeld3
set_option linter.unusedSimpArgs false
set_option linter.unusedVariables false
namespace Go.Proofs.Ytknphikoikdcjaa
open Go.RowKit

set_option maxRecDepth 100000 in
set_option maxHeartbeats 12800000 in
theorem exNextDue_any (nn0 cn0 n0 c0 : Nat) (An0 A0 : Option Addr) (ns0 : List (Int × Int)) (fs0 : List Flw) (w : World) (hnn0 : nn0 ≤ 9223372036854775807) (hn0 : n0 ≤ 9223372036854775807) (hrn0 : Rd w 0 w.heap.size 2 An0 nn0 (pvs ns0)) (hr0 : FlsU w 0 w.heap.size A0 n0 fs0) (nm1 cm1 nv1 cv1 nt1 ct1 : Nat) (Am1 Av1 At1 : Option Addr) (cl1 : Int) (ms1 vs1 : List Int) (ts1 : List (Int × Int)) (hnm1 : nm1 ≤ 9223372036854775807) (hnv1 : nv1 ≤ 9223372036854775807) (hnt1 : nt1 ≤ 9223372036854775807) (hrm1 : Rd w 0 w.heap.size 1 Am1 nm1 (ivs ms1)) (hrv1 : Rd w 0 w.heap.size 1 Av1 nv1 (ivs vs1)) (hrt1 : Rd w 0 w.heap.size 2 At1 nt1 (pvs ts1)) :
    Calls Try.prog 5 #[.agg #[.slice An0 nn0 cn0, .slice A0 n0 c0], .agg #[.slice Am1 nm1 cm1, .slice Av1 nv1 cv1, .int .i64 cl1, .slice At1 nt1 ct1]] w fun e w' => e = .returned (.bool true) ∧ Below w.heap.size w w' := by
  have hb0 := up_alloc (up_alloc (Below.refl _ w) (.cells #[.slice An0 nn0 cn0, .slice A0 n0 c0] 25)) (.cells #[.slice Am1 nm1 cm1, .slice Av1 nv1 cv1, .int .i64 cl1, .slice At1 nt1 ct1] 29)
  have hx0 : Blk ((w.alloc (.cells #[.slice An0 nn0 cn0, .slice A0 n0 c0] 25)).alloc (.cells #[.slice Am1 nm1 cm1, .slice Av1 nv1 cv1, .int .i64 cl1, .slice At1 nt1 ct1] 29)) (w.heap.size) 25 #[.slice An0 nn0 cn0, .slice A0 n0 c0] := by simpa using ((Blk.new w 25 #[.slice An0 nn0 cn0, .slice A0 n0 c0]).alloc (.cells #[.slice Am1 nm1 cm1, .slice Av1 nv1 cv1, .int .i64 cl1, .slice At1 nt1 ct1] 29))
  have HX0 := Lib.hid hx0
  clear hx0
  have hx1 : Blk ((w.alloc (.cells #[.slice An0 nn0 cn0, .slice A0 n0 c0] 25)).alloc (.cells #[.slice Am1 nm1 cm1, .slice Av1 nv1 cv1, .int .i64 cl1, .slice At1 nt1 ct1] 29)) (w.heap.size + 1) 29 #[.slice Am1 nm1 cm1, .slice Av1 nv1 cv1, .int .i64 cl1, .slice At1 nt1 ct1] := by simpa using (Blk.new (w.alloc (.cells #[.slice An0 nn0 cn0, .slice A0 n0 c0] 25)) 29 #[.slice Am1 nm1 cm1, .slice Av1 nv1 cv1, .int .i64 cl1, .slice At1 nt1 ct1])
  have HX1 := Lib.hid hx1
  clear hx1
  have hzw : ((w.alloc (.cells #[.slice An0 nn0 cn0, .slice A0 n0 c0] 25)).alloc (.cells #[.slice Am1 nm1 cm1, .slice Av1 nv1 cv1, .int .i64 cl1, .slice At1 nt1 ct1] 29)).heap.size = w.heap.size + 1 + 1 := by simp
  have hz0 : w.heap.size + 1 + 1 ≤ ((w.alloc (.cells #[.slice An0 nn0 cn0, .slice A0 n0 c0] 25)).alloc (.cells #[.slice Am1 nm1 cm1, .slice Av1 nv1 cv1, .int .i64 cl1, .slice At1 nt1 ct1] 29)).heap.size := by omega
  clear hzw
  have HLN0 := Lib.hid hrn0.len2
  have HLF0 := Lib.hid hr0.1
  have HRN0 := Lib.hid hrn0
  have HR0 := Lib.hid hr0
  clear hrn0 hr0
  have HXM1 := Lib.hid hrm1
  have HXV1 := Lib.hid hrv1
  have HXT1 := Lib.hid hrt1
  clear hrm1 hrv1 hrt1
  have HB0 := Lib.hid hb0
  clear hb0
  go_enter Try.func5, Try.ntmps5
  have k_1 : ((w.alloc (.cells #[.slice An0 nn0 cn0, .slice A0 n0 c0] 25)).alloc (.cells #[.slice Am1 nm1 cm1, .slice Av1 nv1 cv1, .int .i64 cl1, .slice At1 nt1 ct1] 29)).cell? ⟨w.heap.size, 0, none⟩ = some (.slice An0 nn0 cn0) := HX0.out.cell 0
  have k_2 : ((w.alloc (.cells #[.slice An0 nn0 cn0, .slice A0 n0 c0] 25)).alloc (.cells #[.slice Am1 nm1 cm1, .slice Av1 nv1 cv1, .int .i64 cl1, .slice At1 nt1 ct1] 29)).cell? ⟨w.heap.size, 1, none⟩ = some (.slice A0 n0 c0) := HX0.out.cell 1
  go_wp2_with (fail)
  (with_reducible refine (szProcess_any 0 w.heap.size nn0 cn0 An0 ns0 0 w.heap.size n0 c0 A0 fs0 1048576 _ (HRN0.out.keep HB0.out (Nat.le_refl _)) HB0.out.size hnn0 (HR0.out.keep HB0.out (Nat.le_refl _)) HB0.out.size hn0 (by omega) (by omega)).mono ?_)
  rintro e w1 ⟨hbt, he⟩
  have hz1 : ((w.alloc (.cells #[.slice An0 nn0 cn0, .slice A0 n0 c0] 25)).alloc (.cells #[.slice Am1 nm1 cm1, .slice Av1 nv1 cv1, .int .i64 cl1, .slice At1 nt1 ct1] 29)).heap.size ≤ w1.heap.size := hbt.size
  clear k_1 k_2
  have HB_3 := Lib.hid (up HB0.out hbt)
  have HX0_4 := Lib.hid (HX0.out.below hbt (by omega))
  have HX1_5 := Lib.hid (HX1.out.below hbt (by omega))
  clear HB0 HX0 HX1
  clear hbt
  rcases he with rfl | ⟨r0, rfl, q00, q01, q02, q03, q04⟩
  · go_wp2
    go_ret
    exact ⟨rfl, HB_3.out⟩
  have hz1' : w.heap.size + 1 + 1 ≤ w1.heap.size := by omega
  clear hz0 hz1
  have HS0 := Lib.hid (HR0.out.small q04)
  clear q04 HR0
  have hnn1_0 : ns0.length ≤ 1048576 := by rw [HLN0.out]; exact q02
  have hfl1_0 : fs0.length ≤ 1048576 := by rw [HLF0.out]; exact q03
  have k_6 : w1.cell? ⟨w.heap.size + 1, 0, none⟩ = some (.slice Am1 nm1 cm1) := HX1_5.out.cell 0
  have k_7 : w1.cell? ⟨w.heap.size + 1, 1, none⟩ = some (.slice Av1 nv1 cv1) := HX1_5.out.cell 1
  have k_8 : w1.cell? ⟨w.heap.size + 1, 2, none⟩ = some (.int .i64 cl1) := HX1_5.out.cell 2
  have k_9 : w1.cell? ⟨w.heap.size + 1, 3, none⟩ = some (.slice At1 nt1 ct1) := HX1_5.out.cell 3
  go_wp2_with (fail)
  (with_reducible refine (szInstance_any nm1 cm1 nv1 cv1 nt1 ct1 Am1 Av1 At1 cl1 r0 _ hnm1 hnv1 hnt1 (by omega) (by omega)).mono ?_)
  rintro e w2 ⟨hbt, he⟩
  have hz2 : w1.heap.size ≤ w2.heap.size := hbt.size
  clear k_6 k_7 k_8 k_9
  have HB_10 := Lib.hid (up HB_3.out hbt)
  have HX0_11 := Lib.hid (HX0_4.out.below hbt (by omega))
  have HX1_12 := Lib.hid (HX1_5.out.below hbt (by omega))
  clear HB_3 HX0_4 HX1_5
  clear hbt
  rcases he with rfl | ⟨r1, rfl, q10, q11, q12, q13, q14⟩
  · go_wp2
    go_ret
    exact ⟨rfl, HB_10.out⟩
  generalize hU0 : dueOf ns0 fs0 ms1 vs1 cl1 ts1 = u0
  have hne0 : (u0 != u0) = false := by simp
  have HU0 := Lib.hid hU0
  clear hU0
  have HC0 : Hid (∀ wx : World, Below w2.heap.size w2 wx → Calls Try.prog 9 #[.agg #[.slice An0 nn0 cn0, .slice A0 n0 c0]] wx (ToProc ns0 fs0 wx)) := fun wx hbx => toProcess_any 0 w.heap.size nn0 cn0 An0 ns0 0 w.heap.size n0 c0 A0 fs0 wx (HRN0.out.keep (up HB_10.out hbx) (Nat.le_refl _)) (up HB_10.out hbx).size q02 (HS0.out.keep (up HB_10.out hbx) (Nat.le_refl _)) (up HB_10.out hbx).size q03
  have HC1 : Hid (∀ wx : World, Below w2.heap.size w2 wx → Calls Try.prog 10 #[.agg #[.slice Am1 nm1 cm1, .slice Av1 nv1 cv1, .int .i64 cl1, .slice At1 nt1 ct1]] wx (ToInst ms1 vs1 cl1 ts1 nm1 nv1 nt1 wx)) := fun wx hbx => toInstance_any nm1 cm1 nv1 cv1 nt1 ct1 Am1 Av1 At1 cl1 0 w.heap.size 0 w.heap.size 0 w.heap.size ms1 vs1 ts1 wx (HXM1.out.keep (up HB_10.out hbx) (Nat.le_refl _)) (up HB_10.out hbx).size q12 (HXV1.out.keep (up HB_10.out hbx) (Nat.le_refl _)) (up HB_10.out hbx).size q13 (HXT1.out.keep (up HB_10.out hbx) (Nat.le_refl _)) (up HB_10.out hbx).size q14
  have HSW : Hid (∀ wx : World, Below w2.heap.size w2 wx → wx.cell? ⟨w.heap.size, 0, none⟩ = some (.slice An0 nn0 cn0) ∧ wx.cell? ⟨w.heap.size, 1, none⟩ = some (.slice A0 n0 c0) ∧ wx.cell? ⟨w.heap.size + 1, 0, none⟩ = some (.slice Am1 nm1 cm1) ∧ wx.cell? ⟨w.heap.size + 1, 1, none⟩ = some (.slice Av1 nv1 cv1) ∧ wx.cell? ⟨w.heap.size + 1, 2, none⟩ = some (.int .i64 cl1) ∧ wx.cell? ⟨w.heap.size + 1, 3, none⟩ = some (.slice At1 nt1 ct1)) := fun wx hbx => ⟨(HX0_11.out.below hbx (by omega)).cell 0, (HX0_11.out.below hbx (by omega)).cell 1, (HX1_12.out.below hbx (by omega)).cell 0, (HX1_12.out.below hbx (by omega)).cell 1, (HX1_12.out.below hbx (by omega)).cell 2, (HX1_12.out.below hbx (by omega)).cell 3⟩
  go_wp2
  go_region_held3 (fun w' => w'.cell? ⟨w.heap.size, 0, none⟩ = some (.slice An0 nn0 cn0) ∧ w'.cell? ⟨w.heap.size, 1, none⟩ = some (.slice A0 n0 c0) ∧ w'.cell? ⟨w.heap.size + 1, 0, none⟩ = some (.slice Am1 nm1 cm1) ∧ w'.cell? ⟨w.heap.size + 1, 1, none⟩ = some (.slice Av1 nv1 cv1) ∧ w'.cell? ⟨w.heap.size + 1, 2, none⟩ = some (.int .i64 cl1) ∧ w'.cell? ⟨w.heap.size + 1, 3, none⟩ = some (.slice At1 nt1 ct1))
    (first
      | exact HSW.out _ (Below.refl _ _)
      | exact HSW.out _ (up_drew (Below.refl _ _))
      | exact HSW.out _ hBa0
      | exact HSW.out _ hBa1
      | exact HSW.out _ hBl)
    ((first
      | (go_at_call 9; (with_reducible refine (HC0.out _ (up_drew (Below.refl _ w2))).mono ?_); rintro e w3 ⟨Ana0, cna0, Bfa0, dfa0, mida0, rfl, hNa0, hMa0, hlta0, hmta0, hFa0, hbta0⟩; have hBa0 := up (up_drew (Below.refl _ w2)) hbta0; have hz3 : w2.heap.size ≤ w3.heap.size := hbta0.size; have hlua0 : w2.heap.size ≤ mida0 := hlta0)
      | (go_at_call 10; (with_reducible refine (HC1.out _ hBa0).mono ?_); rintro e w4 ⟨Axa1, cxa1, Aya1, cya1, Aza1, cza1, mxa1, mya1, rfl, ⟨hcaa1, hcba1, hcda1⟩, ⟨hmaa1, hmba1, hmca1⟩, ⟨hAa1, haa1⟩, ⟨hCa1, hca1⟩, ⟨hDa1, hda1⟩, hbta1⟩; have hBa1 := up hBa0 hbta1; have hz4 : w3.heap.size ≤ w4.heap.size := hbta1.size; have Na0_a1 := hNa0.keep hbta1 (by omega); have Fa0_a1 := hFa0.keep hbta1 (by omega) (by omega))
      | (go_at_call 16; (with_reducible refine (NextDueS_any w2.drew.heap.size mida0 ns0.length cna0 Ana0 ns0 mida0 w3.heap.size fs0.length dfa0 Bfa0 fs0 w3.heap.size mxa1 nm1 cxa1 Axa1 ms1 mxa1 mya1 nv1 cya1 Aya1 vs1 cl1 mya1 w4.heap.size nt1 cza1 Aza1 ts1 _ Na0_a1 (by omega) hnn1_0 (Fa0_a1.fls (by omega) (by omega)) (by omega) hfl1_0 hAa1 (by omega) q12 hCa1 (by omega) q13 hDa1 (by omega) q14).mono ?_); rw [HU0.out]; rintro e w5 ⟨rfl, hbts1⟩; have hBl := up hBa1 hbts1; have hz5 : w4.heap.size ≤ w5.heap.size := hbts1.size)))
  all_goals
    clear HSW HC0 HC1
    have HB_13 := Lib.hid (up HB_10.out hBl)
    have HX0_14 := Lib.hid (HX0_11.out.below hBl (by omega))
    have HX1_15 := Lib.hid (HX1_12.out.below hBl (by omega))
    clear HB_10 HX0_11 HX1_12
    clear hAa1 hCa1 hDa1
    have k_16 : w5.cell? ⟨w.heap.size, 0, none⟩ = some (.slice An0 nn0 cn0) := HX0_14.out.cell 0
    have k_17 : w5.cell? ⟨w.heap.size, 1, none⟩ = some (.slice A0 n0 c0) := HX0_14.out.cell 1
    go_wp2_with (fail)
    (with_reducible refine (toProcess_any 0 w.heap.size nn0 cn0 An0 ns0 0 w.heap.size n0 c0 A0 fs0 _ (HRN0.out.keep HB_13.out (Nat.le_refl _)) HB_13.out.size q02 (HS0.out.keep HB_13.out (Nat.le_refl _)) HB_13.out.size q03).mono ?_)
    rintro e w6 ⟨Anb0, cnb0, Bfb0, dfb0, midb0, rfl, hNb0, hMb0, hltb0, hmtb0, hFb0, hbtb0⟩
    have hz6 := hbtb0.size
    clear k_16 k_17
    have HB_18 := Lib.hid (up HB_13.out hbtb0)
    have HX0_19 := Lib.hid (HX0_14.out.below hbtb0 (by omega))
    have HX1_20 := Lib.hid (HX1_15.out.below hbtb0 (by omega))
    clear HB_13 HX0_14 HX1_15
    have HNb0 := Lib.hid hNb0
    have HMb0 := Lib.hid hMb0
    have HFb0 := Lib.hid hFb0
    clear hNb0 hMb0 hFb0 hbtb0
    have hba := up_alloc (Below.refl _ w6) (.cells #[.slice Anb0 ns0.length cnb0, .slice Bfb0 fs0.length dfb0] 36)
    have hp := Blk.new w6 36 #[.slice Anb0 ns0.length cnb0, .slice Bfb0 fs0.length dfb0]
    have hzz : w6.heap.size + 1 = (w6.alloc (.cells #[.slice Anb0 ns0.length cnb0, .slice Bfb0 fs0.length dfb0] 36)).heap.size := by simp
    generalize hWw7 : (w6.alloc (.cells #[.slice Anb0 ns0.length cnb0, .slice Bfb0 fs0.length dfb0] 36)) = w7 at hba hp hzz
    have hz7 : w6.heap.size + 1 ≤ w7.heap.size := by omega
    clear hzz
    have HB_21 := Lib.hid (up HB_18.out hba)
    have HX0_22 := Lib.hid (HX0_19.out.below hba (by omega))
    have HX1_23 := Lib.hid (HX1_20.out.below hba (by omega))
    have HNb0_24 := Lib.hid (HNb0.out.keep hba (by omega))
    have HMb0_25 := Lib.hid (HMb0.out.kept HNb0.out hba (by omega))
    have HFb0_26 := Lib.hid (HFb0.out.keep hba (by omega) (by omega))
    clear HB_18 HX0_19 HX1_20 HNb0 HMb0 HFb0
    have HY0 := Lib.hid hp
    clear hba hp
    have HWE0 := Lib.hid hWw7
    clear hWw7
    have k_27 : (w6.alloc (.cells #[.slice Anb0 ns0.length cnb0, .slice Bfb0 fs0.length dfb0] 36)).cell? ⟨w.heap.size + 1, 0, none⟩ = some (.slice Am1 nm1 cm1) := by rw [HWE0.out]; exact HX1_23.out.cell 0
    have k_28 : (w6.alloc (.cells #[.slice Anb0 ns0.length cnb0, .slice Bfb0 fs0.length dfb0] 36)).cell? ⟨w.heap.size + 1, 1, none⟩ = some (.slice Av1 nv1 cv1) := by rw [HWE0.out]; exact HX1_23.out.cell 1
    have k_29 : (w6.alloc (.cells #[.slice Anb0 ns0.length cnb0, .slice Bfb0 fs0.length dfb0] 36)).cell? ⟨w.heap.size + 1, 2, none⟩ = some (.int .i64 cl1) := by rw [HWE0.out]; exact HX1_23.out.cell 2
    have k_30 : (w6.alloc (.cells #[.slice Anb0 ns0.length cnb0, .slice Bfb0 fs0.length dfb0] 36)).cell? ⟨w.heap.size + 1, 3, none⟩ = some (.slice At1 nt1 ct1) := by rw [HWE0.out]; exact HX1_23.out.cell 3
    go_wp2_with (fail)
    rw [HWE0.out]
    (with_reducible refine (toInstance_any nm1 cm1 nv1 cv1 nt1 ct1 Am1 Av1 At1 cl1 0 w.heap.size 0 w.heap.size 0 w.heap.size ms1 vs1 ts1 _ (HXM1.out.keep HB_21.out (Nat.le_refl _)) HB_21.out.size q12 (HXV1.out.keep HB_21.out (Nat.le_refl _)) HB_21.out.size q13 (HXT1.out.keep HB_21.out (Nat.le_refl _)) HB_21.out.size q14).mono ?_)
    rintro e w8 ⟨Axb1, cxb1, Ayb1, cyb1, Azb1, czb1, mxb1, myb1, rfl, ⟨hcab1, hcbb1, hcdb1⟩, ⟨hmab1, hmbb1, hmcb1⟩, ⟨hAb1, hab1⟩, ⟨hCb1, hcb1⟩, ⟨hDb1, hdb1⟩, hbtb1⟩
    clear HWE0
    have hz8 := hbtb1.size
    clear k_27 k_28 k_29 k_30
    have HB_31 := Lib.hid (up HB_21.out hbtb1)
    have HX0_32 := Lib.hid (HX0_22.out.below hbtb1 (by omega))
    have HX1_33 := Lib.hid (HX1_23.out.below hbtb1 (by omega))
    have HNb0_34 := Lib.hid (HNb0_24.out.keep hbtb1 (by omega))
    have HMb0_35 := Lib.hid (HMb0_25.out.kept HNb0_24.out hbtb1 (by omega))
    have HFb0_36 := Lib.hid (HFb0_26.out.keep hbtb1 (by omega) (by omega))
    have HY0_37 := Lib.hid (HY0.out.below hbtb1 (by omega))
    clear HB_21 HX0_22 HX1_23 HNb0_24 HMb0_25 HFb0_26 HY0
    have HAb1 := Lib.hid hAb1
    have HSAb1 := Lib.hid hab1
    have HCb1 := Lib.hid hCb1
    have HSCb1 := Lib.hid hcb1
    have HDb1 := Lib.hid hDb1
    have HSDb1 := Lib.hid hdb1
    clear hAb1 hab1 hCb1 hcb1 hDb1 hdb1 hbtb1
    have hba := up_alloc (Below.refl _ w8) (.cells #[.slice Axb1 nm1 cxb1, .slice Ayb1 nv1 cyb1, .int .i64 cl1, .slice Azb1 nt1 czb1] 40)
    have hp := Blk.new w8 40 #[.slice Axb1 nm1 cxb1, .slice Ayb1 nv1 cyb1, .int .i64 cl1, .slice Azb1 nt1 czb1]
    have hzz : w8.heap.size + 1 = (w8.alloc (.cells #[.slice Axb1 nm1 cxb1, .slice Ayb1 nv1 cyb1, .int .i64 cl1, .slice Azb1 nt1 czb1] 40)).heap.size := by simp
    generalize hWw9 : (w8.alloc (.cells #[.slice Axb1 nm1 cxb1, .slice Ayb1 nv1 cyb1, .int .i64 cl1, .slice Azb1 nt1 czb1] 40)) = w9 at hba hp hzz
    have hz9 : w8.heap.size + 1 ≤ w9.heap.size := by omega
    clear hzz
    have HB_38 := Lib.hid (up HB_31.out hba)
    have HX0_39 := Lib.hid (HX0_32.out.below hba (by omega))
    have HX1_40 := Lib.hid (HX1_33.out.below hba (by omega))
    have HNb0_41 := Lib.hid (HNb0_34.out.keep hba (by omega))
    have HMb0_42 := Lib.hid (HMb0_35.out.kept HNb0_34.out hba (by omega))
    have HFb0_43 := Lib.hid (HFb0_36.out.keep hba (by omega) (by omega))
    have HY0_44 := Lib.hid (HY0_37.out.below hba (by omega))
    have HAb1_45 := Lib.hid (HAb1.out.keep hba (by omega))
    have HSAb1_46 := Lib.hid (HSAb1.out.kept HAb1.out hba (by omega))
    have HCb1_47 := Lib.hid (HCb1.out.keep hba (by omega))
    have HSCb1_48 := Lib.hid (HSCb1.out.kept HCb1.out hba (by omega))
    have HDb1_49 := Lib.hid (HDb1.out.keep hba (by omega))
    have HSDb1_50 := Lib.hid (HSDb1.out.kept HDb1.out hba (by omega))
    clear HB_31 HX0_32 HX1_33 HNb0_34 HMb0_35 HFb0_36 HY0_37 HAb1 HSAb1 HCb1 HSCb1 HDb1 HSDb1
    have HY1 := Lib.hid hp
    clear hba hp
    have HWE1 := Lib.hid hWw9
    clear hWw9
    have k_51 : (w8.alloc (.cells #[.slice Axb1 nm1 cxb1, .slice Ayb1 nv1 cyb1, .int .i64 cl1, .slice Azb1 nt1 czb1] 40)).cell? ⟨w6.heap.size, 0, none⟩ = some (.slice Anb0 ns0.length cnb0) := by rw [HWE1.out]; exact HY0_44.out.cell 0
    have k_52 : (w8.alloc (.cells #[.slice Axb1 nm1 cxb1, .slice Ayb1 nv1 cyb1, .int .i64 cl1, .slice Azb1 nt1 czb1] 40)).cell? ⟨w6.heap.size, 1, none⟩ = some (.slice Bfb0 fs0.length dfb0) := by rw [HWE1.out]; exact HY0_44.out.cell 1
    have k_53 : (w8.alloc (.cells #[.slice Axb1 nm1 cxb1, .slice Ayb1 nv1 cyb1, .int .i64 cl1, .slice Azb1 nt1 czb1] 40)).cell? ⟨w8.heap.size, 0, none⟩ = some (.slice Axb1 nm1 cxb1) := by rw [HWE1.out]; exact HY1.out.cell 0
    have k_54 : (w8.alloc (.cells #[.slice Axb1 nm1 cxb1, .slice Ayb1 nv1 cyb1, .int .i64 cl1, .slice Azb1 nt1 czb1] 40)).cell? ⟨w8.heap.size, 1, none⟩ = some (.slice Ayb1 nv1 cyb1) := by rw [HWE1.out]; exact HY1.out.cell 1
    have k_55 : (w8.alloc (.cells #[.slice Axb1 nm1 cxb1, .slice Ayb1 nv1 cyb1, .int .i64 cl1, .slice Azb1 nt1 czb1] 40)).cell? ⟨w8.heap.size, 2, none⟩ = some (.int .i64 cl1) := by rw [HWE1.out]; exact HY1.out.cell 2
    have k_56 : (w8.alloc (.cells #[.slice Axb1 nm1 cxb1, .slice Ayb1 nv1 cyb1, .int .i64 cl1, .slice Azb1 nt1 czb1] 40)).cell? ⟨w8.heap.size, 3, none⟩ = some (.slice Azb1 nt1 czb1) := by rw [HWE1.out]; exact HY1.out.cell 3
    go_wp2_with (fail)
    rw [HWE1.out]
    (with_reducible refine (NextDueI_any w5.heap.size midb0 ns0.length cnb0 Anb0 ns0 midb0 w6.heap.size fs0.length dfb0 Bfb0 fs0 w7.heap.size mxb1 nm1 cxb1 Axb1 ms1 mxb1 myb1 nv1 cyb1 Ayb1 vs1 cl1 myb1 w8.heap.size nt1 czb1 Azb1 ts1 _ HNb0_41.out (by omega) hnn1_0 (HFb0_43.out.fls (by omega) (by omega)) (by omega) hfl1_0 HAb1_45.out (by omega) q12 HCb1_47.out (by omega) q13 HDb1_49.out (by omega) q14).mono ?_)
    rw [HU0.out]
    rintro e w10 ⟨rfl, hbti2⟩
    clear HWE1
    have hz10 := hbti2.size
    clear k_51 k_52 k_53 k_54 k_55 k_56
    have HB_57 := Lib.hid (up HB_38.out hbti2)
    have HX0_58 := Lib.hid (HX0_39.out.below hbti2 (by omega))
    have HX1_59 := Lib.hid (HX1_40.out.below hbti2 (by omega))
    have HNb0_60 := Lib.hid (HNb0_41.out.keep hbti2 (by omega))
    have HMb0_61 := Lib.hid (HMb0_42.out.kept HNb0_41.out hbti2 (by omega))
    have HFb0_62 := Lib.hid (HFb0_43.out.keep hbti2 (by omega) (by omega))
    have HY0_63 := Lib.hid (HY0_44.out.below hbti2 (by omega))
    have HAb1_64 := Lib.hid (HAb1_45.out.keep hbti2 (by omega))
    have HSAb1_65 := Lib.hid (HSAb1_46.out.kept HAb1_45.out hbti2 (by omega))
    have HCb1_66 := Lib.hid (HCb1_47.out.keep hbti2 (by omega))
    have HSCb1_67 := Lib.hid (HSCb1_48.out.kept HCb1_47.out hbti2 (by omega))
    have HDb1_68 := Lib.hid (HDb1_49.out.keep hbti2 (by omega))
    have HSDb1_69 := Lib.hid (HSDb1_50.out.kept HDb1_49.out hbti2 (by omega))
    have HY1_70 := Lib.hid (HY1.out.below hbti2 (by omega))
    clear HB_38 HX0_39 HX1_40 HNb0_41 HMb0_42 HFb0_43 HY0_44 HAb1_45 HSAb1_46 HCb1_47 HSCb1_48 HDb1_49 HSDb1_50 HY1
    clear hbti2
    have HC : Hid (∀ wx : World, Below w10.heap.size w10 wx → Calls Try.prog 9 #[.agg #[.slice An0 nn0 cn0, .slice A0 n0 c0]] wx (ToProc ns0 fs0 wx)) := fun wx hbx => toProcess_any 0 w.heap.size nn0 cn0 An0 ns0 0 w.heap.size n0 c0 A0 fs0 wx (HRN0.out.keep (up HB_57.out hbx) (Nat.le_refl _)) (up HB_57.out hbx).size q02 (HS0.out.keep (up HB_57.out hbx) (Nat.le_refl _)) (up HB_57.out hbx).size q03
    have HSW : Hid (∀ wx : World, Below w10.heap.size w10 wx → wx.cell? ⟨w.heap.size, 0, none⟩ = some (.slice An0 nn0 cn0) ∧ wx.cell? ⟨w.heap.size, 1, none⟩ = some (.slice A0 n0 c0) ∧ wx.cell? ⟨w6.heap.size, 0, none⟩ = some (.slice Anb0 ns0.length cnb0) ∧ wx.cell? ⟨w6.heap.size, 1, none⟩ = some (.slice Bfb0 fs0.length dfb0)) := fun wx hbx => ⟨(HX0_58.out.below hbx (by omega)).cell 0, (HX0_58.out.below hbx (by omega)).cell 1, (HY0_63.out.below hbx (by omega)).cell 0, (HY0_63.out.below hbx (by omega)).cell 1⟩
    go_wp2
    go_region_held3 (fun w' => w'.cell? ⟨w.heap.size, 0, none⟩ = some (.slice An0 nn0 cn0) ∧ w'.cell? ⟨w.heap.size, 1, none⟩ = some (.slice A0 n0 c0) ∧ w'.cell? ⟨w6.heap.size, 0, none⟩ = some (.slice Anb0 ns0.length cnb0) ∧ w'.cell? ⟨w6.heap.size, 1, none⟩ = some (.slice Bfb0 fs0.length dfb0))
      (first | exact HSW.out _ (Below.refl _ _) | exact HSW.out _ (up_drew (Below.refl _ _)) | exact HSW.out _ hB7 | exact HSW.out _ hB8)
      ((first
        | (go_at_call 9; (with_reducible refine (HC.out _ (up_drew (Below.refl _ w10))).mono ?_); rintro e w11 ⟨Anq0, cnq0, Bfq0, dfq0, midq0, rfl, hNq0, hMq0, hltq0, hmtq0, hFq0, hbtq0⟩; have hB7 := up (up_drew (Below.refl _ w10)) hbtq0; have hs7 : w10.heap.size ≤ w11.heap.size := hbtq0.size; have hlu7 : w10.heap.size ≤ midq0 := hltq0)
        | (go_at_call 12; (with_reducible refine (eqProcess_same w5.heap.size midb0 ns0.length cnb0 _ midq0 ns0.length cnq0 Anb0 Anq0 ns0 midb0 w6.heap.size fs0.length dfb0 midq0 w11.heap.size fs0.length dfq0 Bfb0 Bfq0 fs0 w11 (HNb0_60.out.keep hB7 (by omega)) (by omega) hnn1_0 ((HFb0_62.out.fls (by omega) (by omega)).keep hB7 (by omega)) (by omega) hfl1_0 hNq0 (by omega) (hFq0.fls (by omega) hmtq0) (Nat.le_refl _)).mono ?_); rintro e w12 ⟨rfl, hbt8⟩; have hB8 := up hB7 hbt8)))
    all_goals
      have hz12 : w10.heap.size ≤ w12.heap.size := hB8.size
      clear HC HSW hNq0 hMq0 hFq0 hbt8 hbtq0
      have HB_71 := Lib.hid (up HB_57.out hB8)
      have HX0_72 := Lib.hid (HX0_58.out.below hB8 (by omega))
      have HX1_73 := Lib.hid (HX1_59.out.below hB8 (by omega))
      have HNb0_74 := Lib.hid (HNb0_60.out.keep hB8 (by omega))
      have HMb0_75 := Lib.hid (HMb0_61.out.kept HNb0_60.out hB8 (by omega))
      have HFb0_76 := Lib.hid (HFb0_62.out.keep hB8 (by omega) (by omega))
      have HY0_77 := Lib.hid (HY0_63.out.below hB8 (by omega))
      have HAb1_78 := Lib.hid (HAb1_64.out.keep hB8 (by omega))
      have HSAb1_79 := Lib.hid (HSAb1_65.out.kept HAb1_64.out hB8 (by omega))
      have HCb1_80 := Lib.hid (HCb1_66.out.keep hB8 (by omega))
      have HSCb1_81 := Lib.hid (HSCb1_67.out.kept HCb1_66.out hB8 (by omega))
      have HDb1_82 := Lib.hid (HDb1_68.out.keep hB8 (by omega))
      have HSDb1_83 := Lib.hid (HSDb1_69.out.kept HDb1_68.out hB8 (by omega))
      have HY1_84 := Lib.hid (HY1_70.out.below hB8 (by omega))
      clear HB_57 HX0_58 HX1_59 HNb0_60 HMb0_61 HFb0_62 HY0_63 HAb1_64 HSAb1_65 HCb1_66 HSCb1_67 HDb1_68 HSDb1_69 HY1_70
      clear hB8 hB7
      have HC : Hid (∀ wx : World, Below w12.heap.size w12 wx → Calls Try.prog 10 #[.agg #[.slice Am1 nm1 cm1, .slice Av1 nv1 cv1, .int .i64 cl1, .slice At1 nt1 ct1]] wx (ToInst ms1 vs1 cl1 ts1 nm1 nv1 nt1 wx)) := fun wx hbx => toInstance_any nm1 cm1 nv1 cv1 nt1 ct1 Am1 Av1 At1 cl1 0 w.heap.size 0 w.heap.size 0 w.heap.size ms1 vs1 ts1 wx (HXM1.out.keep (up HB_71.out hbx) (Nat.le_refl _)) (up HB_71.out hbx).size q12 (HXV1.out.keep (up HB_71.out hbx) (Nat.le_refl _)) (up HB_71.out hbx).size q13 (HXT1.out.keep (up HB_71.out hbx) (Nat.le_refl _)) (up HB_71.out hbx).size q14
      have HSW : Hid (∀ wx : World, Below w12.heap.size w12 wx → wx.cell? ⟨w.heap.size + 1, 0, none⟩ = some (.slice Am1 nm1 cm1) ∧ wx.cell? ⟨w.heap.size + 1, 1, none⟩ = some (.slice Av1 nv1 cv1) ∧ wx.cell? ⟨w.heap.size + 1, 2, none⟩ = some (.int .i64 cl1) ∧ wx.cell? ⟨w.heap.size + 1, 3, none⟩ = some (.slice At1 nt1 ct1) ∧ wx.cell? ⟨w8.heap.size, 0, none⟩ = some (.slice Axb1 nm1 cxb1) ∧ wx.cell? ⟨w8.heap.size, 1, none⟩ = some (.slice Ayb1 nv1 cyb1) ∧ wx.cell? ⟨w8.heap.size, 2, none⟩ = some (.int .i64 cl1) ∧ wx.cell? ⟨w8.heap.size, 3, none⟩ = some (.slice Azb1 nt1 czb1)) := fun wx hbx => ⟨(HX1_73.out.below hbx (by omega)).cell 0, (HX1_73.out.below hbx (by omega)).cell 1, (HX1_73.out.below hbx (by omega)).cell 2, (HX1_73.out.below hbx (by omega)).cell 3, (HY1_84.out.below hbx (by omega)).cell 0, (HY1_84.out.below hbx (by omega)).cell 1, (HY1_84.out.below hbx (by omega)).cell 2, (HY1_84.out.below hbx (by omega)).cell 3⟩
      go_wp2
      go_region_held3 (fun w' => w'.cell? ⟨w.heap.size + 1, 0, none⟩ = some (.slice Am1 nm1 cm1) ∧ w'.cell? ⟨w.heap.size + 1, 1, none⟩ = some (.slice Av1 nv1 cv1) ∧ w'.cell? ⟨w.heap.size + 1, 2, none⟩ = some (.int .i64 cl1) ∧ w'.cell? ⟨w.heap.size + 1, 3, none⟩ = some (.slice At1 nt1 ct1) ∧ w'.cell? ⟨w8.heap.size, 0, none⟩ = some (.slice Axb1 nm1 cxb1) ∧ w'.cell? ⟨w8.heap.size, 1, none⟩ = some (.slice Ayb1 nv1 cyb1) ∧ w'.cell? ⟨w8.heap.size, 2, none⟩ = some (.int .i64 cl1) ∧ w'.cell? ⟨w8.heap.size, 3, none⟩ = some (.slice Azb1 nt1 czb1))
        (first | exact HSW.out _ (Below.refl _ _) | exact HSW.out _ (up_drew (Below.refl _ _)) | exact HSW.out _ hB7 | exact HSW.out _ hB8)
        ((first
          | (go_at_call 10; (with_reducible refine (HC.out _ (up_drew (Below.refl _ w12))).mono ?_); rintro e w13 ⟨Axq1, cxq1, Ayq1, cyq1, Azq1, czq1, mxq1, myq1, rfl, ⟨hcaq1, hcbq1, hcdq1⟩, ⟨hmaq1, hmbq1, hmcq1⟩, ⟨hAq1, haq1⟩, ⟨hCq1, hcq1⟩, ⟨hDq1, hdq1⟩, hbtq1⟩; have hB7 := up (up_drew (Below.refl _ w12)) hbtq1; have hs7 : w12.heap.size ≤ w13.heap.size := hbtq1.size)
          | (go_at_call 13; (with_reducible refine (eqInstance_same nm1 nv1 nt1 cxb1 cyb1 czb1 cxq1 cyq1 czq1 Axb1 Ayb1 Azb1 Axq1 Ayq1 Azq1 cl1 w7.heap.size mxb1 mxb1 myb1 myb1 w8.heap.size _ mxq1 mxq1 myq1 myq1 w13.heap.size ms1 vs1 ts1 w13 (HAb1_78.out.keep hB7 (by omega)) (by omega) q12 (HCb1_80.out.keep hB7 (by omega)) (by omega) q13 (HDb1_82.out.keep hB7 (by omega)) (by omega) q14 hAq1 (by omega) hCq1 (by omega) hDq1 (by omega)).mono ?_); rintro e w14 ⟨rfl, hbt8⟩; have hB8 := up hB7 hbt8)))
      all_goals
        have hz14 : w12.heap.size ≤ w14.heap.size := hB8.size
        clear HC HSW hAq1 haq1 hCq1 hcq1 hDq1 hdq1 hbt8 hbtq1
        have HB_85 := Lib.hid (up HB_71.out hB8)
        have HX0_86 := Lib.hid (HX0_72.out.below hB8 (by omega))
        have HX1_87 := Lib.hid (HX1_73.out.below hB8 (by omega))
        have HNb0_88 := Lib.hid (HNb0_74.out.keep hB8 (by omega))
        have HMb0_89 := Lib.hid (HMb0_75.out.kept HNb0_74.out hB8 (by omega))
        have HFb0_90 := Lib.hid (HFb0_76.out.keep hB8 (by omega) (by omega))
        have HY0_91 := Lib.hid (HY0_77.out.below hB8 (by omega))
        have HAb1_92 := Lib.hid (HAb1_78.out.keep hB8 (by omega))
        have HSAb1_93 := Lib.hid (HSAb1_79.out.kept HAb1_78.out hB8 (by omega))
        have HCb1_94 := Lib.hid (HCb1_80.out.keep hB8 (by omega))
        have HSCb1_95 := Lib.hid (HSCb1_81.out.kept HCb1_80.out hB8 (by omega))
        have HDb1_96 := Lib.hid (HDb1_82.out.keep hB8 (by omega))
        have HSDb1_97 := Lib.hid (HSDb1_83.out.kept HDb1_82.out hB8 (by omega))
        have HY1_98 := Lib.hid (HY1_84.out.below hB8 (by omega))
        clear HB_71 HX0_72 HX1_73 HNb0_74 HMb0_75 HFb0_76 HY0_77 HAb1_78 HSAb1_79 HCb1_80 HSCb1_81 HDb1_82 HSDb1_83 HY1_84
        clear hB8 hB7
        go_wp2
        go_ret
        exact ⟨rfl, HB_85.out⟩
end Go.Proofs.Ytknphikoikdcjaa
