/- The law FnExactStartInstance, walked: it returns true. (Written by gen/exgen3.py.) -/
import Derived.Test.YtknphikoikdcjaaGreatExProcA
import Derived.Test.YtknphikoikdcjaaGreatExInt
import Derived.Test.YtknphikoikdcjaaGreatRunMM
import Derived.Test.YtknphikoikdcjaaGreatExInstA
import Derived.Deep.RegionHeld3
set_option linter.unusedSimpArgs false
set_option linter.unusedVariables false
namespace Go.Proofs.YtknphikoikdcjaaGreat
open Go.RowKit

set_option maxRecDepth 100000 in
set_option maxHeartbeats 12800000 in
theorem exStartInstance_any (nn0 cn0 n0 c0 : Nat) (An0 A0 : Option Addr) (ns0 : List (Int × Int)) (fs0 : List Flw) (w : World) (hnn0 : nn0 ≤ 9223372036854775807) (hn0 : n0 ≤ 9223372036854775807) (hrn0 : Rd w 0 w.heap.size 2 An0 nn0 (pvs ns0)) (hr0 : FlsU w 0 w.heap.size A0 n0 fs0) (n1 c1 : Nat) (A1 : Option Addr) (m1 : List Int) (hn1 : n1 ≤ 9223372036854775807) (hr1 : Rd w 0 w.heap.size 1 A1 n1 (ivs m1)) :
    Calls Tryz.prog 4 #[.agg #[.slice An0 nn0 cn0, .slice A0 n0 c0], .slice A1 n1 c1] w fun e w' => e = .returned (.bool true) ∧ Below w.heap.size w w' := by
  by_cases hg1 : (1048576 : Int) < n1
  · go_enter Tryz.func4, Tryz.ntmps4
    go_wp2
    go_ret
    exact ⟨rfl, up_alloc (Below.refl _ _) _⟩
  have hm1 : n1 ≤ 1048576 := by omega
  have hb0 := up_alloc (Below.refl _ w) (.cells #[.slice An0 nn0 cn0, .slice A0 n0 c0] 25)
  have hx0 : Blk (w.alloc (.cells #[.slice An0 nn0 cn0, .slice A0 n0 c0] 25)) (w.heap.size) 25 #[.slice An0 nn0 cn0, .slice A0 n0 c0] := by simpa using (Blk.new w 25 #[.slice An0 nn0 cn0, .slice A0 n0 c0])
  have HX0 := Lib.hid hx0
  clear hx0
  have hzw : (w.alloc (.cells #[.slice An0 nn0 cn0, .slice A0 n0 c0] 25)).heap.size = w.heap.size + 1 := by simp
  have hz0 : w.heap.size + 1 ≤ (w.alloc (.cells #[.slice An0 nn0 cn0, .slice A0 n0 c0] 25)).heap.size := by omega
  clear hzw
  have HLN0 := Lib.hid hrn0.len2
  have HLF0 := Lib.hid hr0.1
  have HRN0 := Lib.hid hrn0
  have HR0 := Lib.hid hr0
  clear hrn0 hr0
  have HL1 := Lib.hid hr1.len1
  have HA1 := Lib.hid hr1
  clear hr1
  have HB0 := Lib.hid hb0
  clear hb0
  go_enter Tryz.func4, Tryz.ntmps4
  have k_1 : (w.alloc (.cells #[.slice An0 nn0 cn0, .slice A0 n0 c0] 25)).cell? ⟨w.heap.size, 0, none⟩ = some (.slice An0 nn0 cn0) := HX0.out.cell 0
  have k_2 : (w.alloc (.cells #[.slice An0 nn0 cn0, .slice A0 n0 c0] 25)).cell? ⟨w.heap.size, 1, none⟩ = some (.slice A0 n0 c0) := HX0.out.cell 1
  go_wp2_with (fail)
  (with_reducible refine (szProcess_any 0 w.heap.size nn0 cn0 An0 ns0 0 w.heap.size n0 c0 A0 fs0 1048576 _ (HRN0.out.keep HB0.out (Nat.le_refl _)) HB0.out.size hnn0 (HR0.out.keep HB0.out (Nat.le_refl _)) HB0.out.size hn0 (by omega) (by omega)).mono ?_)
  rintro e w1 ⟨hbt, he⟩
  have hz1 : (w.alloc (.cells #[.slice An0 nn0 cn0, .slice A0 n0 c0] 25)).heap.size ≤ w1.heap.size := hbt.size
  clear k_1 k_2
  have HB_3 := Lib.hid (up HB0.out hbt)
  have HX0_4 := Lib.hid (HX0.out.below hbt (by omega))
  clear HB0 HX0
  clear hbt
  rcases he with rfl | ⟨r0, rfl, q00, q01, q02, q03, q04⟩
  · go_wp2
    go_ret
    exact ⟨rfl, HB_3.out⟩
  have hz1' : w.heap.size + 1 ≤ w1.heap.size := by omega
  clear hz0 hz1
  have HS0 := Lib.hid (HR0.out.small q04)
  clear q04 HR0
  have hnn1_0 : ns0.length ≤ 1048576 := by rw [HLN0.out]; exact q02
  have hfl1_0 : fs0.length ≤ 1048576 := by rw [HLF0.out]; exact q03
  have hok := start_ok ns0 fs0 m1
  obtain ⟨u, hU⟩ : ∃ u, startIns ns0 fs0 m1 = u := ⟨_, rfl⟩
  rw [hU] at hok
  have HU0 := Lib.hid hU
  clear hU
  unfold InsOk at hok
  obtain ⟨⟨um, uv, ucl, ut⟩, hV⟩ : ∃ x, insV u = x := ⟨_, rfl⟩
  rw [hV] at hok
  obtain ⟨hul0, hul1, hul2⟩ := hok
  dsimp only at hul0 hul1 hul2
  have HVU := Lib.hid hV
  clear hV
  obtain ⟨ub, hUB⟩ : ∃ b, u.isSome = b := ⟨_, rfl⟩
  have HUB := Lib.hid hUB
  clear hUB
  have hne : (ub != ub) = false := by simp
  have k_5 : w1.cell? ⟨w.heap.size, 0, none⟩ = some (.slice An0 nn0 cn0) := HX0_4.out.cell 0
  have k_6 : w1.cell? ⟨w.heap.size, 1, none⟩ = some (.slice A0 n0 c0) := HX0_4.out.cell 1
  go_wp2_with (fail)
  (with_reducible refine (toProcess_any 0 w.heap.size nn0 cn0 An0 ns0 0 w.heap.size n0 c0 A0 fs0 _ (HRN0.out.keep HB_3.out (Nat.le_refl _)) HB_3.out.size q02 (HS0.out.keep HB_3.out (Nat.le_refl _)) HB_3.out.size q03).mono ?_)
  rintro e w2 ⟨Ana0, cna0, Bfa0, dfa0, mida0, rfl, hNa0, hMa0, hlta0, hmta0, hFa0, hbta0⟩
  have hz2 := hbta0.size
  clear k_5 k_6
  have HB_7 := Lib.hid (up HB_3.out hbta0)
  have HX0_8 := Lib.hid (HX0_4.out.below hbta0 (by omega))
  clear HB_3 HX0_4
  have HNa0 := Lib.hid hNa0
  have HMa0 := Lib.hid hMa0
  have HFa0 := Lib.hid hFa0
  clear hNa0 hMa0 hFa0 hbta0
  go_wp2_with (fail)
  (with_reducible refine (toIntS_any 0 w.heap.size n1 c1 A1 m1 _ (HA1.out.keep HB_7.out (Nat.le_refl _)) HB_7.out.size hm1).mono ?_)
  rintro e w3 ⟨Asa1, csa1, rfl, _, hVa1, hWa1, hbta1⟩
  have hz3 := hbta1.size
  have HB_9 := Lib.hid (up HB_7.out hbta1)
  have HX0_10 := Lib.hid (HX0_8.out.below hbta1 (by omega))
  have HNa0_11 := Lib.hid (HNa0.out.keep hbta1 (by omega))
  have HMa0_12 := Lib.hid (HMa0.out.kept HNa0.out hbta1 (by omega))
  have HFa0_13 := Lib.hid (HFa0.out.keep hbta1 (by omega) (by omega))
  clear HB_7 HX0_8 HNa0 HMa0 HFa0
  have HVa1 := Lib.hid hVa1
  have HWa1 := Lib.hid hWa1
  clear hVa1 hWa1 hbta1
  go_wp2_with (fail)
  (with_reducible refine (StartInstanceS_any w1.heap.size mida0 ns0.length cna0 Ana0 ns0 mida0 w2.heap.size fs0.length dfa0 Bfa0 fs0 w2.heap.size w3.heap.size n1 csa1 Asa1 m1 _ HNa0_11.out (by omega) hnn1_0 (HFa0_13.out.fls (by omega) (by omega)) (by omega) hfl1_0 HVa1.out (by omega) hm1).mono ?_)
  rw [HU0.out]
  intro e w4 hip; obtain ⟨Agas1, cgas1, Agbs1, cgbs1, Agcs1, cgcs1, rfl, hGas1, hGbs1, hGcs1, hbts1⟩ := hip.flat HVU.out HUB.out; clear hip
  have hz4 := hbts1.size
  have HB_14 := Lib.hid (up HB_9.out hbts1)
  have HX0_15 := Lib.hid (HX0_10.out.below hbts1 (by omega))
  have HNa0_16 := Lib.hid (HNa0_11.out.keep hbts1 (by omega))
  have HMa0_17 := Lib.hid (HMa0_12.out.kept HNa0_11.out hbts1 (by omega))
  have HFa0_18 := Lib.hid (HFa0_13.out.keep hbts1 (by omega) (by omega))
  have HVa1_19 := Lib.hid (HVa1.out.keep hbts1 (by omega))
  have HWa1_20 := Lib.hid (HWa1.out.kept HVa1.out hbts1 (by omega))
  clear HB_9 HX0_10 HNa0_11 HMa0_12 HFa0_13 HVa1 HWa1
  clear hbts1
  have HGas1 := Lib.hid hGas1
  clear hGas1
  have HGbs1 := Lib.hid hGbs1
  clear hGbs1
  have HGcs1 := Lib.hid hGcs1
  clear hGcs1
  clear HMa0_17
  clear HFa0_18
  clear HNa0_16
  clear HWa1_20
  clear HVa1_19
  have hba := up_alloc (Below.refl _ w4) (.cells #[.slice Agas1 um.length cgas1, .slice Agbs1 uv.length cgbs1, .int .i64 ucl, .slice Agcs1 ut.length cgcs1] 34)
  have hp := Blk.new w4 34 #[.slice Agas1 um.length cgas1, .slice Agbs1 uv.length cgbs1, .int .i64 ucl, .slice Agcs1 ut.length cgcs1]
  have hzz : w4.heap.size + 1 = (w4.alloc (.cells #[.slice Agas1 um.length cgas1, .slice Agbs1 uv.length cgbs1, .int .i64 ucl, .slice Agcs1 ut.length cgcs1] 34)).heap.size := by simp
  generalize hWw5 : (w4.alloc (.cells #[.slice Agas1 um.length cgas1, .slice Agbs1 uv.length cgbs1, .int .i64 ucl, .slice Agcs1 ut.length cgcs1] 34)) = w5 at hba hp hzz
  have hz5 : w4.heap.size + 1 ≤ w5.heap.size := by omega
  clear hzz
  have HB_21 := Lib.hid (up HB_14.out hba)
  have HX0_22 := Lib.hid (HX0_15.out.below hba (by omega))
  have HGas1_23 := Lib.hid (HGas1.out.keep hba (by omega))
  have HGbs1_24 := Lib.hid (HGbs1.out.keep hba (by omega))
  have HGcs1_25 := Lib.hid (HGcs1.out.keep hba (by omega))
  clear HB_14 HX0_15 HGas1 HGbs1 HGcs1
  have HYRS := Lib.hid hp
  clear hba hp
  have HWERS := Lib.hid hWw5
  clear hWw5
  have k_26 : (w4.alloc (.cells #[.slice Agas1 um.length cgas1, .slice Agbs1 uv.length cgbs1, .int .i64 ucl, .slice Agcs1 ut.length cgcs1] 34)).cell? ⟨w.heap.size, 0, none⟩ = some (.slice An0 nn0 cn0) := by rw [HWERS.out]; exact HX0_22.out.cell 0
  have k_27 : (w4.alloc (.cells #[.slice Agas1 um.length cgas1, .slice Agbs1 uv.length cgbs1, .int .i64 ucl, .slice Agcs1 ut.length cgcs1] 34)).cell? ⟨w.heap.size, 1, none⟩ = some (.slice A0 n0 c0) := by rw [HWERS.out]; exact HX0_22.out.cell 1
  go_wp2_with (fail)
  rw [HWERS.out]
  (with_reducible refine (toProcess_any 0 w.heap.size nn0 cn0 An0 ns0 0 w.heap.size n0 c0 A0 fs0 _ (HRN0.out.keep HB_21.out (Nat.le_refl _)) HB_21.out.size q02 (HS0.out.keep HB_21.out (Nat.le_refl _)) HB_21.out.size q03).mono ?_)
  rintro e w6 ⟨Anb0, cnb0, Bfb0, dfb0, midb0, rfl, hNb0, hMb0, hltb0, hmtb0, hFb0, hbtb0⟩
  clear HWERS
  have hz6 := hbtb0.size
  clear k_26 k_27
  have HB_28 := Lib.hid (up HB_21.out hbtb0)
  have HX0_29 := Lib.hid (HX0_22.out.below hbtb0 (by omega))
  have HGas1_30 := Lib.hid (HGas1_23.out.keep hbtb0 (by omega))
  have HGbs1_31 := Lib.hid (HGbs1_24.out.keep hbtb0 (by omega))
  have HGcs1_32 := Lib.hid (HGcs1_25.out.keep hbtb0 (by omega))
  have HRS_33 := Lib.hid (HYRS.out.below hbtb0 (by omega))
  clear HB_21 HX0_22 HGas1_23 HGbs1_24 HGcs1_25 HYRS
  have HNb0 := Lib.hid hNb0
  have HMb0 := Lib.hid hMb0
  have HFb0 := Lib.hid hFb0
  clear hNb0 hMb0 hFb0 hbtb0
  have hba := up_alloc (Below.refl _ w6) (.cells #[.slice Anb0 ns0.length cnb0, .slice Bfb0 fs0.length dfb0] 40)
  have hp := Blk.new w6 40 #[.slice Anb0 ns0.length cnb0, .slice Bfb0 fs0.length dfb0]
  have hzz : w6.heap.size + 1 = (w6.alloc (.cells #[.slice Anb0 ns0.length cnb0, .slice Bfb0 fs0.length dfb0] 40)).heap.size := by simp
  generalize hWw7 : (w6.alloc (.cells #[.slice Anb0 ns0.length cnb0, .slice Bfb0 fs0.length dfb0] 40)) = w7 at hba hp hzz
  have hz7 : w6.heap.size + 1 ≤ w7.heap.size := by omega
  clear hzz
  have HB_34 := Lib.hid (up HB_28.out hba)
  have HX0_35 := Lib.hid (HX0_29.out.below hba (by omega))
  have HGas1_36 := Lib.hid (HGas1_30.out.keep hba (by omega))
  have HGbs1_37 := Lib.hid (HGbs1_31.out.keep hba (by omega))
  have HGcs1_38 := Lib.hid (HGcs1_32.out.keep hba (by omega))
  have HRS_39 := Lib.hid (HRS_33.out.below hba (by omega))
  have HNb0_40 := Lib.hid (HNb0.out.keep hba (by omega))
  have HMb0_41 := Lib.hid (HMb0.out.kept HNb0.out hba (by omega))
  have HFb0_42 := Lib.hid (HFb0.out.keep hba (by omega) (by omega))
  clear HB_28 HX0_29 HGas1_30 HGbs1_31 HGcs1_32 HRS_33 HNb0 HMb0 HFb0
  have HY0 := Lib.hid hp
  clear hba hp
  have HWE0 := Lib.hid hWw7
  clear hWw7
  go_wp2_with (fail)
  rw [HWE0.out]
  (with_reducible refine (toIntS_any 0 w.heap.size n1 c1 A1 m1 _ (HA1.out.keep HB_34.out (Nat.le_refl _)) HB_34.out.size hm1).mono ?_)
  rintro e w8 ⟨Asb1, csb1, rfl, _, hVb1, hWb1, hbtb1⟩
  clear HWE0
  have hz8 := hbtb1.size
  have HB_43 := Lib.hid (up HB_34.out hbtb1)
  have HX0_44 := Lib.hid (HX0_35.out.below hbtb1 (by omega))
  have HGas1_45 := Lib.hid (HGas1_36.out.keep hbtb1 (by omega))
  have HGbs1_46 := Lib.hid (HGbs1_37.out.keep hbtb1 (by omega))
  have HGcs1_47 := Lib.hid (HGcs1_38.out.keep hbtb1 (by omega))
  have HRS_48 := Lib.hid (HRS_39.out.below hbtb1 (by omega))
  have HNb0_49 := Lib.hid (HNb0_40.out.keep hbtb1 (by omega))
  have HMb0_50 := Lib.hid (HMb0_41.out.kept HNb0_40.out hbtb1 (by omega))
  have HFb0_51 := Lib.hid (HFb0_42.out.keep hbtb1 (by omega) (by omega))
  have HY0_52 := Lib.hid (HY0.out.below hbtb1 (by omega))
  clear HB_34 HX0_35 HGas1_36 HGbs1_37 HGcs1_38 HRS_39 HNb0_40 HMb0_41 HFb0_42 HY0
  have HVb1 := Lib.hid hVb1
  have HWb1 := Lib.hid hWb1
  clear hVb1 hWb1 hbtb1
  have k_53 : w8.cell? ⟨w6.heap.size, 0, none⟩ = some (.slice Anb0 ns0.length cnb0) := HY0_52.out.cell 0
  have k_54 : w8.cell? ⟨w6.heap.size, 1, none⟩ = some (.slice Bfb0 fs0.length dfb0) := HY0_52.out.cell 1
  go_wp2_with (fail)
  (with_reducible refine (StartInstanceI_any w5.heap.size midb0 ns0.length cnb0 Anb0 ns0 midb0 w6.heap.size fs0.length dfb0 Bfb0 fs0 w7.heap.size w8.heap.size n1 csb1 Asb1 m1 _ HNb0_49.out (by omega) hnn1_0 (HFb0_51.out.fls (by omega) (by omega)) (by omega) hfl1_0 HVb1.out (by omega) hm1).mono ?_)
  rw [HU0.out]
  intro e w9 hip; obtain ⟨Agai2, cgai2, Agbi2, cgbi2, Agci2, cgci2, pai2, pbi2, rfl, hGai2, hGbi2, hGci2, ⟨hpai2, hpbi2, hpci2⟩, ⟨hHai2, hHbi2, hHci2⟩, hbti2⟩ := hip.flat HVU.out HUB.out; clear hip
  have hz9 := hbti2.size
  clear k_53 k_54
  have HB_55 := Lib.hid (up HB_43.out hbti2)
  have HX0_56 := Lib.hid (HX0_44.out.below hbti2 (by omega))
  have HGas1_57 := Lib.hid (HGas1_45.out.keep hbti2 (by omega))
  have HGbs1_58 := Lib.hid (HGbs1_46.out.keep hbti2 (by omega))
  have HGcs1_59 := Lib.hid (HGcs1_47.out.keep hbti2 (by omega))
  have HRS_60 := Lib.hid (HRS_48.out.below hbti2 (by omega))
  have HNb0_61 := Lib.hid (HNb0_49.out.keep hbti2 (by omega))
  have HMb0_62 := Lib.hid (HMb0_50.out.kept HNb0_49.out hbti2 (by omega))
  have HFb0_63 := Lib.hid (HFb0_51.out.keep hbti2 (by omega) (by omega))
  have HY0_64 := Lib.hid (HY0_52.out.below hbti2 (by omega))
  have HVb1_65 := Lib.hid (HVb1.out.keep hbti2 (by omega))
  have HWb1_66 := Lib.hid (HWb1.out.kept HVb1.out hbti2 (by omega))
  clear HB_43 HX0_44 HGas1_45 HGbs1_46 HGcs1_47 HRS_48 HNb0_49 HMb0_50 HFb0_51 HY0_52 HVb1 HWb1
  clear hbti2
  have HGai2 := Lib.hid hGai2
  clear hGai2
  have HHai2 := Lib.hid hHai2
  clear hHai2
  have HGbi2 := Lib.hid hGbi2
  clear hGbi2
  have HHbi2 := Lib.hid hHbi2
  clear hHbi2
  have HGci2 := Lib.hid hGci2
  clear hGci2
  have HHci2 := Lib.hid hHci2
  clear hHci2
  have hba := up_alloc (Below.refl _ w9) (.cells #[.slice Agai2 um.length cgai2, .slice Agbi2 uv.length cgbi2, .int .i64 ucl, .slice Agci2 ut.length cgci2] 34)
  have hp := Blk.new w9 34 #[.slice Agai2 um.length cgai2, .slice Agbi2 uv.length cgbi2, .int .i64 ucl, .slice Agci2 ut.length cgci2]
  have hzz : w9.heap.size + 1 = (w9.alloc (.cells #[.slice Agai2 um.length cgai2, .slice Agbi2 uv.length cgbi2, .int .i64 ucl, .slice Agci2 ut.length cgci2] 34)).heap.size := by simp
  generalize hWw10 : (w9.alloc (.cells #[.slice Agai2 um.length cgai2, .slice Agbi2 uv.length cgbi2, .int .i64 ucl, .slice Agci2 ut.length cgci2] 34)) = w10 at hba hp hzz
  have hz10 : w9.heap.size + 1 ≤ w10.heap.size := by omega
  clear hzz
  have HB_67 := Lib.hid (up HB_55.out hba)
  have HX0_68 := Lib.hid (HX0_56.out.below hba (by omega))
  have HGas1_69 := Lib.hid (HGas1_57.out.keep hba (by omega))
  have HGbs1_70 := Lib.hid (HGbs1_58.out.keep hba (by omega))
  have HGcs1_71 := Lib.hid (HGcs1_59.out.keep hba (by omega))
  have HRS_72 := Lib.hid (HRS_60.out.below hba (by omega))
  have HNb0_73 := Lib.hid (HNb0_61.out.keep hba (by omega))
  have HMb0_74 := Lib.hid (HMb0_62.out.kept HNb0_61.out hba (by omega))
  have HFb0_75 := Lib.hid (HFb0_63.out.keep hba (by omega) (by omega))
  have HY0_76 := Lib.hid (HY0_64.out.below hba (by omega))
  have HVb1_77 := Lib.hid (HVb1_65.out.keep hba (by omega))
  have HWb1_78 := Lib.hid (HWb1_66.out.kept HVb1_65.out hba (by omega))
  have HGai2_79 := Lib.hid (HGai2.out.keep hba (by omega))
  have HHai2_80 := Lib.hid (HHai2.out.kept HGai2.out hba (by omega))
  have HGbi2_81 := Lib.hid (HGbi2.out.keep hba (by omega))
  have HHbi2_82 := Lib.hid (HHbi2.out.kept HGbi2.out hba (by omega))
  have HGci2_83 := Lib.hid (HGci2.out.keep hba (by omega))
  have HHci2_84 := Lib.hid (HHci2.out.kept HGci2.out hba (by omega))
  clear HB_55 HX0_56 HGas1_57 HGbs1_58 HGcs1_59 HRS_60 HNb0_61 HMb0_62 HFb0_63 HY0_64 HVb1_65 HWb1_66 HGai2 HHai2 HGbi2 HHbi2 HGci2 HHci2
  have HYRI := Lib.hid hp
  clear hba hp
  have HWERI := Lib.hid hWw10
  clear hWw10
  have k_85 : (w9.alloc (.cells #[.slice Agai2 um.length cgai2, .slice Agbi2 uv.length cgbi2, .int .i64 ucl, .slice Agci2 ut.length cgci2] 34)).cell? ⟨w9.heap.size, 0, none⟩ = some (.slice Agai2 um.length cgai2) := by rw [HWERI.out]; exact HYRI.out.cell 0
  have k_86 : (w9.alloc (.cells #[.slice Agai2 um.length cgai2, .slice Agbi2 uv.length cgbi2, .int .i64 ucl, .slice Agci2 ut.length cgci2] 34)).cell? ⟨w9.heap.size, 1, none⟩ = some (.slice Agbi2 uv.length cgbi2) := by rw [HWERI.out]; exact HYRI.out.cell 1
  have k_87 : (w9.alloc (.cells #[.slice Agai2 um.length cgai2, .slice Agbi2 uv.length cgbi2, .int .i64 ucl, .slice Agci2 ut.length cgci2] 34)).cell? ⟨w9.heap.size, 2, none⟩ = some (.int .i64 ucl) := by rw [HWERI.out]; exact HYRI.out.cell 2
  have k_88 : (w9.alloc (.cells #[.slice Agai2 um.length cgai2, .slice Agbi2 uv.length cgbi2, .int .i64 ucl, .slice Agci2 ut.length cgci2] 34)).cell? ⟨w9.heap.size, 3, none⟩ = some (.slice Agci2 ut.length cgci2) := by rw [HWERI.out]; exact HYRI.out.cell 3
  have k_89 : (w9.alloc (.cells #[.slice Agai2 um.length cgai2, .slice Agbi2 uv.length cgbi2, .int .i64 ucl, .slice Agci2 ut.length cgci2] 34)).cell? ⟨w4.heap.size, 0, none⟩ = some (.slice Agas1 um.length cgas1) := by rw [HWERI.out]; exact HRS_72.out.cell 0
  have k_90 : (w9.alloc (.cells #[.slice Agai2 um.length cgai2, .slice Agbi2 uv.length cgbi2, .int .i64 ucl, .slice Agci2 ut.length cgci2] 34)).cell? ⟨w4.heap.size, 1, none⟩ = some (.slice Agbs1 uv.length cgbs1) := by rw [HWERI.out]; exact HRS_72.out.cell 1
  have k_91 : (w9.alloc (.cells #[.slice Agai2 um.length cgai2, .slice Agbi2 uv.length cgbi2, .int .i64 ucl, .slice Agci2 ut.length cgci2] 34)).cell? ⟨w4.heap.size, 2, none⟩ = some (.int .i64 ucl) := by rw [HWERI.out]; exact HRS_72.out.cell 2
  have k_92 : (w9.alloc (.cells #[.slice Agai2 um.length cgai2, .slice Agbi2 uv.length cgbi2, .int .i64 ucl, .slice Agci2 ut.length cgci2] 34)).cell? ⟨w4.heap.size, 3, none⟩ = some (.slice Agcs1 ut.length cgcs1) := by rw [HWERI.out]; exact HRS_72.out.cell 3
  go_wp2_with (fail)
  rw [HWERI.out]
  (with_reducible refine (eqInstance_same _ _ _ _ _ _ _ _ _ _ _ _ _ _ _ _ _ _ _ _ _ _ _ _ _ _ _ _  um uv ut _ HGai2_79.out (by omega) hul0 HGbi2_81.out (by omega) hul1 HGci2_83.out (by omega) hul2 HGas1_69.out (by omega) HGbs1_70.out (by omega) HGcs1_71.out (by omega)).mono ?_)
  rintro e w11 ⟨rfl, hbt⟩
  clear k_85 k_86 k_87 k_88 k_89 k_90 k_91 k_92
  clear HWERI
  have hz11 := hbt.size
  have HB_93 := Lib.hid (up HB_67.out hbt)
  have HX0_94 := Lib.hid (HX0_68.out.below hbt (by omega))
  have HGas1_95 := Lib.hid (HGas1_69.out.keep hbt (by omega))
  have HGbs1_96 := Lib.hid (HGbs1_70.out.keep hbt (by omega))
  have HGcs1_97 := Lib.hid (HGcs1_71.out.keep hbt (by omega))
  have HRS_98 := Lib.hid (HRS_72.out.below hbt (by omega))
  have HNb0_99 := Lib.hid (HNb0_73.out.keep hbt (by omega))
  have HMb0_100 := Lib.hid (HMb0_74.out.kept HNb0_73.out hbt (by omega))
  have HFb0_101 := Lib.hid (HFb0_75.out.keep hbt (by omega) (by omega))
  have HY0_102 := Lib.hid (HY0_76.out.below hbt (by omega))
  have HVb1_103 := Lib.hid (HVb1_77.out.keep hbt (by omega))
  have HWb1_104 := Lib.hid (HWb1_78.out.kept HVb1_77.out hbt (by omega))
  have HGai2_105 := Lib.hid (HGai2_79.out.keep hbt (by omega))
  have HHai2_106 := Lib.hid (HHai2_80.out.kept HGai2_79.out hbt (by omega))
  have HGbi2_107 := Lib.hid (HGbi2_81.out.keep hbt (by omega))
  have HHbi2_108 := Lib.hid (HHbi2_82.out.kept HGbi2_81.out hbt (by omega))
  have HGci2_109 := Lib.hid (HGci2_83.out.keep hbt (by omega))
  have HHci2_110 := Lib.hid (HHci2_84.out.kept HGci2_83.out hbt (by omega))
  have HRI_111 := Lib.hid (HYRI.out.below hbt (by omega))
  clear HB_67 HX0_68 HGas1_69 HGbs1_70 HGcs1_71 HRS_72 HNb0_73 HMb0_74 HFb0_75 HY0_76 HVb1_77 HWb1_78 HGai2_79 HHai2_80 HGbi2_81 HHbi2_82 HGci2_83 HHci2_84 HYRI
  clear hbt
  have HC : Hid (∀ wx : World, Below w11.heap.size w11 wx → Calls Tryz.prog 15 #[.agg #[.slice An0 nn0 cn0, .slice A0 n0 c0]] wx (ToProc ns0 fs0 wx)) := fun wx hbx => toProcess_any 0 w.heap.size nn0 cn0 An0 ns0 0 w.heap.size n0 c0 A0 fs0 wx (HRN0.out.keep (up HB_93.out hbx) (Nat.le_refl _)) (up HB_93.out hbx).size q02 (HS0.out.keep (up HB_93.out hbx) (Nat.le_refl _)) (up HB_93.out hbx).size q03
  have HSW : Hid (∀ wx : World, Below w11.heap.size w11 wx → wx.cell? ⟨w.heap.size, 0, none⟩ = some (.slice An0 nn0 cn0) ∧ wx.cell? ⟨w.heap.size, 1, none⟩ = some (.slice A0 n0 c0) ∧ wx.cell? ⟨w6.heap.size, 0, none⟩ = some (.slice Anb0 ns0.length cnb0) ∧ wx.cell? ⟨w6.heap.size, 1, none⟩ = some (.slice Bfb0 fs0.length dfb0)) := fun wx hbx => ⟨(HX0_94.out.below hbx (by omega)).cell 0, (HX0_94.out.below hbx (by omega)).cell 1, (HY0_102.out.below hbx (by omega)).cell 0, (HY0_102.out.below hbx (by omega)).cell 1⟩
  go_wp2
  go_region_held3 (fun w' => w'.cell? ⟨w.heap.size, 0, none⟩ = some (.slice An0 nn0 cn0) ∧ w'.cell? ⟨w.heap.size, 1, none⟩ = some (.slice A0 n0 c0) ∧ w'.cell? ⟨w6.heap.size, 0, none⟩ = some (.slice Anb0 ns0.length cnb0) ∧ w'.cell? ⟨w6.heap.size, 1, none⟩ = some (.slice Bfb0 fs0.length dfb0))
    (first | exact HSW.out _ (Below.refl _ _) | exact HSW.out _ (up_drew (Below.refl _ _)) | exact HSW.out _ hB7 | exact HSW.out _ hB8)
    ((first
      | (go_at_call 15; (with_reducible refine (HC.out _ (up_drew (Below.refl _ w11))).mono ?_); rintro e w12 ⟨Anq0, cnq0, Bfq0, dfq0, midq0, rfl, hNq0, hMq0, hltq0, hmtq0, hFq0, hbtq0⟩; have hB7 := up (up_drew (Below.refl _ w11)) hbtq0; have hs7 : w11.heap.size ≤ w12.heap.size := hbtq0.size; have hlu7 : w11.heap.size ≤ midq0 := hltq0)
      | (go_at_call 20; (with_reducible refine (eqProcess_same w5.heap.size midb0 ns0.length cnb0 _ midq0 ns0.length cnq0 Anb0 Anq0 ns0 midb0 w6.heap.size fs0.length dfb0 midq0 w12.heap.size fs0.length dfq0 Bfb0 Bfq0 fs0 w12 (HNb0_99.out.keep hB7 (by omega)) (by omega) hnn1_0 ((HFb0_101.out.fls (by omega) (by omega)).keep hB7 (by omega)) (by omega) hfl1_0 hNq0 (by omega) (hFq0.fls (by omega) hmtq0) (Nat.le_refl _)).mono ?_); rintro e w13 ⟨rfl, hbt8⟩; have hB8 := up hB7 hbt8)))
  all_goals
    have hz13 : w11.heap.size ≤ w13.heap.size := hB8.size
    clear HC HSW hNq0 hMq0 hFq0 hbt8 hbtq0
    have HB_112 := Lib.hid (up HB_93.out hB8)
    have HX0_113 := Lib.hid (HX0_94.out.below hB8 (by omega))
    have HGas1_114 := Lib.hid (HGas1_95.out.keep hB8 (by omega))
    have HGbs1_115 := Lib.hid (HGbs1_96.out.keep hB8 (by omega))
    have HGcs1_116 := Lib.hid (HGcs1_97.out.keep hB8 (by omega))
    have HRS_117 := Lib.hid (HRS_98.out.below hB8 (by omega))
    have HNb0_118 := Lib.hid (HNb0_99.out.keep hB8 (by omega))
    have HMb0_119 := Lib.hid (HMb0_100.out.kept HNb0_99.out hB8 (by omega))
    have HFb0_120 := Lib.hid (HFb0_101.out.keep hB8 (by omega) (by omega))
    have HY0_121 := Lib.hid (HY0_102.out.below hB8 (by omega))
    have HVb1_122 := Lib.hid (HVb1_103.out.keep hB8 (by omega))
    have HWb1_123 := Lib.hid (HWb1_104.out.kept HVb1_103.out hB8 (by omega))
    have HGai2_124 := Lib.hid (HGai2_105.out.keep hB8 (by omega))
    have HHai2_125 := Lib.hid (HHai2_106.out.kept HGai2_105.out hB8 (by omega))
    have HGbi2_126 := Lib.hid (HGbi2_107.out.keep hB8 (by omega))
    have HHbi2_127 := Lib.hid (HHbi2_108.out.kept HGbi2_107.out hB8 (by omega))
    have HGci2_128 := Lib.hid (HGci2_109.out.keep hB8 (by omega))
    have HHci2_129 := Lib.hid (HHci2_110.out.kept HGci2_109.out hB8 (by omega))
    have HRI_130 := Lib.hid (HRI_111.out.below hB8 (by omega))
    clear HB_93 HX0_94 HGas1_95 HGbs1_96 HGcs1_97 HRS_98 HNb0_99 HMb0_100 HFb0_101 HY0_102 HVb1_103 HWb1_104 HGai2_105 HHai2_106 HGbi2_107 HHbi2_108 HGci2_109 HHci2_110 HRI_111
    clear hB8 hB7
    go_wp2_with (fail)
    (with_reducible refine (toIntS_any 0 w.heap.size n1 c1 A1 m1 _ (HA1.out.keep HB_112.out (Nat.le_refl _)) HB_112.out.size hm1).mono ?_)
    rintro e w14 ⟨Asc1, csc1, rfl, _, hVc1, hWc1, hbtc1⟩
    have hz14 := hbtc1.size
    have HB_131 := Lib.hid (up HB_112.out hbtc1)
    have HX0_132 := Lib.hid (HX0_113.out.below hbtc1 (by omega))
    have HGas1_133 := Lib.hid (HGas1_114.out.keep hbtc1 (by omega))
    have HGbs1_134 := Lib.hid (HGbs1_115.out.keep hbtc1 (by omega))
    have HGcs1_135 := Lib.hid (HGcs1_116.out.keep hbtc1 (by omega))
    have HRS_136 := Lib.hid (HRS_117.out.below hbtc1 (by omega))
    have HNb0_137 := Lib.hid (HNb0_118.out.keep hbtc1 (by omega))
    have HMb0_138 := Lib.hid (HMb0_119.out.kept HNb0_118.out hbtc1 (by omega))
    have HFb0_139 := Lib.hid (HFb0_120.out.keep hbtc1 (by omega) (by omega))
    have HY0_140 := Lib.hid (HY0_121.out.below hbtc1 (by omega))
    have HVb1_141 := Lib.hid (HVb1_122.out.keep hbtc1 (by omega))
    have HWb1_142 := Lib.hid (HWb1_123.out.kept HVb1_122.out hbtc1 (by omega))
    have HGai2_143 := Lib.hid (HGai2_124.out.keep hbtc1 (by omega))
    have HHai2_144 := Lib.hid (HHai2_125.out.kept HGai2_124.out hbtc1 (by omega))
    have HGbi2_145 := Lib.hid (HGbi2_126.out.keep hbtc1 (by omega))
    have HHbi2_146 := Lib.hid (HHbi2_127.out.kept HGbi2_126.out hbtc1 (by omega))
    have HGci2_147 := Lib.hid (HGci2_128.out.keep hbtc1 (by omega))
    have HHci2_148 := Lib.hid (HHci2_129.out.kept HGci2_128.out hbtc1 (by omega))
    have HRI_149 := Lib.hid (HRI_130.out.below hbtc1 (by omega))
    clear HB_112 HX0_113 HGas1_114 HGbs1_115 HGcs1_116 HRS_117 HNb0_118 HMb0_119 HFb0_120 HY0_121 HVb1_122 HWb1_123 HGai2_124 HHai2_125 HGbi2_126 HHbi2_127 HGci2_128 HHci2_129 HRI_130
    have HVc1 := Lib.hid hVc1
    have HWc1 := Lib.hid hWc1
    clear hVc1 hWc1 hbtc1
    go_wp2_with (fail)
    (with_reducible refine (eqIntS_any _ _ n1 csb1 _ _ n1 csc1 Asb1 Asc1 m1 m1 _ HVb1_141.out (by omega) hm1 HVc1.out (by omega) hm1).mono ?_)
    rintro e w15 ⟨rfl, hbt⟩
    rw [beq_self_eq_true]
    have hz15 := hbt.size
    have HB_150 := Lib.hid (up HB_131.out hbt)
    have HX0_151 := Lib.hid (HX0_132.out.below hbt (by omega))
    have HGas1_152 := Lib.hid (HGas1_133.out.keep hbt (by omega))
    have HGbs1_153 := Lib.hid (HGbs1_134.out.keep hbt (by omega))
    have HGcs1_154 := Lib.hid (HGcs1_135.out.keep hbt (by omega))
    have HRS_155 := Lib.hid (HRS_136.out.below hbt (by omega))
    have HNb0_156 := Lib.hid (HNb0_137.out.keep hbt (by omega))
    have HMb0_157 := Lib.hid (HMb0_138.out.kept HNb0_137.out hbt (by omega))
    have HFb0_158 := Lib.hid (HFb0_139.out.keep hbt (by omega) (by omega))
    have HY0_159 := Lib.hid (HY0_140.out.below hbt (by omega))
    have HVb1_160 := Lib.hid (HVb1_141.out.keep hbt (by omega))
    have HWb1_161 := Lib.hid (HWb1_142.out.kept HVb1_141.out hbt (by omega))
    have HGai2_162 := Lib.hid (HGai2_143.out.keep hbt (by omega))
    have HHai2_163 := Lib.hid (HHai2_144.out.kept HGai2_143.out hbt (by omega))
    have HGbi2_164 := Lib.hid (HGbi2_145.out.keep hbt (by omega))
    have HHbi2_165 := Lib.hid (HHbi2_146.out.kept HGbi2_145.out hbt (by omega))
    have HGci2_166 := Lib.hid (HGci2_147.out.keep hbt (by omega))
    have HHci2_167 := Lib.hid (HHci2_148.out.kept HGci2_147.out hbt (by omega))
    have HRI_168 := Lib.hid (HRI_149.out.below hbt (by omega))
    have HVc1_169 := Lib.hid (HVc1.out.keep hbt (by omega))
    have HWc1_170 := Lib.hid (HWc1.out.kept HVc1.out hbt (by omega))
    clear HB_131 HX0_132 HGas1_133 HGbs1_134 HGcs1_135 HRS_136 HNb0_137 HMb0_138 HFb0_139 HY0_140 HVb1_141 HWb1_142 HGai2_143 HHai2_144 HGbi2_145 HHbi2_146 HGci2_147 HHci2_148 HRI_149 HVc1 HWc1
    clear hbt
    clear HWc1_170
    clear HVc1_169
    have k_171 : w15.cell? ⟨w6.heap.size, 0, none⟩ = some (.slice Anb0 ns0.length cnb0) := HY0_159.out.cell 0
    have k_172 : w15.cell? ⟨w6.heap.size, 1, none⟩ = some (.slice Bfb0 fs0.length dfb0) := HY0_159.out.cell 1
    go_wp2_with (fail)
    (with_reducible refine (markProcess_from (1) (by omega) (by omega) w5.heap.size midb0 w6.heap.size ns0.length cnb0 fs0.length dfb0 Anb0 Bfb0 ns0 fs0 _ HNb0_156.out HMb0_157.out hnn1_0 HFb0_158.out (by omega) (by omega) (by omega) hfl1_0).mono ?_)
    rintro e w17 ⟨rk0, w16, rfl, hrk0, hrl0, hbt, hwt⟩
    clear k_171 k_172
    have hz16 := hbt.size
    have hz17 := hwt.size
    clear HMb0_157
    clear HFb0_158
    clear HNb0_156
    clear HY0_159
    have HB_173 := Lib.hid (up HB_150.out hbt)
    have HX0_174 := Lib.hid (HX0_151.out.below hbt (by omega))
    have HGas1_175 := Lib.hid (HGas1_152.out.keep hbt (by omega))
    have HGbs1_176 := Lib.hid (HGbs1_153.out.keep hbt (by omega))
    have HGcs1_177 := Lib.hid (HGcs1_154.out.keep hbt (by omega))
    have HRS_178 := Lib.hid (HRS_155.out.below hbt (by omega))
    have HVb1_179 := Lib.hid (HVb1_160.out.keep hbt (by omega))
    have HWb1_180 := Lib.hid (HWb1_161.out.kept HVb1_160.out hbt (by omega))
    have HGai2_181 := Lib.hid (HGai2_162.out.keep hbt (by omega))
    have HHai2_182 := Lib.hid (HHai2_163.out.kept HGai2_162.out hbt (by omega))
    have HGbi2_183 := Lib.hid (HGbi2_164.out.keep hbt (by omega))
    have HHbi2_184 := Lib.hid (HHbi2_165.out.kept HGbi2_164.out hbt (by omega))
    have HGci2_185 := Lib.hid (HGci2_166.out.keep hbt (by omega))
    have HHci2_186 := Lib.hid (HHci2_167.out.kept HGci2_166.out hbt (by omega))
    have HRI_187 := Lib.hid (HRI_168.out.below hbt (by omega))
    clear HB_150 HX0_151 HGas1_152 HGbs1_153 HGcs1_154 HRS_155 HVb1_160 HWb1_161 HGai2_162 HHai2_163 HGbi2_164 HHbi2_165 HGci2_166 HHci2_167 HRI_168
    have HB_188 := Lib.hid (Within.below HB_173.out hwt (by omega))
    have HX0_189 := Lib.hid (show Blk w17 (w.heap.size) 25 #[.slice An0 nn0 cn0, .slice A0 n0 c0] from (hwt.block (w.heap.size) (by omega) (by omega)).trans HX0_174.out)
    have HGas1_190 := Lib.hid (HGas1_175.out.within hwt (by omega) (by omega))
    have HGbs1_191 := Lib.hid (HGbs1_176.out.within hwt (by omega) (by omega))
    have HGcs1_192 := Lib.hid (HGcs1_177.out.within hwt (by omega) (by omega))
    have HRS_193 := Lib.hid (show Blk w17 (w4.heap.size) 34 #[.slice Agas1 um.length cgas1, .slice Agbs1 uv.length cgbs1, .int .i64 ucl, .slice Agcs1 ut.length cgcs1] from (hwt.block (w4.heap.size) (by omega) (by omega)).trans HRS_178.out)
    have HVb1_194 := Lib.hid (HVb1_179.out.within hwt (by omega) (by omega))
    have HWb1_195 := Lib.hid (HWb1_180.out.within HVb1_179.out hwt (by omega) (by omega))
    have HGai2_196 := Lib.hid (HGai2_181.out.within hwt (by omega) (by omega))
    have HHai2_197 := Lib.hid (HHai2_182.out.within HGai2_181.out hwt (by omega) (by omega))
    have HGbi2_198 := Lib.hid (HGbi2_183.out.within hwt (by omega) (by omega))
    have HHbi2_199 := Lib.hid (HHbi2_184.out.within HGbi2_183.out hwt (by omega) (by omega))
    have HGci2_200 := Lib.hid (HGci2_185.out.within hwt (by omega) (by omega))
    have HHci2_201 := Lib.hid (HHci2_186.out.within HGci2_185.out hwt (by omega) (by omega))
    have HRI_202 := Lib.hid (show Blk w17 (w9.heap.size) 34 #[.slice Agai2 um.length cgai2, .slice Agbi2 uv.length cgbi2, .int .i64 ucl, .slice Agci2 ut.length cgci2] from (hwt.block (w9.heap.size) (by omega) (by omega)).trans HRI_187.out)
    clear HB_173 HX0_174 HGas1_175 HGbs1_176 HGcs1_177 HRS_178 HVb1_179 HWb1_180 HGai2_181 HHai2_182 HGbi2_183 HHbi2_184 HGci2_185 HHci2_186 HRI_187
    clear hbt hwt
    go_wp2_with (fail)
    (with_reducible refine (markIntS_any _ _ n1 csb1 Asb1 _ (rk0) _ HVb1_194.out HWb1_195.out hm1 (by omega) (by omega)).mono ?_)
    rintro e w18 ⟨rfl, _, _, hin⟩
    have hwt := Within.grown hin (in_row HVb1_194.out)
    have hz18 := hwt.size
    clear HWb1_195
    clear HVb1_194
    have HB_203 := Lib.hid (Within.below HB_188.out hwt (by omega))
    have HX0_204 := Lib.hid (show Blk w18 (w.heap.size) 25 #[.slice An0 nn0 cn0, .slice A0 n0 c0] from (hwt.block (w.heap.size) (by omega) (by omega)).trans HX0_189.out)
    have HGas1_205 := Lib.hid (HGas1_190.out.within hwt (by omega) (by omega))
    have HGbs1_206 := Lib.hid (HGbs1_191.out.within hwt (by omega) (by omega))
    have HGcs1_207 := Lib.hid (HGcs1_192.out.within hwt (by omega) (by omega))
    have HRS_208 := Lib.hid (show Blk w18 (w4.heap.size) 34 #[.slice Agas1 um.length cgas1, .slice Agbs1 uv.length cgbs1, .int .i64 ucl, .slice Agcs1 ut.length cgcs1] from (hwt.block (w4.heap.size) (by omega) (by omega)).trans HRS_193.out)
    have HGai2_209 := Lib.hid (HGai2_196.out.within hwt (by omega) (by omega))
    have HHai2_210 := Lib.hid (HHai2_197.out.within HGai2_196.out hwt (by omega) (by omega))
    have HGbi2_211 := Lib.hid (HGbi2_198.out.within hwt (by omega) (by omega))
    have HHbi2_212 := Lib.hid (HHbi2_199.out.within HGbi2_198.out hwt (by omega) (by omega))
    have HGci2_213 := Lib.hid (HGci2_200.out.within hwt (by omega) (by omega))
    have HHci2_214 := Lib.hid (HHci2_201.out.within HGci2_200.out hwt (by omega) (by omega))
    have HRI_215 := Lib.hid (show Blk w18 (w9.heap.size) 34 #[.slice Agai2 um.length cgai2, .slice Agbi2 uv.length cgbi2, .int .i64 ucl, .slice Agci2 ut.length cgci2] from (hwt.block (w9.heap.size) (by omega) (by omega)).trans HRI_202.out)
    clear HB_188 HX0_189 HGas1_190 HGbs1_191 HGcs1_192 HRS_193 HGai2_196 HHai2_197 HGbi2_198 HHbi2_199 HGci2_200 HHci2_201 HRI_202
    clear hin hwt
    have hrkn : 0 ≤ rk0 + (n1 : Int) := by omega
    have hrkd : decide (rk0 + (n1 : Int) < 0) = false := decide_eq_false (by omega)
    have k_216 : w18.cell? ⟨w9.heap.size, 0, none⟩ = some (.slice Agai2 um.length cgai2) := HRI_215.out.cell 0
    have k_217 : w18.cell? ⟨w9.heap.size, 1, none⟩ = some (.slice Agbi2 uv.length cgbi2) := HRI_215.out.cell 1
    have k_218 : w18.cell? ⟨w9.heap.size, 2, none⟩ = some (.int .i64 ucl) := HRI_215.out.cell 2
    have k_219 : w18.cell? ⟨w9.heap.size, 3, none⟩ = some (.slice Agci2 ut.length cgci2) := HRI_215.out.cell 3
    have k_220 : w18.cell? ⟨w4.heap.size, 0, none⟩ = some (.slice Agas1 um.length cgas1) := HRS_208.out.cell 0
    have k_221 : w18.cell? ⟨w4.heap.size, 1, none⟩ = some (.slice Agbs1 uv.length cgbs1) := HRS_208.out.cell 1
    have k_222 : w18.cell? ⟨w4.heap.size, 2, none⟩ = some (.int .i64 ucl) := HRS_208.out.cell 2
    have k_223 : w18.cell? ⟨w4.heap.size, 3, none⟩ = some (.slice Agcs1 ut.length cgcs1) := HRS_208.out.cell 3
    go_wp2_with (fail)
    (with_reducible refine (eqInstance_same _ _ _ _ _ _ _ _ _ _ _ _ _ _ _ _ _ _ _ _ _ _ _ _ _ _ _ _  um uv ut _ HGai2_209.out (by omega) hul0 HGbi2_211.out (by omega) hul1 HGci2_213.out (by omega) hul2 HGas1_205.out (by omega) HGbs1_206.out (by omega) HGcs1_207.out (by omega)).mono ?_)
    rintro e w19 ⟨rfl, hbt⟩
    clear k_216 k_217 k_218 k_219 k_220 k_221 k_222 k_223
    have hz19 := hbt.size
    have HB_224 := Lib.hid (up HB_203.out hbt)
    have HX0_225 := Lib.hid (HX0_204.out.below hbt (by omega))
    have HGas1_226 := Lib.hid (HGas1_205.out.keep hbt (by omega))
    have HGbs1_227 := Lib.hid (HGbs1_206.out.keep hbt (by omega))
    have HGcs1_228 := Lib.hid (HGcs1_207.out.keep hbt (by omega))
    have HRS_229 := Lib.hid (HRS_208.out.below hbt (by omega))
    have HGai2_230 := Lib.hid (HGai2_209.out.keep hbt (by omega))
    have HHai2_231 := Lib.hid (HHai2_210.out.kept HGai2_209.out hbt (by omega))
    have HGbi2_232 := Lib.hid (HGbi2_211.out.keep hbt (by omega))
    have HHbi2_233 := Lib.hid (HHbi2_212.out.kept HGbi2_211.out hbt (by omega))
    have HGci2_234 := Lib.hid (HGci2_213.out.keep hbt (by omega))
    have HHci2_235 := Lib.hid (HHci2_214.out.kept HGci2_213.out hbt (by omega))
    have HRI_236 := Lib.hid (HRI_215.out.below hbt (by omega))
    clear HB_203 HX0_204 HGas1_205 HGbs1_206 HGcs1_207 HRS_208 HGai2_209 HHai2_210 HGbi2_211 HHbi2_212 HGci2_213 HHci2_214 HRI_215
    clear hbt
    have k_237 : w19.cell? ⟨w9.heap.size, 0, none⟩ = some (.slice Agai2 um.length cgai2) := HRI_236.out.cell 0
    have k_238 : w19.cell? ⟨w9.heap.size, 1, none⟩ = some (.slice Agbi2 uv.length cgbi2) := HRI_236.out.cell 1
    have k_239 : w19.cell? ⟨w9.heap.size, 2, none⟩ = some (.int .i64 ucl) := HRI_236.out.cell 2
    have k_240 : w19.cell? ⟨w9.heap.size, 3, none⟩ = some (.slice Agci2 ut.length cgci2) := HRI_236.out.cell 3
    go_wp2_with (fail)
    (with_reducible refine (markInstance_res 1 (by omega) (by omega) _ pai2 pbi2 w9.heap.size um.length cgai2 uv.length cgbi2 ut.length cgci2 Agai2 Agbi2 Agci2 ucl _ _ _ _ HGci2_234.out HHci2_235.out hul2 HGai2_230.out HHai2_231.out hul0 HGbi2_232.out HHbi2_233.out hul1 (by omega) (by omega) (by omega) (by omega)).mono ?_)
    rintro e w21 ⟨rfl, ⟨hra, hrb, hrc⟩, w20, hbt, hwt⟩
    clear k_237 k_238 k_239 k_240
    have hz20 := hbt.size
    have hz21 := hwt.size
    clear HHai2_231
    clear HGai2_230
    clear HHbi2_233
    clear HGbi2_232
    clear HHci2_235
    clear HGci2_234
    have HB_241 := Lib.hid (up HB_224.out hbt)
    have HX0_242 := Lib.hid (HX0_225.out.below hbt (by omega))
    have HGas1_243 := Lib.hid (HGas1_226.out.keep hbt (by omega))
    have HGbs1_244 := Lib.hid (HGbs1_227.out.keep hbt (by omega))
    have HGcs1_245 := Lib.hid (HGcs1_228.out.keep hbt (by omega))
    have HRS_246 := Lib.hid (HRS_229.out.below hbt (by omega))
    have HRI_247 := Lib.hid (HRI_236.out.below hbt (by omega))
    clear HB_224 HX0_225 HGas1_226 HGbs1_227 HGcs1_228 HRS_229 HRI_236
    have HB_248 := Lib.hid (Within.below HB_241.out hwt (by omega))
    have HX0_249 := Lib.hid (show Blk w21 (w.heap.size) 25 #[.slice An0 nn0 cn0, .slice A0 n0 c0] from (hwt.block (w.heap.size) (by omega) (by omega)).trans HX0_242.out)
    have HGas1_250 := Lib.hid (HGas1_243.out.within hwt (by omega) (by omega))
    have HGbs1_251 := Lib.hid (HGbs1_244.out.within hwt (by omega) (by omega))
    have HGcs1_252 := Lib.hid (HGcs1_245.out.within hwt (by omega) (by omega))
    have HRS_253 := Lib.hid (show Blk w21 (w4.heap.size) 34 #[.slice Agas1 um.length cgas1, .slice Agbs1 uv.length cgbs1, .int .i64 ucl, .slice Agcs1 ut.length cgcs1] from (hwt.block (w4.heap.size) (by omega) (by omega)).trans HRS_246.out)
    have HRI_254 := Lib.hid (show Blk w21 (w9.heap.size) 34 #[.slice Agai2 um.length cgai2, .slice Agbi2 uv.length cgbi2, .int .i64 ucl, .slice Agci2 ut.length cgci2] from (hwt.block (w9.heap.size) (by omega) (by omega)).trans HRI_247.out)
    clear HB_241 HX0_242 HGas1_243 HGbs1_244 HGcs1_245 HRS_246 HRI_247
    clear hbt hwt
    have HQa := Lib.hid hra
    clear hra
    have HQb := Lib.hid hrb
    clear hrb
    have HQc := Lib.hid hrc
    clear hrc
    have hqn : decide ((1 : Int) + (um.length : Int) + (uv.length : Int) + 2 * (ut.length : Int) < 0) = false := decide_eq_false (by omega)
    have hqe : ((1 : Int) + (um.length : Int) + (uv.length : Int) + 2 * (ut.length : Int) != (1 : Int) + (um.length : Int) + (uv.length : Int) + 2 * (ut.length : Int)) = false := by simp
    have k_255 : w21.cell? ⟨w9.heap.size, 0, none⟩ = some (.slice Agai2 um.length cgai2) := HRI_254.out.cell 0
    have k_256 : w21.cell? ⟨w9.heap.size, 1, none⟩ = some (.slice Agbi2 uv.length cgbi2) := HRI_254.out.cell 1
    have k_257 : w21.cell? ⟨w9.heap.size, 2, none⟩ = some (.int .i64 ucl) := HRI_254.out.cell 2
    have k_258 : w21.cell? ⟨w9.heap.size, 3, none⟩ = some (.slice Agci2 ut.length cgci2) := HRI_254.out.cell 3
    go_wp2_with (fail)
    (with_reducible refine (heldInstance_res 1 (by omega) (by omega) _ pai2 pbi2 w9.heap.size um.length cgai2 uv.length cgbi2 ut.length cgci2 Agai2 Agbi2 Agci2 ucl _ HQa.out hul0 HQb.out hul1 HQc.out hul2 (by omega) (by omega) (by omega)).mono ?_)
    rintro e w22 ⟨rfl, hbt⟩
    clear k_255 k_256 k_257 k_258
    have hz22 := hbt.size
    have HB_259 := Lib.hid (up HB_248.out hbt)
    have HX0_260 := Lib.hid (HX0_249.out.below hbt (by omega))
    have HGas1_261 := Lib.hid (HGas1_250.out.keep hbt (by omega))
    have HGbs1_262 := Lib.hid (HGbs1_251.out.keep hbt (by omega))
    have HGcs1_263 := Lib.hid (HGcs1_252.out.keep hbt (by omega))
    have HRS_264 := Lib.hid (HRS_253.out.below hbt (by omega))
    have HRI_265 := Lib.hid (HRI_254.out.below hbt (by omega))
    have HQa_266 := Lib.hid (HQa.out.keep hbt (by omega))
    have HQb_267 := Lib.hid (HQb.out.keep hbt (by omega))
    have HQc_268 := Lib.hid (HQc.out.keep hbt (by omega))
    clear HB_248 HX0_249 HGas1_250 HGbs1_251 HGcs1_252 HRS_253 HRI_254 HQa HQb HQc
    clear hbt
    have k_269 : w22.cell? ⟨w.heap.size, 0, none⟩ = some (.slice An0 nn0 cn0) := HX0_260.out.cell 0
    have k_270 : w22.cell? ⟨w.heap.size, 1, none⟩ = some (.slice A0 n0 c0) := HX0_260.out.cell 1
    go_wp2_with (fail)
    (with_reducible refine (toProcess_any 0 w.heap.size nn0 cn0 An0 ns0 0 w.heap.size n0 c0 A0 fs0 _ (HRN0.out.keep HB_259.out (Nat.le_refl _)) HB_259.out.size q02 (HS0.out.keep HB_259.out (Nat.le_refl _)) HB_259.out.size q03).mono ?_)
    rintro e w23 ⟨And0, cnd0, Bfd0, dfd0, midd0, rfl, hNd0, hMd0, hltd0, hmtd0, hFd0, hbtd0⟩
    have hz23 := hbtd0.size
    clear k_269 k_270
    have HB_271 := Lib.hid (up HB_259.out hbtd0)
    have HX0_272 := Lib.hid (HX0_260.out.below hbtd0 (by omega))
    have HGas1_273 := Lib.hid (HGas1_261.out.keep hbtd0 (by omega))
    have HGbs1_274 := Lib.hid (HGbs1_262.out.keep hbtd0 (by omega))
    have HGcs1_275 := Lib.hid (HGcs1_263.out.keep hbtd0 (by omega))
    have HRS_276 := Lib.hid (HRS_264.out.below hbtd0 (by omega))
    have HRI_277 := Lib.hid (HRI_265.out.below hbtd0 (by omega))
    have HQa_278 := Lib.hid (HQa_266.out.keep hbtd0 (by omega))
    have HQb_279 := Lib.hid (HQb_267.out.keep hbtd0 (by omega))
    have HQc_280 := Lib.hid (HQc_268.out.keep hbtd0 (by omega))
    clear HB_259 HX0_260 HGas1_261 HGbs1_262 HGcs1_263 HRS_264 HRI_265 HQa_266 HQb_267 HQc_268
    have HNd0 := Lib.hid hNd0
    have HMd0 := Lib.hid hMd0
    have HFd0 := Lib.hid hFd0
    clear hNd0 hMd0 hFd0 hbtd0
    go_wp2_with (fail)
    (with_reducible refine (toIntS_any 0 w.heap.size n1 c1 A1 m1 _ (HA1.out.keep HB_271.out (Nat.le_refl _)) HB_271.out.size hm1).mono ?_)
    rintro e w24 ⟨Asd1, csd1, rfl, _, hVd1, hWd1, hbtd1⟩
    have hz24 := hbtd1.size
    have HB_281 := Lib.hid (up HB_271.out hbtd1)
    have HX0_282 := Lib.hid (HX0_272.out.below hbtd1 (by omega))
    have HGas1_283 := Lib.hid (HGas1_273.out.keep hbtd1 (by omega))
    have HGbs1_284 := Lib.hid (HGbs1_274.out.keep hbtd1 (by omega))
    have HGcs1_285 := Lib.hid (HGcs1_275.out.keep hbtd1 (by omega))
    have HRS_286 := Lib.hid (HRS_276.out.below hbtd1 (by omega))
    have HRI_287 := Lib.hid (HRI_277.out.below hbtd1 (by omega))
    have HQa_288 := Lib.hid (HQa_278.out.keep hbtd1 (by omega))
    have HQb_289 := Lib.hid (HQb_279.out.keep hbtd1 (by omega))
    have HQc_290 := Lib.hid (HQc_280.out.keep hbtd1 (by omega))
    have HNd0_291 := Lib.hid (HNd0.out.keep hbtd1 (by omega))
    have HMd0_292 := Lib.hid (HMd0.out.kept HNd0.out hbtd1 (by omega))
    have HFd0_293 := Lib.hid (HFd0.out.keep hbtd1 (by omega) (by omega))
    clear HB_271 HX0_272 HGas1_273 HGbs1_274 HGcs1_275 HRS_276 HRI_277 HQa_278 HQb_279 HQc_280 HNd0 HMd0 HFd0
    have HVd1 := Lib.hid hVd1
    have HWd1 := Lib.hid hWd1
    clear hVd1 hWd1 hbtd1
    go_wp2_with (fail)
    (with_reducible refine (StartInstanceI_any w22.heap.size midd0 ns0.length cnd0 And0 ns0 midd0 w23.heap.size fs0.length dfd0 Bfd0 fs0 w23.heap.size w24.heap.size n1 csd1 Asd1 m1 _ HNd0_291.out (by omega) hnn1_0 (HFd0_293.out.fls (by omega) (by omega)) (by omega) hfl1_0 HVd1.out (by omega) hm1).mono ?_)
    rw [HU0.out]
    intro e w25 hip; obtain ⟨Agai3, cgai3, Agbi3, cgbi3, Agci3, cgci3, pai3, pbi3, rfl, hGai3, hGbi3, hGci3, ⟨hpai3, hpbi3, hpci3⟩, ⟨hHai3, hHbi3, hHci3⟩, hbti3⟩ := hip.flat HVU.out HUB.out; clear hip
    have hz25 := hbti3.size
    have HB_294 := Lib.hid (up HB_281.out hbti3)
    have HX0_295 := Lib.hid (HX0_282.out.below hbti3 (by omega))
    have HGas1_296 := Lib.hid (HGas1_283.out.keep hbti3 (by omega))
    have HGbs1_297 := Lib.hid (HGbs1_284.out.keep hbti3 (by omega))
    have HGcs1_298 := Lib.hid (HGcs1_285.out.keep hbti3 (by omega))
    have HRS_299 := Lib.hid (HRS_286.out.below hbti3 (by omega))
    have HRI_300 := Lib.hid (HRI_287.out.below hbti3 (by omega))
    have HQa_301 := Lib.hid (HQa_288.out.keep hbti3 (by omega))
    have HQb_302 := Lib.hid (HQb_289.out.keep hbti3 (by omega))
    have HQc_303 := Lib.hid (HQc_290.out.keep hbti3 (by omega))
    have HNd0_304 := Lib.hid (HNd0_291.out.keep hbti3 (by omega))
    have HMd0_305 := Lib.hid (HMd0_292.out.kept HNd0_291.out hbti3 (by omega))
    have HFd0_306 := Lib.hid (HFd0_293.out.keep hbti3 (by omega) (by omega))
    have HVd1_307 := Lib.hid (HVd1.out.keep hbti3 (by omega))
    have HWd1_308 := Lib.hid (HWd1.out.kept HVd1.out hbti3 (by omega))
    clear HB_281 HX0_282 HGas1_283 HGbs1_284 HGcs1_285 HRS_286 HRI_287 HQa_288 HQb_289 HQc_290 HNd0_291 HMd0_292 HFd0_293 HVd1 HWd1
    clear hbti3
    have HGai3 := Lib.hid hGai3
    clear hGai3
    have HHai3 := Lib.hid hHai3
    clear hHai3
    have HGbi3 := Lib.hid hGbi3
    clear hGbi3
    have HHbi3 := Lib.hid hHbi3
    clear hHbi3
    have HGci3 := Lib.hid hGci3
    clear hGci3
    have HHci3 := Lib.hid hHci3
    clear hHci3
    clear HMd0_305
    clear HFd0_306
    clear HNd0_304
    clear HWd1_308
    clear HVd1_307
    clear HHai3
    clear HHbi3
    clear HHci3
    have hba := up_alloc (Below.refl _ w25) (.cells #[.slice Agai3 um.length cgai3, .slice Agbi3 uv.length cgbi3, .int .i64 ucl, .slice Agci3 ut.length cgci3] 34)
    have hp := Blk.new w25 34 #[.slice Agai3 um.length cgai3, .slice Agbi3 uv.length cgbi3, .int .i64 ucl, .slice Agci3 ut.length cgci3]
    have hzz : w25.heap.size + 1 = (w25.alloc (.cells #[.slice Agai3 um.length cgai3, .slice Agbi3 uv.length cgbi3, .int .i64 ucl, .slice Agci3 ut.length cgci3] 34)).heap.size := by simp
    generalize hWw26 : (w25.alloc (.cells #[.slice Agai3 um.length cgai3, .slice Agbi3 uv.length cgbi3, .int .i64 ucl, .slice Agci3 ut.length cgci3] 34)) = w26 at hba hp hzz
    have hz26 : w25.heap.size + 1 ≤ w26.heap.size := by omega
    clear hzz
    have HB_309 := Lib.hid (up HB_294.out hba)
    have HX0_310 := Lib.hid (HX0_295.out.below hba (by omega))
    have HGas1_311 := Lib.hid (HGas1_296.out.keep hba (by omega))
    have HGbs1_312 := Lib.hid (HGbs1_297.out.keep hba (by omega))
    have HGcs1_313 := Lib.hid (HGcs1_298.out.keep hba (by omega))
    have HRS_314 := Lib.hid (HRS_299.out.below hba (by omega))
    have HRI_315 := Lib.hid (HRI_300.out.below hba (by omega))
    have HQa_316 := Lib.hid (HQa_301.out.keep hba (by omega))
    have HQb_317 := Lib.hid (HQb_302.out.keep hba (by omega))
    have HQc_318 := Lib.hid (HQc_303.out.keep hba (by omega))
    have HGai3_319 := Lib.hid (HGai3.out.keep hba (by omega))
    have HGbi3_320 := Lib.hid (HGbi3.out.keep hba (by omega))
    have HGci3_321 := Lib.hid (HGci3.out.keep hba (by omega))
    clear HB_294 HX0_295 HGas1_296 HGbs1_297 HGcs1_298 HRS_299 HRI_300 HQa_301 HQb_302 HQc_303 HGai3 HGbi3 HGci3
    have HYRJ := Lib.hid hp
    clear hba hp
    have HWERJ := Lib.hid hWw26
    clear hWw26
    have k_322 : (w25.alloc (.cells #[.slice Agai3 um.length cgai3, .slice Agbi3 uv.length cgbi3, .int .i64 ucl, .slice Agci3 ut.length cgci3] 34)).cell? ⟨w25.heap.size, 0, none⟩ = some (.slice Agai3 um.length cgai3) := by rw [HWERJ.out]; exact HYRJ.out.cell 0
    have k_323 : (w25.alloc (.cells #[.slice Agai3 um.length cgai3, .slice Agbi3 uv.length cgbi3, .int .i64 ucl, .slice Agci3 ut.length cgci3] 34)).cell? ⟨w25.heap.size, 1, none⟩ = some (.slice Agbi3 uv.length cgbi3) := by rw [HWERJ.out]; exact HYRJ.out.cell 1
    have k_324 : (w25.alloc (.cells #[.slice Agai3 um.length cgai3, .slice Agbi3 uv.length cgbi3, .int .i64 ucl, .slice Agci3 ut.length cgci3] 34)).cell? ⟨w25.heap.size, 2, none⟩ = some (.int .i64 ucl) := by rw [HWERJ.out]; exact HYRJ.out.cell 2
    have k_325 : (w25.alloc (.cells #[.slice Agai3 um.length cgai3, .slice Agbi3 uv.length cgbi3, .int .i64 ucl, .slice Agci3 ut.length cgci3] 34)).cell? ⟨w25.heap.size, 3, none⟩ = some (.slice Agci3 ut.length cgci3) := by rw [HWERJ.out]; exact HYRJ.out.cell 3
    have k_326 : (w25.alloc (.cells #[.slice Agai3 um.length cgai3, .slice Agbi3 uv.length cgbi3, .int .i64 ucl, .slice Agci3 ut.length cgci3] 34)).cell? ⟨w4.heap.size, 0, none⟩ = some (.slice Agas1 um.length cgas1) := by rw [HWERJ.out]; exact HRS_314.out.cell 0
    have k_327 : (w25.alloc (.cells #[.slice Agai3 um.length cgai3, .slice Agbi3 uv.length cgbi3, .int .i64 ucl, .slice Agci3 ut.length cgci3] 34)).cell? ⟨w4.heap.size, 1, none⟩ = some (.slice Agbs1 uv.length cgbs1) := by rw [HWERJ.out]; exact HRS_314.out.cell 1
    have k_328 : (w25.alloc (.cells #[.slice Agai3 um.length cgai3, .slice Agbi3 uv.length cgbi3, .int .i64 ucl, .slice Agci3 ut.length cgci3] 34)).cell? ⟨w4.heap.size, 2, none⟩ = some (.int .i64 ucl) := by rw [HWERJ.out]; exact HRS_314.out.cell 2
    have k_329 : (w25.alloc (.cells #[.slice Agai3 um.length cgai3, .slice Agbi3 uv.length cgbi3, .int .i64 ucl, .slice Agci3 ut.length cgci3] 34)).cell? ⟨w4.heap.size, 3, none⟩ = some (.slice Agcs1 ut.length cgcs1) := by rw [HWERJ.out]; exact HRS_314.out.cell 3
    go_wp2_with (fail)
    rw [HWERJ.out]
    (with_reducible refine (eqInstance_same _ _ _ _ _ _ _ _ _ _ _ _ _ _ _ _ _ _ _ _ _ _ _ _ _ _ _ _  um uv ut _ HGai3_319.out (by omega) hul0 HGbi3_320.out (by omega) hul1 HGci3_321.out (by omega) hul2 HGas1_311.out (by omega) HGbs1_312.out (by omega) HGcs1_313.out (by omega)).mono ?_)
    rintro e w27 ⟨rfl, hbt⟩
    clear k_322 k_323 k_324 k_325 k_326 k_327 k_328 k_329
    clear HWERJ
    have hz27 := hbt.size
    have HB_330 := Lib.hid (up HB_309.out hbt)
    have HX0_331 := Lib.hid (HX0_310.out.below hbt (by omega))
    have HGas1_332 := Lib.hid (HGas1_311.out.keep hbt (by omega))
    have HGbs1_333 := Lib.hid (HGbs1_312.out.keep hbt (by omega))
    have HGcs1_334 := Lib.hid (HGcs1_313.out.keep hbt (by omega))
    have HRS_335 := Lib.hid (HRS_314.out.below hbt (by omega))
    have HRI_336 := Lib.hid (HRI_315.out.below hbt (by omega))
    have HQa_337 := Lib.hid (HQa_316.out.keep hbt (by omega))
    have HQb_338 := Lib.hid (HQb_317.out.keep hbt (by omega))
    have HQc_339 := Lib.hid (HQc_318.out.keep hbt (by omega))
    have HGai3_340 := Lib.hid (HGai3_319.out.keep hbt (by omega))
    have HGbi3_341 := Lib.hid (HGbi3_320.out.keep hbt (by omega))
    have HGci3_342 := Lib.hid (HGci3_321.out.keep hbt (by omega))
    have HRJ_343 := Lib.hid (HYRJ.out.below hbt (by omega))
    clear HB_309 HX0_310 HGas1_311 HGbs1_312 HGcs1_313 HRS_314 HRI_315 HQa_316 HQb_317 HQc_318 HGai3_319 HGbi3_320 HGci3_321 HYRJ
    clear hbt
    clear HGai3_340
    clear HGbi3_341
    clear HGci3_342
    have k_344 : w27.cell? ⟨w9.heap.size, 0, none⟩ = some (.slice Agai2 um.length cgai2) := HRI_336.out.cell 0
    have k_345 : w27.cell? ⟨w9.heap.size, 1, none⟩ = some (.slice Agbi2 uv.length cgbi2) := HRI_336.out.cell 1
    have k_346 : w27.cell? ⟨w9.heap.size, 2, none⟩ = some (.int .i64 ucl) := HRI_336.out.cell 2
    have k_347 : w27.cell? ⟨w9.heap.size, 3, none⟩ = some (.slice Agci2 ut.length cgci2) := HRI_336.out.cell 3
    go_wp2_with (fail)
    (with_reducible refine (heldInstance_res 1 (by omega) (by omega) _ pai2 pbi2 w9.heap.size um.length cgai2 uv.length cgbi2 ut.length cgci2 Agai2 Agbi2 Agci2 ucl _ HQa_337.out hul0 HQb_338.out hul1 HQc_339.out hul2 (by omega) (by omega) (by omega)).mono ?_)
    rintro e w28 ⟨rfl, hbt⟩
    clear k_344 k_345 k_346 k_347
    have hz28 := hbt.size
    have HB_348 := Lib.hid (up HB_330.out hbt)
    have HX0_349 := Lib.hid (HX0_331.out.below hbt (by omega))
    have HGas1_350 := Lib.hid (HGas1_332.out.keep hbt (by omega))
    have HGbs1_351 := Lib.hid (HGbs1_333.out.keep hbt (by omega))
    have HGcs1_352 := Lib.hid (HGcs1_334.out.keep hbt (by omega))
    have HRS_353 := Lib.hid (HRS_335.out.below hbt (by omega))
    have HRI_354 := Lib.hid (HRI_336.out.below hbt (by omega))
    have HQa_355 := Lib.hid (HQa_337.out.keep hbt (by omega))
    have HQb_356 := Lib.hid (HQb_338.out.keep hbt (by omega))
    have HQc_357 := Lib.hid (HQc_339.out.keep hbt (by omega))
    have HRJ_358 := Lib.hid (HRJ_343.out.below hbt (by omega))
    clear HB_330 HX0_331 HGas1_332 HGbs1_333 HGcs1_334 HRS_335 HRI_336 HQa_337 HQb_338 HQc_339 HRJ_343
    clear hbt
    go_wp2
    go_ret
    exact ⟨rfl, HB_348.out⟩
end Go.Proofs.YtknphikoikdcjaaGreat
