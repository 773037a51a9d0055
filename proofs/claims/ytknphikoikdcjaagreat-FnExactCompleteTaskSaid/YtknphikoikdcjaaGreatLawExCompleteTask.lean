/- The law FnExactCompleteTask, walked: it returns true. (Written by gen/exgen3.py.) -/
import Derived.Test.YtknphikoikdcjaaGreatExProcA
import Derived.Test.YtknphikoikdcjaaGreatExInt
import Derived.Test.YtknphikoikdcjaaGreatTaskX
import Derived.Test.YtknphikoikdcjaaGreatExInstA
import Derived.Test.YtknphikoikdcjaaGreatInsFlat2
import Derived.Test.YtknphikoikdcjaaGreatExSet
import Derived.Deep.RegionHeld3
import Derived.Deep.CutRange
set_option linter.unusedSimpArgs false
set_option linter.unusedVariables false
namespace Go.Proofs.YtknphikoikdcjaaGreat
open Go.RowKit

set_option maxRecDepth 100000 in
set_option maxHeartbeats 12800000 in
theorem exCompleteTask_any (nn0 cn0 n0 c0 : Nat) (An0 A0 : Option Addr) (ns0 : List (Int × Int)) (fs0 : List Flw) (w : World) (hnn0 : nn0 ≤ 9223372036854775807) (hn0 : n0 ≤ 9223372036854775807) (hrn0 : Rd w 0 w.heap.size 2 An0 nn0 (pvs ns0)) (hr0 : FlsU w 0 w.heap.size A0 n0 fs0) (nm1 cm1 nv1 cv1 nt1 ct1 : Nat) (Am1 Av1 At1 : Option Addr) (cl1 : Int) (ms1 vs1 : List Int) (ts1 : List (Int × Int)) (hnm1 : nm1 ≤ 9223372036854775807) (hnv1 : nv1 ≤ 9223372036854775807) (hnt1 : nt1 ≤ 9223372036854775807) (hrm1 : Rd w 0 w.heap.size 1 Am1 nm1 (ivs ms1)) (hrv1 : Rd w 0 w.heap.size 1 Av1 nv1 (ivs vs1)) (hrt1 : Rd w 0 w.heap.size 2 At1 nt1 (pvs ts1)) (z2 : Int) (hz2 : in64 z2) (n3 c3 : Nat) (A3 : Option Addr) (m3 : List (Int × Int)) (hn3 : n3 ≤ 9223372036854775807) (hr3 : Rd w 0 w.heap.size 2 A3 n3 (pvs m3)) :
    Calls Tryz.prog 6 #[.agg #[.slice An0 nn0 cn0, .slice A0 n0 c0], .agg #[.slice Am1 nm1 cm1, .slice Av1 nv1 cv1, .int .i64 cl1, .slice At1 nt1 ct1], .int .i64 z2, .slice A3 n3 c3] w fun e w' => e = .returned (.bool true) ∧ Below w.heap.size w w' := by
  have hb0 := up_alloc (up_alloc (Below.refl _ w) (.cells #[.slice An0 nn0 cn0, .slice A0 n0 c0] 25)) (.cells #[.slice Am1 nm1 cm1, .slice Av1 nv1 cv1, .int .i64 cl1, .slice At1 nt1 ct1] 29)
  have hx0 : Blk ((w.alloc (.cells #[.slice An0 nn0 cn0, .slice A0 n0 c0] 25)).alloc (.cells #[.slice Am1 nm1 cm1, .slice Av1 nv1 cv1, .int .i64 cl1, .slice At1 nt1 ct1] 29)) (w.heap.size) 25 #[.slice An0 nn0 cn0, .slice A0 n0 c0] := by simpa using ((Blk.new w 25 #[.slice An0 nn0 cn0, .slice A0 n0 c0]).alloc (.cells #[.slice Am1 nm1 cm1, .slice Av1 nv1 cv1, .int .i64 cl1, .slice At1 nt1 ct1] 29))
  have HX0 := Lib.hid hx0
  clear hx0
  have hx1 : Blk ((w.alloc (.cells #[.slice An0 nn0 cn0, .slice A0 n0 c0] 25)).alloc (.cells #[.slice Am1 nm1 cm1, .slice Av1 nv1 cv1, .int .i64 cl1, .slice At1 nt1 ct1] 29)) (w.heap.size + 1) 29 #[.slice Am1 nm1 cm1, .slice Av1 nv1 cv1, .int .i64 cl1, .slice At1 nt1 ct1] := by simpa using (Blk.new (w.alloc (.cells #[.slice An0 nn0 cn0, .slice A0 n0 c0] 25)) 29 #[.slice Am1 nm1 cm1, .slice Av1 nv1 cv1, .int .i64 cl1, .slice At1 nt1 ct1])
  have HX1 := Lib.hid hx1
  clear hx1
  have hzw : ((w.alloc (.cells #[.slice An0 nn0 cn0, .slice A0 n0 c0] 25)).alloc (.cells #[.slice Am1 nm1 cm1, .slice Av1 nv1 cv1, .int .i64 cl1, .slice At1 nt1 ct1] 29)).heap.size = w.heap.size + 1 + 1 := by simp
  have hz0 : w.heap.size + 1 + 1 ≤ ((w.alloc (.cells #[.slice An0 nn0 cn0, .slice A0 n0 c0] 25)).alloc (.cells #[.slice Am1 nm1 cm1, .slice Av1 nv1 cv1, .int .i64 cl1, .slice At1 nt1 ct1] 29)).heap.size := by omega
  clear hzw
  have HLN0 := Lib.hid hrn0.len2
  have HLF0 := Lib.hid hr0.1
  have HRN0 := Lib.hid hrn0
  have HR0 := Lib.hid hr0
  clear hrn0 hr0
  have HXM1 := Lib.hid hrm1
  have HXV1 := Lib.hid hrv1
  have HXT1 := Lib.hid hrt1
  clear hrm1 hrv1 hrt1
  have HL3 := Lib.hid hr3.len2
  have HA3 := Lib.hid hr3
  clear hr3
  have HB0 := Lib.hid hb0
  clear hb0
  go_enter Tryz.func6, Tryz.ntmps6
  have k_1 : ((w.alloc (.cells #[.slice An0 nn0 cn0, .slice A0 n0 c0] 25)).alloc (.cells #[.slice Am1 nm1 cm1, .slice Av1 nv1 cv1, .int .i64 cl1, .slice At1 nt1 ct1] 29)).cell? ⟨w.heap.size, 0, none⟩ = some (.slice An0 nn0 cn0) := HX0.out.cell 0
  have k_2 : ((w.alloc (.cells #[.slice An0 nn0 cn0, .slice A0 n0 c0] 25)).alloc (.cells #[.slice Am1 nm1 cm1, .slice Av1 nv1 cv1, .int .i64 cl1, .slice At1 nt1 ct1] 29)).cell? ⟨w.heap.size, 1, none⟩ = some (.slice A0 n0 c0) := HX0.out.cell 1
  go_wp2_with (fail)
  (with_reducible refine (szProcess_any 0 w.heap.size nn0 cn0 An0 ns0 0 w.heap.size n0 c0 A0 fs0 1048576 _ (HRN0.out.keep HB0.out (Nat.le_refl _)) HB0.out.size hnn0 (HR0.out.keep HB0.out (Nat.le_refl _)) HB0.out.size hn0 (by omega) (by omega)).mono ?_)
  rintro e w1 ⟨hbt, he⟩
  have hz1 : ((w.alloc (.cells #[.slice An0 nn0 cn0, .slice A0 n0 c0] 25)).alloc (.cells #[.slice Am1 nm1 cm1, .slice Av1 nv1 cv1, .int .i64 cl1, .slice At1 nt1 ct1] 29)).heap.size ≤ w1.heap.size := hbt.size
  clear k_1 k_2
  have HB_3 := Lib.hid (up HB0.out hbt)
  have HX0_4 := Lib.hid (HX0.out.below hbt (by omega))
  have HX1_5 := Lib.hid (HX1.out.below hbt (by omega))
  clear HB0 HX0 HX1
  clear hbt
  rcases he with rfl | ⟨r0, rfl, q00, q01, q02, q03, q04⟩
  · go_wp2
    go_ret
    exact ⟨rfl, HB_3.out⟩
  have hz1' : w.heap.size + 1 + 1 ≤ w1.heap.size := by omega
  clear hz0 hz1
  have HS0 := Lib.hid (HR0.out.small q04)
  clear q04 HR0
  have hnn1_0 : ns0.length ≤ 1048576 := by rw [HLN0.out]; exact q02
  have hfl1_0 : fs0.length ≤ 1048576 := by rw [HLF0.out]; exact q03
  have k_6 : w1.cell? ⟨w.heap.size + 1, 0, none⟩ = some (.slice Am1 nm1 cm1) := HX1_5.out.cell 0
  have k_7 : w1.cell? ⟨w.heap.size + 1, 1, none⟩ = some (.slice Av1 nv1 cv1) := HX1_5.out.cell 1
  have k_8 : w1.cell? ⟨w.heap.size + 1, 2, none⟩ = some (.int .i64 cl1) := HX1_5.out.cell 2
  have k_9 : w1.cell? ⟨w.heap.size + 1, 3, none⟩ = some (.slice At1 nt1 ct1) := HX1_5.out.cell 3
  go_wp2_with (fail)
  (with_reducible refine (szInstance_any nm1 cm1 nv1 cv1 nt1 ct1 Am1 Av1 At1 cl1 r0 _ hnm1 hnv1 hnt1 (by omega) (by omega)).mono ?_)
  rintro e w2 ⟨hbt, he⟩
  have hz2 : w1.heap.size ≤ w2.heap.size := hbt.size
  clear k_6 k_7 k_8 k_9
  have HB_10 := Lib.hid (up HB_3.out hbt)
  have HX0_11 := Lib.hid (HX0_4.out.below hbt (by omega))
  have HX1_12 := Lib.hid (HX1_5.out.below hbt (by omega))
  clear HB_3 HX0_4 HX1_5
  clear hbt
  rcases he with rfl | ⟨r1, rfl, q10, q11, q12, q13, q14⟩
  · go_wp2
    go_ret
    exact ⟨rfl, HB_10.out⟩
  go_wp2_with (fail)
  (with_reducible refine (szSetS_any n3 c3 A3 r1 _ hn3 (by omega) (by omega)).mono ?_)
  rintro e w3 ⟨hbt, he⟩
  have hz3 : w2.heap.size ≤ w3.heap.size := hbt.size
  have HB_13 := Lib.hid (up HB_10.out hbt)
  have HX0_14 := Lib.hid (HX0_11.out.below hbt (by omega))
  have HX1_15 := Lib.hid (HX1_12.out.below hbt (by omega))
  clear HB_10 HX0_11 HX1_12
  clear hbt
  rcases he with rfl | ⟨r3, rfl, q30, q31, hm3⟩
  · go_wp2
    go_ret
    exact ⟨rfl, HB_13.out⟩
  have hok := complete_ok ns0 fs0 ms1 vs1 cl1 ts1 z2 m3
  obtain ⟨u, hU⟩ : ∃ u, completeOf ns0 fs0 ms1 vs1 cl1 ts1 z2 m3 = u := ⟨_, rfl⟩
  rw [hU] at hok
  have HU0 := Lib.hid hU
  clear hU
  unfold InsOk at hok
  obtain ⟨⟨um, uv, ucl, ut⟩, hV⟩ : ∃ x, insV u = x := ⟨_, rfl⟩
  rw [hV] at hok
  obtain ⟨hul0, hul1, hul2⟩ := hok
  dsimp only at hul0 hul1 hul2
  have HVU := Lib.hid hV
  clear hV
  obtain ⟨ub, hUB⟩ : ∃ b, u.isSome = b := ⟨_, rfl⟩
  have HUB := Lib.hid hUB
  clear hUB
  have hne : (ub != ub) = false := by simp
  have HC0 : Hid (∀ wx : World, Below w3.heap.size w3 wx → Calls Tryz.prog 15 #[.agg #[.slice An0 nn0 cn0, .slice A0 n0 c0]] wx (ToProc ns0 fs0 wx)) := fun wx hbx => toProcess_any 0 w.heap.size nn0 cn0 An0 ns0 0 w.heap.size n0 c0 A0 fs0 wx (HRN0.out.keep (up HB_13.out hbx) (Nat.le_refl _)) (up HB_13.out hbx).size q02 (HS0.out.keep (up HB_13.out hbx) (Nat.le_refl _)) (up HB_13.out hbx).size q03
  have HC1 : Hid (∀ wx : World, Below w3.heap.size w3 wx → Calls Tryz.prog 17 #[.agg #[.slice Am1 nm1 cm1, .slice Av1 nv1 cv1, .int .i64 cl1, .slice At1 nt1 ct1]] wx (ToInst ms1 vs1 cl1 ts1 nm1 nv1 nt1 wx)) := fun wx hbx => toInstance_any nm1 cm1 nv1 cv1 nt1 ct1 Am1 Av1 At1 cl1 0 w.heap.size 0 w.heap.size 0 w.heap.size ms1 vs1 ts1 wx (HXM1.out.keep (up HB_13.out hbx) (Nat.le_refl _)) (up HB_13.out hbx).size q12 (HXV1.out.keep (up HB_13.out hbx) (Nat.le_refl _)) (up HB_13.out hbx).size q13 (HXT1.out.keep (up HB_13.out hbx) (Nat.le_refl _)) (up HB_13.out hbx).size q14
  have HC3 : Hid (∀ wx : World, Below w3.heap.size w3 wx → Calls Tryz.prog 33 #[.slice A3 n3 c3] wx (Fresh (pvs m3) 2 n3 wx)) := fun wx hbx => toSetS_any 0 w.heap.size n3 c3 A3 m3 wx (HA3.out.keep (up HB_13.out hbx) (Nat.le_refl _)) (up HB_13.out hbx).size hm3
  have HSW : Hid (∀ wx : World, Below w3.heap.size w3 wx → wx.cell? ⟨w.heap.size, 0, none⟩ = some (.slice An0 nn0 cn0) ∧ wx.cell? ⟨w.heap.size, 1, none⟩ = some (.slice A0 n0 c0) ∧ wx.cell? ⟨w.heap.size + 1, 0, none⟩ = some (.slice Am1 nm1 cm1) ∧ wx.cell? ⟨w.heap.size + 1, 1, none⟩ = some (.slice Av1 nv1 cv1) ∧ wx.cell? ⟨w.heap.size + 1, 2, none⟩ = some (.int .i64 cl1) ∧ wx.cell? ⟨w.heap.size + 1, 3, none⟩ = some (.slice At1 nt1 ct1)) := fun wx hbx => ⟨(HX0_14.out.below hbx (by omega)).cell 0, (HX0_14.out.below hbx (by omega)).cell 1, (HX1_15.out.below hbx (by omega)).cell 0, (HX1_15.out.below hbx (by omega)).cell 1, (HX1_15.out.below hbx (by omega)).cell 2, (HX1_15.out.below hbx (by omega)).cell 3⟩
  obtain ⟨kk0, kk1, kk2, kk3, kk4, kk5⟩ := HSW.out _ (Below.refl _ _)
  go_upto_region 11 with fail
  clear kk0 kk1 kk2 kk3 kk4 kk5
  go_cut [10, 11] from 37 to 47 (fun sw bw wx => ∃ g9 Agas1 cgas1 Agbs1 cgbs1 Agcs1 cgcs1, sw = .pointer (some ⟨g9, 0, none⟩) ∧ bw = .bool ub ∧ Hid (InGot w3 wx g9 um uv ucl ut Agas1 cgas1 Agbs1 cgbs1 Agcs1 cgcs1))
  case first =>
    go_region_held3 (fun wx => wx.cell? ⟨w.heap.size, 0, none⟩ = some (.slice An0 nn0 cn0) ∧ wx.cell? ⟨w.heap.size, 1, none⟩ = some (.slice A0 n0 c0) ∧ wx.cell? ⟨w.heap.size + 1, 0, none⟩ = some (.slice Am1 nm1 cm1) ∧ wx.cell? ⟨w.heap.size + 1, 1, none⟩ = some (.slice Av1 nv1 cv1) ∧ wx.cell? ⟨w.heap.size + 1, 2, none⟩ = some (.int .i64 cl1) ∧ wx.cell? ⟨w.heap.size + 1, 3, none⟩ = some (.slice At1 nt1 ct1))
      (first | with_reducible exact HSW.out _ (Below.refl _ _) | with_reducible exact HSW.out _ (up_drew (Below.refl _ _)) | with_reducible exact HSW.out _ (up_drew (up_alloc (Below.refl _ _) _)) | with_reducible exact HSW.out _ HV1.out | with_reducible exact HSW.out _ (up_alloc HV1.out _) | with_reducible exact HSW.out _ HV2.out | with_reducible exact HSW.out _ (up_alloc HV2.out _) | with_reducible exact HSW.out _ HV3.out | with_reducible exact HSW.out _ (up_alloc HV3.out _) | with_reducible exact HSW.out _ HV4.out | with_reducible exact HSW.out _ (up_alloc HV4.out _) | with_reducible exact HSW.out _ (inLay_below HV4.out hgE4))
      ((first
        | (go_at_call 15; (with_reducible refine (HC0.out _ (up_drew (Below.refl _ w3))).mono ?_); rintro e v1 ⟨Ana0, cna0, Bfa0, dfa0, mida0, rfl, hNa0, hMa0, hlta0, hmta0, hFa0, hbta0⟩; have HV1 := Lib.hid (up (up_drew (Below.refl _ w3)) hbta0); have hs1_ := HV1.out.size; have hE1 := True.intro; have hgE1 := True.intro)
        | (go_at_call 15; (with_reducible refine (HC0.out _ (up_drew (up_alloc (Below.refl _ w3) (.cells #[.slice none 0 0, .slice none 0 0, .int .i64 0, .slice none 0 0] 34)))).mono ?_); rintro e v1 ⟨Ana0, cna0, Bfa0, dfa0, mida0, rfl, hNa0, hMa0, hlta0, hmta0, hFa0, hbta0⟩; have HV1 := Lib.hid (up (up_drew (up_alloc (Below.refl _ w3) (.cells #[.slice none 0 0, .slice none 0 0, .int .i64 0, .slice none 0 0] 34))) hbta0); have hs1_ := HV1.out.size; have hE1 := (Blk.new w3 34 #[.slice none 0 0, .slice none 0 0, .int .i64 0, .slice none 0 0]).drew.below hbta0 (Blk.new w3 34 #[.slice none 0 0, .slice none 0 0, .int .i64 0, .slice none 0 0]).drew.lt; have hsx := hbta0.size; simp only [World.size_drew, World.size_alloc] at hsx; have hgE1 := Nat.le_refl w3.heap.size)
        | (go_at_call 17; (with_reducible refine (HC1.out _ HV1.out).mono ?_); rintro e v2 ⟨Axa1, cxa1, Aya1, cya1, Aza1, cza1, mxa1, mya1, rfl, ⟨hcaa1, hcba1, hcda1⟩, ⟨hmaa1, hmba1, hmca1⟩, ⟨hAa1, haa1⟩, ⟨hCa1, hca1⟩, ⟨hDa1, hda1⟩, hbta1⟩; have HV2 := Lib.hid (up HV1.out hbta1); have hs2_ := HV2.out.size; have Na0_2 := hNa0.keep hbta1 (by omega); have Fa0_2 := hFa0.keep hbta1 (by omega) (by omega); have hsx := hbta1.size; (first | (have hE2 := hE1.below hbta1 hE1.lt; have hgE2 := hgE1; have hlE2 := hE1.lt) | (have hE2 := True.intro; have hgE2 := True.intro)))
        | (go_at_call 17; (with_reducible refine (HC1.out _ (up_alloc HV1.out (.cells #[.slice none 0 0, .slice none 0 0, .int .i64 0, .slice none 0 0] 34))).mono ?_); rintro e v2 ⟨Axa1, cxa1, Aya1, cya1, Aza1, cza1, mxa1, mya1, rfl, ⟨hcaa1, hcba1, hcda1⟩, ⟨hmaa1, hmba1, hmca1⟩, ⟨hAa1, haa1⟩, ⟨hCa1, hca1⟩, ⟨hDa1, hda1⟩, hbta1⟩; have HV2 := Lib.hid (up (up_alloc HV1.out (.cells #[.slice none 0 0, .slice none 0 0, .int .i64 0, .slice none 0 0] 34)) hbta1); have hs2_ := HV2.out.size; have Na0_2 := (hNa0.keep (up_alloc (Below.refl _ v1) (.cells #[.slice none 0 0, .slice none 0 0, .int .i64 0, .slice none 0 0] 34)) (by omega)).keep hbta1 (by first | (simp; done) | (simp; omega) | omega); have Fa0_2 := (hFa0.keep (up_alloc (Below.refl _ v1) (.cells #[.slice none 0 0, .slice none 0 0, .int .i64 0, .slice none 0 0] 34)) (by omega) (by omega)).keep hbta1 (by first | (simp; done) | (simp; omega) | omega) (by first | (simp; done) | (simp; omega) | omega); have hE2 := (Blk.new v1 34 #[.slice none 0 0, .slice none 0 0, .int .i64 0, .slice none 0 0]).below hbta1 (Blk.new v1 34 #[.slice none 0 0, .slice none 0 0, .int .i64 0, .slice none 0 0]).lt; have hsx := hbta1.size; simp only [World.size_alloc] at hsx; have hgE2 := HV1.out.size)
        | (go_at_call 33; (with_reducible refine (HC3.out _ HV2.out).mono ?_); rintro e v3 ⟨Asa3, csa3, rfl, _, hVa3, hWa3, hbta3⟩; have HV3 := Lib.hid (up HV2.out hbta3); have hs3_ := HV3.out.size; have Na0_3 := Na0_2.keep hbta3 (by omega); have Fa0_3 := Fa0_2.keep hbta3 (by omega) (by omega); have Aa1_3 := hAa1.keep hbta3 (by omega); have Ca1_3 := hCa1.keep hbta3 (by omega); have Da1_3 := hDa1.keep hbta3 (by omega); have hsx := hbta3.size; (first | (have hE3 := hE2.below hbta3 hE2.lt; have hgE3 := hgE2; have hlE3 := hE2.lt) | (have hE3 := True.intro; have hgE3 := True.intro)))
        | (go_at_call 33; (with_reducible refine (HC3.out _ (up_alloc HV2.out (.cells #[.slice none 0 0, .slice none 0 0, .int .i64 0, .slice none 0 0] 34))).mono ?_); rintro e v3 ⟨Asa3, csa3, rfl, _, hVa3, hWa3, hbta3⟩; have HV3 := Lib.hid (up (up_alloc HV2.out (.cells #[.slice none 0 0, .slice none 0 0, .int .i64 0, .slice none 0 0] 34)) hbta3); have hs3_ := HV3.out.size; have Na0_3 := (Na0_2.keep (up_alloc (Below.refl _ v2) (.cells #[.slice none 0 0, .slice none 0 0, .int .i64 0, .slice none 0 0] 34)) (by omega)).keep hbta3 (by first | (simp; done) | (simp; omega) | omega); have Fa0_3 := (Fa0_2.keep (up_alloc (Below.refl _ v2) (.cells #[.slice none 0 0, .slice none 0 0, .int .i64 0, .slice none 0 0] 34)) (by omega) (by omega)).keep hbta3 (by first | (simp; done) | (simp; omega) | omega) (by first | (simp; done) | (simp; omega) | omega); have Aa1_3 := (hAa1.keep (up_alloc (Below.refl _ v2) (.cells #[.slice none 0 0, .slice none 0 0, .int .i64 0, .slice none 0 0] 34)) (by omega)).keep hbta3 (by first | (simp; done) | (simp; omega) | omega); have Ca1_3 := (hCa1.keep (up_alloc (Below.refl _ v2) (.cells #[.slice none 0 0, .slice none 0 0, .int .i64 0, .slice none 0 0] 34)) (by omega)).keep hbta3 (by first | (simp; done) | (simp; omega) | omega); have Da1_3 := (hDa1.keep (up_alloc (Below.refl _ v2) (.cells #[.slice none 0 0, .slice none 0 0, .int .i64 0, .slice none 0 0] 34)) (by omega)).keep hbta3 (by first | (simp; done) | (simp; omega) | omega); have hE3 := (Blk.new v2 34 #[.slice none 0 0, .slice none 0 0, .int .i64 0, .slice none 0 0]).below hbta3 (Blk.new v2 34 #[.slice none 0 0, .slice none 0 0, .int .i64 0, .slice none 0 0]).lt; have hsx := hbta3.size; simp only [World.size_alloc] at hsx; have hgE3 := HV2.out.size)
        | (go_at_call 32; (with_reducible refine (CompleteTaskS_any _ _ ns0.length cna0 Ana0 ns0 _ _ fs0.length dfa0 Bfa0 fs0 _ _ nm1 cxa1 Axa1 ms1 _ _ nv1 cya1 Aya1 vs1 cl1 _ _ nt1 cza1 Aza1 ts1 z2 _ _ n3 csa3 Asa3 m3 _ Na0_3 (by omega) hnn1_0 (Fa0_3.fls (by omega) (by omega)) (by omega) hfl1_0 Aa1_3 (by omega) q12 Ca1_3 (by omega) q13 Da1_3 (by omega) q14 hVa3 (by omega) hm3).mono ?_); rw [HU0.out]; intro e v4 hip; obtain ⟨Agas1, cgas1, Agbs1, cgbs1, Agcs1, cgcs1, rfl, hGas1, hGbs1, hGcs1, hbts1⟩ := hip.flat HVU.out HUB.out; clear hip; have HV4 := Lib.hid (up HV3.out hbts1); have hs4_ := HV4.out.size; (first | have hl9 := hE3.lt | have hl9 := True.intro); have hsx := hbts1.size; (first | (have hE4 := hE3.below hbts1 hE3.lt; have hgE4 := hgE3; have y0 := hE4.cell 0; have y1 := hE4.cell 1; have y2 := hE4.cell 2; have y3 := hE4.cell 3; have g0 := hE4.soft 0; have g1 := hE4.soft 1; have g2 := hE4.soft 2; have g3 := hE4.soft 3) | (have hE4 := True.intro; have hgE4 := True.intro)))
        | (go_at_call 32; (with_reducible refine (CompleteTaskS_any _ _ ns0.length cna0 Ana0 ns0 _ _ fs0.length dfa0 Bfa0 fs0 _ _ nm1 cxa1 Axa1 ms1 _ _ nv1 cya1 Aya1 vs1 cl1 _ _ nt1 cza1 Aza1 ts1 z2 _ _ n3 csa3 Asa3 m3 _ (Na0_3.keep (up_alloc (Below.refl _ v3) (.cells #[.slice none 0 0, .slice none 0 0, .int .i64 0, .slice none 0 0] 34)) (by omega)) (by first | (simp; done) | (simp; omega) | omega) hnn1_0 ((Fa0_3.keep (up_alloc (Below.refl _ v3) (.cells #[.slice none 0 0, .slice none 0 0, .int .i64 0, .slice none 0 0] 34)) (by omega) (by omega)).fls (by omega) (by omega)) (by first | (simp; done) | (simp; omega) | omega) hfl1_0 (Aa1_3.keep (up_alloc (Below.refl _ v3) (.cells #[.slice none 0 0, .slice none 0 0, .int .i64 0, .slice none 0 0] 34)) (by omega)) (by first | (simp; done) | (simp; omega) | omega) q12 (Ca1_3.keep (up_alloc (Below.refl _ v3) (.cells #[.slice none 0 0, .slice none 0 0, .int .i64 0, .slice none 0 0] 34)) (by omega)) (by first | (simp; done) | (simp; omega) | omega) q13 (Da1_3.keep (up_alloc (Below.refl _ v3) (.cells #[.slice none 0 0, .slice none 0 0, .int .i64 0, .slice none 0 0] 34)) (by omega)) (by first | (simp; done) | (simp; omega) | omega) q14 (hVa3.keep (up_alloc (Below.refl _ v3) (.cells #[.slice none 0 0, .slice none 0 0, .int .i64 0, .slice none 0 0] 34)) (by omega)) (by first | (simp; done) | (simp; omega) | omega) hm3).mono ?_); rw [HU0.out]; intro e v4 hip; obtain ⟨Agas1, cgas1, Agbs1, cgbs1, Agcs1, cgcs1, rfl, hGas1, hGbs1, hGcs1, hbts1⟩ := hip.flat HVU.out HUB.out; clear hip; have HV4 := Lib.hid (up (up_alloc HV3.out (.cells #[.slice none 0 0, .slice none 0 0, .int .i64 0, .slice none 0 0] 34)) hbts1); have hs4_ := HV4.out.size; have hl9 : v3.heap.size < (v3.alloc (.cells #[.slice none 0 0, .slice none 0 0, .int .i64 0, .slice none 0 0] 34)).heap.size := (by simp); have hE4 := (Blk.new v3 34 #[.slice none 0 0, .slice none 0 0, .int .i64 0, .slice none 0 0]).below hbts1 (Blk.new v3 34 #[.slice none 0 0, .slice none 0 0, .int .i64 0, .slice none 0 0]).lt; have hsx := hbts1.size; simp only [World.size_alloc] at hsx; have hgE4 := HV3.out.size; have y0 := hE4.cell 0; have y1 := hE4.cell 1; have y2 := hE4.cell 2; have y3 := hE4.cell 3; have g0 := hE4.soft 0; have g1 := hE4.soft 1; have g2 := hE4.soft 2; have g3 := hE4.soft 3)
        | fail "no arm"))
    all_goals
      go_wp2_with fail
      go_meet
      first
        | exact ⟨_, Agas1, cgas1, Agbs1, cgbs1, Agcs1, cgcs1, rfl, rfl, InGot.early hE4 hGas1 hGbs1 hGcs1 (by first | (simp; done) | (simp; omega) | omega) hl9 hgE4 HV4.out⟩
        | exact ⟨_, Agas1, cgas1, Agbs1, cgbs1, Agcs1, cgcs1, rfl, rfl, InGot.early hE4 hGas1 hGbs1 hGcs1 (by omega) hl9 hgE4 HV4.out⟩
        | exact ⟨_, Agas1, cgas1, Agbs1, cgbs1, Agcs1, cgcs1, rfl, rfl, InGot.last hGas1 hGbs1 hGcs1 (by omega) HV4.out⟩
  case rest =>
  obtain ⟨gRS, Agas1, cgas1, Agbs1, cgbs1, Agcs1, cgcs1, rfl, rfl, hgot⟩ := hcut
  have hglRS := hgot.out.blk.lt
  have hr9a := Lib.hid hgot.out.r0
  have hr9b := Lib.hid hgot.out.r1
  have hr9c := Lib.hid hgot.out.r2
  have hb9 := Lib.hid hgot.out.bel
  have hy9 := Lib.hid hgot.out.blk
  clear hgot
  obtain ⟨w4, hww⟩ : ∃ x : World, x = wc := ⟨_, rfl⟩
  subst hww
  have hbt := hb9.out
  have hz4 := hbt.size
  clear HSW hb9 HC0 HC1 HC3
  have HB_16 := Lib.hid (up HB_13.out hbt)
  have HX0_17 := Lib.hid (HX0_14.out.below hbt (by omega))
  have HX1_18 := Lib.hid (HX1_15.out.below hbt (by omega))
  clear HB_13 HX0_14 HX1_15
  clear hbt
  have HGas1 := Lib.hid hr9a.out
  clear hr9a
  have HGbs1 := Lib.hid hr9b.out
  clear hr9b
  have HGcs1 := Lib.hid hr9c.out
  clear hr9c
  have HYRS := Lib.hid hy9.out
  clear hy9
  have k_19 : w4.cell? ⟨w.heap.size, 0, none⟩ = some (.slice An0 nn0 cn0) := HX0_17.out.cell 0
  have k_20 : w4.cell? ⟨w.heap.size, 1, none⟩ = some (.slice A0 n0 c0) := HX0_17.out.cell 1
  go_wp2_with (fail)
  (with_reducible refine (toProcess_any 0 w.heap.size nn0 cn0 An0 ns0 0 w.heap.size n0 c0 A0 fs0 _ (HRN0.out.keep HB_16.out (Nat.le_refl _)) HB_16.out.size q02 (HS0.out.keep HB_16.out (Nat.le_refl _)) HB_16.out.size q03).mono ?_)
  rintro e w5 ⟨Anb0, cnb0, Bfb0, dfb0, midb0, rfl, hNb0, hMb0, hltb0, hmtb0, hFb0, hbtb0⟩
  have hz5 := hbtb0.size
  clear k_19 k_20
  have HB_21 := Lib.hid (up HB_16.out hbtb0)
  have HX0_22 := Lib.hid (HX0_17.out.below hbtb0 (by omega))
  have HX1_23 := Lib.hid (HX1_18.out.below hbtb0 (by omega))
  have HGas1_24 := Lib.hid (HGas1.out.keep hbtb0 (by omega))
  have HGbs1_25 := Lib.hid (HGbs1.out.keep hbtb0 (by omega))
  have HGcs1_26 := Lib.hid (HGcs1.out.keep hbtb0 (by omega))
  have HRS_27 := Lib.hid (HYRS.out.below hbtb0 (by omega))
  clear HB_16 HX0_17 HX1_18 HGas1 HGbs1 HGcs1 HYRS
  have HNb0 := Lib.hid hNb0
  have HMb0 := Lib.hid hMb0
  have HFb0 := Lib.hid hFb0
  clear hNb0 hMb0 hFb0 hbtb0
  have hba := up_alloc (Below.refl _ w5) (.cells #[.slice Anb0 ns0.length cnb0, .slice Bfb0 fs0.length dfb0] 40)
  have hp := Blk.new w5 40 #[.slice Anb0 ns0.length cnb0, .slice Bfb0 fs0.length dfb0]
  have hzz : w5.heap.size + 1 = (w5.alloc (.cells #[.slice Anb0 ns0.length cnb0, .slice Bfb0 fs0.length dfb0] 40)).heap.size := by simp
  generalize hWw6 : (w5.alloc (.cells #[.slice Anb0 ns0.length cnb0, .slice Bfb0 fs0.length dfb0] 40)) = w6 at hba hp hzz
  have hz6 : w5.heap.size + 1 ≤ w6.heap.size := by omega
  clear hzz
  have HB_28 := Lib.hid (up HB_21.out hba)
  have HX0_29 := Lib.hid (HX0_22.out.below hba (by omega))
  have HX1_30 := Lib.hid (HX1_23.out.below hba (by omega))
  have HGas1_31 := Lib.hid (HGas1_24.out.keep hba (by omega))
  have HGbs1_32 := Lib.hid (HGbs1_25.out.keep hba (by omega))
  have HGcs1_33 := Lib.hid (HGcs1_26.out.keep hba (by omega))
  have HRS_34 := Lib.hid (HRS_27.out.below hba (by omega))
  have HNb0_35 := Lib.hid (HNb0.out.keep hba (by omega))
  have HMb0_36 := Lib.hid (HMb0.out.kept HNb0.out hba (by omega))
  have HFb0_37 := Lib.hid (HFb0.out.keep hba (by omega) (by omega))
  clear HB_21 HX0_22 HX1_23 HGas1_24 HGbs1_25 HGcs1_26 HRS_27 HNb0 HMb0 HFb0
  have HY0 := Lib.hid hp
  clear hba hp
  have HWE0 := Lib.hid hWw6
  clear hWw6
  have k_38 : (w5.alloc (.cells #[.slice Anb0 ns0.length cnb0, .slice Bfb0 fs0.length dfb0] 40)).cell? ⟨w.heap.size + 1, 0, none⟩ = some (.slice Am1 nm1 cm1) := by rw [HWE0.out]; exact HX1_30.out.cell 0
  have k_39 : (w5.alloc (.cells #[.slice Anb0 ns0.length cnb0, .slice Bfb0 fs0.length dfb0] 40)).cell? ⟨w.heap.size + 1, 1, none⟩ = some (.slice Av1 nv1 cv1) := by rw [HWE0.out]; exact HX1_30.out.cell 1
  have k_40 : (w5.alloc (.cells #[.slice Anb0 ns0.length cnb0, .slice Bfb0 fs0.length dfb0] 40)).cell? ⟨w.heap.size + 1, 2, none⟩ = some (.int .i64 cl1) := by rw [HWE0.out]; exact HX1_30.out.cell 2
  have k_41 : (w5.alloc (.cells #[.slice Anb0 ns0.length cnb0, .slice Bfb0 fs0.length dfb0] 40)).cell? ⟨w.heap.size + 1, 3, none⟩ = some (.slice At1 nt1 ct1) := by rw [HWE0.out]; exact HX1_30.out.cell 3
  go_wp2_with (fail)
  rw [HWE0.out]
  (with_reducible refine (toInstance_any nm1 cm1 nv1 cv1 nt1 ct1 Am1 Av1 At1 cl1 0 w.heap.size 0 w.heap.size 0 w.heap.size ms1 vs1 ts1 _ (HXM1.out.keep HB_28.out (Nat.le_refl _)) HB_28.out.size q12 (HXV1.out.keep HB_28.out (Nat.le_refl _)) HB_28.out.size q13 (HXT1.out.keep HB_28.out (Nat.le_refl _)) HB_28.out.size q14).mono ?_)
  rintro e w7 ⟨Axb1, cxb1, Ayb1, cyb1, Azb1, czb1, mxb1, myb1, rfl, ⟨hcab1, hcbb1, hcdb1⟩, ⟨hmab1, hmbb1, hmcb1⟩, ⟨hAb1, hab1⟩, ⟨hCb1, hcb1⟩, ⟨hDb1, hdb1⟩, hbtb1⟩
  clear HWE0
  have hz7 := hbtb1.size
  clear k_38 k_39 k_40 k_41
  have HB_42 := Lib.hid (up HB_28.out hbtb1)
  have HX0_43 := Lib.hid (HX0_29.out.below hbtb1 (by omega))
  have HX1_44 := Lib.hid (HX1_30.out.below hbtb1 (by omega))
  have HGas1_45 := Lib.hid (HGas1_31.out.keep hbtb1 (by omega))
  have HGbs1_46 := Lib.hid (HGbs1_32.out.keep hbtb1 (by omega))
  have HGcs1_47 := Lib.hid (HGcs1_33.out.keep hbtb1 (by omega))
  have HRS_48 := Lib.hid (HRS_34.out.below hbtb1 (by omega))
  have HNb0_49 := Lib.hid (HNb0_35.out.keep hbtb1 (by omega))
  have HMb0_50 := Lib.hid (HMb0_36.out.kept HNb0_35.out hbtb1 (by omega))
  have HFb0_51 := Lib.hid (HFb0_37.out.keep hbtb1 (by omega) (by omega))
  have HY0_52 := Lib.hid (HY0.out.below hbtb1 (by omega))
  clear HB_28 HX0_29 HX1_30 HGas1_31 HGbs1_32 HGcs1_33 HRS_34 HNb0_35 HMb0_36 HFb0_37 HY0
  have HAb1 := Lib.hid hAb1
  have HSAb1 := Lib.hid hab1
  have HCb1 := Lib.hid hCb1
  have HSCb1 := Lib.hid hcb1
  have HDb1 := Lib.hid hDb1
  have HSDb1 := Lib.hid hdb1
  clear hAb1 hab1 hCb1 hcb1 hDb1 hdb1 hbtb1
  have hba := up_alloc (Below.refl _ w7) (.cells #[.slice Axb1 nm1 cxb1, .slice Ayb1 nv1 cyb1, .int .i64 cl1, .slice Azb1 nt1 czb1] 34)
  have hp := Blk.new w7 34 #[.slice Axb1 nm1 cxb1, .slice Ayb1 nv1 cyb1, .int .i64 cl1, .slice Azb1 nt1 czb1]
  have hzz : w7.heap.size + 1 = (w7.alloc (.cells #[.slice Axb1 nm1 cxb1, .slice Ayb1 nv1 cyb1, .int .i64 cl1, .slice Azb1 nt1 czb1] 34)).heap.size := by simp
  generalize hWw8 : (w7.alloc (.cells #[.slice Axb1 nm1 cxb1, .slice Ayb1 nv1 cyb1, .int .i64 cl1, .slice Azb1 nt1 czb1] 34)) = w8 at hba hp hzz
  have hz8 : w7.heap.size + 1 ≤ w8.heap.size := by omega
  clear hzz
  have HB_53 := Lib.hid (up HB_42.out hba)
  have HX0_54 := Lib.hid (HX0_43.out.below hba (by omega))
  have HX1_55 := Lib.hid (HX1_44.out.below hba (by omega))
  have HGas1_56 := Lib.hid (HGas1_45.out.keep hba (by omega))
  have HGbs1_57 := Lib.hid (HGbs1_46.out.keep hba (by omega))
  have HGcs1_58 := Lib.hid (HGcs1_47.out.keep hba (by omega))
  have HRS_59 := Lib.hid (HRS_48.out.below hba (by omega))
  have HNb0_60 := Lib.hid (HNb0_49.out.keep hba (by omega))
  have HMb0_61 := Lib.hid (HMb0_50.out.kept HNb0_49.out hba (by omega))
  have HFb0_62 := Lib.hid (HFb0_51.out.keep hba (by omega) (by omega))
  have HY0_63 := Lib.hid (HY0_52.out.below hba (by omega))
  have HAb1_64 := Lib.hid (HAb1.out.keep hba (by omega))
  have HSAb1_65 := Lib.hid (HSAb1.out.kept HAb1.out hba (by omega))
  have HCb1_66 := Lib.hid (HCb1.out.keep hba (by omega))
  have HSCb1_67 := Lib.hid (HSCb1.out.kept HCb1.out hba (by omega))
  have HDb1_68 := Lib.hid (HDb1.out.keep hba (by omega))
  have HSDb1_69 := Lib.hid (HSDb1.out.kept HDb1.out hba (by omega))
  clear HB_42 HX0_43 HX1_44 HGas1_45 HGbs1_46 HGcs1_47 HRS_48 HNb0_49 HMb0_50 HFb0_51 HY0_52 HAb1 HSAb1 HCb1 HSCb1 HDb1 HSDb1
  have HY1 := Lib.hid hp
  clear hba hp
  have HWE1 := Lib.hid hWw8
  clear hWw8
  go_wp2_with (fail)
  rw [HWE1.out]
  (with_reducible refine (toSetS_any 0 w.heap.size n3 c3 A3 m3 _ (HA3.out.keep HB_53.out (Nat.le_refl _)) HB_53.out.size hm3).mono ?_)
  rintro e w9 ⟨Asb3, csb3, rfl, _, hVb3, hWb3, hbtb3⟩
  clear HWE1
  have hz9 := hbtb3.size
  have HB_70 := Lib.hid (up HB_53.out hbtb3)
  have HX0_71 := Lib.hid (HX0_54.out.below hbtb3 (by omega))
  have HX1_72 := Lib.hid (HX1_55.out.below hbtb3 (by omega))
  have HGas1_73 := Lib.hid (HGas1_56.out.keep hbtb3 (by omega))
  have HGbs1_74 := Lib.hid (HGbs1_57.out.keep hbtb3 (by omega))
  have HGcs1_75 := Lib.hid (HGcs1_58.out.keep hbtb3 (by omega))
  have HRS_76 := Lib.hid (HRS_59.out.below hbtb3 (by omega))
  have HNb0_77 := Lib.hid (HNb0_60.out.keep hbtb3 (by omega))
  have HMb0_78 := Lib.hid (HMb0_61.out.kept HNb0_60.out hbtb3 (by omega))
  have HFb0_79 := Lib.hid (HFb0_62.out.keep hbtb3 (by omega) (by omega))
  have HY0_80 := Lib.hid (HY0_63.out.below hbtb3 (by omega))
  have HAb1_81 := Lib.hid (HAb1_64.out.keep hbtb3 (by omega))
  have HSAb1_82 := Lib.hid (HSAb1_65.out.kept HAb1_64.out hbtb3 (by omega))
  have HCb1_83 := Lib.hid (HCb1_66.out.keep hbtb3 (by omega))
  have HSCb1_84 := Lib.hid (HSCb1_67.out.kept HCb1_66.out hbtb3 (by omega))
  have HDb1_85 := Lib.hid (HDb1_68.out.keep hbtb3 (by omega))
  have HSDb1_86 := Lib.hid (HSDb1_69.out.kept HDb1_68.out hbtb3 (by omega))
  have HY1_87 := Lib.hid (HY1.out.below hbtb3 (by omega))
  clear HB_53 HX0_54 HX1_55 HGas1_56 HGbs1_57 HGcs1_58 HRS_59 HNb0_60 HMb0_61 HFb0_62 HY0_63 HAb1_64 HSAb1_65 HCb1_66 HSCb1_67 HDb1_68 HSDb1_69 HY1
  have HVb3 := Lib.hid hVb3
  have HWb3 := Lib.hid hWb3
  clear hVb3 hWb3 hbtb3
  have k_88 : w9.cell? ⟨w5.heap.size, 0, none⟩ = some (.slice Anb0 ns0.length cnb0) := HY0_80.out.cell 0
  have k_89 : w9.cell? ⟨w5.heap.size, 1, none⟩ = some (.slice Bfb0 fs0.length dfb0) := HY0_80.out.cell 1
  have k_90 : w9.cell? ⟨w7.heap.size, 0, none⟩ = some (.slice Axb1 nm1 cxb1) := HY1_87.out.cell 0
  have k_91 : w9.cell? ⟨w7.heap.size, 1, none⟩ = some (.slice Ayb1 nv1 cyb1) := HY1_87.out.cell 1
  have k_92 : w9.cell? ⟨w7.heap.size, 2, none⟩ = some (.int .i64 cl1) := HY1_87.out.cell 2
  have k_93 : w9.cell? ⟨w7.heap.size, 3, none⟩ = some (.slice Azb1 nt1 czb1) := HY1_87.out.cell 3
  go_wp2_with (fail)
  (with_reducible refine (CompleteTaskI_any w4.heap.size midb0 ns0.length cnb0 Anb0 ns0 midb0 w5.heap.size fs0.length dfb0 Bfb0 fs0 w6.heap.size mxb1 nm1 cxb1 Axb1 ms1 mxb1 myb1 nv1 cyb1 Ayb1 vs1 cl1 myb1 w7.heap.size nt1 czb1 Azb1 ts1 z2 w8.heap.size w9.heap.size n3 csb3 Asb3 m3 _ HNb0_77.out (by omega) hnn1_0 (HFb0_79.out.fls (by omega) (by omega)) (by omega) hfl1_0 HAb1_81.out (by omega) q12 HCb1_83.out (by omega) q13 HDb1_85.out (by omega) q14 HVb3.out (by omega) hm3).mono ?_)
  rw [HU0.out]
  intro e w10 hip; obtain ⟨Agai2, cgai2, Agbi2, cgbi2, Agci2, cgci2, pai2, pbi2, rfl, hGai2, hGbi2, hGci2, ⟨hpai2, hpbi2, hpci2⟩, ⟨hHai2, hHbi2, hHci2⟩, hbti2⟩ := hip.flat HVU.out HUB.out; clear hip
  have hz10 := hbti2.size
  clear k_88 k_89 k_90 k_91 k_92 k_93
  have HB_94 := Lib.hid (up HB_70.out hbti2)
  have HX0_95 := Lib.hid (HX0_71.out.below hbti2 (by omega))
  have HX1_96 := Lib.hid (HX1_72.out.below hbti2 (by omega))
  have HGas1_97 := Lib.hid (HGas1_73.out.keep hbti2 (by omega))
  have HGbs1_98 := Lib.hid (HGbs1_74.out.keep hbti2 (by omega))
  have HGcs1_99 := Lib.hid (HGcs1_75.out.keep hbti2 (by omega))
  have HRS_100 := Lib.hid (HRS_76.out.below hbti2 (by omega))
  have HNb0_101 := Lib.hid (HNb0_77.out.keep hbti2 (by omega))
  have HMb0_102 := Lib.hid (HMb0_78.out.kept HNb0_77.out hbti2 (by omega))
  have HFb0_103 := Lib.hid (HFb0_79.out.keep hbti2 (by omega) (by omega))
  have HY0_104 := Lib.hid (HY0_80.out.below hbti2 (by omega))
  have HAb1_105 := Lib.hid (HAb1_81.out.keep hbti2 (by omega))
  have HSAb1_106 := Lib.hid (HSAb1_82.out.kept HAb1_81.out hbti2 (by omega))
  have HCb1_107 := Lib.hid (HCb1_83.out.keep hbti2 (by omega))
  have HSCb1_108 := Lib.hid (HSCb1_84.out.kept HCb1_83.out hbti2 (by omega))
  have HDb1_109 := Lib.hid (HDb1_85.out.keep hbti2 (by omega))
  have HSDb1_110 := Lib.hid (HSDb1_86.out.kept HDb1_85.out hbti2 (by omega))
  have HY1_111 := Lib.hid (HY1_87.out.below hbti2 (by omega))
  have HVb3_112 := Lib.hid (HVb3.out.keep hbti2 (by omega))
  have HWb3_113 := Lib.hid (HWb3.out.kept HVb3.out hbti2 (by omega))
  clear HB_70 HX0_71 HX1_72 HGas1_73 HGbs1_74 HGcs1_75 HRS_76 HNb0_77 HMb0_78 HFb0_79 HY0_80 HAb1_81 HSAb1_82 HCb1_83 HSCb1_84 HDb1_85 HSDb1_86 HY1_87 HVb3 HWb3
  clear hbti2
  have HGai2 := Lib.hid hGai2
  clear hGai2
  have HHai2 := Lib.hid hHai2
  clear hHai2
  have HGbi2 := Lib.hid hGbi2
  clear hGbi2
  have HHbi2 := Lib.hid hHbi2
  clear hHbi2
  have HGci2 := Lib.hid hGci2
  clear hGci2
  have HHci2 := Lib.hid hHci2
  clear hHci2
  have hba := up_alloc (Below.refl _ w10) (.cells #[.slice Agai2 um.length cgai2, .slice Agbi2 uv.length cgbi2, .int .i64 ucl, .slice Agci2 ut.length cgci2] 34)
  have hp := Blk.new w10 34 #[.slice Agai2 um.length cgai2, .slice Agbi2 uv.length cgbi2, .int .i64 ucl, .slice Agci2 ut.length cgci2]
  have hzz : w10.heap.size + 1 = (w10.alloc (.cells #[.slice Agai2 um.length cgai2, .slice Agbi2 uv.length cgbi2, .int .i64 ucl, .slice Agci2 ut.length cgci2] 34)).heap.size := by simp
  generalize hWw11 : (w10.alloc (.cells #[.slice Agai2 um.length cgai2, .slice Agbi2 uv.length cgbi2, .int .i64 ucl, .slice Agci2 ut.length cgci2] 34)) = w11 at hba hp hzz
  have hz11 : w10.heap.size + 1 ≤ w11.heap.size := by omega
  clear hzz
  have HB_114 := Lib.hid (up HB_94.out hba)
  have HX0_115 := Lib.hid (HX0_95.out.below hba (by omega))
  have HX1_116 := Lib.hid (HX1_96.out.below hba (by omega))
  have HGas1_117 := Lib.hid (HGas1_97.out.keep hba (by omega))
  have HGbs1_118 := Lib.hid (HGbs1_98.out.keep hba (by omega))
  have HGcs1_119 := Lib.hid (HGcs1_99.out.keep hba (by omega))
  have HRS_120 := Lib.hid (HRS_100.out.below hba (by omega))
  have HNb0_121 := Lib.hid (HNb0_101.out.keep hba (by omega))
  have HMb0_122 := Lib.hid (HMb0_102.out.kept HNb0_101.out hba (by omega))
  have HFb0_123 := Lib.hid (HFb0_103.out.keep hba (by omega) (by omega))
  have HY0_124 := Lib.hid (HY0_104.out.below hba (by omega))
  have HAb1_125 := Lib.hid (HAb1_105.out.keep hba (by omega))
  have HSAb1_126 := Lib.hid (HSAb1_106.out.kept HAb1_105.out hba (by omega))
  have HCb1_127 := Lib.hid (HCb1_107.out.keep hba (by omega))
  have HSCb1_128 := Lib.hid (HSCb1_108.out.kept HCb1_107.out hba (by omega))
  have HDb1_129 := Lib.hid (HDb1_109.out.keep hba (by omega))
  have HSDb1_130 := Lib.hid (HSDb1_110.out.kept HDb1_109.out hba (by omega))
  have HY1_131 := Lib.hid (HY1_111.out.below hba (by omega))
  have HVb3_132 := Lib.hid (HVb3_112.out.keep hba (by omega))
  have HWb3_133 := Lib.hid (HWb3_113.out.kept HVb3_112.out hba (by omega))
  have HGai2_134 := Lib.hid (HGai2.out.keep hba (by omega))
  have HHai2_135 := Lib.hid (HHai2.out.kept HGai2.out hba (by omega))
  have HGbi2_136 := Lib.hid (HGbi2.out.keep hba (by omega))
  have HHbi2_137 := Lib.hid (HHbi2.out.kept HGbi2.out hba (by omega))
  have HGci2_138 := Lib.hid (HGci2.out.keep hba (by omega))
  have HHci2_139 := Lib.hid (HHci2.out.kept HGci2.out hba (by omega))
  clear HB_94 HX0_95 HX1_96 HGas1_97 HGbs1_98 HGcs1_99 HRS_100 HNb0_101 HMb0_102 HFb0_103 HY0_104 HAb1_105 HSAb1_106 HCb1_107 HSCb1_108 HDb1_109 HSDb1_110 HY1_111 HVb3_112 HWb3_113 HGai2 HHai2 HGbi2 HHbi2 HGci2 HHci2
  have HYRI := Lib.hid hp
  clear hba hp
  have HWERI := Lib.hid hWw11
  clear hWw11
  have k_140 : (w10.alloc (.cells #[.slice Agai2 um.length cgai2, .slice Agbi2 uv.length cgbi2, .int .i64 ucl, .slice Agci2 ut.length cgci2] 34)).cell? ⟨w10.heap.size, 0, none⟩ = some (.slice Agai2 um.length cgai2) := by rw [HWERI.out]; exact HYRI.out.cell 0
  have k_141 : (w10.alloc (.cells #[.slice Agai2 um.length cgai2, .slice Agbi2 uv.length cgbi2, .int .i64 ucl, .slice Agci2 ut.length cgci2] 34)).cell? ⟨w10.heap.size, 1, none⟩ = some (.slice Agbi2 uv.length cgbi2) := by rw [HWERI.out]; exact HYRI.out.cell 1
  have k_142 : (w10.alloc (.cells #[.slice Agai2 um.length cgai2, .slice Agbi2 uv.length cgbi2, .int .i64 ucl, .slice Agci2 ut.length cgci2] 34)).cell? ⟨w10.heap.size, 2, none⟩ = some (.int .i64 ucl) := by rw [HWERI.out]; exact HYRI.out.cell 2
  have k_143 : (w10.alloc (.cells #[.slice Agai2 um.length cgai2, .slice Agbi2 uv.length cgbi2, .int .i64 ucl, .slice Agci2 ut.length cgci2] 34)).cell? ⟨w10.heap.size, 3, none⟩ = some (.slice Agci2 ut.length cgci2) := by rw [HWERI.out]; exact HYRI.out.cell 3
  have k_144 : (w10.alloc (.cells #[.slice Agai2 um.length cgai2, .slice Agbi2 uv.length cgbi2, .int .i64 ucl, .slice Agci2 ut.length cgci2] 34)).cell? ⟨gRS, 0, none⟩ = some (.slice Agas1 um.length cgas1) := by rw [HWERI.out]; exact HRS_120.out.cell 0
  have k_145 : (w10.alloc (.cells #[.slice Agai2 um.length cgai2, .slice Agbi2 uv.length cgbi2, .int .i64 ucl, .slice Agci2 ut.length cgci2] 34)).cell? ⟨gRS, 1, none⟩ = some (.slice Agbs1 uv.length cgbs1) := by rw [HWERI.out]; exact HRS_120.out.cell 1
  have k_146 : (w10.alloc (.cells #[.slice Agai2 um.length cgai2, .slice Agbi2 uv.length cgbi2, .int .i64 ucl, .slice Agci2 ut.length cgci2] 34)).cell? ⟨gRS, 2, none⟩ = some (.int .i64 ucl) := by rw [HWERI.out]; exact HRS_120.out.cell 2
  have k_147 : (w10.alloc (.cells #[.slice Agai2 um.length cgai2, .slice Agbi2 uv.length cgbi2, .int .i64 ucl, .slice Agci2 ut.length cgci2] 34)).cell? ⟨gRS, 3, none⟩ = some (.slice Agcs1 ut.length cgcs1) := by rw [HWERI.out]; exact HRS_120.out.cell 3
  go_wp2_with (fail)
  rw [HWERI.out]
  (with_reducible refine (eqInstance_same _ _ _ _ _ _ _ _ _ _ _ _ _ _ _ _ _ _ _ _ _ _ _ _ _ _ _ _  um uv ut _ HGai2_134.out (by omega) hul0 HGbi2_136.out (by omega) hul1 HGci2_138.out (by omega) hul2 HGas1_117.out (by omega) HGbs1_118.out (by omega) HGcs1_119.out (by omega)).mono ?_)
  rintro e w12 ⟨rfl, hbt⟩
  clear k_140 k_141 k_142 k_143 k_144 k_145 k_146 k_147
  clear HWERI
  have hz12 := hbt.size
  have HB_148 := Lib.hid (up HB_114.out hbt)
  have HX0_149 := Lib.hid (HX0_115.out.below hbt (by omega))
  have HX1_150 := Lib.hid (HX1_116.out.below hbt (by omega))
  have HGas1_151 := Lib.hid (HGas1_117.out.keep hbt (by omega))
  have HGbs1_152 := Lib.hid (HGbs1_118.out.keep hbt (by omega))
  have HGcs1_153 := Lib.hid (HGcs1_119.out.keep hbt (by omega))
  have HRS_154 := Lib.hid (HRS_120.out.below hbt (by omega))
  have HNb0_155 := Lib.hid (HNb0_121.out.keep hbt (by omega))
  have HMb0_156 := Lib.hid (HMb0_122.out.kept HNb0_121.out hbt (by omega))
  have HFb0_157 := Lib.hid (HFb0_123.out.keep hbt (by omega) (by omega))
  have HY0_158 := Lib.hid (HY0_124.out.below hbt (by omega))
  have HAb1_159 := Lib.hid (HAb1_125.out.keep hbt (by omega))
  have HSAb1_160 := Lib.hid (HSAb1_126.out.kept HAb1_125.out hbt (by omega))
  have HCb1_161 := Lib.hid (HCb1_127.out.keep hbt (by omega))
  have HSCb1_162 := Lib.hid (HSCb1_128.out.kept HCb1_127.out hbt (by omega))
  have HDb1_163 := Lib.hid (HDb1_129.out.keep hbt (by omega))
  have HSDb1_164 := Lib.hid (HSDb1_130.out.kept HDb1_129.out hbt (by omega))
  have HY1_165 := Lib.hid (HY1_131.out.below hbt (by omega))
  have HVb3_166 := Lib.hid (HVb3_132.out.keep hbt (by omega))
  have HWb3_167 := Lib.hid (HWb3_133.out.kept HVb3_132.out hbt (by omega))
  have HGai2_168 := Lib.hid (HGai2_134.out.keep hbt (by omega))
  have HHai2_169 := Lib.hid (HHai2_135.out.kept HGai2_134.out hbt (by omega))
  have HGbi2_170 := Lib.hid (HGbi2_136.out.keep hbt (by omega))
  have HHbi2_171 := Lib.hid (HHbi2_137.out.kept HGbi2_136.out hbt (by omega))
  have HGci2_172 := Lib.hid (HGci2_138.out.keep hbt (by omega))
  have HHci2_173 := Lib.hid (HHci2_139.out.kept HGci2_138.out hbt (by omega))
  have HRI_174 := Lib.hid (HYRI.out.below hbt (by omega))
  clear HB_114 HX0_115 HX1_116 HGas1_117 HGbs1_118 HGcs1_119 HRS_120 HNb0_121 HMb0_122 HFb0_123 HY0_124 HAb1_125 HSAb1_126 HCb1_127 HSCb1_128 HDb1_129 HSDb1_130 HY1_131 HVb3_132 HWb3_133 HGai2_134 HHai2_135 HGbi2_136 HHbi2_137 HGci2_138 HHci2_139 HYRI
  clear hbt
  have HC : Hid (∀ wx : World, Below w12.heap.size w12 wx → Calls Tryz.prog 15 #[.agg #[.slice An0 nn0 cn0, .slice A0 n0 c0]] wx (ToProc ns0 fs0 wx)) := fun wx hbx => toProcess_any 0 w.heap.size nn0 cn0 An0 ns0 0 w.heap.size n0 c0 A0 fs0 wx (HRN0.out.keep (up HB_148.out hbx) (Nat.le_refl _)) (up HB_148.out hbx).size q02 (HS0.out.keep (up HB_148.out hbx) (Nat.le_refl _)) (up HB_148.out hbx).size q03
  have HSW : Hid (∀ wx : World, Below w12.heap.size w12 wx → wx.cell? ⟨w.heap.size, 0, none⟩ = some (.slice An0 nn0 cn0) ∧ wx.cell? ⟨w.heap.size, 1, none⟩ = some (.slice A0 n0 c0) ∧ wx.cell? ⟨w5.heap.size, 0, none⟩ = some (.slice Anb0 ns0.length cnb0) ∧ wx.cell? ⟨w5.heap.size, 1, none⟩ = some (.slice Bfb0 fs0.length dfb0)) := fun wx hbx => ⟨(HX0_149.out.below hbx (by omega)).cell 0, (HX0_149.out.below hbx (by omega)).cell 1, (HY0_158.out.below hbx (by omega)).cell 0, (HY0_158.out.below hbx (by omega)).cell 1⟩
  go_wp2
  go_region_held3 (fun w' => w'.cell? ⟨w.heap.size, 0, none⟩ = some (.slice An0 nn0 cn0) ∧ w'.cell? ⟨w.heap.size, 1, none⟩ = some (.slice A0 n0 c0) ∧ w'.cell? ⟨w5.heap.size, 0, none⟩ = some (.slice Anb0 ns0.length cnb0) ∧ w'.cell? ⟨w5.heap.size, 1, none⟩ = some (.slice Bfb0 fs0.length dfb0))
    (first | exact HSW.out _ (Below.refl _ _) | exact HSW.out _ (up_drew (Below.refl _ _)) | exact HSW.out _ hB7 | exact HSW.out _ hB8)
    ((first
      | (go_at_call 15; (with_reducible refine (HC.out _ (up_drew (Below.refl _ w12))).mono ?_); rintro e w13 ⟨Anq0, cnq0, Bfq0, dfq0, midq0, rfl, hNq0, hMq0, hltq0, hmtq0, hFq0, hbtq0⟩; have hB7 := up (up_drew (Below.refl _ w12)) hbtq0; have hs7 : w12.heap.size ≤ w13.heap.size := hbtq0.size; have hlu7 : w12.heap.size ≤ midq0 := hltq0)
      | (go_at_call 20; (with_reducible refine (eqProcess_same w4.heap.size midb0 ns0.length cnb0 _ midq0 ns0.length cnq0 Anb0 Anq0 ns0 midb0 w5.heap.size fs0.length dfb0 midq0 w13.heap.size fs0.length dfq0 Bfb0 Bfq0 fs0 w13 (HNb0_155.out.keep hB7 (by omega)) (by omega) hnn1_0 ((HFb0_157.out.fls (by omega) (by omega)).keep hB7 (by omega)) (by omega) hfl1_0 hNq0 (by omega) (hFq0.fls (by omega) hmtq0) (Nat.le_refl _)).mono ?_); rintro e w14 ⟨rfl, hbt8⟩; have hB8 := up hB7 hbt8)))
  all_goals
    have hz14 : w12.heap.size ≤ w14.heap.size := hB8.size
    clear HC HSW hNq0 hMq0 hFq0 hbt8 hbtq0
    have HB_175 := Lib.hid (up HB_148.out hB8)
    have HX0_176 := Lib.hid (HX0_149.out.below hB8 (by omega))
    have HX1_177 := Lib.hid (HX1_150.out.below hB8 (by omega))
    have HGas1_178 := Lib.hid (HGas1_151.out.keep hB8 (by omega))
    have HGbs1_179 := Lib.hid (HGbs1_152.out.keep hB8 (by omega))
    have HGcs1_180 := Lib.hid (HGcs1_153.out.keep hB8 (by omega))
    have HRS_181 := Lib.hid (HRS_154.out.below hB8 (by omega))
    have HNb0_182 := Lib.hid (HNb0_155.out.keep hB8 (by omega))
    have HMb0_183 := Lib.hid (HMb0_156.out.kept HNb0_155.out hB8 (by omega))
    have HFb0_184 := Lib.hid (HFb0_157.out.keep hB8 (by omega) (by omega))
    have HY0_185 := Lib.hid (HY0_158.out.below hB8 (by omega))
    have HAb1_186 := Lib.hid (HAb1_159.out.keep hB8 (by omega))
    have HSAb1_187 := Lib.hid (HSAb1_160.out.kept HAb1_159.out hB8 (by omega))
    have HCb1_188 := Lib.hid (HCb1_161.out.keep hB8 (by omega))
    have HSCb1_189 := Lib.hid (HSCb1_162.out.kept HCb1_161.out hB8 (by omega))
    have HDb1_190 := Lib.hid (HDb1_163.out.keep hB8 (by omega))
    have HSDb1_191 := Lib.hid (HSDb1_164.out.kept HDb1_163.out hB8 (by omega))
    have HY1_192 := Lib.hid (HY1_165.out.below hB8 (by omega))
    have HVb3_193 := Lib.hid (HVb3_166.out.keep hB8 (by omega))
    have HWb3_194 := Lib.hid (HWb3_167.out.kept HVb3_166.out hB8 (by omega))
    have HGai2_195 := Lib.hid (HGai2_168.out.keep hB8 (by omega))
    have HHai2_196 := Lib.hid (HHai2_169.out.kept HGai2_168.out hB8 (by omega))
    have HGbi2_197 := Lib.hid (HGbi2_170.out.keep hB8 (by omega))
    have HHbi2_198 := Lib.hid (HHbi2_171.out.kept HGbi2_170.out hB8 (by omega))
    have HGci2_199 := Lib.hid (HGci2_172.out.keep hB8 (by omega))
    have HHci2_200 := Lib.hid (HHci2_173.out.kept HGci2_172.out hB8 (by omega))
    have HRI_201 := Lib.hid (HRI_174.out.below hB8 (by omega))
    clear HB_148 HX0_149 HX1_150 HGas1_151 HGbs1_152 HGcs1_153 HRS_154 HNb0_155 HMb0_156 HFb0_157 HY0_158 HAb1_159 HSAb1_160 HCb1_161 HSCb1_162 HDb1_163 HSDb1_164 HY1_165 HVb3_166 HWb3_167 HGai2_168 HHai2_169 HGbi2_170 HHbi2_171 HGci2_172 HHci2_173 HRI_174
    clear hB8 hB7
    have HC : Hid (∀ wx : World, Below w14.heap.size w14 wx → Calls Tryz.prog 17 #[.agg #[.slice Am1 nm1 cm1, .slice Av1 nv1 cv1, .int .i64 cl1, .slice At1 nt1 ct1]] wx (ToInst ms1 vs1 cl1 ts1 nm1 nv1 nt1 wx)) := fun wx hbx => toInstance_any nm1 cm1 nv1 cv1 nt1 ct1 Am1 Av1 At1 cl1 0 w.heap.size 0 w.heap.size 0 w.heap.size ms1 vs1 ts1 wx (HXM1.out.keep (up HB_175.out hbx) (Nat.le_refl _)) (up HB_175.out hbx).size q12 (HXV1.out.keep (up HB_175.out hbx) (Nat.le_refl _)) (up HB_175.out hbx).size q13 (HXT1.out.keep (up HB_175.out hbx) (Nat.le_refl _)) (up HB_175.out hbx).size q14
    have HSW : Hid (∀ wx : World, Below w14.heap.size w14 wx → wx.cell? ⟨w.heap.size + 1, 0, none⟩ = some (.slice Am1 nm1 cm1) ∧ wx.cell? ⟨w.heap.size + 1, 1, none⟩ = some (.slice Av1 nv1 cv1) ∧ wx.cell? ⟨w.heap.size + 1, 2, none⟩ = some (.int .i64 cl1) ∧ wx.cell? ⟨w.heap.size + 1, 3, none⟩ = some (.slice At1 nt1 ct1) ∧ wx.cell? ⟨w7.heap.size, 0, none⟩ = some (.slice Axb1 nm1 cxb1) ∧ wx.cell? ⟨w7.heap.size, 1, none⟩ = some (.slice Ayb1 nv1 cyb1) ∧ wx.cell? ⟨w7.heap.size, 2, none⟩ = some (.int .i64 cl1) ∧ wx.cell? ⟨w7.heap.size, 3, none⟩ = some (.slice Azb1 nt1 czb1)) := fun wx hbx => ⟨(HX1_177.out.below hbx (by omega)).cell 0, (HX1_177.out.below hbx (by omega)).cell 1, (HX1_177.out.below hbx (by omega)).cell 2, (HX1_177.out.below hbx (by omega)).cell 3, (HY1_192.out.below hbx (by omega)).cell 0, (HY1_192.out.below hbx (by omega)).cell 1, (HY1_192.out.below hbx (by omega)).cell 2, (HY1_192.out.below hbx (by omega)).cell 3⟩
    go_wp2
    go_region_held3 (fun w' => w'.cell? ⟨w.heap.size + 1, 0, none⟩ = some (.slice Am1 nm1 cm1) ∧ w'.cell? ⟨w.heap.size + 1, 1, none⟩ = some (.slice Av1 nv1 cv1) ∧ w'.cell? ⟨w.heap.size + 1, 2, none⟩ = some (.int .i64 cl1) ∧ w'.cell? ⟨w.heap.size + 1, 3, none⟩ = some (.slice At1 nt1 ct1) ∧ w'.cell? ⟨w7.heap.size, 0, none⟩ = some (.slice Axb1 nm1 cxb1) ∧ w'.cell? ⟨w7.heap.size, 1, none⟩ = some (.slice Ayb1 nv1 cyb1) ∧ w'.cell? ⟨w7.heap.size, 2, none⟩ = some (.int .i64 cl1) ∧ w'.cell? ⟨w7.heap.size, 3, none⟩ = some (.slice Azb1 nt1 czb1))
      (first | exact HSW.out _ (Below.refl _ _) | exact HSW.out _ (up_drew (Below.refl _ _)) | exact HSW.out _ hB7 | exact HSW.out _ hB8)
      ((first
        | (go_at_call 17; (with_reducible refine (HC.out _ (up_drew (Below.refl _ w14))).mono ?_); rintro e w15 ⟨Axq1, cxq1, Ayq1, cyq1, Azq1, czq1, mxq1, myq1, rfl, ⟨hcaq1, hcbq1, hcdq1⟩, ⟨hmaq1, hmbq1, hmcq1⟩, ⟨hAq1, haq1⟩, ⟨hCq1, hcq1⟩, ⟨hDq1, hdq1⟩, hbtq1⟩; have hB7 := up (up_drew (Below.refl _ w14)) hbtq1; have hs7 : w14.heap.size ≤ w15.heap.size := hbtq1.size)
        | (go_at_call 19; (with_reducible refine (eqInstance_same nm1 nv1 nt1 cxb1 cyb1 czb1 cxq1 cyq1 czq1 Axb1 Ayb1 Azb1 Axq1 Ayq1 Azq1 cl1 w6.heap.size mxb1 mxb1 myb1 myb1 w7.heap.size _ mxq1 mxq1 myq1 myq1 w15.heap.size ms1 vs1 ts1 w15 (HAb1_186.out.keep hB7 (by omega)) (by omega) q12 (HCb1_188.out.keep hB7 (by omega)) (by omega) q13 (HDb1_190.out.keep hB7 (by omega)) (by omega) q14 hAq1 (by omega) hCq1 (by omega) hDq1 (by omega)).mono ?_); rintro e w16 ⟨rfl, hbt8⟩; have hB8 := up hB7 hbt8)))
    all_goals
      have hz16 : w14.heap.size ≤ w16.heap.size := hB8.size
      clear HC HSW hAq1 haq1 hCq1 hcq1 hDq1 hdq1 hbt8 hbtq1
      have HB_202 := Lib.hid (up HB_175.out hB8)
      have HX0_203 := Lib.hid (HX0_176.out.below hB8 (by omega))
      have HX1_204 := Lib.hid (HX1_177.out.below hB8 (by omega))
      have HGas1_205 := Lib.hid (HGas1_178.out.keep hB8 (by omega))
      have HGbs1_206 := Lib.hid (HGbs1_179.out.keep hB8 (by omega))
      have HGcs1_207 := Lib.hid (HGcs1_180.out.keep hB8 (by omega))
      have HRS_208 := Lib.hid (HRS_181.out.below hB8 (by omega))
      have HNb0_209 := Lib.hid (HNb0_182.out.keep hB8 (by omega))
      have HMb0_210 := Lib.hid (HMb0_183.out.kept HNb0_182.out hB8 (by omega))
      have HFb0_211 := Lib.hid (HFb0_184.out.keep hB8 (by omega) (by omega))
      have HY0_212 := Lib.hid (HY0_185.out.below hB8 (by omega))
      have HAb1_213 := Lib.hid (HAb1_186.out.keep hB8 (by omega))
      have HSAb1_214 := Lib.hid (HSAb1_187.out.kept HAb1_186.out hB8 (by omega))
      have HCb1_215 := Lib.hid (HCb1_188.out.keep hB8 (by omega))
      have HSCb1_216 := Lib.hid (HSCb1_189.out.kept HCb1_188.out hB8 (by omega))
      have HDb1_217 := Lib.hid (HDb1_190.out.keep hB8 (by omega))
      have HSDb1_218 := Lib.hid (HSDb1_191.out.kept HDb1_190.out hB8 (by omega))
      have HY1_219 := Lib.hid (HY1_192.out.below hB8 (by omega))
      have HVb3_220 := Lib.hid (HVb3_193.out.keep hB8 (by omega))
      have HWb3_221 := Lib.hid (HWb3_194.out.kept HVb3_193.out hB8 (by omega))
      have HGai2_222 := Lib.hid (HGai2_195.out.keep hB8 (by omega))
      have HHai2_223 := Lib.hid (HHai2_196.out.kept HGai2_195.out hB8 (by omega))
      have HGbi2_224 := Lib.hid (HGbi2_197.out.keep hB8 (by omega))
      have HHbi2_225 := Lib.hid (HHbi2_198.out.kept HGbi2_197.out hB8 (by omega))
      have HGci2_226 := Lib.hid (HGci2_199.out.keep hB8 (by omega))
      have HHci2_227 := Lib.hid (HHci2_200.out.kept HGci2_199.out hB8 (by omega))
      have HRI_228 := Lib.hid (HRI_201.out.below hB8 (by omega))
      clear HB_175 HX0_176 HX1_177 HGas1_178 HGbs1_179 HGcs1_180 HRS_181 HNb0_182 HMb0_183 HFb0_184 HY0_185 HAb1_186 HSAb1_187 HCb1_188 HSCb1_189 HDb1_190 HSDb1_191 HY1_192 HVb3_193 HWb3_194 HGai2_195 HHai2_196 HGbi2_197 HHbi2_198 HGci2_199 HHci2_200 HRI_201
      clear hB8 hB7
      go_wp2_with (fail)
      (with_reducible refine (toSetS_any 0 w.heap.size n3 c3 A3 m3 _ (HA3.out.keep HB_202.out (Nat.le_refl _)) HB_202.out.size hm3).mono ?_)
      rintro e w17 ⟨Asc3, csc3, rfl, _, hVc3, hWc3, hbtc3⟩
      have hz17 := hbtc3.size
      have HB_229 := Lib.hid (up HB_202.out hbtc3)
      have HX0_230 := Lib.hid (HX0_203.out.below hbtc3 (by omega))
      have HX1_231 := Lib.hid (HX1_204.out.below hbtc3 (by omega))
      have HGas1_232 := Lib.hid (HGas1_205.out.keep hbtc3 (by omega))
      have HGbs1_233 := Lib.hid (HGbs1_206.out.keep hbtc3 (by omega))
      have HGcs1_234 := Lib.hid (HGcs1_207.out.keep hbtc3 (by omega))
      have HRS_235 := Lib.hid (HRS_208.out.below hbtc3 (by omega))
      have HNb0_236 := Lib.hid (HNb0_209.out.keep hbtc3 (by omega))
      have HMb0_237 := Lib.hid (HMb0_210.out.kept HNb0_209.out hbtc3 (by omega))
      have HFb0_238 := Lib.hid (HFb0_211.out.keep hbtc3 (by omega) (by omega))
      have HY0_239 := Lib.hid (HY0_212.out.below hbtc3 (by omega))
      have HAb1_240 := Lib.hid (HAb1_213.out.keep hbtc3 (by omega))
      have HSAb1_241 := Lib.hid (HSAb1_214.out.kept HAb1_213.out hbtc3 (by omega))
      have HCb1_242 := Lib.hid (HCb1_215.out.keep hbtc3 (by omega))
      have HSCb1_243 := Lib.hid (HSCb1_216.out.kept HCb1_215.out hbtc3 (by omega))
      have HDb1_244 := Lib.hid (HDb1_217.out.keep hbtc3 (by omega))
      have HSDb1_245 := Lib.hid (HSDb1_218.out.kept HDb1_217.out hbtc3 (by omega))
      have HY1_246 := Lib.hid (HY1_219.out.below hbtc3 (by omega))
      have HVb3_247 := Lib.hid (HVb3_220.out.keep hbtc3 (by omega))
      have HWb3_248 := Lib.hid (HWb3_221.out.kept HVb3_220.out hbtc3 (by omega))
      have HGai2_249 := Lib.hid (HGai2_222.out.keep hbtc3 (by omega))
      have HHai2_250 := Lib.hid (HHai2_223.out.kept HGai2_222.out hbtc3 (by omega))
      have HGbi2_251 := Lib.hid (HGbi2_224.out.keep hbtc3 (by omega))
      have HHbi2_252 := Lib.hid (HHbi2_225.out.kept HGbi2_224.out hbtc3 (by omega))
      have HGci2_253 := Lib.hid (HGci2_226.out.keep hbtc3 (by omega))
      have HHci2_254 := Lib.hid (HHci2_227.out.kept HGci2_226.out hbtc3 (by omega))
      have HRI_255 := Lib.hid (HRI_228.out.below hbtc3 (by omega))
      clear HB_202 HX0_203 HX1_204 HGas1_205 HGbs1_206 HGcs1_207 HRS_208 HNb0_209 HMb0_210 HFb0_211 HY0_212 HAb1_213 HSAb1_214 HCb1_215 HSCb1_216 HDb1_217 HSDb1_218 HY1_219 HVb3_220 HWb3_221 HGai2_222 HHai2_223 HGbi2_224 HHbi2_225 HGci2_226 HHci2_227 HRI_228
      have HVc3 := Lib.hid hVc3
      have HWc3 := Lib.hid hWc3
      clear hVc3 hWc3 hbtc3
      go_wp2_with (fail)
      (with_reducible refine (eqSetS_any _ _ n3 csb3 _ _ n3 csc3 Asb3 Asc3 m3 m3 _ HVb3_247.out (by omega) hm3 HVc3.out (by omega) hm3).mono ?_)
      rintro e w18 ⟨rfl, hbt⟩
      rw [beq_self_eq_true]
      have hz18 := hbt.size
      have HB_256 := Lib.hid (up HB_229.out hbt)
      have HX0_257 := Lib.hid (HX0_230.out.below hbt (by omega))
      have HX1_258 := Lib.hid (HX1_231.out.below hbt (by omega))
      have HGas1_259 := Lib.hid (HGas1_232.out.keep hbt (by omega))
      have HGbs1_260 := Lib.hid (HGbs1_233.out.keep hbt (by omega))
      have HGcs1_261 := Lib.hid (HGcs1_234.out.keep hbt (by omega))
      have HRS_262 := Lib.hid (HRS_235.out.below hbt (by omega))
      have HNb0_263 := Lib.hid (HNb0_236.out.keep hbt (by omega))
      have HMb0_264 := Lib.hid (HMb0_237.out.kept HNb0_236.out hbt (by omega))
      have HFb0_265 := Lib.hid (HFb0_238.out.keep hbt (by omega) (by omega))
      have HY0_266 := Lib.hid (HY0_239.out.below hbt (by omega))
      have HAb1_267 := Lib.hid (HAb1_240.out.keep hbt (by omega))
      have HSAb1_268 := Lib.hid (HSAb1_241.out.kept HAb1_240.out hbt (by omega))
      have HCb1_269 := Lib.hid (HCb1_242.out.keep hbt (by omega))
      have HSCb1_270 := Lib.hid (HSCb1_243.out.kept HCb1_242.out hbt (by omega))
      have HDb1_271 := Lib.hid (HDb1_244.out.keep hbt (by omega))
      have HSDb1_272 := Lib.hid (HSDb1_245.out.kept HDb1_244.out hbt (by omega))
      have HY1_273 := Lib.hid (HY1_246.out.below hbt (by omega))
      have HVb3_274 := Lib.hid (HVb3_247.out.keep hbt (by omega))
      have HWb3_275 := Lib.hid (HWb3_248.out.kept HVb3_247.out hbt (by omega))
      have HGai2_276 := Lib.hid (HGai2_249.out.keep hbt (by omega))
      have HHai2_277 := Lib.hid (HHai2_250.out.kept HGai2_249.out hbt (by omega))
      have HGbi2_278 := Lib.hid (HGbi2_251.out.keep hbt (by omega))
      have HHbi2_279 := Lib.hid (HHbi2_252.out.kept HGbi2_251.out hbt (by omega))
      have HGci2_280 := Lib.hid (HGci2_253.out.keep hbt (by omega))
      have HHci2_281 := Lib.hid (HHci2_254.out.kept HGci2_253.out hbt (by omega))
      have HRI_282 := Lib.hid (HRI_255.out.below hbt (by omega))
      have HVc3_283 := Lib.hid (HVc3.out.keep hbt (by omega))
      have HWc3_284 := Lib.hid (HWc3.out.kept HVc3.out hbt (by omega))
      clear HB_229 HX0_230 HX1_231 HGas1_232 HGbs1_233 HGcs1_234 HRS_235 HNb0_236 HMb0_237 HFb0_238 HY0_239 HAb1_240 HSAb1_241 HCb1_242 HSCb1_243 HDb1_244 HSDb1_245 HY1_246 HVb3_247 HWb3_248 HGai2_249 HHai2_250 HGbi2_251 HHbi2_252 HGci2_253 HHci2_254 HRI_255 HVc3 HWc3
      clear hbt
      clear HWc3_284
      clear HVc3_283
      have k_285 : w18.cell? ⟨w5.heap.size, 0, none⟩ = some (.slice Anb0 ns0.length cnb0) := HY0_266.out.cell 0
      have k_286 : w18.cell? ⟨w5.heap.size, 1, none⟩ = some (.slice Bfb0 fs0.length dfb0) := HY0_266.out.cell 1
      go_wp2_with (fail)
      (with_reducible refine (markProcess_from (1) (by omega) (by omega) w4.heap.size midb0 w5.heap.size ns0.length cnb0 fs0.length dfb0 Anb0 Bfb0 ns0 fs0 _ HNb0_263.out HMb0_264.out hnn1_0 HFb0_265.out (by omega) (by omega) (by omega) hfl1_0).mono ?_)
      rintro e w20 ⟨rk0, w19, rfl, hrk0, hrl0, hbt, hwt⟩
      clear k_285 k_286
      have hz19 := hbt.size
      have hz20 := hwt.size
      clear HMb0_264
      clear HFb0_265
      clear HNb0_263
      clear HY0_266
      have HB_287 := Lib.hid (up HB_256.out hbt)
      have HX0_288 := Lib.hid (HX0_257.out.below hbt (by omega))
      have HX1_289 := Lib.hid (HX1_258.out.below hbt (by omega))
      have HGas1_290 := Lib.hid (HGas1_259.out.keep hbt (by omega))
      have HGbs1_291 := Lib.hid (HGbs1_260.out.keep hbt (by omega))
      have HGcs1_292 := Lib.hid (HGcs1_261.out.keep hbt (by omega))
      have HRS_293 := Lib.hid (HRS_262.out.below hbt (by omega))
      have HAb1_294 := Lib.hid (HAb1_267.out.keep hbt (by omega))
      have HSAb1_295 := Lib.hid (HSAb1_268.out.kept HAb1_267.out hbt (by omega))
      have HCb1_296 := Lib.hid (HCb1_269.out.keep hbt (by omega))
      have HSCb1_297 := Lib.hid (HSCb1_270.out.kept HCb1_269.out hbt (by omega))
      have HDb1_298 := Lib.hid (HDb1_271.out.keep hbt (by omega))
      have HSDb1_299 := Lib.hid (HSDb1_272.out.kept HDb1_271.out hbt (by omega))
      have HY1_300 := Lib.hid (HY1_273.out.below hbt (by omega))
      have HVb3_301 := Lib.hid (HVb3_274.out.keep hbt (by omega))
      have HWb3_302 := Lib.hid (HWb3_275.out.kept HVb3_274.out hbt (by omega))
      have HGai2_303 := Lib.hid (HGai2_276.out.keep hbt (by omega))
      have HHai2_304 := Lib.hid (HHai2_277.out.kept HGai2_276.out hbt (by omega))
      have HGbi2_305 := Lib.hid (HGbi2_278.out.keep hbt (by omega))
      have HHbi2_306 := Lib.hid (HHbi2_279.out.kept HGbi2_278.out hbt (by omega))
      have HGci2_307 := Lib.hid (HGci2_280.out.keep hbt (by omega))
      have HHci2_308 := Lib.hid (HHci2_281.out.kept HGci2_280.out hbt (by omega))
      have HRI_309 := Lib.hid (HRI_282.out.below hbt (by omega))
      clear HB_256 HX0_257 HX1_258 HGas1_259 HGbs1_260 HGcs1_261 HRS_262 HAb1_267 HSAb1_268 HCb1_269 HSCb1_270 HDb1_271 HSDb1_272 HY1_273 HVb3_274 HWb3_275 HGai2_276 HHai2_277 HGbi2_278 HHbi2_279 HGci2_280 HHci2_281 HRI_282
      have HB_310 := Lib.hid (Within.below HB_287.out hwt (by omega))
      have HX0_311 := Lib.hid (show Blk w20 (w.heap.size) 25 #[.slice An0 nn0 cn0, .slice A0 n0 c0] from (hwt.block (w.heap.size) (by omega) (by omega)).trans HX0_288.out)
      have HX1_312 := Lib.hid (show Blk w20 (w.heap.size + 1) 29 #[.slice Am1 nm1 cm1, .slice Av1 nv1 cv1, .int .i64 cl1, .slice At1 nt1 ct1] from (hwt.block (w.heap.size + 1) (by omega) (by omega)).trans HX1_289.out)
      have HGas1_313 := Lib.hid (HGas1_290.out.within hwt (by omega) (by omega))
      have HGbs1_314 := Lib.hid (HGbs1_291.out.within hwt (by omega) (by omega))
      have HGcs1_315 := Lib.hid (HGcs1_292.out.within hwt (by omega) (by omega))
      have HRS_316 := Lib.hid (show Blk w20 (gRS) 34 #[.slice Agas1 um.length cgas1, .slice Agbs1 uv.length cgbs1, .int .i64 ucl, .slice Agcs1 ut.length cgcs1] from (hwt.block (gRS) (by omega) (by omega)).trans HRS_293.out)
      have HAb1_317 := Lib.hid (HAb1_294.out.within hwt (by omega) (by omega))
      have HSAb1_318 := Lib.hid (HSAb1_295.out.within HAb1_294.out hwt (by omega) (by omega))
      have HCb1_319 := Lib.hid (HCb1_296.out.within hwt (by omega) (by omega))
      have HSCb1_320 := Lib.hid (HSCb1_297.out.within HCb1_296.out hwt (by omega) (by omega))
      have HDb1_321 := Lib.hid (HDb1_298.out.within hwt (by omega) (by omega))
      have HSDb1_322 := Lib.hid (HSDb1_299.out.within HDb1_298.out hwt (by omega) (by omega))
      have HY1_323 := Lib.hid (show Blk w20 (w7.heap.size) 34 #[.slice Axb1 nm1 cxb1, .slice Ayb1 nv1 cyb1, .int .i64 cl1, .slice Azb1 nt1 czb1] from (hwt.block (w7.heap.size) (by omega) (by omega)).trans HY1_300.out)
      have HVb3_324 := Lib.hid (HVb3_301.out.within hwt (by omega) (by omega))
      have HWb3_325 := Lib.hid (HWb3_302.out.within HVb3_301.out hwt (by omega) (by omega))
      have HGai2_326 := Lib.hid (HGai2_303.out.within hwt (by omega) (by omega))
      have HHai2_327 := Lib.hid (HHai2_304.out.within HGai2_303.out hwt (by omega) (by omega))
      have HGbi2_328 := Lib.hid (HGbi2_305.out.within hwt (by omega) (by omega))
      have HHbi2_329 := Lib.hid (HHbi2_306.out.within HGbi2_305.out hwt (by omega) (by omega))
      have HGci2_330 := Lib.hid (HGci2_307.out.within hwt (by omega) (by omega))
      have HHci2_331 := Lib.hid (HHci2_308.out.within HGci2_307.out hwt (by omega) (by omega))
      have HRI_332 := Lib.hid (show Blk w20 (w10.heap.size) 34 #[.slice Agai2 um.length cgai2, .slice Agbi2 uv.length cgbi2, .int .i64 ucl, .slice Agci2 ut.length cgci2] from (hwt.block (w10.heap.size) (by omega) (by omega)).trans HRI_309.out)
      clear HB_287 HX0_288 HX1_289 HGas1_290 HGbs1_291 HGcs1_292 HRS_293 HAb1_294 HSAb1_295 HCb1_296 HSCb1_297 HDb1_298 HSDb1_299 HY1_300 HVb3_301 HWb3_302 HGai2_303 HHai2_304 HGbi2_305 HHbi2_306 HGci2_307 HHci2_308 HRI_309
      clear hbt hwt
      have k_333 : w20.cell? ⟨w7.heap.size, 0, none⟩ = some (.slice Axb1 nm1 cxb1) := HY1_323.out.cell 0
      have k_334 : w20.cell? ⟨w7.heap.size, 1, none⟩ = some (.slice Ayb1 nv1 cyb1) := HY1_323.out.cell 1
      have k_335 : w20.cell? ⟨w7.heap.size, 2, none⟩ = some (.int .i64 cl1) := HY1_323.out.cell 2
      have k_336 : w20.cell? ⟨w7.heap.size, 3, none⟩ = some (.slice Azb1 nt1 czb1) := HY1_323.out.cell 3
      go_wp2_with (fail)
      (with_reducible refine (markInstance_from (rk0) (by omega) (by omega) w6.heap.size mxb1 myb1 w7.heap.size nm1 cxb1 nv1 cyb1 nt1 czb1 Axb1 Ayb1 Azb1 cl1 ms1 vs1 ts1 _ HAb1_317.out HSAb1_318.out q12 HCb1_319.out HSCb1_320.out q13 HDb1_321.out HSDb1_322.out q14 (by omega) (by omega) (by omega) (by omega)).mono ?_)
      rintro e w22 ⟨rk1, w21, rfl, hrk1, hrl1, hbt, hwt⟩
      clear k_333 k_334 k_335 k_336
      have hz21 := hbt.size
      have hz22 := hwt.size
      clear HSAb1_318
      clear HAb1_317
      clear HSCb1_320
      clear HCb1_319
      clear HSDb1_322
      clear HDb1_321
      clear HY1_323
      have HB_337 := Lib.hid (up HB_310.out hbt)
      have HX0_338 := Lib.hid (HX0_311.out.below hbt (by omega))
      have HX1_339 := Lib.hid (HX1_312.out.below hbt (by omega))
      have HGas1_340 := Lib.hid (HGas1_313.out.keep hbt (by omega))
      have HGbs1_341 := Lib.hid (HGbs1_314.out.keep hbt (by omega))
      have HGcs1_342 := Lib.hid (HGcs1_315.out.keep hbt (by omega))
      have HRS_343 := Lib.hid (HRS_316.out.below hbt (by omega))
      have HVb3_344 := Lib.hid (HVb3_324.out.keep hbt (by omega))
      have HWb3_345 := Lib.hid (HWb3_325.out.kept HVb3_324.out hbt (by omega))
      have HGai2_346 := Lib.hid (HGai2_326.out.keep hbt (by omega))
      have HHai2_347 := Lib.hid (HHai2_327.out.kept HGai2_326.out hbt (by omega))
      have HGbi2_348 := Lib.hid (HGbi2_328.out.keep hbt (by omega))
      have HHbi2_349 := Lib.hid (HHbi2_329.out.kept HGbi2_328.out hbt (by omega))
      have HGci2_350 := Lib.hid (HGci2_330.out.keep hbt (by omega))
      have HHci2_351 := Lib.hid (HHci2_331.out.kept HGci2_330.out hbt (by omega))
      have HRI_352 := Lib.hid (HRI_332.out.below hbt (by omega))
      clear HB_310 HX0_311 HX1_312 HGas1_313 HGbs1_314 HGcs1_315 HRS_316 HVb3_324 HWb3_325 HGai2_326 HHai2_327 HGbi2_328 HHbi2_329 HGci2_330 HHci2_331 HRI_332
      have HB_353 := Lib.hid (Within.below HB_337.out hwt (by omega))
      have HX0_354 := Lib.hid (show Blk w22 (w.heap.size) 25 #[.slice An0 nn0 cn0, .slice A0 n0 c0] from (hwt.block (w.heap.size) (by omega) (by omega)).trans HX0_338.out)
      have HX1_355 := Lib.hid (show Blk w22 (w.heap.size + 1) 29 #[.slice Am1 nm1 cm1, .slice Av1 nv1 cv1, .int .i64 cl1, .slice At1 nt1 ct1] from (hwt.block (w.heap.size + 1) (by omega) (by omega)).trans HX1_339.out)
      have HGas1_356 := Lib.hid (HGas1_340.out.within hwt (by omega) (by omega))
      have HGbs1_357 := Lib.hid (HGbs1_341.out.within hwt (by omega) (by omega))
      have HGcs1_358 := Lib.hid (HGcs1_342.out.within hwt (by omega) (by omega))
      have HRS_359 := Lib.hid (show Blk w22 (gRS) 34 #[.slice Agas1 um.length cgas1, .slice Agbs1 uv.length cgbs1, .int .i64 ucl, .slice Agcs1 ut.length cgcs1] from (hwt.block (gRS) (by omega) (by omega)).trans HRS_343.out)
      have HVb3_360 := Lib.hid (HVb3_344.out.within hwt (by omega) (by omega))
      have HWb3_361 := Lib.hid (HWb3_345.out.within HVb3_344.out hwt (by omega) (by omega))
      have HGai2_362 := Lib.hid (HGai2_346.out.within hwt (by omega) (by omega))
      have HHai2_363 := Lib.hid (HHai2_347.out.within HGai2_346.out hwt (by omega) (by omega))
      have HGbi2_364 := Lib.hid (HGbi2_348.out.within hwt (by omega) (by omega))
      have HHbi2_365 := Lib.hid (HHbi2_349.out.within HGbi2_348.out hwt (by omega) (by omega))
      have HGci2_366 := Lib.hid (HGci2_350.out.within hwt (by omega) (by omega))
      have HHci2_367 := Lib.hid (HHci2_351.out.within HGci2_350.out hwt (by omega) (by omega))
      have HRI_368 := Lib.hid (show Blk w22 (w10.heap.size) 34 #[.slice Agai2 um.length cgai2, .slice Agbi2 uv.length cgbi2, .int .i64 ucl, .slice Agci2 ut.length cgci2] from (hwt.block (w10.heap.size) (by omega) (by omega)).trans HRI_352.out)
      clear HB_337 HX0_338 HX1_339 HGas1_340 HGbs1_341 HGcs1_342 HRS_343 HVb3_344 HWb3_345 HGai2_346 HHai2_347 HGbi2_348 HHbi2_349 HGci2_350 HHci2_351 HRI_352
      clear hbt hwt
      go_wp2_with (fail)
      (with_reducible refine (markSetS_any _ _ n3 csb3 Asb3 _ (rk1) _ HVb3_360.out HWb3_361.out hm3 (by omega) (by omega)).mono ?_)
      rintro e w23 ⟨rfl, _, _, hin⟩
      have hwt := Within.grown hin (in_row HVb3_360.out)
      have hz23 := hwt.size
      clear HWb3_361
      clear HVb3_360
      have HB_369 := Lib.hid (Within.below HB_353.out hwt (by omega))
      have HX0_370 := Lib.hid (show Blk w23 (w.heap.size) 25 #[.slice An0 nn0 cn0, .slice A0 n0 c0] from (hwt.block (w.heap.size) (by omega) (by omega)).trans HX0_354.out)
      have HX1_371 := Lib.hid (show Blk w23 (w.heap.size + 1) 29 #[.slice Am1 nm1 cm1, .slice Av1 nv1 cv1, .int .i64 cl1, .slice At1 nt1 ct1] from (hwt.block (w.heap.size + 1) (by omega) (by omega)).trans HX1_355.out)
      have HGas1_372 := Lib.hid (HGas1_356.out.within hwt (by omega) (by omega))
      have HGbs1_373 := Lib.hid (HGbs1_357.out.within hwt (by omega) (by omega))
      have HGcs1_374 := Lib.hid (HGcs1_358.out.within hwt (by omega) (by omega))
      have HRS_375 := Lib.hid (show Blk w23 (gRS) 34 #[.slice Agas1 um.length cgas1, .slice Agbs1 uv.length cgbs1, .int .i64 ucl, .slice Agcs1 ut.length cgcs1] from (hwt.block (gRS) (by omega) (by omega)).trans HRS_359.out)
      have HGai2_376 := Lib.hid (HGai2_362.out.within hwt (by omega) (by omega))
      have HHai2_377 := Lib.hid (HHai2_363.out.within HGai2_362.out hwt (by omega) (by omega))
      have HGbi2_378 := Lib.hid (HGbi2_364.out.within hwt (by omega) (by omega))
      have HHbi2_379 := Lib.hid (HHbi2_365.out.within HGbi2_364.out hwt (by omega) (by omega))
      have HGci2_380 := Lib.hid (HGci2_366.out.within hwt (by omega) (by omega))
      have HHci2_381 := Lib.hid (HHci2_367.out.within HGci2_366.out hwt (by omega) (by omega))
      have HRI_382 := Lib.hid (show Blk w23 (w10.heap.size) 34 #[.slice Agai2 um.length cgai2, .slice Agbi2 uv.length cgbi2, .int .i64 ucl, .slice Agci2 ut.length cgci2] from (hwt.block (w10.heap.size) (by omega) (by omega)).trans HRI_368.out)
      clear HB_353 HX0_354 HX1_355 HGas1_356 HGbs1_357 HGcs1_358 HRS_359 HGai2_362 HHai2_363 HGbi2_364 HHbi2_365 HGci2_366 HHci2_367 HRI_368
      clear hin hwt
      have hrkn : 0 ≤ rk1 + 2 * (n3 : Int) := by omega
      have hrkd : decide (rk1 + 2 * (n3 : Int) < 0) = false := decide_eq_false (by omega)
      have k_383 : w23.cell? ⟨w10.heap.size, 0, none⟩ = some (.slice Agai2 um.length cgai2) := HRI_382.out.cell 0
      have k_384 : w23.cell? ⟨w10.heap.size, 1, none⟩ = some (.slice Agbi2 uv.length cgbi2) := HRI_382.out.cell 1
      have k_385 : w23.cell? ⟨w10.heap.size, 2, none⟩ = some (.int .i64 ucl) := HRI_382.out.cell 2
      have k_386 : w23.cell? ⟨w10.heap.size, 3, none⟩ = some (.slice Agci2 ut.length cgci2) := HRI_382.out.cell 3
      have k_387 : w23.cell? ⟨gRS, 0, none⟩ = some (.slice Agas1 um.length cgas1) := HRS_375.out.cell 0
      have k_388 : w23.cell? ⟨gRS, 1, none⟩ = some (.slice Agbs1 uv.length cgbs1) := HRS_375.out.cell 1
      have k_389 : w23.cell? ⟨gRS, 2, none⟩ = some (.int .i64 ucl) := HRS_375.out.cell 2
      have k_390 : w23.cell? ⟨gRS, 3, none⟩ = some (.slice Agcs1 ut.length cgcs1) := HRS_375.out.cell 3
      go_wp2_with (fail)
      (with_reducible refine (eqInstance_same _ _ _ _ _ _ _ _ _ _ _ _ _ _ _ _ _ _ _ _ _ _ _ _ _ _ _ _  um uv ut _ HGai2_376.out (by omega) hul0 HGbi2_378.out (by omega) hul1 HGci2_380.out (by omega) hul2 HGas1_372.out (by omega) HGbs1_373.out (by omega) HGcs1_374.out (by omega)).mono ?_)
      rintro e w24 ⟨rfl, hbt⟩
      clear k_383 k_384 k_385 k_386 k_387 k_388 k_389 k_390
      have hz24 := hbt.size
      have HB_391 := Lib.hid (up HB_369.out hbt)
      have HX0_392 := Lib.hid (HX0_370.out.below hbt (by omega))
      have HX1_393 := Lib.hid (HX1_371.out.below hbt (by omega))
      have HGas1_394 := Lib.hid (HGas1_372.out.keep hbt (by omega))
      have HGbs1_395 := Lib.hid (HGbs1_373.out.keep hbt (by omega))
      have HGcs1_396 := Lib.hid (HGcs1_374.out.keep hbt (by omega))
      have HRS_397 := Lib.hid (HRS_375.out.below hbt (by omega))
      have HGai2_398 := Lib.hid (HGai2_376.out.keep hbt (by omega))
      have HHai2_399 := Lib.hid (HHai2_377.out.kept HGai2_376.out hbt (by omega))
      have HGbi2_400 := Lib.hid (HGbi2_378.out.keep hbt (by omega))
      have HHbi2_401 := Lib.hid (HHbi2_379.out.kept HGbi2_378.out hbt (by omega))
      have HGci2_402 := Lib.hid (HGci2_380.out.keep hbt (by omega))
      have HHci2_403 := Lib.hid (HHci2_381.out.kept HGci2_380.out hbt (by omega))
      have HRI_404 := Lib.hid (HRI_382.out.below hbt (by omega))
      clear HB_369 HX0_370 HX1_371 HGas1_372 HGbs1_373 HGcs1_374 HRS_375 HGai2_376 HHai2_377 HGbi2_378 HHbi2_379 HGci2_380 HHci2_381 HRI_382
      clear hbt
      have k_405 : w24.cell? ⟨w10.heap.size, 0, none⟩ = some (.slice Agai2 um.length cgai2) := HRI_404.out.cell 0
      have k_406 : w24.cell? ⟨w10.heap.size, 1, none⟩ = some (.slice Agbi2 uv.length cgbi2) := HRI_404.out.cell 1
      have k_407 : w24.cell? ⟨w10.heap.size, 2, none⟩ = some (.int .i64 ucl) := HRI_404.out.cell 2
      have k_408 : w24.cell? ⟨w10.heap.size, 3, none⟩ = some (.slice Agci2 ut.length cgci2) := HRI_404.out.cell 3
      go_wp2_with (fail)
      (with_reducible refine (markInstance_res 1 (by omega) (by omega) _ pai2 pbi2 w10.heap.size um.length cgai2 uv.length cgbi2 ut.length cgci2 Agai2 Agbi2 Agci2 ucl _ _ _ _ HGci2_402.out HHci2_403.out hul2 HGai2_398.out HHai2_399.out hul0 HGbi2_400.out HHbi2_401.out hul1 (by omega) (by omega) (by omega) (by omega)).mono ?_)
      rintro e w26 ⟨rfl, ⟨hra, hrb, hrc⟩, w25, hbt, hwt⟩
      clear k_405 k_406 k_407 k_408
      have hz25 := hbt.size
      have hz26 := hwt.size
      clear HHai2_399
      clear HGai2_398
      clear HHbi2_401
      clear HGbi2_400
      clear HHci2_403
      clear HGci2_402
      have HB_409 := Lib.hid (up HB_391.out hbt)
      have HX0_410 := Lib.hid (HX0_392.out.below hbt (by omega))
      have HX1_411 := Lib.hid (HX1_393.out.below hbt (by omega))
      have HGas1_412 := Lib.hid (HGas1_394.out.keep hbt (by omega))
      have HGbs1_413 := Lib.hid (HGbs1_395.out.keep hbt (by omega))
      have HGcs1_414 := Lib.hid (HGcs1_396.out.keep hbt (by omega))
      have HRS_415 := Lib.hid (HRS_397.out.below hbt (by omega))
      have HRI_416 := Lib.hid (HRI_404.out.below hbt (by omega))
      clear HB_391 HX0_392 HX1_393 HGas1_394 HGbs1_395 HGcs1_396 HRS_397 HRI_404
      have HB_417 := Lib.hid (Within.below HB_409.out hwt (by omega))
      have HX0_418 := Lib.hid (show Blk w26 (w.heap.size) 25 #[.slice An0 nn0 cn0, .slice A0 n0 c0] from (hwt.block (w.heap.size) (by omega) (by omega)).trans HX0_410.out)
      have HX1_419 := Lib.hid (show Blk w26 (w.heap.size + 1) 29 #[.slice Am1 nm1 cm1, .slice Av1 nv1 cv1, .int .i64 cl1, .slice At1 nt1 ct1] from (hwt.block (w.heap.size + 1) (by omega) (by omega)).trans HX1_411.out)
      have HGas1_420 := Lib.hid (HGas1_412.out.within hwt (by omega) (by omega))
      have HGbs1_421 := Lib.hid (HGbs1_413.out.within hwt (by omega) (by omega))
      have HGcs1_422 := Lib.hid (HGcs1_414.out.within hwt (by omega) (by omega))
      have HRS_423 := Lib.hid (show Blk w26 (gRS) 34 #[.slice Agas1 um.length cgas1, .slice Agbs1 uv.length cgbs1, .int .i64 ucl, .slice Agcs1 ut.length cgcs1] from (hwt.block (gRS) (by omega) (by omega)).trans HRS_415.out)
      have HRI_424 := Lib.hid (show Blk w26 (w10.heap.size) 34 #[.slice Agai2 um.length cgai2, .slice Agbi2 uv.length cgbi2, .int .i64 ucl, .slice Agci2 ut.length cgci2] from (hwt.block (w10.heap.size) (by omega) (by omega)).trans HRI_416.out)
      clear HB_409 HX0_410 HX1_411 HGas1_412 HGbs1_413 HGcs1_414 HRS_415 HRI_416
      clear hbt hwt
      have HQa := Lib.hid hra
      clear hra
      have HQb := Lib.hid hrb
      clear hrb
      have HQc := Lib.hid hrc
      clear hrc
      have hqn : decide ((1 : Int) + (um.length : Int) + (uv.length : Int) + 2 * (ut.length : Int) < 0) = false := decide_eq_false (by omega)
      have hqe : ((1 : Int) + (um.length : Int) + (uv.length : Int) + 2 * (ut.length : Int) != (1 : Int) + (um.length : Int) + (uv.length : Int) + 2 * (ut.length : Int)) = false := by simp
      have k_425 : w26.cell? ⟨w10.heap.size, 0, none⟩ = some (.slice Agai2 um.length cgai2) := HRI_424.out.cell 0
      have k_426 : w26.cell? ⟨w10.heap.size, 1, none⟩ = some (.slice Agbi2 uv.length cgbi2) := HRI_424.out.cell 1
      have k_427 : w26.cell? ⟨w10.heap.size, 2, none⟩ = some (.int .i64 ucl) := HRI_424.out.cell 2
      have k_428 : w26.cell? ⟨w10.heap.size, 3, none⟩ = some (.slice Agci2 ut.length cgci2) := HRI_424.out.cell 3
      go_wp2_with (fail)
      (with_reducible refine (heldInstance_res 1 (by omega) (by omega) _ pai2 pbi2 w10.heap.size um.length cgai2 uv.length cgbi2 ut.length cgci2 Agai2 Agbi2 Agci2 ucl _ HQa.out hul0 HQb.out hul1 HQc.out hul2 (by omega) (by omega) (by omega)).mono ?_)
      rintro e w27 ⟨rfl, hbt⟩
      clear k_425 k_426 k_427 k_428
      have hz27 := hbt.size
      have HB_429 := Lib.hid (up HB_417.out hbt)
      have HX0_430 := Lib.hid (HX0_418.out.below hbt (by omega))
      have HX1_431 := Lib.hid (HX1_419.out.below hbt (by omega))
      have HGas1_432 := Lib.hid (HGas1_420.out.keep hbt (by omega))
      have HGbs1_433 := Lib.hid (HGbs1_421.out.keep hbt (by omega))
      have HGcs1_434 := Lib.hid (HGcs1_422.out.keep hbt (by omega))
      have HRS_435 := Lib.hid (HRS_423.out.below hbt (by omega))
      have HRI_436 := Lib.hid (HRI_424.out.below hbt (by omega))
      have HQa_437 := Lib.hid (HQa.out.keep hbt (by omega))
      have HQb_438 := Lib.hid (HQb.out.keep hbt (by omega))
      have HQc_439 := Lib.hid (HQc.out.keep hbt (by omega))
      clear HB_417 HX0_418 HX1_419 HGas1_420 HGbs1_421 HGcs1_422 HRS_423 HRI_424 HQa HQb HQc
      clear hbt
      have HC0 : Hid (∀ wx : World, Below w27.heap.size w27 wx → Calls Tryz.prog 15 #[.agg #[.slice An0 nn0 cn0, .slice A0 n0 c0]] wx (ToProc ns0 fs0 wx)) := fun wx hbx => toProcess_any 0 w.heap.size nn0 cn0 An0 ns0 0 w.heap.size n0 c0 A0 fs0 wx (HRN0.out.keep (up HB_429.out hbx) (Nat.le_refl _)) (up HB_429.out hbx).size q02 (HS0.out.keep (up HB_429.out hbx) (Nat.le_refl _)) (up HB_429.out hbx).size q03
      have HC1 : Hid (∀ wx : World, Below w27.heap.size w27 wx → Calls Tryz.prog 17 #[.agg #[.slice Am1 nm1 cm1, .slice Av1 nv1 cv1, .int .i64 cl1, .slice At1 nt1 ct1]] wx (ToInst ms1 vs1 cl1 ts1 nm1 nv1 nt1 wx)) := fun wx hbx => toInstance_any nm1 cm1 nv1 cv1 nt1 ct1 Am1 Av1 At1 cl1 0 w.heap.size 0 w.heap.size 0 w.heap.size ms1 vs1 ts1 wx (HXM1.out.keep (up HB_429.out hbx) (Nat.le_refl _)) (up HB_429.out hbx).size q12 (HXV1.out.keep (up HB_429.out hbx) (Nat.le_refl _)) (up HB_429.out hbx).size q13 (HXT1.out.keep (up HB_429.out hbx) (Nat.le_refl _)) (up HB_429.out hbx).size q14
      have HC3 : Hid (∀ wx : World, Below w27.heap.size w27 wx → Calls Tryz.prog 33 #[.slice A3 n3 c3] wx (Fresh (pvs m3) 2 n3 wx)) := fun wx hbx => toSetS_any 0 w.heap.size n3 c3 A3 m3 wx (HA3.out.keep (up HB_429.out hbx) (Nat.le_refl _)) (up HB_429.out hbx).size hm3
      have HSW : Hid (∀ wx : World, Below w27.heap.size w27 wx → wx.cell? ⟨w.heap.size, 0, none⟩ = some (.slice An0 nn0 cn0) ∧ wx.cell? ⟨w.heap.size, 1, none⟩ = some (.slice A0 n0 c0) ∧ wx.cell? ⟨w.heap.size + 1, 0, none⟩ = some (.slice Am1 nm1 cm1) ∧ wx.cell? ⟨w.heap.size + 1, 1, none⟩ = some (.slice Av1 nv1 cv1) ∧ wx.cell? ⟨w.heap.size + 1, 2, none⟩ = some (.int .i64 cl1) ∧ wx.cell? ⟨w.heap.size + 1, 3, none⟩ = some (.slice At1 nt1 ct1)) := fun wx hbx => ⟨(HX0_430.out.below hbx (by omega)).cell 0, (HX0_430.out.below hbx (by omega)).cell 1, (HX1_431.out.below hbx (by omega)).cell 0, (HX1_431.out.below hbx (by omega)).cell 1, (HX1_431.out.below hbx (by omega)).cell 2, (HX1_431.out.below hbx (by omega)).cell 3⟩
      obtain ⟨kk0, kk1, kk2, kk3, kk4, kk5⟩ := HSW.out _ (Below.refl _ _)
      go_upto_region 38 with fail
      clear kk0 kk1 kk2 kk3 kk4 kk5
      go_cut [20, 21] from 119 to 129 (fun sw bw wx => ∃ g9 Agai3 cgai3 Agbi3 cgbi3 Agci3 cgci3, sw = .pointer (some ⟨g9, 0, none⟩) ∧ bw = .bool ub ∧ Hid (InGot w27 wx g9 um uv ucl ut Agai3 cgai3 Agbi3 cgbi3 Agci3 cgci3))
      case first =>
        go_region_held3 (fun wx => wx.cell? ⟨w.heap.size, 0, none⟩ = some (.slice An0 nn0 cn0) ∧ wx.cell? ⟨w.heap.size, 1, none⟩ = some (.slice A0 n0 c0) ∧ wx.cell? ⟨w.heap.size + 1, 0, none⟩ = some (.slice Am1 nm1 cm1) ∧ wx.cell? ⟨w.heap.size + 1, 1, none⟩ = some (.slice Av1 nv1 cv1) ∧ wx.cell? ⟨w.heap.size + 1, 2, none⟩ = some (.int .i64 cl1) ∧ wx.cell? ⟨w.heap.size + 1, 3, none⟩ = some (.slice At1 nt1 ct1))
          (first | with_reducible exact HSW.out _ (Below.refl _ _) | with_reducible exact HSW.out _ (up_drew (Below.refl _ _)) | with_reducible exact HSW.out _ (up_drew (up_alloc (Below.refl _ _) _)) | with_reducible exact HSW.out _ HV1.out | with_reducible exact HSW.out _ (up_alloc HV1.out _) | with_reducible exact HSW.out _ HV2.out | with_reducible exact HSW.out _ (up_alloc HV2.out _) | with_reducible exact HSW.out _ HV3.out | with_reducible exact HSW.out _ (up_alloc HV3.out _) | with_reducible exact HSW.out _ HV4.out | with_reducible exact HSW.out _ (up_alloc HV4.out _) | with_reducible exact HSW.out _ (inLay_below HV4.out hgE4))
          ((first
            | (go_at_call 15; (with_reducible refine (HC0.out _ (up_drew (Below.refl _ w27))).mono ?_); rintro e v1 ⟨And0, cnd0, Bfd0, dfd0, midd0, rfl, hNd0, hMd0, hltd0, hmtd0, hFd0, hbtd0⟩; have HV1 := Lib.hid (up (up_drew (Below.refl _ w27)) hbtd0); have hs1_ := HV1.out.size; have hE1 := True.intro; have hgE1 := True.intro)
            | (go_at_call 15; (with_reducible refine (HC0.out _ (up_drew (up_alloc (Below.refl _ w27) (.cells #[.slice none 0 0, .slice none 0 0, .int .i64 0, .slice none 0 0] 34)))).mono ?_); rintro e v1 ⟨And0, cnd0, Bfd0, dfd0, midd0, rfl, hNd0, hMd0, hltd0, hmtd0, hFd0, hbtd0⟩; have HV1 := Lib.hid (up (up_drew (up_alloc (Below.refl _ w27) (.cells #[.slice none 0 0, .slice none 0 0, .int .i64 0, .slice none 0 0] 34))) hbtd0); have hs1_ := HV1.out.size; have hE1 := (Blk.new w27 34 #[.slice none 0 0, .slice none 0 0, .int .i64 0, .slice none 0 0]).drew.below hbtd0 (Blk.new w27 34 #[.slice none 0 0, .slice none 0 0, .int .i64 0, .slice none 0 0]).drew.lt; have hsx := hbtd0.size; simp only [World.size_drew, World.size_alloc] at hsx; have hgE1 := Nat.le_refl w27.heap.size)
            | (go_at_call 17; (with_reducible refine (HC1.out _ HV1.out).mono ?_); rintro e v2 ⟨Axd1, cxd1, Ayd1, cyd1, Azd1, czd1, mxd1, myd1, rfl, ⟨hcad1, hcbd1, hcdd1⟩, ⟨hmad1, hmbd1, hmcd1⟩, ⟨hAd1, had1⟩, ⟨hCd1, hcd1⟩, ⟨hDd1, hdd1⟩, hbtd1⟩; have HV2 := Lib.hid (up HV1.out hbtd1); have hs2_ := HV2.out.size; have Nd0_2 := hNd0.keep hbtd1 (by omega); have Fd0_2 := hFd0.keep hbtd1 (by omega) (by omega); have hsx := hbtd1.size; (first | (have hE2 := hE1.below hbtd1 hE1.lt; have hgE2 := hgE1; have hlE2 := hE1.lt) | (have hE2 := True.intro; have hgE2 := True.intro)))
            | (go_at_call 17; (with_reducible refine (HC1.out _ (up_alloc HV1.out (.cells #[.slice none 0 0, .slice none 0 0, .int .i64 0, .slice none 0 0] 34))).mono ?_); rintro e v2 ⟨Axd1, cxd1, Ayd1, cyd1, Azd1, czd1, mxd1, myd1, rfl, ⟨hcad1, hcbd1, hcdd1⟩, ⟨hmad1, hmbd1, hmcd1⟩, ⟨hAd1, had1⟩, ⟨hCd1, hcd1⟩, ⟨hDd1, hdd1⟩, hbtd1⟩; have HV2 := Lib.hid (up (up_alloc HV1.out (.cells #[.slice none 0 0, .slice none 0 0, .int .i64 0, .slice none 0 0] 34)) hbtd1); have hs2_ := HV2.out.size; have Nd0_2 := (hNd0.keep (up_alloc (Below.refl _ v1) (.cells #[.slice none 0 0, .slice none 0 0, .int .i64 0, .slice none 0 0] 34)) (by omega)).keep hbtd1 (by first | (simp; done) | (simp; omega) | omega); have Fd0_2 := (hFd0.keep (up_alloc (Below.refl _ v1) (.cells #[.slice none 0 0, .slice none 0 0, .int .i64 0, .slice none 0 0] 34)) (by omega) (by omega)).keep hbtd1 (by first | (simp; done) | (simp; omega) | omega) (by first | (simp; done) | (simp; omega) | omega); have hE2 := (Blk.new v1 34 #[.slice none 0 0, .slice none 0 0, .int .i64 0, .slice none 0 0]).below hbtd1 (Blk.new v1 34 #[.slice none 0 0, .slice none 0 0, .int .i64 0, .slice none 0 0]).lt; have hsx := hbtd1.size; simp only [World.size_alloc] at hsx; have hgE2 := HV1.out.size)
            | (go_at_call 33; (with_reducible refine (HC3.out _ HV2.out).mono ?_); rintro e v3 ⟨Asd3, csd3, rfl, _, hVd3, hWd3, hbtd3⟩; have HV3 := Lib.hid (up HV2.out hbtd3); have hs3_ := HV3.out.size; have Nd0_3 := Nd0_2.keep hbtd3 (by omega); have Fd0_3 := Fd0_2.keep hbtd3 (by omega) (by omega); have Ad1_3 := hAd1.keep hbtd3 (by omega); have Cd1_3 := hCd1.keep hbtd3 (by omega); have Dd1_3 := hDd1.keep hbtd3 (by omega); have hsx := hbtd3.size; (first | (have hE3 := hE2.below hbtd3 hE2.lt; have hgE3 := hgE2; have hlE3 := hE2.lt) | (have hE3 := True.intro; have hgE3 := True.intro)))
            | (go_at_call 33; (with_reducible refine (HC3.out _ (up_alloc HV2.out (.cells #[.slice none 0 0, .slice none 0 0, .int .i64 0, .slice none 0 0] 34))).mono ?_); rintro e v3 ⟨Asd3, csd3, rfl, _, hVd3, hWd3, hbtd3⟩; have HV3 := Lib.hid (up (up_alloc HV2.out (.cells #[.slice none 0 0, .slice none 0 0, .int .i64 0, .slice none 0 0] 34)) hbtd3); have hs3_ := HV3.out.size; have Nd0_3 := (Nd0_2.keep (up_alloc (Below.refl _ v2) (.cells #[.slice none 0 0, .slice none 0 0, .int .i64 0, .slice none 0 0] 34)) (by omega)).keep hbtd3 (by first | (simp; done) | (simp; omega) | omega); have Fd0_3 := (Fd0_2.keep (up_alloc (Below.refl _ v2) (.cells #[.slice none 0 0, .slice none 0 0, .int .i64 0, .slice none 0 0] 34)) (by omega) (by omega)).keep hbtd3 (by first | (simp; done) | (simp; omega) | omega) (by first | (simp; done) | (simp; omega) | omega); have Ad1_3 := (hAd1.keep (up_alloc (Below.refl _ v2) (.cells #[.slice none 0 0, .slice none 0 0, .int .i64 0, .slice none 0 0] 34)) (by omega)).keep hbtd3 (by first | (simp; done) | (simp; omega) | omega); have Cd1_3 := (hCd1.keep (up_alloc (Below.refl _ v2) (.cells #[.slice none 0 0, .slice none 0 0, .int .i64 0, .slice none 0 0] 34)) (by omega)).keep hbtd3 (by first | (simp; done) | (simp; omega) | omega); have Dd1_3 := (hDd1.keep (up_alloc (Below.refl _ v2) (.cells #[.slice none 0 0, .slice none 0 0, .int .i64 0, .slice none 0 0] 34)) (by omega)).keep hbtd3 (by first | (simp; done) | (simp; omega) | omega); have hE3 := (Blk.new v2 34 #[.slice none 0 0, .slice none 0 0, .int .i64 0, .slice none 0 0]).below hbtd3 (Blk.new v2 34 #[.slice none 0 0, .slice none 0 0, .int .i64 0, .slice none 0 0]).lt; have hsx := hbtd3.size; simp only [World.size_alloc] at hsx; have hgE3 := HV2.out.size)
            | (go_at_call 34; (with_reducible refine (CompleteTaskI_any _ _ ns0.length cnd0 And0 ns0 _ _ fs0.length dfd0 Bfd0 fs0 _ _ nm1 cxd1 Axd1 ms1 _ _ nv1 cyd1 Ayd1 vs1 cl1 _ _ nt1 czd1 Azd1 ts1 z2 _ _ n3 csd3 Asd3 m3 _ Nd0_3 (by omega) hnn1_0 (Fd0_3.fls (by omega) (by omega)) (by omega) hfl1_0 Ad1_3 (by omega) q12 Cd1_3 (by omega) q13 Dd1_3 (by omega) q14 hVd3 (by omega) hm3).mono ?_); rw [HU0.out]; intro e v4 hip; obtain ⟨Agai3, cgai3, Agbi3, cgbi3, Agci3, cgci3, rfl, hGai3, hGbi3, hGci3, hbti3⟩ := hip.flatW HVU.out HUB.out; clear hip; have HV4 := Lib.hid (up HV3.out hbti3); have hs4_ := HV4.out.size; (first | have hl9 := hE3.lt | have hl9 := True.intro); have hsx := hbti3.size; (first | (have hE4 := hE3.below hbti3 hE3.lt; have hgE4 := hgE3; have y0 := hE4.cell 0; have y1 := hE4.cell 1; have y2 := hE4.cell 2; have y3 := hE4.cell 3; have g0 := hE4.soft 0; have g1 := hE4.soft 1; have g2 := hE4.soft 2; have g3 := hE4.soft 3) | (have hE4 := True.intro; have hgE4 := True.intro)))
            | (go_at_call 34; (with_reducible refine (CompleteTaskI_any _ _ ns0.length cnd0 And0 ns0 _ _ fs0.length dfd0 Bfd0 fs0 _ _ nm1 cxd1 Axd1 ms1 _ _ nv1 cyd1 Ayd1 vs1 cl1 _ _ nt1 czd1 Azd1 ts1 z2 _ _ n3 csd3 Asd3 m3 _ (Nd0_3.keep (up_alloc (Below.refl _ v3) (.cells #[.slice none 0 0, .slice none 0 0, .int .i64 0, .slice none 0 0] 34)) (by omega)) (by first | (simp; done) | (simp; omega) | omega) hnn1_0 ((Fd0_3.keep (up_alloc (Below.refl _ v3) (.cells #[.slice none 0 0, .slice none 0 0, .int .i64 0, .slice none 0 0] 34)) (by omega) (by omega)).fls (by omega) (by omega)) (by first | (simp; done) | (simp; omega) | omega) hfl1_0 (Ad1_3.keep (up_alloc (Below.refl _ v3) (.cells #[.slice none 0 0, .slice none 0 0, .int .i64 0, .slice none 0 0] 34)) (by omega)) (by first | (simp; done) | (simp; omega) | omega) q12 (Cd1_3.keep (up_alloc (Below.refl _ v3) (.cells #[.slice none 0 0, .slice none 0 0, .int .i64 0, .slice none 0 0] 34)) (by omega)) (by first | (simp; done) | (simp; omega) | omega) q13 (Dd1_3.keep (up_alloc (Below.refl _ v3) (.cells #[.slice none 0 0, .slice none 0 0, .int .i64 0, .slice none 0 0] 34)) (by omega)) (by first | (simp; done) | (simp; omega) | omega) q14 (hVd3.keep (up_alloc (Below.refl _ v3) (.cells #[.slice none 0 0, .slice none 0 0, .int .i64 0, .slice none 0 0] 34)) (by omega)) (by first | (simp; done) | (simp; omega) | omega) hm3).mono ?_); rw [HU0.out]; intro e v4 hip; obtain ⟨Agai3, cgai3, Agbi3, cgbi3, Agci3, cgci3, rfl, hGai3, hGbi3, hGci3, hbti3⟩ := hip.flatW HVU.out HUB.out; clear hip; have HV4 := Lib.hid (up (up_alloc HV3.out (.cells #[.slice none 0 0, .slice none 0 0, .int .i64 0, .slice none 0 0] 34)) hbti3); have hs4_ := HV4.out.size; have hl9 : v3.heap.size < (v3.alloc (.cells #[.slice none 0 0, .slice none 0 0, .int .i64 0, .slice none 0 0] 34)).heap.size := (by simp); have hE4 := (Blk.new v3 34 #[.slice none 0 0, .slice none 0 0, .int .i64 0, .slice none 0 0]).below hbti3 (Blk.new v3 34 #[.slice none 0 0, .slice none 0 0, .int .i64 0, .slice none 0 0]).lt; have hsx := hbti3.size; simp only [World.size_alloc] at hsx; have hgE4 := HV3.out.size; have y0 := hE4.cell 0; have y1 := hE4.cell 1; have y2 := hE4.cell 2; have y3 := hE4.cell 3; have g0 := hE4.soft 0; have g1 := hE4.soft 1; have g2 := hE4.soft 2; have g3 := hE4.soft 3)
            | fail "no arm"))
        all_goals
          go_wp2_with fail
          go_meet
          first
            | exact ⟨_, Agai3, cgai3, Agbi3, cgbi3, Agci3, cgci3, rfl, rfl, InGot.early hE4 hGai3 hGbi3 hGci3 (by first | (simp; done) | (simp; omega) | omega) hl9 hgE4 HV4.out⟩
            | exact ⟨_, Agai3, cgai3, Agbi3, cgbi3, Agci3, cgci3, rfl, rfl, InGot.early hE4 hGai3 hGbi3 hGci3 (by omega) hl9 hgE4 HV4.out⟩
            | exact ⟨_, Agai3, cgai3, Agbi3, cgbi3, Agci3, cgci3, rfl, rfl, InGot.last hGai3 hGbi3 hGci3 (by omega) HV4.out⟩
      case rest =>
      obtain ⟨gRJ, Agai3, cgai3, Agbi3, cgbi3, Agci3, cgci3, rfl, rfl, hgot⟩ := hcut
      have hglRJ := hgot.out.blk.lt
      have hr9a := Lib.hid hgot.out.r0
      have hr9b := Lib.hid hgot.out.r1
      have hr9c := Lib.hid hgot.out.r2
      have hb9 := Lib.hid hgot.out.bel
      have hy9 := Lib.hid hgot.out.blk
      clear hgot
      obtain ⟨w28, hww⟩ : ∃ x : World, x = wc := ⟨_, rfl⟩
      subst hww
      have hbt := hb9.out
      have hz28 := hbt.size
      clear HSW hb9 HC0 HC1 HC3
      have HB_440 := Lib.hid (up HB_429.out hbt)
      have HX0_441 := Lib.hid (HX0_430.out.below hbt (by omega))
      have HX1_442 := Lib.hid (HX1_431.out.below hbt (by omega))
      have HGas1_443 := Lib.hid (HGas1_432.out.keep hbt (by omega))
      have HGbs1_444 := Lib.hid (HGbs1_433.out.keep hbt (by omega))
      have HGcs1_445 := Lib.hid (HGcs1_434.out.keep hbt (by omega))
      have HRS_446 := Lib.hid (HRS_435.out.below hbt (by omega))
      have HRI_447 := Lib.hid (HRI_436.out.below hbt (by omega))
      have HQa_448 := Lib.hid (HQa_437.out.keep hbt (by omega))
      have HQb_449 := Lib.hid (HQb_438.out.keep hbt (by omega))
      have HQc_450 := Lib.hid (HQc_439.out.keep hbt (by omega))
      clear HB_429 HX0_430 HX1_431 HGas1_432 HGbs1_433 HGcs1_434 HRS_435 HRI_436 HQa_437 HQb_438 HQc_439
      clear hbt
      have HGai3 := Lib.hid hr9a.out
      clear hr9a
      have HGbi3 := Lib.hid hr9b.out
      clear hr9b
      have HGci3 := Lib.hid hr9c.out
      clear hr9c
      have HYRJ := Lib.hid hy9.out
      clear hy9
      have k_451 : w28.cell? ⟨gRJ, 0, none⟩ = some (.slice Agai3 um.length cgai3) := HYRJ.out.cell 0
      have k_452 : w28.cell? ⟨gRJ, 1, none⟩ = some (.slice Agbi3 uv.length cgbi3) := HYRJ.out.cell 1
      have k_453 : w28.cell? ⟨gRJ, 2, none⟩ = some (.int .i64 ucl) := HYRJ.out.cell 2
      have k_454 : w28.cell? ⟨gRJ, 3, none⟩ = some (.slice Agci3 ut.length cgci3) := HYRJ.out.cell 3
      have k_455 : w28.cell? ⟨gRS, 0, none⟩ = some (.slice Agas1 um.length cgas1) := HRS_446.out.cell 0
      have k_456 : w28.cell? ⟨gRS, 1, none⟩ = some (.slice Agbs1 uv.length cgbs1) := HRS_446.out.cell 1
      have k_457 : w28.cell? ⟨gRS, 2, none⟩ = some (.int .i64 ucl) := HRS_446.out.cell 2
      have k_458 : w28.cell? ⟨gRS, 3, none⟩ = some (.slice Agcs1 ut.length cgcs1) := HRS_446.out.cell 3
      go_wp2_with (fail)
      (with_reducible refine (eqInstance_same _ _ _ _ _ _ _ _ _ _ _ _ _ _ _ _ _ _ _ _ _ _ _ _ _ _ _ _  um uv ut _ HGai3.out (by omega) hul0 HGbi3.out (by omega) hul1 HGci3.out (by omega) hul2 HGas1_443.out (by omega) HGbs1_444.out (by omega) HGcs1_445.out (by omega)).mono ?_)
      rintro e w29 ⟨rfl, hbt⟩
      clear k_451 k_452 k_453 k_454 k_455 k_456 k_457 k_458
      have hz29 := hbt.size
      have HB_459 := Lib.hid (up HB_440.out hbt)
      have HX0_460 := Lib.hid (HX0_441.out.below hbt (by omega))
      have HX1_461 := Lib.hid (HX1_442.out.below hbt (by omega))
      have HGas1_462 := Lib.hid (HGas1_443.out.keep hbt (by omega))
      have HGbs1_463 := Lib.hid (HGbs1_444.out.keep hbt (by omega))
      have HGcs1_464 := Lib.hid (HGcs1_445.out.keep hbt (by omega))
      have HRS_465 := Lib.hid (HRS_446.out.below hbt (by omega))
      have HRI_466 := Lib.hid (HRI_447.out.below hbt (by omega))
      have HQa_467 := Lib.hid (HQa_448.out.keep hbt (by omega))
      have HQb_468 := Lib.hid (HQb_449.out.keep hbt (by omega))
      have HQc_469 := Lib.hid (HQc_450.out.keep hbt (by omega))
      have HGai3_470 := Lib.hid (HGai3.out.keep hbt (by omega))
      have HGbi3_471 := Lib.hid (HGbi3.out.keep hbt (by omega))
      have HGci3_472 := Lib.hid (HGci3.out.keep hbt (by omega))
      have HRJ_473 := Lib.hid (HYRJ.out.below hbt (by omega))
      clear HB_440 HX0_441 HX1_442 HGas1_443 HGbs1_444 HGcs1_445 HRS_446 HRI_447 HQa_448 HQb_449 HQc_450 HGai3 HGbi3 HGci3 HYRJ
      clear hbt
      clear HGai3_470
      clear HGbi3_471
      clear HGci3_472
      have k_474 : w29.cell? ⟨w10.heap.size, 0, none⟩ = some (.slice Agai2 um.length cgai2) := HRI_466.out.cell 0
      have k_475 : w29.cell? ⟨w10.heap.size, 1, none⟩ = some (.slice Agbi2 uv.length cgbi2) := HRI_466.out.cell 1
      have k_476 : w29.cell? ⟨w10.heap.size, 2, none⟩ = some (.int .i64 ucl) := HRI_466.out.cell 2
      have k_477 : w29.cell? ⟨w10.heap.size, 3, none⟩ = some (.slice Agci2 ut.length cgci2) := HRI_466.out.cell 3
      go_wp2_with (fail)
      (with_reducible refine (heldInstance_res 1 (by omega) (by omega) _ pai2 pbi2 w10.heap.size um.length cgai2 uv.length cgbi2 ut.length cgci2 Agai2 Agbi2 Agci2 ucl _ HQa_467.out hul0 HQb_468.out hul1 HQc_469.out hul2 (by omega) (by omega) (by omega)).mono ?_)
      rintro e w30 ⟨rfl, hbt⟩
      clear k_474 k_475 k_476 k_477
      have hz30 := hbt.size
      have HB_478 := Lib.hid (up HB_459.out hbt)
      have HX0_479 := Lib.hid (HX0_460.out.below hbt (by omega))
      have HX1_480 := Lib.hid (HX1_461.out.below hbt (by omega))
      have HGas1_481 := Lib.hid (HGas1_462.out.keep hbt (by omega))
      have HGbs1_482 := Lib.hid (HGbs1_463.out.keep hbt (by omega))
      have HGcs1_483 := Lib.hid (HGcs1_464.out.keep hbt (by omega))
      have HRS_484 := Lib.hid (HRS_465.out.below hbt (by omega))
      have HRI_485 := Lib.hid (HRI_466.out.below hbt (by omega))
      have HQa_486 := Lib.hid (HQa_467.out.keep hbt (by omega))
      have HQb_487 := Lib.hid (HQb_468.out.keep hbt (by omega))
      have HQc_488 := Lib.hid (HQc_469.out.keep hbt (by omega))
      have HRJ_489 := Lib.hid (HRJ_473.out.below hbt (by omega))
      clear HB_459 HX0_460 HX1_461 HGas1_462 HGbs1_463 HGcs1_464 HRS_465 HRI_466 HQa_467 HQb_468 HQc_469 HRJ_473
      clear hbt
      go_wp2
      go_ret
      exact ⟨rfl, HB_478.out⟩
end Go.Proofs.YtknphikoikdcjaaGreat
