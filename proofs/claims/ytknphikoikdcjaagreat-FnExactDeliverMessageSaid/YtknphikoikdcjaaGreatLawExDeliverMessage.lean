/- The law FnExactDeliverMessage, walked: it returns true. (Written by gen/exgen3.py.) -/
import Derived.Test.YtknphikoikdcjaaGreatExProcA
import Derived.Test.YtknphikoikdcjaaGreatExInt
import Derived.Test.YtknphikoikdcjaaGreatMsgX
import Derived.Test.YtknphikoikdcjaaGreatExInstA
import Derived.Test.YtknphikoikdcjaaGreatInsFlat2
import Derived.Deep.RegionHeld3
import Derived.Deep.CutRange
set_option linter.unusedSimpArgs false
set_option linter.unusedVariables false
namespace Go.Proofs.YtknphikoikdcjaaGreat
open Go.RowKit

set_option maxRecDepth 100000 in
set_option maxHeartbeats 12800000 in
theorem exDeliverMessage_any (nn0 cn0 n0 c0 : Nat) (An0 A0 : Option Addr) (ns0 : List (Int × Int)) (fs0 : List Flw) (w : World) (hnn0 : nn0 ≤ 9223372036854775807) (hn0 : n0 ≤ 9223372036854775807) (hrn0 : Rd w 0 w.heap.size 2 An0 nn0 (pvs ns0)) (hr0 : FlsU w 0 w.heap.size A0 n0 fs0) (nm1 cm1 nv1 cv1 nt1 ct1 : Nat) (Am1 Av1 At1 : Option Addr) (cl1 : Int) (ms1 vs1 : List Int) (ts1 : List (Int × Int)) (hnm1 : nm1 ≤ 9223372036854775807) (hnv1 : nv1 ≤ 9223372036854775807) (hnt1 : nt1 ≤ 9223372036854775807) (hrm1 : Rd w 0 w.heap.size 1 Am1 nm1 (ivs ms1)) (hrv1 : Rd w 0 w.heap.size 1 Av1 nv1 (ivs vs1)) (hrt1 : Rd w 0 w.heap.size 2 At1 nt1 (pvs ts1)) (z2 : Int) (hz2 : in64 z2) :
    Calls Tryz.prog 7 #[.agg #[.slice An0 nn0 cn0, .slice A0 n0 c0], .agg #[.slice Am1 nm1 cm1, .slice Av1 nv1 cv1, .int .i64 cl1, .slice At1 nt1 ct1], .int .i64 z2] w fun e w' => e = .returned (.bool true) ∧ Below w.heap.size w w' := by
  have hb0 := up_alloc (up_alloc (Below.refl _ w) (.cells #[.slice An0 nn0 cn0, .slice A0 n0 c0] 25)) (.cells #[.slice Am1 nm1 cm1, .slice Av1 nv1 cv1, .int .i64 cl1, .slice At1 nt1 ct1] 29)
  have hx0 : Blk ((w.alloc (.cells #[.slice An0 nn0 cn0, .slice A0 n0 c0] 25)).alloc (.cells #[.slice Am1 nm1 cm1, .slice Av1 nv1 cv1, .int .i64 cl1, .slice At1 nt1 ct1] 29)) (w.heap.size) 25 #[.slice An0 nn0 cn0, .slice A0 n0 c0] := by simpa using ((Blk.new w 25 #[.slice An0 nn0 cn0, .slice A0 n0 c0]).alloc (.cells #[.slice Am1 nm1 cm1, .slice Av1 nv1 cv1, .int .i64 cl1, .slice At1 nt1 ct1] 29))
  have HX0 := Lib.hid hx0
  clear hx0
  have hx1 : Blk ((w.alloc (.cells #[.slice An0 nn0 cn0, .slice A0 n0 c0] 25)).alloc (.cells #[.slice Am1 nm1 cm1, .slice Av1 nv1 cv1, .int .i64 cl1, .slice At1 nt1 ct1] 29)) (w.heap.size + 1) 29 #[.slice Am1 nm1 cm1, .slice Av1 nv1 cv1, .int .i64 cl1, .slice At1 nt1 ct1] := by simpa using (Blk.new (w.alloc (.cells #[.slice An0 nn0 cn0, .slice A0 n0 c0] 25)) 29 #[.slice Am1 nm1 cm1, .slice Av1 nv1 cv1, .int .i64 cl1, .slice At1 nt1 ct1])
  have HX1 := Lib.hid hx1
  clear hx1
  have hzw : ((w.alloc (.cells #[.slice An0 nn0 cn0, .slice A0 n0 c0] 25)).alloc (.cells #[.slice Am1 nm1 cm1, .slice Av1 nv1 cv1, .int .i64 cl1, .slice At1 nt1 ct1] 29)).heap.size = w.heap.size + 1 + 1 := by simp
  have hz0 : w.heap.size + 1 + 1 ≤ ((w.alloc (.cells #[.slice An0 nn0 cn0, .slice A0 n0 c0] 25)).alloc (.cells #[.slice Am1 nm1 cm1, .slice Av1 nv1 cv1, .int .i64 cl1, .slice At1 nt1 ct1] 29)).heap.size := by omega
  clear hzw
  have HLN0 := Lib.hid hrn0.len2
  have HLF0 := Lib.hid hr0.1
  have HRN0 := Lib.hid hrn0
  have HR0 := Lib.hid hr0
  clear hrn0 hr0
  have HXM1 := Lib.hid hrm1
  have HXV1 := Lib.hid hrv1
  have HXT1 := Lib.hid hrt1
  clear hrm1 hrv1 hrt1
  have HB0 := Lib.hid hb0
  clear hb0
  go_enter Tryz.func7, Tryz.ntmps7
  have k_1 : ((w.alloc (.cells #[.slice An0 nn0 cn0, .slice A0 n0 c0] 25)).alloc (.cells #[.slice Am1 nm1 cm1, .slice Av1 nv1 cv1, .int .i64 cl1, .slice At1 nt1 ct1] 29)).cell? ⟨w.heap.size, 0, none⟩ = some (.slice An0 nn0 cn0) := HX0.out.cell 0
  have k_2 : ((w.alloc (.cells #[.slice An0 nn0 cn0, .slice A0 n0 c0] 25)).alloc (.cells #[.slice Am1 nm1 cm1, .slice Av1 nv1 cv1, .int .i64 cl1, .slice At1 nt1 ct1] 29)).cell? ⟨w.heap.size, 1, none⟩ = some (.slice A0 n0 c0) := HX0.out.cell 1
  go_wp2_with (fail)
  (with_reducible refine (szProcess_any 0 w.heap.size nn0 cn0 An0 ns0 0 w.heap.size n0 c0 A0 fs0 1048576 _ (HRN0.out.keep HB0.out (Nat.le_refl _)) HB0.out.size hnn0 (HR0.out.keep HB0.out (Nat.le_refl _)) HB0.out.size hn0 (by omega) (by omega)).mono ?_)
  rintro e w1 ⟨hbt, he⟩
  have hz1 : ((w.alloc (.cells #[.slice An0 nn0 cn0, .slice A0 n0 c0] 25)).alloc (.cells #[.slice Am1 nm1 cm1, .slice Av1 nv1 cv1, .int .i64 cl1, .slice At1 nt1 ct1] 29)).heap.size ≤ w1.heap.size := hbt.size
  clear k_1 k_2
  have HB_3 := Lib.hid (up HB0.out hbt)
  have HX0_4 := Lib.hid (HX0.out.below hbt (by omega))
  have HX1_5 := Lib.hid (HX1.out.below hbt (by omega))
  clear HB0 HX0 HX1
  clear hbt
  rcases he with rfl | ⟨r0, rfl, q00, q01, q02, q03, q04⟩
  · go_wp2
    go_ret
    exact ⟨rfl, HB_3.out⟩
  have hz1' : w.heap.size + 1 + 1 ≤ w1.heap.size := by omega
  clear hz0 hz1
  have HS0 := Lib.hid (HR0.out.small q04)
  clear q04 HR0
  have hnn1_0 : ns0.length ≤ 1048576 := by rw [HLN0.out]; exact q02
  have hfl1_0 : fs0.length ≤ 1048576 := by rw [HLF0.out]; exact q03
  have k_6 : w1.cell? ⟨w.heap.size + 1, 0, none⟩ = some (.slice Am1 nm1 cm1) := HX1_5.out.cell 0
  have k_7 : w1.cell? ⟨w.heap.size + 1, 1, none⟩ = some (.slice Av1 nv1 cv1) := HX1_5.out.cell 1
  have k_8 : w1.cell? ⟨w.heap.size + 1, 2, none⟩ = some (.int .i64 cl1) := HX1_5.out.cell 2
  have k_9 : w1.cell? ⟨w.heap.size + 1, 3, none⟩ = some (.slice At1 nt1 ct1) := HX1_5.out.cell 3
  go_wp2_with (fail)
  (with_reducible refine (szInstance_any nm1 cm1 nv1 cv1 nt1 ct1 Am1 Av1 At1 cl1 r0 _ hnm1 hnv1 hnt1 (by omega) (by omega)).mono ?_)
  rintro e w2 ⟨hbt, he⟩
  have hz2 : w1.heap.size ≤ w2.heap.size := hbt.size
  clear k_6 k_7 k_8 k_9
  have HB_10 := Lib.hid (up HB_3.out hbt)
  have HX0_11 := Lib.hid (HX0_4.out.below hbt (by omega))
  have HX1_12 := Lib.hid (HX1_5.out.below hbt (by omega))
  clear HB_3 HX0_4 HX1_5
  clear hbt
  rcases he with rfl | ⟨r1, rfl, q10, q11, q12, q13, q14⟩
  · go_wp2
    go_ret
    exact ⟨rfl, HB_10.out⟩
  have hok := deliver_ok ns0 fs0 ms1 vs1 cl1 ts1 z2
  obtain ⟨u, hU⟩ : ∃ u, deliverOf ns0 fs0 ms1 vs1 cl1 ts1 z2 = u := ⟨_, rfl⟩
  rw [hU] at hok
  have HU0 := Lib.hid hU
  clear hU
  unfold InsOk at hok
  obtain ⟨⟨um, uv, ucl, ut⟩, hV⟩ : ∃ x, insV u = x := ⟨_, rfl⟩
  rw [hV] at hok
  obtain ⟨hul0, hul1, hul2⟩ := hok
  dsimp only at hul0 hul1 hul2
  have HVU := Lib.hid hV
  clear hV
  obtain ⟨ub, hUB⟩ : ∃ b, u.isSome = b := ⟨_, rfl⟩
  have HUB := Lib.hid hUB
  clear hUB
  have hne : (ub != ub) = false := by simp
  have HC0 : Hid (∀ wx : World, Below w2.heap.size w2 wx → Calls Tryz.prog 15 #[.agg #[.slice An0 nn0 cn0, .slice A0 n0 c0]] wx (ToProc ns0 fs0 wx)) := fun wx hbx => toProcess_any 0 w.heap.size nn0 cn0 An0 ns0 0 w.heap.size n0 c0 A0 fs0 wx (HRN0.out.keep (up HB_10.out hbx) (Nat.le_refl _)) (up HB_10.out hbx).size q02 (HS0.out.keep (up HB_10.out hbx) (Nat.le_refl _)) (up HB_10.out hbx).size q03
  have HC1 : Hid (∀ wx : World, Below w2.heap.size w2 wx → Calls Tryz.prog 17 #[.agg #[.slice Am1 nm1 cm1, .slice Av1 nv1 cv1, .int .i64 cl1, .slice At1 nt1 ct1]] wx (ToInst ms1 vs1 cl1 ts1 nm1 nv1 nt1 wx)) := fun wx hbx => toInstance_any nm1 cm1 nv1 cv1 nt1 ct1 Am1 Av1 At1 cl1 0 w.heap.size 0 w.heap.size 0 w.heap.size ms1 vs1 ts1 wx (HXM1.out.keep (up HB_10.out hbx) (Nat.le_refl _)) (up HB_10.out hbx).size q12 (HXV1.out.keep (up HB_10.out hbx) (Nat.le_refl _)) (up HB_10.out hbx).size q13 (HXT1.out.keep (up HB_10.out hbx) (Nat.le_refl _)) (up HB_10.out hbx).size q14
  have HSW : Hid (∀ wx : World, Below w2.heap.size w2 wx → wx.cell? ⟨w.heap.size, 0, none⟩ = some (.slice An0 nn0 cn0) ∧ wx.cell? ⟨w.heap.size, 1, none⟩ = some (.slice A0 n0 c0) ∧ wx.cell? ⟨w.heap.size + 1, 0, none⟩ = some (.slice Am1 nm1 cm1) ∧ wx.cell? ⟨w.heap.size + 1, 1, none⟩ = some (.slice Av1 nv1 cv1) ∧ wx.cell? ⟨w.heap.size + 1, 2, none⟩ = some (.int .i64 cl1) ∧ wx.cell? ⟨w.heap.size + 1, 3, none⟩ = some (.slice At1 nt1 ct1)) := fun wx hbx => ⟨(HX0_11.out.below hbx (by omega)).cell 0, (HX0_11.out.below hbx (by omega)).cell 1, (HX1_12.out.below hbx (by omega)).cell 0, (HX1_12.out.below hbx (by omega)).cell 1, (HX1_12.out.below hbx (by omega)).cell 2, (HX1_12.out.below hbx (by omega)).cell 3⟩
  obtain ⟨kk0, kk1, kk2, kk3, kk4, kk5⟩ := HSW.out _ (Below.refl _ _)
  go_upto_region 8 with fail
  clear kk0 kk1 kk2 kk3 kk4 kk5
  go_cut [8, 9] from 29 to 37 (fun sw bw wx => ∃ g9 Agas1 cgas1 Agbs1 cgbs1 Agcs1 cgcs1, sw = .pointer (some ⟨g9, 0, none⟩) ∧ bw = .bool ub ∧ Hid (InGot w2 wx g9 um uv ucl ut Agas1 cgas1 Agbs1 cgbs1 Agcs1 cgcs1))
  case first =>
    go_region_held3 (fun wx => wx.cell? ⟨w.heap.size, 0, none⟩ = some (.slice An0 nn0 cn0) ∧ wx.cell? ⟨w.heap.size, 1, none⟩ = some (.slice A0 n0 c0) ∧ wx.cell? ⟨w.heap.size + 1, 0, none⟩ = some (.slice Am1 nm1 cm1) ∧ wx.cell? ⟨w.heap.size + 1, 1, none⟩ = some (.slice Av1 nv1 cv1) ∧ wx.cell? ⟨w.heap.size + 1, 2, none⟩ = some (.int .i64 cl1) ∧ wx.cell? ⟨w.heap.size + 1, 3, none⟩ = some (.slice At1 nt1 ct1))
      (first | with_reducible exact HSW.out _ (Below.refl _ _) | with_reducible exact HSW.out _ (up_drew (Below.refl _ _)) | with_reducible exact HSW.out _ (up_drew (up_alloc (Below.refl _ _) _)) | with_reducible exact HSW.out _ HV1.out | with_reducible exact HSW.out _ (up_alloc HV1.out _) | with_reducible exact HSW.out _ HV2.out | with_reducible exact HSW.out _ (up_alloc HV2.out _) | with_reducible exact HSW.out _ HV3.out | with_reducible exact HSW.out _ (up_alloc HV3.out _) | with_reducible exact HSW.out _ (inLay_below HV3.out hgE3))
      ((first
        | (go_at_call 15; (with_reducible refine (HC0.out _ (up_drew (Below.refl _ w2))).mono ?_); rintro e v1 ⟨Ana0, cna0, Bfa0, dfa0, mida0, rfl, hNa0, hMa0, hlta0, hmta0, hFa0, hbta0⟩; have HV1 := Lib.hid (up (up_drew (Below.refl _ w2)) hbta0); have hs1_ := HV1.out.size; have hE1 := True.intro; have hgE1 := True.intro)
        | (go_at_call 15; (with_reducible refine (HC0.out _ (up_drew (up_alloc (Below.refl _ w2) (.cells #[.slice none 0 0, .slice none 0 0, .int .i64 0, .slice none 0 0] 34)))).mono ?_); rintro e v1 ⟨Ana0, cna0, Bfa0, dfa0, mida0, rfl, hNa0, hMa0, hlta0, hmta0, hFa0, hbta0⟩; have HV1 := Lib.hid (up (up_drew (up_alloc (Below.refl _ w2) (.cells #[.slice none 0 0, .slice none 0 0, .int .i64 0, .slice none 0 0] 34))) hbta0); have hs1_ := HV1.out.size; have hE1 := (Blk.new w2 34 #[.slice none 0 0, .slice none 0 0, .int .i64 0, .slice none 0 0]).drew.below hbta0 (Blk.new w2 34 #[.slice none 0 0, .slice none 0 0, .int .i64 0, .slice none 0 0]).drew.lt; have hsx := hbta0.size; simp only [World.size_drew, World.size_alloc] at hsx; have hgE1 := Nat.le_refl w2.heap.size)
        | (go_at_call 17; (with_reducible refine (HC1.out _ HV1.out).mono ?_); rintro e v2 ⟨Axa1, cxa1, Aya1, cya1, Aza1, cza1, mxa1, mya1, rfl, ⟨hcaa1, hcba1, hcda1⟩, ⟨hmaa1, hmba1, hmca1⟩, ⟨hAa1, haa1⟩, ⟨hCa1, hca1⟩, ⟨hDa1, hda1⟩, hbta1⟩; have HV2 := Lib.hid (up HV1.out hbta1); have hs2_ := HV2.out.size; have Na0_2 := hNa0.keep hbta1 (by omega); have Fa0_2 := hFa0.keep hbta1 (by omega) (by omega); have hsx := hbta1.size; (first | (have hE2 := hE1.below hbta1 hE1.lt; have hgE2 := hgE1; have hlE2 := hE1.lt) | (have hE2 := True.intro; have hgE2 := True.intro)))
        | (go_at_call 17; (with_reducible refine (HC1.out _ (up_alloc HV1.out (.cells #[.slice none 0 0, .slice none 0 0, .int .i64 0, .slice none 0 0] 34))).mono ?_); rintro e v2 ⟨Axa1, cxa1, Aya1, cya1, Aza1, cza1, mxa1, mya1, rfl, ⟨hcaa1, hcba1, hcda1⟩, ⟨hmaa1, hmba1, hmca1⟩, ⟨hAa1, haa1⟩, ⟨hCa1, hca1⟩, ⟨hDa1, hda1⟩, hbta1⟩; have HV2 := Lib.hid (up (up_alloc HV1.out (.cells #[.slice none 0 0, .slice none 0 0, .int .i64 0, .slice none 0 0] 34)) hbta1); have hs2_ := HV2.out.size; have Na0_2 := (hNa0.keep (up_alloc (Below.refl _ v1) (.cells #[.slice none 0 0, .slice none 0 0, .int .i64 0, .slice none 0 0] 34)) (by omega)).keep hbta1 (by first | (simp; done) | (simp; omega) | omega); have Fa0_2 := (hFa0.keep (up_alloc (Below.refl _ v1) (.cells #[.slice none 0 0, .slice none 0 0, .int .i64 0, .slice none 0 0] 34)) (by omega) (by omega)).keep hbta1 (by first | (simp; done) | (simp; omega) | omega) (by first | (simp; done) | (simp; omega) | omega); have hE2 := (Blk.new v1 34 #[.slice none 0 0, .slice none 0 0, .int .i64 0, .slice none 0 0]).below hbta1 (Blk.new v1 34 #[.slice none 0 0, .slice none 0 0, .int .i64 0, .slice none 0 0]).lt; have hsx := hbta1.size; simp only [World.size_alloc] at hsx; have hgE2 := HV1.out.size)
        | (go_at_call 37; (with_reducible refine (DeliverMessageS_any _ _ ns0.length cna0 Ana0 ns0 _ _ fs0.length dfa0 Bfa0 fs0 _ _ nm1 cxa1 Axa1 ms1 _ _ nv1 cya1 Aya1 vs1 cl1 _ _ nt1 cza1 Aza1 ts1 z2 _ Na0_2 (by omega) hnn1_0 (Fa0_2.fls (by omega) (by omega)) (by omega) hfl1_0 hAa1 (by omega) q12 hCa1 (by omega) q13 hDa1 (by omega) q14).mono ?_); rw [HU0.out]; intro e v3 hip; obtain ⟨Agas1, cgas1, Agbs1, cgbs1, Agcs1, cgcs1, rfl, hGas1, hGbs1, hGcs1, hbts1⟩ := hip.flat HVU.out HUB.out; clear hip; have HV3 := Lib.hid (up HV2.out hbts1); have hs3_ := HV3.out.size; (first | have hl9 := hE2.lt | have hl9 := True.intro); have hsx := hbts1.size; (first | (have hE3 := hE2.below hbts1 hE2.lt; have hgE3 := hgE2; have y0 := hE3.cell 0; have y1 := hE3.cell 1; have y2 := hE3.cell 2; have y3 := hE3.cell 3; have g0 := hE3.soft 0; have g1 := hE3.soft 1; have g2 := hE3.soft 2; have g3 := hE3.soft 3) | (have hE3 := True.intro; have hgE3 := True.intro)))
        | (go_at_call 37; (with_reducible refine (DeliverMessageS_any _ _ ns0.length cna0 Ana0 ns0 _ _ fs0.length dfa0 Bfa0 fs0 _ _ nm1 cxa1 Axa1 ms1 _ _ nv1 cya1 Aya1 vs1 cl1 _ _ nt1 cza1 Aza1 ts1 z2 _ (Na0_2.keep (up_alloc (Below.refl _ v2) (.cells #[.slice none 0 0, .slice none 0 0, .int .i64 0, .slice none 0 0] 34)) (by omega)) (by first | (simp; done) | (simp; omega) | omega) hnn1_0 ((Fa0_2.keep (up_alloc (Below.refl _ v2) (.cells #[.slice none 0 0, .slice none 0 0, .int .i64 0, .slice none 0 0] 34)) (by omega) (by omega)).fls (by omega) (by omega)) (by first | (simp; done) | (simp; omega) | omega) hfl1_0 (hAa1.keep (up_alloc (Below.refl _ v2) (.cells #[.slice none 0 0, .slice none 0 0, .int .i64 0, .slice none 0 0] 34)) (by omega)) (by first | (simp; done) | (simp; omega) | omega) q12 (hCa1.keep (up_alloc (Below.refl _ v2) (.cells #[.slice none 0 0, .slice none 0 0, .int .i64 0, .slice none 0 0] 34)) (by omega)) (by first | (simp; done) | (simp; omega) | omega) q13 (hDa1.keep (up_alloc (Below.refl _ v2) (.cells #[.slice none 0 0, .slice none 0 0, .int .i64 0, .slice none 0 0] 34)) (by omega)) (by first | (simp; done) | (simp; omega) | omega) q14).mono ?_); rw [HU0.out]; intro e v3 hip; obtain ⟨Agas1, cgas1, Agbs1, cgbs1, Agcs1, cgcs1, rfl, hGas1, hGbs1, hGcs1, hbts1⟩ := hip.flat HVU.out HUB.out; clear hip; have HV3 := Lib.hid (up (up_alloc HV2.out (.cells #[.slice none 0 0, .slice none 0 0, .int .i64 0, .slice none 0 0] 34)) hbts1); have hs3_ := HV3.out.size; have hl9 : v2.heap.size < (v2.alloc (.cells #[.slice none 0 0, .slice none 0 0, .int .i64 0, .slice none 0 0] 34)).heap.size := (by simp); have hE3 := (Blk.new v2 34 #[.slice none 0 0, .slice none 0 0, .int .i64 0, .slice none 0 0]).below hbts1 (Blk.new v2 34 #[.slice none 0 0, .slice none 0 0, .int .i64 0, .slice none 0 0]).lt; have hsx := hbts1.size; simp only [World.size_alloc] at hsx; have hgE3 := HV2.out.size; have y0 := hE3.cell 0; have y1 := hE3.cell 1; have y2 := hE3.cell 2; have y3 := hE3.cell 3; have g0 := hE3.soft 0; have g1 := hE3.soft 1; have g2 := hE3.soft 2; have g3 := hE3.soft 3)
        | fail "no arm"))
    all_goals
      go_wp2_with fail
      go_meet
      first
        | exact ⟨_, Agas1, cgas1, Agbs1, cgbs1, Agcs1, cgcs1, rfl, rfl, InGot.early hE3 hGas1 hGbs1 hGcs1 (by first | (simp; done) | (simp; omega) | omega) hl9 hgE3 HV3.out⟩
        | exact ⟨_, Agas1, cgas1, Agbs1, cgbs1, Agcs1, cgcs1, rfl, rfl, InGot.early hE3 hGas1 hGbs1 hGcs1 (by omega) hl9 hgE3 HV3.out⟩
        | exact ⟨_, Agas1, cgas1, Agbs1, cgbs1, Agcs1, cgcs1, rfl, rfl, InGot.last hGas1 hGbs1 hGcs1 (by omega) HV3.out⟩
  case rest =>
  obtain ⟨gRS, Agas1, cgas1, Agbs1, cgbs1, Agcs1, cgcs1, rfl, rfl, hgot⟩ := hcut
  have hglRS := hgot.out.blk.lt
  have hr9a := Lib.hid hgot.out.r0
  have hr9b := Lib.hid hgot.out.r1
  have hr9c := Lib.hid hgot.out.r2
  have hb9 := Lib.hid hgot.out.bel
  have hy9 := Lib.hid hgot.out.blk
  clear hgot
  obtain ⟨w3, hww⟩ : ∃ x : World, x = wc := ⟨_, rfl⟩
  subst hww
  have hbt := hb9.out
  have hz3 := hbt.size
  clear HSW hb9 HC0 HC1
  have HB_13 := Lib.hid (up HB_10.out hbt)
  have HX0_14 := Lib.hid (HX0_11.out.below hbt (by omega))
  have HX1_15 := Lib.hid (HX1_12.out.below hbt (by omega))
  clear HB_10 HX0_11 HX1_12
  clear hbt
  have HGas1 := Lib.hid hr9a.out
  clear hr9a
  have HGbs1 := Lib.hid hr9b.out
  clear hr9b
  have HGcs1 := Lib.hid hr9c.out
  clear hr9c
  have HYRS := Lib.hid hy9.out
  clear hy9
  have k_16 : w3.cell? ⟨w.heap.size, 0, none⟩ = some (.slice An0 nn0 cn0) := HX0_14.out.cell 0
  have k_17 : w3.cell? ⟨w.heap.size, 1, none⟩ = some (.slice A0 n0 c0) := HX0_14.out.cell 1
  go_wp2_with (fail)
  (with_reducible refine (toProcess_any 0 w.heap.size nn0 cn0 An0 ns0 0 w.heap.size n0 c0 A0 fs0 _ (HRN0.out.keep HB_13.out (Nat.le_refl _)) HB_13.out.size q02 (HS0.out.keep HB_13.out (Nat.le_refl _)) HB_13.out.size q03).mono ?_)
  rintro e w4 ⟨Anb0, cnb0, Bfb0, dfb0, midb0, rfl, hNb0, hMb0, hltb0, hmtb0, hFb0, hbtb0⟩
  have hz4 := hbtb0.size
  clear k_16 k_17
  have HB_18 := Lib.hid (up HB_13.out hbtb0)
  have HX0_19 := Lib.hid (HX0_14.out.below hbtb0 (by omega))
  have HX1_20 := Lib.hid (HX1_15.out.below hbtb0 (by omega))
  have HGas1_21 := Lib.hid (HGas1.out.keep hbtb0 (by omega))
  have HGbs1_22 := Lib.hid (HGbs1.out.keep hbtb0 (by omega))
  have HGcs1_23 := Lib.hid (HGcs1.out.keep hbtb0 (by omega))
  have HRS_24 := Lib.hid (HYRS.out.below hbtb0 (by omega))
  clear HB_13 HX0_14 HX1_15 HGas1 HGbs1 HGcs1 HYRS
  have HNb0 := Lib.hid hNb0
  have HMb0 := Lib.hid hMb0
  have HFb0 := Lib.hid hFb0
  clear hNb0 hMb0 hFb0 hbtb0
  have hba := up_alloc (Below.refl _ w4) (.cells #[.slice Anb0 ns0.length cnb0, .slice Bfb0 fs0.length dfb0] 40)
  have hp := Blk.new w4 40 #[.slice Anb0 ns0.length cnb0, .slice Bfb0 fs0.length dfb0]
  have hzz : w4.heap.size + 1 = (w4.alloc (.cells #[.slice Anb0 ns0.length cnb0, .slice Bfb0 fs0.length dfb0] 40)).heap.size := by simp
  generalize hWw5 : (w4.alloc (.cells #[.slice Anb0 ns0.length cnb0, .slice Bfb0 fs0.length dfb0] 40)) = w5 at hba hp hzz
  have hz5 : w4.heap.size + 1 ≤ w5.heap.size := by omega
  clear hzz
  have HB_25 := Lib.hid (up HB_18.out hba)
  have HX0_26 := Lib.hid (HX0_19.out.below hba (by omega))
  have HX1_27 := Lib.hid (HX1_20.out.below hba (by omega))
  have HGas1_28 := Lib.hid (HGas1_21.out.keep hba (by omega))
  have HGbs1_29 := Lib.hid (HGbs1_22.out.keep hba (by omega))
  have HGcs1_30 := Lib.hid (HGcs1_23.out.keep hba (by omega))
  have HRS_31 := Lib.hid (HRS_24.out.below hba (by omega))
  have HNb0_32 := Lib.hid (HNb0.out.keep hba (by omega))
  have HMb0_33 := Lib.hid (HMb0.out.kept HNb0.out hba (by omega))
  have HFb0_34 := Lib.hid (HFb0.out.keep hba (by omega) (by omega))
  clear HB_18 HX0_19 HX1_20 HGas1_21 HGbs1_22 HGcs1_23 HRS_24 HNb0 HMb0 HFb0
  have HY0 := Lib.hid hp
  clear hba hp
  have HWE0 := Lib.hid hWw5
  clear hWw5
  have k_35 : (w4.alloc (.cells #[.slice Anb0 ns0.length cnb0, .slice Bfb0 fs0.length dfb0] 40)).cell? ⟨w.heap.size + 1, 0, none⟩ = some (.slice Am1 nm1 cm1) := by rw [HWE0.out]; exact HX1_27.out.cell 0
  have k_36 : (w4.alloc (.cells #[.slice Anb0 ns0.length cnb0, .slice Bfb0 fs0.length dfb0] 40)).cell? ⟨w.heap.size + 1, 1, none⟩ = some (.slice Av1 nv1 cv1) := by rw [HWE0.out]; exact HX1_27.out.cell 1
  have k_37 : (w4.alloc (.cells #[.slice Anb0 ns0.length cnb0, .slice Bfb0 fs0.length dfb0] 40)).cell? ⟨w.heap.size + 1, 2, none⟩ = some (.int .i64 cl1) := by rw [HWE0.out]; exact HX1_27.out.cell 2
  have k_38 : (w4.alloc (.cells #[.slice Anb0 ns0.length cnb0, .slice Bfb0 fs0.length dfb0] 40)).cell? ⟨w.heap.size + 1, 3, none⟩ = some (.slice At1 nt1 ct1) := by rw [HWE0.out]; exact HX1_27.out.cell 3
  go_wp2_with (fail)
  rw [HWE0.out]
  (with_reducible refine (toInstance_any nm1 cm1 nv1 cv1 nt1 ct1 Am1 Av1 At1 cl1 0 w.heap.size 0 w.heap.size 0 w.heap.size ms1 vs1 ts1 _ (HXM1.out.keep HB_25.out (Nat.le_refl _)) HB_25.out.size q12 (HXV1.out.keep HB_25.out (Nat.le_refl _)) HB_25.out.size q13 (HXT1.out.keep HB_25.out (Nat.le_refl _)) HB_25.out.size q14).mono ?_)
  rintro e w6 ⟨Axb1, cxb1, Ayb1, cyb1, Azb1, czb1, mxb1, myb1, rfl, ⟨hcab1, hcbb1, hcdb1⟩, ⟨hmab1, hmbb1, hmcb1⟩, ⟨hAb1, hab1⟩, ⟨hCb1, hcb1⟩, ⟨hDb1, hdb1⟩, hbtb1⟩
  clear HWE0
  have hz6 := hbtb1.size
  clear k_35 k_36 k_37 k_38
  have HB_39 := Lib.hid (up HB_25.out hbtb1)
  have HX0_40 := Lib.hid (HX0_26.out.below hbtb1 (by omega))
  have HX1_41 := Lib.hid (HX1_27.out.below hbtb1 (by omega))
  have HGas1_42 := Lib.hid (HGas1_28.out.keep hbtb1 (by omega))
  have HGbs1_43 := Lib.hid (HGbs1_29.out.keep hbtb1 (by omega))
  have HGcs1_44 := Lib.hid (HGcs1_30.out.keep hbtb1 (by omega))
  have HRS_45 := Lib.hid (HRS_31.out.below hbtb1 (by omega))
  have HNb0_46 := Lib.hid (HNb0_32.out.keep hbtb1 (by omega))
  have HMb0_47 := Lib.hid (HMb0_33.out.kept HNb0_32.out hbtb1 (by omega))
  have HFb0_48 := Lib.hid (HFb0_34.out.keep hbtb1 (by omega) (by omega))
  have HY0_49 := Lib.hid (HY0.out.below hbtb1 (by omega))
  clear HB_25 HX0_26 HX1_27 HGas1_28 HGbs1_29 HGcs1_30 HRS_31 HNb0_32 HMb0_33 HFb0_34 HY0
  have HAb1 := Lib.hid hAb1
  have HSAb1 := Lib.hid hab1
  have HCb1 := Lib.hid hCb1
  have HSCb1 := Lib.hid hcb1
  have HDb1 := Lib.hid hDb1
  have HSDb1 := Lib.hid hdb1
  clear hAb1 hab1 hCb1 hcb1 hDb1 hdb1 hbtb1
  have hba := up_alloc (Below.refl _ w6) (.cells #[.slice Axb1 nm1 cxb1, .slice Ayb1 nv1 cyb1, .int .i64 cl1, .slice Azb1 nt1 czb1] 34)
  have hp := Blk.new w6 34 #[.slice Axb1 nm1 cxb1, .slice Ayb1 nv1 cyb1, .int .i64 cl1, .slice Azb1 nt1 czb1]
  have hzz : w6.heap.size + 1 = (w6.alloc (.cells #[.slice Axb1 nm1 cxb1, .slice Ayb1 nv1 cyb1, .int .i64 cl1, .slice Azb1 nt1 czb1] 34)).heap.size := by simp
  generalize hWw7 : (w6.alloc (.cells #[.slice Axb1 nm1 cxb1, .slice Ayb1 nv1 cyb1, .int .i64 cl1, .slice Azb1 nt1 czb1] 34)) = w7 at hba hp hzz
  have hz7 : w6.heap.size + 1 ≤ w7.heap.size := by omega
  clear hzz
  have HB_50 := Lib.hid (up HB_39.out hba)
  have HX0_51 := Lib.hid (HX0_40.out.below hba (by omega))
  have HX1_52 := Lib.hid (HX1_41.out.below hba (by omega))
  have HGas1_53 := Lib.hid (HGas1_42.out.keep hba (by omega))
  have HGbs1_54 := Lib.hid (HGbs1_43.out.keep hba (by omega))
  have HGcs1_55 := Lib.hid (HGcs1_44.out.keep hba (by omega))
  have HRS_56 := Lib.hid (HRS_45.out.below hba (by omega))
  have HNb0_57 := Lib.hid (HNb0_46.out.keep hba (by omega))
  have HMb0_58 := Lib.hid (HMb0_47.out.kept HNb0_46.out hba (by omega))
  have HFb0_59 := Lib.hid (HFb0_48.out.keep hba (by omega) (by omega))
  have HY0_60 := Lib.hid (HY0_49.out.below hba (by omega))
  have HAb1_61 := Lib.hid (HAb1.out.keep hba (by omega))
  have HSAb1_62 := Lib.hid (HSAb1.out.kept HAb1.out hba (by omega))
  have HCb1_63 := Lib.hid (HCb1.out.keep hba (by omega))
  have HSCb1_64 := Lib.hid (HSCb1.out.kept HCb1.out hba (by omega))
  have HDb1_65 := Lib.hid (HDb1.out.keep hba (by omega))
  have HSDb1_66 := Lib.hid (HSDb1.out.kept HDb1.out hba (by omega))
  clear HB_39 HX0_40 HX1_41 HGas1_42 HGbs1_43 HGcs1_44 HRS_45 HNb0_46 HMb0_47 HFb0_48 HY0_49 HAb1 HSAb1 HCb1 HSCb1 HDb1 HSDb1
  have HY1 := Lib.hid hp
  clear hba hp
  have HWE1 := Lib.hid hWw7
  clear hWw7
  have k_67 : (w6.alloc (.cells #[.slice Axb1 nm1 cxb1, .slice Ayb1 nv1 cyb1, .int .i64 cl1, .slice Azb1 nt1 czb1] 34)).cell? ⟨w4.heap.size, 0, none⟩ = some (.slice Anb0 ns0.length cnb0) := by rw [HWE1.out]; exact HY0_60.out.cell 0
  have k_68 : (w6.alloc (.cells #[.slice Axb1 nm1 cxb1, .slice Ayb1 nv1 cyb1, .int .i64 cl1, .slice Azb1 nt1 czb1] 34)).cell? ⟨w4.heap.size, 1, none⟩ = some (.slice Bfb0 fs0.length dfb0) := by rw [HWE1.out]; exact HY0_60.out.cell 1
  have k_69 : (w6.alloc (.cells #[.slice Axb1 nm1 cxb1, .slice Ayb1 nv1 cyb1, .int .i64 cl1, .slice Azb1 nt1 czb1] 34)).cell? ⟨w6.heap.size, 0, none⟩ = some (.slice Axb1 nm1 cxb1) := by rw [HWE1.out]; exact HY1.out.cell 0
  have k_70 : (w6.alloc (.cells #[.slice Axb1 nm1 cxb1, .slice Ayb1 nv1 cyb1, .int .i64 cl1, .slice Azb1 nt1 czb1] 34)).cell? ⟨w6.heap.size, 1, none⟩ = some (.slice Ayb1 nv1 cyb1) := by rw [HWE1.out]; exact HY1.out.cell 1
  have k_71 : (w6.alloc (.cells #[.slice Axb1 nm1 cxb1, .slice Ayb1 nv1 cyb1, .int .i64 cl1, .slice Azb1 nt1 czb1] 34)).cell? ⟨w6.heap.size, 2, none⟩ = some (.int .i64 cl1) := by rw [HWE1.out]; exact HY1.out.cell 2
  have k_72 : (w6.alloc (.cells #[.slice Axb1 nm1 cxb1, .slice Ayb1 nv1 cyb1, .int .i64 cl1, .slice Azb1 nt1 czb1] 34)).cell? ⟨w6.heap.size, 3, none⟩ = some (.slice Azb1 nt1 czb1) := by rw [HWE1.out]; exact HY1.out.cell 3
  go_wp2_with (fail)
  rw [HWE1.out]
  (with_reducible refine (DeliverMessageI_any w3.heap.size midb0 ns0.length cnb0 Anb0 ns0 midb0 w4.heap.size fs0.length dfb0 Bfb0 fs0 w5.heap.size mxb1 nm1 cxb1 Axb1 ms1 mxb1 myb1 nv1 cyb1 Ayb1 vs1 cl1 myb1 w6.heap.size nt1 czb1 Azb1 ts1 z2 _ HNb0_57.out (by omega) hnn1_0 (HFb0_59.out.fls (by omega) (by omega)) (by omega) hfl1_0 HAb1_61.out (by omega) q12 HCb1_63.out (by omega) q13 HDb1_65.out (by omega) q14).mono ?_)
  rw [HU0.out]
  intro e w8 hip; obtain ⟨Agai2, cgai2, Agbi2, cgbi2, Agci2, cgci2, pai2, pbi2, rfl, hGai2, hGbi2, hGci2, ⟨hpai2, hpbi2, hpci2⟩, ⟨hHai2, hHbi2, hHci2⟩, hbti2⟩ := hip.flat HVU.out HUB.out; clear hip
  clear HWE1
  have hz8 := hbti2.size
  clear k_67 k_68 k_69 k_70 k_71 k_72
  have HB_73 := Lib.hid (up HB_50.out hbti2)
  have HX0_74 := Lib.hid (HX0_51.out.below hbti2 (by omega))
  have HX1_75 := Lib.hid (HX1_52.out.below hbti2 (by omega))
  have HGas1_76 := Lib.hid (HGas1_53.out.keep hbti2 (by omega))
  have HGbs1_77 := Lib.hid (HGbs1_54.out.keep hbti2 (by omega))
  have HGcs1_78 := Lib.hid (HGcs1_55.out.keep hbti2 (by omega))
  have HRS_79 := Lib.hid (HRS_56.out.below hbti2 (by omega))
  have HNb0_80 := Lib.hid (HNb0_57.out.keep hbti2 (by omega))
  have HMb0_81 := Lib.hid (HMb0_58.out.kept HNb0_57.out hbti2 (by omega))
  have HFb0_82 := Lib.hid (HFb0_59.out.keep hbti2 (by omega) (by omega))
  have HY0_83 := Lib.hid (HY0_60.out.below hbti2 (by omega))
  have HAb1_84 := Lib.hid (HAb1_61.out.keep hbti2 (by omega))
  have HSAb1_85 := Lib.hid (HSAb1_62.out.kept HAb1_61.out hbti2 (by omega))
  have HCb1_86 := Lib.hid (HCb1_63.out.keep hbti2 (by omega))
  have HSCb1_87 := Lib.hid (HSCb1_64.out.kept HCb1_63.out hbti2 (by omega))
  have HDb1_88 := Lib.hid (HDb1_65.out.keep hbti2 (by omega))
  have HSDb1_89 := Lib.hid (HSDb1_66.out.kept HDb1_65.out hbti2 (by omega))
  have HY1_90 := Lib.hid (HY1.out.below hbti2 (by omega))
  clear HB_50 HX0_51 HX1_52 HGas1_53 HGbs1_54 HGcs1_55 HRS_56 HNb0_57 HMb0_58 HFb0_59 HY0_60 HAb1_61 HSAb1_62 HCb1_63 HSCb1_64 HDb1_65 HSDb1_66 HY1
  clear hbti2
  have HGai2 := Lib.hid hGai2
  clear hGai2
  have HHai2 := Lib.hid hHai2
  clear hHai2
  have HGbi2 := Lib.hid hGbi2
  clear hGbi2
  have HHbi2 := Lib.hid hHbi2
  clear hHbi2
  have HGci2 := Lib.hid hGci2
  clear hGci2
  have HHci2 := Lib.hid hHci2
  clear hHci2
  have hba := up_alloc (Below.refl _ w8) (.cells #[.slice Agai2 um.length cgai2, .slice Agbi2 uv.length cgbi2, .int .i64 ucl, .slice Agci2 ut.length cgci2] 34)
  have hp := Blk.new w8 34 #[.slice Agai2 um.length cgai2, .slice Agbi2 uv.length cgbi2, .int .i64 ucl, .slice Agci2 ut.length cgci2]
  have hzz : w8.heap.size + 1 = (w8.alloc (.cells #[.slice Agai2 um.length cgai2, .slice Agbi2 uv.length cgbi2, .int .i64 ucl, .slice Agci2 ut.length cgci2] 34)).heap.size := by simp
  generalize hWw9 : (w8.alloc (.cells #[.slice Agai2 um.length cgai2, .slice Agbi2 uv.length cgbi2, .int .i64 ucl, .slice Agci2 ut.length cgci2] 34)) = w9 at hba hp hzz
  have hz9 : w8.heap.size + 1 ≤ w9.heap.size := by omega
  clear hzz
  have HB_91 := Lib.hid (up HB_73.out hba)
  have HX0_92 := Lib.hid (HX0_74.out.below hba (by omega))
  have HX1_93 := Lib.hid (HX1_75.out.below hba (by omega))
  have HGas1_94 := Lib.hid (HGas1_76.out.keep hba (by omega))
  have HGbs1_95 := Lib.hid (HGbs1_77.out.keep hba (by omega))
  have HGcs1_96 := Lib.hid (HGcs1_78.out.keep hba (by omega))
  have HRS_97 := Lib.hid (HRS_79.out.below hba (by omega))
  have HNb0_98 := Lib.hid (HNb0_80.out.keep hba (by omega))
  have HMb0_99 := Lib.hid (HMb0_81.out.kept HNb0_80.out hba (by omega))
  have HFb0_100 := Lib.hid (HFb0_82.out.keep hba (by omega) (by omega))
  have HY0_101 := Lib.hid (HY0_83.out.below hba (by omega))
  have HAb1_102 := Lib.hid (HAb1_84.out.keep hba (by omega))
  have HSAb1_103 := Lib.hid (HSAb1_85.out.kept HAb1_84.out hba (by omega))
  have HCb1_104 := Lib.hid (HCb1_86.out.keep hba (by omega))
  have HSCb1_105 := Lib.hid (HSCb1_87.out.kept HCb1_86.out hba (by omega))
  have HDb1_106 := Lib.hid (HDb1_88.out.keep hba (by omega))
  have HSDb1_107 := Lib.hid (HSDb1_89.out.kept HDb1_88.out hba (by omega))
  have HY1_108 := Lib.hid (HY1_90.out.below hba (by omega))
  have HGai2_109 := Lib.hid (HGai2.out.keep hba (by omega))
  have HHai2_110 := Lib.hid (HHai2.out.kept HGai2.out hba (by omega))
  have HGbi2_111 := Lib.hid (HGbi2.out.keep hba (by omega))
  have HHbi2_112 := Lib.hid (HHbi2.out.kept HGbi2.out hba (by omega))
  have HGci2_113 := Lib.hid (HGci2.out.keep hba (by omega))
  have HHci2_114 := Lib.hid (HHci2.out.kept HGci2.out hba (by omega))
  clear HB_73 HX0_74 HX1_75 HGas1_76 HGbs1_77 HGcs1_78 HRS_79 HNb0_80 HMb0_81 HFb0_82 HY0_83 HAb1_84 HSAb1_85 HCb1_86 HSCb1_87 HDb1_88 HSDb1_89 HY1_90 HGai2 HHai2 HGbi2 HHbi2 HGci2 HHci2
  have HYRI := Lib.hid hp
  clear hba hp
  have HWERI := Lib.hid hWw9
  clear hWw9
  have k_115 : (w8.alloc (.cells #[.slice Agai2 um.length cgai2, .slice Agbi2 uv.length cgbi2, .int .i64 ucl, .slice Agci2 ut.length cgci2] 34)).cell? ⟨w8.heap.size, 0, none⟩ = some (.slice Agai2 um.length cgai2) := by rw [HWERI.out]; exact HYRI.out.cell 0
  have k_116 : (w8.alloc (.cells #[.slice Agai2 um.length cgai2, .slice Agbi2 uv.length cgbi2, .int .i64 ucl, .slice Agci2 ut.length cgci2] 34)).cell? ⟨w8.heap.size, 1, none⟩ = some (.slice Agbi2 uv.length cgbi2) := by rw [HWERI.out]; exact HYRI.out.cell 1
  have k_117 : (w8.alloc (.cells #[.slice Agai2 um.length cgai2, .slice Agbi2 uv.length cgbi2, .int .i64 ucl, .slice Agci2 ut.length cgci2] 34)).cell? ⟨w8.heap.size, 2, none⟩ = some (.int .i64 ucl) := by rw [HWERI.out]; exact HYRI.out.cell 2
  have k_118 : (w8.alloc (.cells #[.slice Agai2 um.length cgai2, .slice Agbi2 uv.length cgbi2, .int .i64 ucl, .slice Agci2 ut.length cgci2] 34)).cell? ⟨w8.heap.size, 3, none⟩ = some (.slice Agci2 ut.length cgci2) := by rw [HWERI.out]; exact HYRI.out.cell 3
  have k_119 : (w8.alloc (.cells #[.slice Agai2 um.length cgai2, .slice Agbi2 uv.length cgbi2, .int .i64 ucl, .slice Agci2 ut.length cgci2] 34)).cell? ⟨gRS, 0, none⟩ = some (.slice Agas1 um.length cgas1) := by rw [HWERI.out]; exact HRS_97.out.cell 0
  have k_120 : (w8.alloc (.cells #[.slice Agai2 um.length cgai2, .slice Agbi2 uv.length cgbi2, .int .i64 ucl, .slice Agci2 ut.length cgci2] 34)).cell? ⟨gRS, 1, none⟩ = some (.slice Agbs1 uv.length cgbs1) := by rw [HWERI.out]; exact HRS_97.out.cell 1
  have k_121 : (w8.alloc (.cells #[.slice Agai2 um.length cgai2, .slice Agbi2 uv.length cgbi2, .int .i64 ucl, .slice Agci2 ut.length cgci2] 34)).cell? ⟨gRS, 2, none⟩ = some (.int .i64 ucl) := by rw [HWERI.out]; exact HRS_97.out.cell 2
  have k_122 : (w8.alloc (.cells #[.slice Agai2 um.length cgai2, .slice Agbi2 uv.length cgbi2, .int .i64 ucl, .slice Agci2 ut.length cgci2] 34)).cell? ⟨gRS, 3, none⟩ = some (.slice Agcs1 ut.length cgcs1) := by rw [HWERI.out]; exact HRS_97.out.cell 3
  go_wp2_with (fail)
  rw [HWERI.out]
  (with_reducible refine (eqInstance_same _ _ _ _ _ _ _ _ _ _ _ _ _ _ _ _ _ _ _ _ _ _ _ _ _ _ _ _  um uv ut _ HGai2_109.out (by omega) hul0 HGbi2_111.out (by omega) hul1 HGci2_113.out (by omega) hul2 HGas1_94.out (by omega) HGbs1_95.out (by omega) HGcs1_96.out (by omega)).mono ?_)
  rintro e w10 ⟨rfl, hbt⟩
  clear k_115 k_116 k_117 k_118 k_119 k_120 k_121 k_122
  clear HWERI
  have hz10 := hbt.size
  have HB_123 := Lib.hid (up HB_91.out hbt)
  have HX0_124 := Lib.hid (HX0_92.out.below hbt (by omega))
  have HX1_125 := Lib.hid (HX1_93.out.below hbt (by omega))
  have HGas1_126 := Lib.hid (HGas1_94.out.keep hbt (by omega))
  have HGbs1_127 := Lib.hid (HGbs1_95.out.keep hbt (by omega))
  have HGcs1_128 := Lib.hid (HGcs1_96.out.keep hbt (by omega))
  have HRS_129 := Lib.hid (HRS_97.out.below hbt (by omega))
  have HNb0_130 := Lib.hid (HNb0_98.out.keep hbt (by omega))
  have HMb0_131 := Lib.hid (HMb0_99.out.kept HNb0_98.out hbt (by omega))
  have HFb0_132 := Lib.hid (HFb0_100.out.keep hbt (by omega) (by omega))
  have HY0_133 := Lib.hid (HY0_101.out.below hbt (by omega))
  have HAb1_134 := Lib.hid (HAb1_102.out.keep hbt (by omega))
  have HSAb1_135 := Lib.hid (HSAb1_103.out.kept HAb1_102.out hbt (by omega))
  have HCb1_136 := Lib.hid (HCb1_104.out.keep hbt (by omega))
  have HSCb1_137 := Lib.hid (HSCb1_105.out.kept HCb1_104.out hbt (by omega))
  have HDb1_138 := Lib.hid (HDb1_106.out.keep hbt (by omega))
  have HSDb1_139 := Lib.hid (HSDb1_107.out.kept HDb1_106.out hbt (by omega))
  have HY1_140 := Lib.hid (HY1_108.out.below hbt (by omega))
  have HGai2_141 := Lib.hid (HGai2_109.out.keep hbt (by omega))
  have HHai2_142 := Lib.hid (HHai2_110.out.kept HGai2_109.out hbt (by omega))
  have HGbi2_143 := Lib.hid (HGbi2_111.out.keep hbt (by omega))
  have HHbi2_144 := Lib.hid (HHbi2_112.out.kept HGbi2_111.out hbt (by omega))
  have HGci2_145 := Lib.hid (HGci2_113.out.keep hbt (by omega))
  have HHci2_146 := Lib.hid (HHci2_114.out.kept HGci2_113.out hbt (by omega))
  have HRI_147 := Lib.hid (HYRI.out.below hbt (by omega))
  clear HB_91 HX0_92 HX1_93 HGas1_94 HGbs1_95 HGcs1_96 HRS_97 HNb0_98 HMb0_99 HFb0_100 HY0_101 HAb1_102 HSAb1_103 HCb1_104 HSCb1_105 HDb1_106 HSDb1_107 HY1_108 HGai2_109 HHai2_110 HGbi2_111 HHbi2_112 HGci2_113 HHci2_114 HYRI
  clear hbt
  have HC : Hid (∀ wx : World, Below w10.heap.size w10 wx → Calls Tryz.prog 15 #[.agg #[.slice An0 nn0 cn0, .slice A0 n0 c0]] wx (ToProc ns0 fs0 wx)) := fun wx hbx => toProcess_any 0 w.heap.size nn0 cn0 An0 ns0 0 w.heap.size n0 c0 A0 fs0 wx (HRN0.out.keep (up HB_123.out hbx) (Nat.le_refl _)) (up HB_123.out hbx).size q02 (HS0.out.keep (up HB_123.out hbx) (Nat.le_refl _)) (up HB_123.out hbx).size q03
  have HSW : Hid (∀ wx : World, Below w10.heap.size w10 wx → wx.cell? ⟨w.heap.size, 0, none⟩ = some (.slice An0 nn0 cn0) ∧ wx.cell? ⟨w.heap.size, 1, none⟩ = some (.slice A0 n0 c0) ∧ wx.cell? ⟨w4.heap.size, 0, none⟩ = some (.slice Anb0 ns0.length cnb0) ∧ wx.cell? ⟨w4.heap.size, 1, none⟩ = some (.slice Bfb0 fs0.length dfb0)) := fun wx hbx => ⟨(HX0_124.out.below hbx (by omega)).cell 0, (HX0_124.out.below hbx (by omega)).cell 1, (HY0_133.out.below hbx (by omega)).cell 0, (HY0_133.out.below hbx (by omega)).cell 1⟩
  go_wp2
  go_region_held3 (fun w' => w'.cell? ⟨w.heap.size, 0, none⟩ = some (.slice An0 nn0 cn0) ∧ w'.cell? ⟨w.heap.size, 1, none⟩ = some (.slice A0 n0 c0) ∧ w'.cell? ⟨w4.heap.size, 0, none⟩ = some (.slice Anb0 ns0.length cnb0) ∧ w'.cell? ⟨w4.heap.size, 1, none⟩ = some (.slice Bfb0 fs0.length dfb0))
    (first | exact HSW.out _ (Below.refl _ _) | exact HSW.out _ (up_drew (Below.refl _ _)) | exact HSW.out _ hB7 | exact HSW.out _ hB8)
    ((first
      | (go_at_call 15; (with_reducible refine (HC.out _ (up_drew (Below.refl _ w10))).mono ?_); rintro e w11 ⟨Anq0, cnq0, Bfq0, dfq0, midq0, rfl, hNq0, hMq0, hltq0, hmtq0, hFq0, hbtq0⟩; have hB7 := up (up_drew (Below.refl _ w10)) hbtq0; have hs7 : w10.heap.size ≤ w11.heap.size := hbtq0.size; have hlu7 : w10.heap.size ≤ midq0 := hltq0)
      | (go_at_call 20; (with_reducible refine (eqProcess_same w3.heap.size midb0 ns0.length cnb0 _ midq0 ns0.length cnq0 Anb0 Anq0 ns0 midb0 w4.heap.size fs0.length dfb0 midq0 w11.heap.size fs0.length dfq0 Bfb0 Bfq0 fs0 w11 (HNb0_130.out.keep hB7 (by omega)) (by omega) hnn1_0 ((HFb0_132.out.fls (by omega) (by omega)).keep hB7 (by omega)) (by omega) hfl1_0 hNq0 (by omega) (hFq0.fls (by omega) hmtq0) (Nat.le_refl _)).mono ?_); rintro e w12 ⟨rfl, hbt8⟩; have hB8 := up hB7 hbt8)))
  all_goals
    have hz12 : w10.heap.size ≤ w12.heap.size := hB8.size
    clear HC HSW hNq0 hMq0 hFq0 hbt8 hbtq0
    have HB_148 := Lib.hid (up HB_123.out hB8)
    have HX0_149 := Lib.hid (HX0_124.out.below hB8 (by omega))
    have HX1_150 := Lib.hid (HX1_125.out.below hB8 (by omega))
    have HGas1_151 := Lib.hid (HGas1_126.out.keep hB8 (by omega))
    have HGbs1_152 := Lib.hid (HGbs1_127.out.keep hB8 (by omega))
    have HGcs1_153 := Lib.hid (HGcs1_128.out.keep hB8 (by omega))
    have HRS_154 := Lib.hid (HRS_129.out.below hB8 (by omega))
    have HNb0_155 := Lib.hid (HNb0_130.out.keep hB8 (by omega))
    have HMb0_156 := Lib.hid (HMb0_131.out.kept HNb0_130.out hB8 (by omega))
    have HFb0_157 := Lib.hid (HFb0_132.out.keep hB8 (by omega) (by omega))
    have HY0_158 := Lib.hid (HY0_133.out.below hB8 (by omega))
    have HAb1_159 := Lib.hid (HAb1_134.out.keep hB8 (by omega))
    have HSAb1_160 := Lib.hid (HSAb1_135.out.kept HAb1_134.out hB8 (by omega))
    have HCb1_161 := Lib.hid (HCb1_136.out.keep hB8 (by omega))
    have HSCb1_162 := Lib.hid (HSCb1_137.out.kept HCb1_136.out hB8 (by omega))
    have HDb1_163 := Lib.hid (HDb1_138.out.keep hB8 (by omega))
    have HSDb1_164 := Lib.hid (HSDb1_139.out.kept HDb1_138.out hB8 (by omega))
    have HY1_165 := Lib.hid (HY1_140.out.below hB8 (by omega))
    have HGai2_166 := Lib.hid (HGai2_141.out.keep hB8 (by omega))
    have HHai2_167 := Lib.hid (HHai2_142.out.kept HGai2_141.out hB8 (by omega))
    have HGbi2_168 := Lib.hid (HGbi2_143.out.keep hB8 (by omega))
    have HHbi2_169 := Lib.hid (HHbi2_144.out.kept HGbi2_143.out hB8 (by omega))
    have HGci2_170 := Lib.hid (HGci2_145.out.keep hB8 (by omega))
    have HHci2_171 := Lib.hid (HHci2_146.out.kept HGci2_145.out hB8 (by omega))
    have HRI_172 := Lib.hid (HRI_147.out.below hB8 (by omega))
    clear HB_123 HX0_124 HX1_125 HGas1_126 HGbs1_127 HGcs1_128 HRS_129 HNb0_130 HMb0_131 HFb0_132 HY0_133 HAb1_134 HSAb1_135 HCb1_136 HSCb1_137 HDb1_138 HSDb1_139 HY1_140 HGai2_141 HHai2_142 HGbi2_143 HHbi2_144 HGci2_145 HHci2_146 HRI_147
    clear hB8 hB7
    have HC : Hid (∀ wx : World, Below w12.heap.size w12 wx → Calls Tryz.prog 17 #[.agg #[.slice Am1 nm1 cm1, .slice Av1 nv1 cv1, .int .i64 cl1, .slice At1 nt1 ct1]] wx (ToInst ms1 vs1 cl1 ts1 nm1 nv1 nt1 wx)) := fun wx hbx => toInstance_any nm1 cm1 nv1 cv1 nt1 ct1 Am1 Av1 At1 cl1 0 w.heap.size 0 w.heap.size 0 w.heap.size ms1 vs1 ts1 wx (HXM1.out.keep (up HB_148.out hbx) (Nat.le_refl _)) (up HB_148.out hbx).size q12 (HXV1.out.keep (up HB_148.out hbx) (Nat.le_refl _)) (up HB_148.out hbx).size q13 (HXT1.out.keep (up HB_148.out hbx) (Nat.le_refl _)) (up HB_148.out hbx).size q14
    have HSW : Hid (∀ wx : World, Below w12.heap.size w12 wx → wx.cell? ⟨w.heap.size + 1, 0, none⟩ = some (.slice Am1 nm1 cm1) ∧ wx.cell? ⟨w.heap.size + 1, 1, none⟩ = some (.slice Av1 nv1 cv1) ∧ wx.cell? ⟨w.heap.size + 1, 2, none⟩ = some (.int .i64 cl1) ∧ wx.cell? ⟨w.heap.size + 1, 3, none⟩ = some (.slice At1 nt1 ct1) ∧ wx.cell? ⟨w6.heap.size, 0, none⟩ = some (.slice Axb1 nm1 cxb1) ∧ wx.cell? ⟨w6.heap.size, 1, none⟩ = some (.slice Ayb1 nv1 cyb1) ∧ wx.cell? ⟨w6.heap.size, 2, none⟩ = some (.int .i64 cl1) ∧ wx.cell? ⟨w6.heap.size, 3, none⟩ = some (.slice Azb1 nt1 czb1)) := fun wx hbx => ⟨(HX1_150.out.below hbx (by omega)).cell 0, (HX1_150.out.below hbx (by omega)).cell 1, (HX1_150.out.below hbx (by omega)).cell 2, (HX1_150.out.below hbx (by omega)).cell 3, (HY1_165.out.below hbx (by omega)).cell 0, (HY1_165.out.below hbx (by omega)).cell 1, (HY1_165.out.below hbx (by omega)).cell 2, (HY1_165.out.below hbx (by omega)).cell 3⟩
    go_wp2
    go_region_held3 (fun w' => w'.cell? ⟨w.heap.size + 1, 0, none⟩ = some (.slice Am1 nm1 cm1) ∧ w'.cell? ⟨w.heap.size + 1, 1, none⟩ = some (.slice Av1 nv1 cv1) ∧ w'.cell? ⟨w.heap.size + 1, 2, none⟩ = some (.int .i64 cl1) ∧ w'.cell? ⟨w.heap.size + 1, 3, none⟩ = some (.slice At1 nt1 ct1) ∧ w'.cell? ⟨w6.heap.size, 0, none⟩ = some (.slice Axb1 nm1 cxb1) ∧ w'.cell? ⟨w6.heap.size, 1, none⟩ = some (.slice Ayb1 nv1 cyb1) ∧ w'.cell? ⟨w6.heap.size, 2, none⟩ = some (.int .i64 cl1) ∧ w'.cell? ⟨w6.heap.size, 3, none⟩ = some (.slice Azb1 nt1 czb1))
      (first | exact HSW.out _ (Below.refl _ _) | exact HSW.out _ (up_drew (Below.refl _ _)) | exact HSW.out _ hB7 | exact HSW.out _ hB8)
      ((first
        | (go_at_call 17; (with_reducible refine (HC.out _ (up_drew (Below.refl _ w12))).mono ?_); rintro e w13 ⟨Axq1, cxq1, Ayq1, cyq1, Azq1, czq1, mxq1, myq1, rfl, ⟨hcaq1, hcbq1, hcdq1⟩, ⟨hmaq1, hmbq1, hmcq1⟩, ⟨hAq1, haq1⟩, ⟨hCq1, hcq1⟩, ⟨hDq1, hdq1⟩, hbtq1⟩; have hB7 := up (up_drew (Below.refl _ w12)) hbtq1; have hs7 : w12.heap.size ≤ w13.heap.size := hbtq1.size)
        | (go_at_call 19; (with_reducible refine (eqInstance_same nm1 nv1 nt1 cxb1 cyb1 czb1 cxq1 cyq1 czq1 Axb1 Ayb1 Azb1 Axq1 Ayq1 Azq1 cl1 w5.heap.size mxb1 mxb1 myb1 myb1 w6.heap.size _ mxq1 mxq1 myq1 myq1 w13.heap.size ms1 vs1 ts1 w13 (HAb1_159.out.keep hB7 (by omega)) (by omega) q12 (HCb1_161.out.keep hB7 (by omega)) (by omega) q13 (HDb1_163.out.keep hB7 (by omega)) (by omega) q14 hAq1 (by omega) hCq1 (by omega) hDq1 (by omega)).mono ?_); rintro e w14 ⟨rfl, hbt8⟩; have hB8 := up hB7 hbt8)))
    all_goals
      have hz14 : w12.heap.size ≤ w14.heap.size := hB8.size
      clear HC HSW hAq1 haq1 hCq1 hcq1 hDq1 hdq1 hbt8 hbtq1
      have HB_173 := Lib.hid (up HB_148.out hB8)
      have HX0_174 := Lib.hid (HX0_149.out.below hB8 (by omega))
      have HX1_175 := Lib.hid (HX1_150.out.below hB8 (by omega))
      have HGas1_176 := Lib.hid (HGas1_151.out.keep hB8 (by omega))
      have HGbs1_177 := Lib.hid (HGbs1_152.out.keep hB8 (by omega))
      have HGcs1_178 := Lib.hid (HGcs1_153.out.keep hB8 (by omega))
      have HRS_179 := Lib.hid (HRS_154.out.below hB8 (by omega))
      have HNb0_180 := Lib.hid (HNb0_155.out.keep hB8 (by omega))
      have HMb0_181 := Lib.hid (HMb0_156.out.kept HNb0_155.out hB8 (by omega))
      have HFb0_182 := Lib.hid (HFb0_157.out.keep hB8 (by omega) (by omega))
      have HY0_183 := Lib.hid (HY0_158.out.below hB8 (by omega))
      have HAb1_184 := Lib.hid (HAb1_159.out.keep hB8 (by omega))
      have HSAb1_185 := Lib.hid (HSAb1_160.out.kept HAb1_159.out hB8 (by omega))
      have HCb1_186 := Lib.hid (HCb1_161.out.keep hB8 (by omega))
      have HSCb1_187 := Lib.hid (HSCb1_162.out.kept HCb1_161.out hB8 (by omega))
      have HDb1_188 := Lib.hid (HDb1_163.out.keep hB8 (by omega))
      have HSDb1_189 := Lib.hid (HSDb1_164.out.kept HDb1_163.out hB8 (by omega))
      have HY1_190 := Lib.hid (HY1_165.out.below hB8 (by omega))
      have HGai2_191 := Lib.hid (HGai2_166.out.keep hB8 (by omega))
      have HHai2_192 := Lib.hid (HHai2_167.out.kept HGai2_166.out hB8 (by omega))
      have HGbi2_193 := Lib.hid (HGbi2_168.out.keep hB8 (by omega))
      have HHbi2_194 := Lib.hid (HHbi2_169.out.kept HGbi2_168.out hB8 (by omega))
      have HGci2_195 := Lib.hid (HGci2_170.out.keep hB8 (by omega))
      have HHci2_196 := Lib.hid (HHci2_171.out.kept HGci2_170.out hB8 (by omega))
      have HRI_197 := Lib.hid (HRI_172.out.below hB8 (by omega))
      clear HB_148 HX0_149 HX1_150 HGas1_151 HGbs1_152 HGcs1_153 HRS_154 HNb0_155 HMb0_156 HFb0_157 HY0_158 HAb1_159 HSAb1_160 HCb1_161 HSCb1_162 HDb1_163 HSDb1_164 HY1_165 HGai2_166 HHai2_167 HGbi2_168 HHbi2_169 HGci2_170 HHci2_171 HRI_172
      clear hB8 hB7
      have k_198 : w14.cell? ⟨w4.heap.size, 0, none⟩ = some (.slice Anb0 ns0.length cnb0) := HY0_183.out.cell 0
      have k_199 : w14.cell? ⟨w4.heap.size, 1, none⟩ = some (.slice Bfb0 fs0.length dfb0) := HY0_183.out.cell 1
      go_wp2_with (fail)
      (with_reducible refine (markProcess_from (1) (by omega) (by omega) w3.heap.size midb0 w4.heap.size ns0.length cnb0 fs0.length dfb0 Anb0 Bfb0 ns0 fs0 _ HNb0_180.out HMb0_181.out hnn1_0 HFb0_182.out (by omega) (by omega) (by omega) hfl1_0).mono ?_)
      rintro e w16 ⟨rk0, w15, rfl, hrk0, hrl0, hbt, hwt⟩
      clear k_198 k_199
      have hz15 := hbt.size
      have hz16 := hwt.size
      clear HMb0_181
      clear HFb0_182
      clear HNb0_180
      clear HY0_183
      have HB_200 := Lib.hid (up HB_173.out hbt)
      have HX0_201 := Lib.hid (HX0_174.out.below hbt (by omega))
      have HX1_202 := Lib.hid (HX1_175.out.below hbt (by omega))
      have HGas1_203 := Lib.hid (HGas1_176.out.keep hbt (by omega))
      have HGbs1_204 := Lib.hid (HGbs1_177.out.keep hbt (by omega))
      have HGcs1_205 := Lib.hid (HGcs1_178.out.keep hbt (by omega))
      have HRS_206 := Lib.hid (HRS_179.out.below hbt (by omega))
      have HAb1_207 := Lib.hid (HAb1_184.out.keep hbt (by omega))
      have HSAb1_208 := Lib.hid (HSAb1_185.out.kept HAb1_184.out hbt (by omega))
      have HCb1_209 := Lib.hid (HCb1_186.out.keep hbt (by omega))
      have HSCb1_210 := Lib.hid (HSCb1_187.out.kept HCb1_186.out hbt (by omega))
      have HDb1_211 := Lib.hid (HDb1_188.out.keep hbt (by omega))
      have HSDb1_212 := Lib.hid (HSDb1_189.out.kept HDb1_188.out hbt (by omega))
      have HY1_213 := Lib.hid (HY1_190.out.below hbt (by omega))
      have HGai2_214 := Lib.hid (HGai2_191.out.keep hbt (by omega))
      have HHai2_215 := Lib.hid (HHai2_192.out.kept HGai2_191.out hbt (by omega))
      have HGbi2_216 := Lib.hid (HGbi2_193.out.keep hbt (by omega))
      have HHbi2_217 := Lib.hid (HHbi2_194.out.kept HGbi2_193.out hbt (by omega))
      have HGci2_218 := Lib.hid (HGci2_195.out.keep hbt (by omega))
      have HHci2_219 := Lib.hid (HHci2_196.out.kept HGci2_195.out hbt (by omega))
      have HRI_220 := Lib.hid (HRI_197.out.below hbt (by omega))
      clear HB_173 HX0_174 HX1_175 HGas1_176 HGbs1_177 HGcs1_178 HRS_179 HAb1_184 HSAb1_185 HCb1_186 HSCb1_187 HDb1_188 HSDb1_189 HY1_190 HGai2_191 HHai2_192 HGbi2_193 HHbi2_194 HGci2_195 HHci2_196 HRI_197
      have HB_221 := Lib.hid (Within.below HB_200.out hwt (by omega))
      have HX0_222 := Lib.hid (show Blk w16 (w.heap.size) 25 #[.slice An0 nn0 cn0, .slice A0 n0 c0] from (hwt.block (w.heap.size) (by omega) (by omega)).trans HX0_201.out)
      have HX1_223 := Lib.hid (show Blk w16 (w.heap.size + 1) 29 #[.slice Am1 nm1 cm1, .slice Av1 nv1 cv1, .int .i64 cl1, .slice At1 nt1 ct1] from (hwt.block (w.heap.size + 1) (by omega) (by omega)).trans HX1_202.out)
      have HGas1_224 := Lib.hid (HGas1_203.out.within hwt (by omega) (by omega))
      have HGbs1_225 := Lib.hid (HGbs1_204.out.within hwt (by omega) (by omega))
      have HGcs1_226 := Lib.hid (HGcs1_205.out.within hwt (by omega) (by omega))
      have HRS_227 := Lib.hid (show Blk w16 (gRS) 34 #[.slice Agas1 um.length cgas1, .slice Agbs1 uv.length cgbs1, .int .i64 ucl, .slice Agcs1 ut.length cgcs1] from (hwt.block (gRS) (by omega) (by omega)).trans HRS_206.out)
      have HAb1_228 := Lib.hid (HAb1_207.out.within hwt (by omega) (by omega))
      have HSAb1_229 := Lib.hid (HSAb1_208.out.within HAb1_207.out hwt (by omega) (by omega))
      have HCb1_230 := Lib.hid (HCb1_209.out.within hwt (by omega) (by omega))
      have HSCb1_231 := Lib.hid (HSCb1_210.out.within HCb1_209.out hwt (by omega) (by omega))
      have HDb1_232 := Lib.hid (HDb1_211.out.within hwt (by omega) (by omega))
      have HSDb1_233 := Lib.hid (HSDb1_212.out.within HDb1_211.out hwt (by omega) (by omega))
      have HY1_234 := Lib.hid (show Blk w16 (w6.heap.size) 34 #[.slice Axb1 nm1 cxb1, .slice Ayb1 nv1 cyb1, .int .i64 cl1, .slice Azb1 nt1 czb1] from (hwt.block (w6.heap.size) (by omega) (by omega)).trans HY1_213.out)
      have HGai2_235 := Lib.hid (HGai2_214.out.within hwt (by omega) (by omega))
      have HHai2_236 := Lib.hid (HHai2_215.out.within HGai2_214.out hwt (by omega) (by omega))
      have HGbi2_237 := Lib.hid (HGbi2_216.out.within hwt (by omega) (by omega))
      have HHbi2_238 := Lib.hid (HHbi2_217.out.within HGbi2_216.out hwt (by omega) (by omega))
      have HGci2_239 := Lib.hid (HGci2_218.out.within hwt (by omega) (by omega))
      have HHci2_240 := Lib.hid (HHci2_219.out.within HGci2_218.out hwt (by omega) (by omega))
      have HRI_241 := Lib.hid (show Blk w16 (w8.heap.size) 34 #[.slice Agai2 um.length cgai2, .slice Agbi2 uv.length cgbi2, .int .i64 ucl, .slice Agci2 ut.length cgci2] from (hwt.block (w8.heap.size) (by omega) (by omega)).trans HRI_220.out)
      clear HB_200 HX0_201 HX1_202 HGas1_203 HGbs1_204 HGcs1_205 HRS_206 HAb1_207 HSAb1_208 HCb1_209 HSCb1_210 HDb1_211 HSDb1_212 HY1_213 HGai2_214 HHai2_215 HGbi2_216 HHbi2_217 HGci2_218 HHci2_219 HRI_220
      clear hbt hwt
      have k_242 : w16.cell? ⟨w6.heap.size, 0, none⟩ = some (.slice Axb1 nm1 cxb1) := HY1_234.out.cell 0
      have k_243 : w16.cell? ⟨w6.heap.size, 1, none⟩ = some (.slice Ayb1 nv1 cyb1) := HY1_234.out.cell 1
      have k_244 : w16.cell? ⟨w6.heap.size, 2, none⟩ = some (.int .i64 cl1) := HY1_234.out.cell 2
      have k_245 : w16.cell? ⟨w6.heap.size, 3, none⟩ = some (.slice Azb1 nt1 czb1) := HY1_234.out.cell 3
      go_wp2_with (fail)
      (with_reducible refine (markInstance_from (rk0) (by omega) (by omega) w5.heap.size mxb1 myb1 w6.heap.size nm1 cxb1 nv1 cyb1 nt1 czb1 Axb1 Ayb1 Azb1 cl1 ms1 vs1 ts1 _ HAb1_228.out HSAb1_229.out q12 HCb1_230.out HSCb1_231.out q13 HDb1_232.out HSDb1_233.out q14 (by omega) (by omega) (by omega) (by omega)).mono ?_)
      rintro e w18 ⟨rk1, w17, rfl, hrk1, hrl1, hbt, hwt⟩
      clear k_242 k_243 k_244 k_245
      have hz17 := hbt.size
      have hz18 := hwt.size
      clear HSAb1_229
      clear HAb1_228
      clear HSCb1_231
      clear HCb1_230
      clear HSDb1_233
      clear HDb1_232
      clear HY1_234
      have HB_246 := Lib.hid (up HB_221.out hbt)
      have HX0_247 := Lib.hid (HX0_222.out.below hbt (by omega))
      have HX1_248 := Lib.hid (HX1_223.out.below hbt (by omega))
      have HGas1_249 := Lib.hid (HGas1_224.out.keep hbt (by omega))
      have HGbs1_250 := Lib.hid (HGbs1_225.out.keep hbt (by omega))
      have HGcs1_251 := Lib.hid (HGcs1_226.out.keep hbt (by omega))
      have HRS_252 := Lib.hid (HRS_227.out.below hbt (by omega))
      have HGai2_253 := Lib.hid (HGai2_235.out.keep hbt (by omega))
      have HHai2_254 := Lib.hid (HHai2_236.out.kept HGai2_235.out hbt (by omega))
      have HGbi2_255 := Lib.hid (HGbi2_237.out.keep hbt (by omega))
      have HHbi2_256 := Lib.hid (HHbi2_238.out.kept HGbi2_237.out hbt (by omega))
      have HGci2_257 := Lib.hid (HGci2_239.out.keep hbt (by omega))
      have HHci2_258 := Lib.hid (HHci2_240.out.kept HGci2_239.out hbt (by omega))
      have HRI_259 := Lib.hid (HRI_241.out.below hbt (by omega))
      clear HB_221 HX0_222 HX1_223 HGas1_224 HGbs1_225 HGcs1_226 HRS_227 HGai2_235 HHai2_236 HGbi2_237 HHbi2_238 HGci2_239 HHci2_240 HRI_241
      have HB_260 := Lib.hid (Within.below HB_246.out hwt (by omega))
      have HX0_261 := Lib.hid (show Blk w18 (w.heap.size) 25 #[.slice An0 nn0 cn0, .slice A0 n0 c0] from (hwt.block (w.heap.size) (by omega) (by omega)).trans HX0_247.out)
      have HX1_262 := Lib.hid (show Blk w18 (w.heap.size + 1) 29 #[.slice Am1 nm1 cm1, .slice Av1 nv1 cv1, .int .i64 cl1, .slice At1 nt1 ct1] from (hwt.block (w.heap.size + 1) (by omega) (by omega)).trans HX1_248.out)
      have HGas1_263 := Lib.hid (HGas1_249.out.within hwt (by omega) (by omega))
      have HGbs1_264 := Lib.hid (HGbs1_250.out.within hwt (by omega) (by omega))
      have HGcs1_265 := Lib.hid (HGcs1_251.out.within hwt (by omega) (by omega))
      have HRS_266 := Lib.hid (show Blk w18 (gRS) 34 #[.slice Agas1 um.length cgas1, .slice Agbs1 uv.length cgbs1, .int .i64 ucl, .slice Agcs1 ut.length cgcs1] from (hwt.block (gRS) (by omega) (by omega)).trans HRS_252.out)
      have HGai2_267 := Lib.hid (HGai2_253.out.within hwt (by omega) (by omega))
      have HHai2_268 := Lib.hid (HHai2_254.out.within HGai2_253.out hwt (by omega) (by omega))
      have HGbi2_269 := Lib.hid (HGbi2_255.out.within hwt (by omega) (by omega))
      have HHbi2_270 := Lib.hid (HHbi2_256.out.within HGbi2_255.out hwt (by omega) (by omega))
      have HGci2_271 := Lib.hid (HGci2_257.out.within hwt (by omega) (by omega))
      have HHci2_272 := Lib.hid (HHci2_258.out.within HGci2_257.out hwt (by omega) (by omega))
      have HRI_273 := Lib.hid (show Blk w18 (w8.heap.size) 34 #[.slice Agai2 um.length cgai2, .slice Agbi2 uv.length cgbi2, .int .i64 ucl, .slice Agci2 ut.length cgci2] from (hwt.block (w8.heap.size) (by omega) (by omega)).trans HRI_259.out)
      clear HB_246 HX0_247 HX1_248 HGas1_249 HGbs1_250 HGcs1_251 HRS_252 HGai2_253 HHai2_254 HGbi2_255 HHbi2_256 HGci2_257 HHci2_258 HRI_259
      clear hbt hwt
      have hrkn : 0 ≤ rk1 := by omega
      have hrkd : decide (rk1 < 0) = false := decide_eq_false (by omega)
      have k_274 : w18.cell? ⟨w8.heap.size, 0, none⟩ = some (.slice Agai2 um.length cgai2) := HRI_273.out.cell 0
      have k_275 : w18.cell? ⟨w8.heap.size, 1, none⟩ = some (.slice Agbi2 uv.length cgbi2) := HRI_273.out.cell 1
      have k_276 : w18.cell? ⟨w8.heap.size, 2, none⟩ = some (.int .i64 ucl) := HRI_273.out.cell 2
      have k_277 : w18.cell? ⟨w8.heap.size, 3, none⟩ = some (.slice Agci2 ut.length cgci2) := HRI_273.out.cell 3
      have k_278 : w18.cell? ⟨gRS, 0, none⟩ = some (.slice Agas1 um.length cgas1) := HRS_266.out.cell 0
      have k_279 : w18.cell? ⟨gRS, 1, none⟩ = some (.slice Agbs1 uv.length cgbs1) := HRS_266.out.cell 1
      have k_280 : w18.cell? ⟨gRS, 2, none⟩ = some (.int .i64 ucl) := HRS_266.out.cell 2
      have k_281 : w18.cell? ⟨gRS, 3, none⟩ = some (.slice Agcs1 ut.length cgcs1) := HRS_266.out.cell 3
      go_wp2_with (fail)
      (with_reducible refine (eqInstance_same _ _ _ _ _ _ _ _ _ _ _ _ _ _ _ _ _ _ _ _ _ _ _ _ _ _ _ _  um uv ut _ HGai2_267.out (by omega) hul0 HGbi2_269.out (by omega) hul1 HGci2_271.out (by omega) hul2 HGas1_263.out (by omega) HGbs1_264.out (by omega) HGcs1_265.out (by omega)).mono ?_)
      rintro e w19 ⟨rfl, hbt⟩
      clear k_274 k_275 k_276 k_277 k_278 k_279 k_280 k_281
      have hz19 := hbt.size
      have HB_282 := Lib.hid (up HB_260.out hbt)
      have HX0_283 := Lib.hid (HX0_261.out.below hbt (by omega))
      have HX1_284 := Lib.hid (HX1_262.out.below hbt (by omega))
      have HGas1_285 := Lib.hid (HGas1_263.out.keep hbt (by omega))
      have HGbs1_286 := Lib.hid (HGbs1_264.out.keep hbt (by omega))
      have HGcs1_287 := Lib.hid (HGcs1_265.out.keep hbt (by omega))
      have HRS_288 := Lib.hid (HRS_266.out.below hbt (by omega))
      have HGai2_289 := Lib.hid (HGai2_267.out.keep hbt (by omega))
      have HHai2_290 := Lib.hid (HHai2_268.out.kept HGai2_267.out hbt (by omega))
      have HGbi2_291 := Lib.hid (HGbi2_269.out.keep hbt (by omega))
      have HHbi2_292 := Lib.hid (HHbi2_270.out.kept HGbi2_269.out hbt (by omega))
      have HGci2_293 := Lib.hid (HGci2_271.out.keep hbt (by omega))
      have HHci2_294 := Lib.hid (HHci2_272.out.kept HGci2_271.out hbt (by omega))
      have HRI_295 := Lib.hid (HRI_273.out.below hbt (by omega))
      clear HB_260 HX0_261 HX1_262 HGas1_263 HGbs1_264 HGcs1_265 HRS_266 HGai2_267 HHai2_268 HGbi2_269 HHbi2_270 HGci2_271 HHci2_272 HRI_273
      clear hbt
      have k_296 : w19.cell? ⟨w8.heap.size, 0, none⟩ = some (.slice Agai2 um.length cgai2) := HRI_295.out.cell 0
      have k_297 : w19.cell? ⟨w8.heap.size, 1, none⟩ = some (.slice Agbi2 uv.length cgbi2) := HRI_295.out.cell 1
      have k_298 : w19.cell? ⟨w8.heap.size, 2, none⟩ = some (.int .i64 ucl) := HRI_295.out.cell 2
      have k_299 : w19.cell? ⟨w8.heap.size, 3, none⟩ = some (.slice Agci2 ut.length cgci2) := HRI_295.out.cell 3
      go_wp2_with (fail)
      (with_reducible refine (markInstance_res 1 (by omega) (by omega) _ pai2 pbi2 w8.heap.size um.length cgai2 uv.length cgbi2 ut.length cgci2 Agai2 Agbi2 Agci2 ucl _ _ _ _ HGci2_293.out HHci2_294.out hul2 HGai2_289.out HHai2_290.out hul0 HGbi2_291.out HHbi2_292.out hul1 (by omega) (by omega) (by omega) (by omega)).mono ?_)
      rintro e w21 ⟨rfl, ⟨hra, hrb, hrc⟩, w20, hbt, hwt⟩
      clear k_296 k_297 k_298 k_299
      have hz20 := hbt.size
      have hz21 := hwt.size
      clear HHai2_290
      clear HGai2_289
      clear HHbi2_292
      clear HGbi2_291
      clear HHci2_294
      clear HGci2_293
      have HB_300 := Lib.hid (up HB_282.out hbt)
      have HX0_301 := Lib.hid (HX0_283.out.below hbt (by omega))
      have HX1_302 := Lib.hid (HX1_284.out.below hbt (by omega))
      have HGas1_303 := Lib.hid (HGas1_285.out.keep hbt (by omega))
      have HGbs1_304 := Lib.hid (HGbs1_286.out.keep hbt (by omega))
      have HGcs1_305 := Lib.hid (HGcs1_287.out.keep hbt (by omega))
      have HRS_306 := Lib.hid (HRS_288.out.below hbt (by omega))
      have HRI_307 := Lib.hid (HRI_295.out.below hbt (by omega))
      clear HB_282 HX0_283 HX1_284 HGas1_285 HGbs1_286 HGcs1_287 HRS_288 HRI_295
      have HB_308 := Lib.hid (Within.below HB_300.out hwt (by omega))
      have HX0_309 := Lib.hid (show Blk w21 (w.heap.size) 25 #[.slice An0 nn0 cn0, .slice A0 n0 c0] from (hwt.block (w.heap.size) (by omega) (by omega)).trans HX0_301.out)
      have HX1_310 := Lib.hid (show Blk w21 (w.heap.size + 1) 29 #[.slice Am1 nm1 cm1, .slice Av1 nv1 cv1, .int .i64 cl1, .slice At1 nt1 ct1] from (hwt.block (w.heap.size + 1) (by omega) (by omega)).trans HX1_302.out)
      have HGas1_311 := Lib.hid (HGas1_303.out.within hwt (by omega) (by omega))
      have HGbs1_312 := Lib.hid (HGbs1_304.out.within hwt (by omega) (by omega))
      have HGcs1_313 := Lib.hid (HGcs1_305.out.within hwt (by omega) (by omega))
      have HRS_314 := Lib.hid (show Blk w21 (gRS) 34 #[.slice Agas1 um.length cgas1, .slice Agbs1 uv.length cgbs1, .int .i64 ucl, .slice Agcs1 ut.length cgcs1] from (hwt.block (gRS) (by omega) (by omega)).trans HRS_306.out)
      have HRI_315 := Lib.hid (show Blk w21 (w8.heap.size) 34 #[.slice Agai2 um.length cgai2, .slice Agbi2 uv.length cgbi2, .int .i64 ucl, .slice Agci2 ut.length cgci2] from (hwt.block (w8.heap.size) (by omega) (by omega)).trans HRI_307.out)
      clear HB_300 HX0_301 HX1_302 HGas1_303 HGbs1_304 HGcs1_305 HRS_306 HRI_307
      clear hbt hwt
      have HQa := Lib.hid hra
      clear hra
      have HQb := Lib.hid hrb
      clear hrb
      have HQc := Lib.hid hrc
      clear hrc
      have hqn : decide ((1 : Int) + (um.length : Int) + (uv.length : Int) + 2 * (ut.length : Int) < 0) = false := decide_eq_false (by omega)
      have hqe : ((1 : Int) + (um.length : Int) + (uv.length : Int) + 2 * (ut.length : Int) != (1 : Int) + (um.length : Int) + (uv.length : Int) + 2 * (ut.length : Int)) = false := by simp
      have k_316 : w21.cell? ⟨w8.heap.size, 0, none⟩ = some (.slice Agai2 um.length cgai2) := HRI_315.out.cell 0
      have k_317 : w21.cell? ⟨w8.heap.size, 1, none⟩ = some (.slice Agbi2 uv.length cgbi2) := HRI_315.out.cell 1
      have k_318 : w21.cell? ⟨w8.heap.size, 2, none⟩ = some (.int .i64 ucl) := HRI_315.out.cell 2
      have k_319 : w21.cell? ⟨w8.heap.size, 3, none⟩ = some (.slice Agci2 ut.length cgci2) := HRI_315.out.cell 3
      go_wp2_with (fail)
      (with_reducible refine (heldInstance_res 1 (by omega) (by omega) _ pai2 pbi2 w8.heap.size um.length cgai2 uv.length cgbi2 ut.length cgci2 Agai2 Agbi2 Agci2 ucl _ HQa.out hul0 HQb.out hul1 HQc.out hul2 (by omega) (by omega) (by omega)).mono ?_)
      rintro e w22 ⟨rfl, hbt⟩
      clear k_316 k_317 k_318 k_319
      have hz22 := hbt.size
      have HB_320 := Lib.hid (up HB_308.out hbt)
      have HX0_321 := Lib.hid (HX0_309.out.below hbt (by omega))
      have HX1_322 := Lib.hid (HX1_310.out.below hbt (by omega))
      have HGas1_323 := Lib.hid (HGas1_311.out.keep hbt (by omega))
      have HGbs1_324 := Lib.hid (HGbs1_312.out.keep hbt (by omega))
      have HGcs1_325 := Lib.hid (HGcs1_313.out.keep hbt (by omega))
      have HRS_326 := Lib.hid (HRS_314.out.below hbt (by omega))
      have HRI_327 := Lib.hid (HRI_315.out.below hbt (by omega))
      have HQa_328 := Lib.hid (HQa.out.keep hbt (by omega))
      have HQb_329 := Lib.hid (HQb.out.keep hbt (by omega))
      have HQc_330 := Lib.hid (HQc.out.keep hbt (by omega))
      clear HB_308 HX0_309 HX1_310 HGas1_311 HGbs1_312 HGcs1_313 HRS_314 HRI_315 HQa HQb HQc
      clear hbt
      have HC0 : Hid (∀ wx : World, Below w22.heap.size w22 wx → Calls Tryz.prog 15 #[.agg #[.slice An0 nn0 cn0, .slice A0 n0 c0]] wx (ToProc ns0 fs0 wx)) := fun wx hbx => toProcess_any 0 w.heap.size nn0 cn0 An0 ns0 0 w.heap.size n0 c0 A0 fs0 wx (HRN0.out.keep (up HB_320.out hbx) (Nat.le_refl _)) (up HB_320.out hbx).size q02 (HS0.out.keep (up HB_320.out hbx) (Nat.le_refl _)) (up HB_320.out hbx).size q03
      have HC1 : Hid (∀ wx : World, Below w22.heap.size w22 wx → Calls Tryz.prog 17 #[.agg #[.slice Am1 nm1 cm1, .slice Av1 nv1 cv1, .int .i64 cl1, .slice At1 nt1 ct1]] wx (ToInst ms1 vs1 cl1 ts1 nm1 nv1 nt1 wx)) := fun wx hbx => toInstance_any nm1 cm1 nv1 cv1 nt1 ct1 Am1 Av1 At1 cl1 0 w.heap.size 0 w.heap.size 0 w.heap.size ms1 vs1 ts1 wx (HXM1.out.keep (up HB_320.out hbx) (Nat.le_refl _)) (up HB_320.out hbx).size q12 (HXV1.out.keep (up HB_320.out hbx) (Nat.le_refl _)) (up HB_320.out hbx).size q13 (HXT1.out.keep (up HB_320.out hbx) (Nat.le_refl _)) (up HB_320.out hbx).size q14
      have HSW : Hid (∀ wx : World, Below w22.heap.size w22 wx → wx.cell? ⟨w.heap.size, 0, none⟩ = some (.slice An0 nn0 cn0) ∧ wx.cell? ⟨w.heap.size, 1, none⟩ = some (.slice A0 n0 c0) ∧ wx.cell? ⟨w.heap.size + 1, 0, none⟩ = some (.slice Am1 nm1 cm1) ∧ wx.cell? ⟨w.heap.size + 1, 1, none⟩ = some (.slice Av1 nv1 cv1) ∧ wx.cell? ⟨w.heap.size + 1, 2, none⟩ = some (.int .i64 cl1) ∧ wx.cell? ⟨w.heap.size + 1, 3, none⟩ = some (.slice At1 nt1 ct1)) := fun wx hbx => ⟨(HX0_321.out.below hbx (by omega)).cell 0, (HX0_321.out.below hbx (by omega)).cell 1, (HX1_322.out.below hbx (by omega)).cell 0, (HX1_322.out.below hbx (by omega)).cell 1, (HX1_322.out.below hbx (by omega)).cell 2, (HX1_322.out.below hbx (by omega)).cell 3⟩
      obtain ⟨kk0, kk1, kk2, kk3, kk4, kk5⟩ := HSW.out _ (Below.refl _ _)
      go_upto_region 31 with fail
      clear kk0 kk1 kk2 kk3 kk4 kk5
      go_cut [17, 18] from 98 to 106 (fun sw bw wx => ∃ g9 Agai3 cgai3 Agbi3 cgbi3 Agci3 cgci3, sw = .pointer (some ⟨g9, 0, none⟩) ∧ bw = .bool ub ∧ Hid (InGot w22 wx g9 um uv ucl ut Agai3 cgai3 Agbi3 cgbi3 Agci3 cgci3))
      case first =>
        go_region_held3 (fun wx => wx.cell? ⟨w.heap.size, 0, none⟩ = some (.slice An0 nn0 cn0) ∧ wx.cell? ⟨w.heap.size, 1, none⟩ = some (.slice A0 n0 c0) ∧ wx.cell? ⟨w.heap.size + 1, 0, none⟩ = some (.slice Am1 nm1 cm1) ∧ wx.cell? ⟨w.heap.size + 1, 1, none⟩ = some (.slice Av1 nv1 cv1) ∧ wx.cell? ⟨w.heap.size + 1, 2, none⟩ = some (.int .i64 cl1) ∧ wx.cell? ⟨w.heap.size + 1, 3, none⟩ = some (.slice At1 nt1 ct1))
          (first | with_reducible exact HSW.out _ (Below.refl _ _) | with_reducible exact HSW.out _ (up_drew (Below.refl _ _)) | with_reducible exact HSW.out _ (up_drew (up_alloc (Below.refl _ _) _)) | with_reducible exact HSW.out _ HV1.out | with_reducible exact HSW.out _ (up_alloc HV1.out _) | with_reducible exact HSW.out _ HV2.out | with_reducible exact HSW.out _ (up_alloc HV2.out _) | with_reducible exact HSW.out _ HV3.out | with_reducible exact HSW.out _ (up_alloc HV3.out _) | with_reducible exact HSW.out _ (inLay_below HV3.out hgE3))
          ((first
            | (go_at_call 15; (with_reducible refine (HC0.out _ (up_drew (Below.refl _ w22))).mono ?_); rintro e v1 ⟨And0, cnd0, Bfd0, dfd0, midd0, rfl, hNd0, hMd0, hltd0, hmtd0, hFd0, hbtd0⟩; have HV1 := Lib.hid (up (up_drew (Below.refl _ w22)) hbtd0); have hs1_ := HV1.out.size; have hE1 := True.intro; have hgE1 := True.intro)
            | (go_at_call 15; (with_reducible refine (HC0.out _ (up_drew (up_alloc (Below.refl _ w22) (.cells #[.slice none 0 0, .slice none 0 0, .int .i64 0, .slice none 0 0] 34)))).mono ?_); rintro e v1 ⟨And0, cnd0, Bfd0, dfd0, midd0, rfl, hNd0, hMd0, hltd0, hmtd0, hFd0, hbtd0⟩; have HV1 := Lib.hid (up (up_drew (up_alloc (Below.refl _ w22) (.cells #[.slice none 0 0, .slice none 0 0, .int .i64 0, .slice none 0 0] 34))) hbtd0); have hs1_ := HV1.out.size; have hE1 := (Blk.new w22 34 #[.slice none 0 0, .slice none 0 0, .int .i64 0, .slice none 0 0]).drew.below hbtd0 (Blk.new w22 34 #[.slice none 0 0, .slice none 0 0, .int .i64 0, .slice none 0 0]).drew.lt; have hsx := hbtd0.size; simp only [World.size_drew, World.size_alloc] at hsx; have hgE1 := Nat.le_refl w22.heap.size)
            | (go_at_call 17; (with_reducible refine (HC1.out _ HV1.out).mono ?_); rintro e v2 ⟨Axd1, cxd1, Ayd1, cyd1, Azd1, czd1, mxd1, myd1, rfl, ⟨hcad1, hcbd1, hcdd1⟩, ⟨hmad1, hmbd1, hmcd1⟩, ⟨hAd1, had1⟩, ⟨hCd1, hcd1⟩, ⟨hDd1, hdd1⟩, hbtd1⟩; have HV2 := Lib.hid (up HV1.out hbtd1); have hs2_ := HV2.out.size; have Nd0_2 := hNd0.keep hbtd1 (by omega); have Fd0_2 := hFd0.keep hbtd1 (by omega) (by omega); have hsx := hbtd1.size; (first | (have hE2 := hE1.below hbtd1 hE1.lt; have hgE2 := hgE1; have hlE2 := hE1.lt) | (have hE2 := True.intro; have hgE2 := True.intro)))
            | (go_at_call 17; (with_reducible refine (HC1.out _ (up_alloc HV1.out (.cells #[.slice none 0 0, .slice none 0 0, .int .i64 0, .slice none 0 0] 34))).mono ?_); rintro e v2 ⟨Axd1, cxd1, Ayd1, cyd1, Azd1, czd1, mxd1, myd1, rfl, ⟨hcad1, hcbd1, hcdd1⟩, ⟨hmad1, hmbd1, hmcd1⟩, ⟨hAd1, had1⟩, ⟨hCd1, hcd1⟩, ⟨hDd1, hdd1⟩, hbtd1⟩; have HV2 := Lib.hid (up (up_alloc HV1.out (.cells #[.slice none 0 0, .slice none 0 0, .int .i64 0, .slice none 0 0] 34)) hbtd1); have hs2_ := HV2.out.size; have Nd0_2 := (hNd0.keep (up_alloc (Below.refl _ v1) (.cells #[.slice none 0 0, .slice none 0 0, .int .i64 0, .slice none 0 0] 34)) (by omega)).keep hbtd1 (by first | (simp; done) | (simp; omega) | omega); have Fd0_2 := (hFd0.keep (up_alloc (Below.refl _ v1) (.cells #[.slice none 0 0, .slice none 0 0, .int .i64 0, .slice none 0 0] 34)) (by omega) (by omega)).keep hbtd1 (by first | (simp; done) | (simp; omega) | omega) (by first | (simp; done) | (simp; omega) | omega); have hE2 := (Blk.new v1 34 #[.slice none 0 0, .slice none 0 0, .int .i64 0, .slice none 0 0]).below hbtd1 (Blk.new v1 34 #[.slice none 0 0, .slice none 0 0, .int .i64 0, .slice none 0 0]).lt; have hsx := hbtd1.size; simp only [World.size_alloc] at hsx; have hgE2 := HV1.out.size)
            | (go_at_call 38; (with_reducible refine (DeliverMessageI_any _ _ ns0.length cnd0 And0 ns0 _ _ fs0.length dfd0 Bfd0 fs0 _ _ nm1 cxd1 Axd1 ms1 _ _ nv1 cyd1 Ayd1 vs1 cl1 _ _ nt1 czd1 Azd1 ts1 z2 _ Nd0_2 (by omega) hnn1_0 (Fd0_2.fls (by omega) (by omega)) (by omega) hfl1_0 hAd1 (by omega) q12 hCd1 (by omega) q13 hDd1 (by omega) q14).mono ?_); rw [HU0.out]; intro e v3 hip; obtain ⟨Agai3, cgai3, Agbi3, cgbi3, Agci3, cgci3, rfl, hGai3, hGbi3, hGci3, hbti3⟩ := hip.flatW HVU.out HUB.out; clear hip; have HV3 := Lib.hid (up HV2.out hbti3); have hs3_ := HV3.out.size; (first | have hl9 := hE2.lt | have hl9 := True.intro); have hsx := hbti3.size; (first | (have hE3 := hE2.below hbti3 hE2.lt; have hgE3 := hgE2; have y0 := hE3.cell 0; have y1 := hE3.cell 1; have y2 := hE3.cell 2; have y3 := hE3.cell 3; have g0 := hE3.soft 0; have g1 := hE3.soft 1; have g2 := hE3.soft 2; have g3 := hE3.soft 3) | (have hE3 := True.intro; have hgE3 := True.intro)))
            | (go_at_call 38; (with_reducible refine (DeliverMessageI_any _ _ ns0.length cnd0 And0 ns0 _ _ fs0.length dfd0 Bfd0 fs0 _ _ nm1 cxd1 Axd1 ms1 _ _ nv1 cyd1 Ayd1 vs1 cl1 _ _ nt1 czd1 Azd1 ts1 z2 _ (Nd0_2.keep (up_alloc (Below.refl _ v2) (.cells #[.slice none 0 0, .slice none 0 0, .int .i64 0, .slice none 0 0] 34)) (by omega)) (by first | (simp; done) | (simp; omega) | omega) hnn1_0 ((Fd0_2.keep (up_alloc (Below.refl _ v2) (.cells #[.slice none 0 0, .slice none 0 0, .int .i64 0, .slice none 0 0] 34)) (by omega) (by omega)).fls (by omega) (by omega)) (by first | (simp; done) | (simp; omega) | omega) hfl1_0 (hAd1.keep (up_alloc (Below.refl _ v2) (.cells #[.slice none 0 0, .slice none 0 0, .int .i64 0, .slice none 0 0] 34)) (by omega)) (by first | (simp; done) | (simp; omega) | omega) q12 (hCd1.keep (up_alloc (Below.refl _ v2) (.cells #[.slice none 0 0, .slice none 0 0, .int .i64 0, .slice none 0 0] 34)) (by omega)) (by first | (simp; done) | (simp; omega) | omega) q13 (hDd1.keep (up_alloc (Below.refl _ v2) (.cells #[.slice none 0 0, .slice none 0 0, .int .i64 0, .slice none 0 0] 34)) (by omega)) (by first | (simp; done) | (simp; omega) | omega) q14).mono ?_); rw [HU0.out]; intro e v3 hip; obtain ⟨Agai3, cgai3, Agbi3, cgbi3, Agci3, cgci3, rfl, hGai3, hGbi3, hGci3, hbti3⟩ := hip.flatW HVU.out HUB.out; clear hip; have HV3 := Lib.hid (up (up_alloc HV2.out (.cells #[.slice none 0 0, .slice none 0 0, .int .i64 0, .slice none 0 0] 34)) hbti3); have hs3_ := HV3.out.size; have hl9 : v2.heap.size < (v2.alloc (.cells #[.slice none 0 0, .slice none 0 0, .int .i64 0, .slice none 0 0] 34)).heap.size := (by simp); have hE3 := (Blk.new v2 34 #[.slice none 0 0, .slice none 0 0, .int .i64 0, .slice none 0 0]).below hbti3 (Blk.new v2 34 #[.slice none 0 0, .slice none 0 0, .int .i64 0, .slice none 0 0]).lt; have hsx := hbti3.size; simp only [World.size_alloc] at hsx; have hgE3 := HV2.out.size; have y0 := hE3.cell 0; have y1 := hE3.cell 1; have y2 := hE3.cell 2; have y3 := hE3.cell 3; have g0 := hE3.soft 0; have g1 := hE3.soft 1; have g2 := hE3.soft 2; have g3 := hE3.soft 3)
            | fail "no arm"))
        all_goals
          go_wp2_with fail
          go_meet
          first
            | exact ⟨_, Agai3, cgai3, Agbi3, cgbi3, Agci3, cgci3, rfl, rfl, InGot.early hE3 hGai3 hGbi3 hGci3 (by first | (simp; done) | (simp; omega) | omega) hl9 hgE3 HV3.out⟩
            | exact ⟨_, Agai3, cgai3, Agbi3, cgbi3, Agci3, cgci3, rfl, rfl, InGot.early hE3 hGai3 hGbi3 hGci3 (by omega) hl9 hgE3 HV3.out⟩
            | exact ⟨_, Agai3, cgai3, Agbi3, cgbi3, Agci3, cgci3, rfl, rfl, InGot.last hGai3 hGbi3 hGci3 (by omega) HV3.out⟩
      case rest =>
      obtain ⟨gRJ, Agai3, cgai3, Agbi3, cgbi3, Agci3, cgci3, rfl, rfl, hgot⟩ := hcut
      have hglRJ := hgot.out.blk.lt
      have hr9a := Lib.hid hgot.out.r0
      have hr9b := Lib.hid hgot.out.r1
      have hr9c := Lib.hid hgot.out.r2
      have hb9 := Lib.hid hgot.out.bel
      have hy9 := Lib.hid hgot.out.blk
      clear hgot
      obtain ⟨w23, hww⟩ : ∃ x : World, x = wc := ⟨_, rfl⟩
      subst hww
      have hbt := hb9.out
      have hz23 := hbt.size
      clear HSW hb9 HC0 HC1
      have HB_331 := Lib.hid (up HB_320.out hbt)
      have HX0_332 := Lib.hid (HX0_321.out.below hbt (by omega))
      have HX1_333 := Lib.hid (HX1_322.out.below hbt (by omega))
      have HGas1_334 := Lib.hid (HGas1_323.out.keep hbt (by omega))
      have HGbs1_335 := Lib.hid (HGbs1_324.out.keep hbt (by omega))
      have HGcs1_336 := Lib.hid (HGcs1_325.out.keep hbt (by omega))
      have HRS_337 := Lib.hid (HRS_326.out.below hbt (by omega))
      have HRI_338 := Lib.hid (HRI_327.out.below hbt (by omega))
      have HQa_339 := Lib.hid (HQa_328.out.keep hbt (by omega))
      have HQb_340 := Lib.hid (HQb_329.out.keep hbt (by omega))
      have HQc_341 := Lib.hid (HQc_330.out.keep hbt (by omega))
      clear HB_320 HX0_321 HX1_322 HGas1_323 HGbs1_324 HGcs1_325 HRS_326 HRI_327 HQa_328 HQb_329 HQc_330
      clear hbt
      have HGai3 := Lib.hid hr9a.out
      clear hr9a
      have HGbi3 := Lib.hid hr9b.out
      clear hr9b
      have HGci3 := Lib.hid hr9c.out
      clear hr9c
      have HYRJ := Lib.hid hy9.out
      clear hy9
      have k_342 : w23.cell? ⟨gRJ, 0, none⟩ = some (.slice Agai3 um.length cgai3) := HYRJ.out.cell 0
      have k_343 : w23.cell? ⟨gRJ, 1, none⟩ = some (.slice Agbi3 uv.length cgbi3) := HYRJ.out.cell 1
      have k_344 : w23.cell? ⟨gRJ, 2, none⟩ = some (.int .i64 ucl) := HYRJ.out.cell 2
      have k_345 : w23.cell? ⟨gRJ, 3, none⟩ = some (.slice Agci3 ut.length cgci3) := HYRJ.out.cell 3
      have k_346 : w23.cell? ⟨gRS, 0, none⟩ = some (.slice Agas1 um.length cgas1) := HRS_337.out.cell 0
      have k_347 : w23.cell? ⟨gRS, 1, none⟩ = some (.slice Agbs1 uv.length cgbs1) := HRS_337.out.cell 1
      have k_348 : w23.cell? ⟨gRS, 2, none⟩ = some (.int .i64 ucl) := HRS_337.out.cell 2
      have k_349 : w23.cell? ⟨gRS, 3, none⟩ = some (.slice Agcs1 ut.length cgcs1) := HRS_337.out.cell 3
      go_wp2_with (fail)
      (with_reducible refine (eqInstance_same _ _ _ _ _ _ _ _ _ _ _ _ _ _ _ _ _ _ _ _ _ _ _ _ _ _ _ _  um uv ut _ HGai3.out (by omega) hul0 HGbi3.out (by omega) hul1 HGci3.out (by omega) hul2 HGas1_334.out (by omega) HGbs1_335.out (by omega) HGcs1_336.out (by omega)).mono ?_)
      rintro e w24 ⟨rfl, hbt⟩
      clear k_342 k_343 k_344 k_345 k_346 k_347 k_348 k_349
      have hz24 := hbt.size
      have HB_350 := Lib.hid (up HB_331.out hbt)
      have HX0_351 := Lib.hid (HX0_332.out.below hbt (by omega))
      have HX1_352 := Lib.hid (HX1_333.out.below hbt (by omega))
      have HGas1_353 := Lib.hid (HGas1_334.out.keep hbt (by omega))
      have HGbs1_354 := Lib.hid (HGbs1_335.out.keep hbt (by omega))
      have HGcs1_355 := Lib.hid (HGcs1_336.out.keep hbt (by omega))
      have HRS_356 := Lib.hid (HRS_337.out.below hbt (by omega))
      have HRI_357 := Lib.hid (HRI_338.out.below hbt (by omega))
      have HQa_358 := Lib.hid (HQa_339.out.keep hbt (by omega))
      have HQb_359 := Lib.hid (HQb_340.out.keep hbt (by omega))
      have HQc_360 := Lib.hid (HQc_341.out.keep hbt (by omega))
      have HGai3_361 := Lib.hid (HGai3.out.keep hbt (by omega))
      have HGbi3_362 := Lib.hid (HGbi3.out.keep hbt (by omega))
      have HGci3_363 := Lib.hid (HGci3.out.keep hbt (by omega))
      have HRJ_364 := Lib.hid (HYRJ.out.below hbt (by omega))
      clear HB_331 HX0_332 HX1_333 HGas1_334 HGbs1_335 HGcs1_336 HRS_337 HRI_338 HQa_339 HQb_340 HQc_341 HGai3 HGbi3 HGci3 HYRJ
      clear hbt
      clear HGai3_361
      clear HGbi3_362
      clear HGci3_363
      have k_365 : w24.cell? ⟨w8.heap.size, 0, none⟩ = some (.slice Agai2 um.length cgai2) := HRI_357.out.cell 0
      have k_366 : w24.cell? ⟨w8.heap.size, 1, none⟩ = some (.slice Agbi2 uv.length cgbi2) := HRI_357.out.cell 1
      have k_367 : w24.cell? ⟨w8.heap.size, 2, none⟩ = some (.int .i64 ucl) := HRI_357.out.cell 2
      have k_368 : w24.cell? ⟨w8.heap.size, 3, none⟩ = some (.slice Agci2 ut.length cgci2) := HRI_357.out.cell 3
      go_wp2_with (fail)
      (with_reducible refine (heldInstance_res 1 (by omega) (by omega) _ pai2 pbi2 w8.heap.size um.length cgai2 uv.length cgbi2 ut.length cgci2 Agai2 Agbi2 Agci2 ucl _ HQa_358.out hul0 HQb_359.out hul1 HQc_360.out hul2 (by omega) (by omega) (by omega)).mono ?_)
      rintro e w25 ⟨rfl, hbt⟩
      clear k_365 k_366 k_367 k_368
      have hz25 := hbt.size
      have HB_369 := Lib.hid (up HB_350.out hbt)
      have HX0_370 := Lib.hid (HX0_351.out.below hbt (by omega))
      have HX1_371 := Lib.hid (HX1_352.out.below hbt (by omega))
      have HGas1_372 := Lib.hid (HGas1_353.out.keep hbt (by omega))
      have HGbs1_373 := Lib.hid (HGbs1_354.out.keep hbt (by omega))
      have HGcs1_374 := Lib.hid (HGcs1_355.out.keep hbt (by omega))
      have HRS_375 := Lib.hid (HRS_356.out.below hbt (by omega))
      have HRI_376 := Lib.hid (HRI_357.out.below hbt (by omega))
      have HQa_377 := Lib.hid (HQa_358.out.keep hbt (by omega))
      have HQb_378 := Lib.hid (HQb_359.out.keep hbt (by omega))
      have HQc_379 := Lib.hid (HQc_360.out.keep hbt (by omega))
      have HRJ_380 := Lib.hid (HRJ_364.out.below hbt (by omega))
      clear HB_350 HX0_351 HX1_352 HGas1_353 HGbs1_354 HGcs1_355 HRS_356 HRI_357 HQa_358 HQb_359 HQc_360 HRJ_364
      clear hbt
      go_wp2
      go_ret
      exact ⟨rfl, HB_369.out⟩
end Go.Proofs.YtknphikoikdcjaaGreat
