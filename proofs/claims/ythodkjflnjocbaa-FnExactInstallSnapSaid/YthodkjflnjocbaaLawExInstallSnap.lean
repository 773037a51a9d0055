/- The law FnExactInstallSnap, walked: it returns true. (Written by gen/exsnapw.py.) -/
import Derived.Test.YthodkjflnjocbaaExSnap
import Derived.Test.YthodkjflnjocbaaSnapJ
import Derived.Test.YthodkjflnjocbaaSnapS
import Derived.Test.YthodkjflnjocbaaSnapP
import Derived.Deep.RegionHeld3
import Derived.Test.YthodkjflnjocbaaSnGot
import Derived.Test.YthodkjflnjocbaaSnapU
import Derived.Test.YthodkjflnjocbaaSnapL
import Derived.Deep.CutRange
set_option linter.unusedSimpArgs false
set_option linter.unusedVariables false
namespace Go.Proofs.Ythodkjflnjocbaa
open Go.RowKit

set_option maxRecDepth 100000 in
set_option maxHeartbeats 12800000 in
theorem exInstallSnap_any (N0 T0 S0 : Int) (n0 c0 : Nat) (A0 : Option Addr) (m0 : List En) (N1 T1 S1 : Int) (n1 c1 : Nat) (A1 : Option Addr) (m1 : List En) (w : World) (hn0 : n0 ≤ 9223372036854775807) (hr0 : Rd w 0 w.heap.size 2 A0 n0 (pvs m0)) (hn1 : n1 ≤ 9223372036854775807) (hr1 : Rd w 0 w.heap.size 2 A1 n1 (pvs m1)) :
    Calls Try.prog 6 #[.agg #[.int .i64 N0, .int .i64 T0, .int .i64 S0, .slice A0 n0 c0], .agg #[.int .i64 N1, .int .i64 T1, .int .i64 S1, .slice A1 n1 c1]] w fun e w' => e = .returned (.bool true) ∧ Below w.heap.size w w' := by
  by_cases hm0' : n0 ≤ 1048576
  case neg =>
    go_enter Try.func6, Try.ntmps6
    go_wp2_with (fail)
    have hb0 := (up_alloc (up_alloc (Below.refl _ w) (.cells #[.int .i64 N0, .int .i64 T0, .int .i64 S0, .slice A0 n0 c0] 24)) (.cells #[.int .i64 N1, .int .i64 T1, .int .i64 S1, .slice A1 n1 c1] 24))
    (with_reducible refine (szSnap_no N0 T0 S0 n0 c0 A0 1048576 _ hn0 (by omega) (by omega) (by omega)).mono ?_)
    rintro e w1 ⟨rfl, hbt⟩
    have HB := Lib.hid (up hb0 hbt)
    clear hbt hb0
    go_wp2
    go_ret
    exact ⟨rfl, HB.out⟩
  have hm0 : n0 ≤ 1048576 := by omega
  by_cases hm1' : n0 + n1 ≤ 1048576
  case neg =>
    go_enter Try.func6, Try.ntmps6
    go_wp2_with (fail)
    have hb0 := (up_alloc (up_alloc (Below.refl _ w) (.cells #[.int .i64 N0, .int .i64 T0, .int .i64 S0, .slice A0 n0 c0] 24)) (.cells #[.int .i64 N1, .int .i64 T1, .int .i64 S1, .slice A1 n1 c1] 24))
    (with_reducible refine (szSnap_yes N0 T0 S0 n0 c0 A0 1048576 _ (by omega) (by omega) (by omega)).mono ?_)
    rintro e w9 ⟨rfl, hbt⟩
    have hb9x := hbt
    have hb9 := up hb0 hbt
    clear hbt hb0
    obtain ⟨wy, hwy⟩ : ∃ x : World, x = w9 := ⟨_, rfl⟩
    subst hwy
    have hb0 := hb9
    clear hb9
    have hld0 : decide (((1048576 : Int) - n0) < 0) = false := decide_eq_false (by omega)
    have HB0 := Lib.hid hb0
    clear hb0
    have hx1 := ((show Blk ((w.alloc (.cells #[.int .i64 N0, .int .i64 T0, .int .i64 S0, .slice A0 n0 c0] 24)).alloc (.cells #[.int .i64 N1, .int .i64 T1, .int .i64 S1, .slice A1 n1 c1] 24)) (w.heap.size + 1) 24 #[.int .i64 N1, .int .i64 T1, .int .i64 S1, .slice A1 n1 c1] from Blk.new2 (by simp)).below hb9x (by simp))
    have k0 := hx1.cell 0
    have k1 := hx1.cell 1
    have k2 := hx1.cell 2
    have k3 := hx1.cell 3
    go_wp2_with (fail)
    have hb0 := HB0.out
    (with_reducible refine (szSnap_no N1 T1 S1 n1 c1 A1 ((1048576 : Int) - n0) _ hn1 (by omega) (by omega) (by omega)).mono ?_)
    rintro e w1 ⟨rfl, hbt⟩
    have HB := Lib.hid (up hb0 hbt)
    clear hbt hb0
    go_wp2
    go_ret
    exact ⟨rfl, HB.out⟩
  have hm1 : n1 ≤ 1048576 := by omega
  have hlf0 : decide (((1048576 : Int) - n0) < 0) = false := decide_eq_false (by omega)
  have hlf1 : decide (((1048576 : Int) - n0 - n1) < 0) = false := decide_eq_false (by omega)
  obtain ⟨⟨N, T, S, R⟩, hU⟩ : ∃ u, instOf N0 T0 S0 m0 N1 T1 S1 m1 = u := ⟨_, rfl⟩
  obtain ⟨kS, hS⟩ : ∃ k, R.length = k := ⟨_, rfl⟩
  have hkS : kS ≤ 1048576 := by
    have h1 := instOf_len N0 T0 S0 m0 N1 T1 S1 m1
    have h2 := hr0.len2
    rw [hU] at h1
    dsimp only at h1
    omega
  have HS := Lib.hid hS
  clear hS
  have HU := Lib.hid hU
  clear hU
  have HA0 := Lib.hid hr0
  clear hr0
  have HA1 := Lib.hid hr1
  clear hr1
  have HB := Lib.hid (up_alloc (up_alloc (Below.refl _ w) (.cells #[.int .i64 N0, .int .i64 T0, .int .i64 S0, .slice A0 n0 c0] 24)) (.cells #[.int .i64 N1, .int .i64 T1, .int .i64 S1, .slice A1 n1 c1] 24))
  have hz_0 := HB.out.size
  have HX0 := Lib.hid ((Blk.new w 24 #[.int .i64 N0, .int .i64 T0, .int .i64 S0, .slice A0 n0 c0]).alloc (.cells #[.int .i64 N1, .int .i64 T1, .int .i64 S1, .slice A1 n1 c1] 24))
  have HX1 := Lib.hid (show Blk ((w.alloc (.cells #[.int .i64 N0, .int .i64 T0, .int .i64 S0, .slice A0 n0 c0] 24)).alloc (.cells #[.int .i64 N1, .int .i64 T1, .int .i64 S1, .slice A1 n1 c1] 24)) (w.heap.size + 1) 24 #[.int .i64 N1, .int .i64 T1, .int .i64 S1, .slice A1 n1 c1] from Blk.new2 (by simp))
  have hs_0 : ((w.alloc (.cells #[.int .i64 N0, .int .i64 T0, .int .i64 S0, .slice A0 n0 c0] 24)).alloc (.cells #[.int .i64 N1, .int .i64 T1, .int .i64 S1, .slice A1 n1 c1] 24)).heap.size = w.heap.size + 1 + 1 := by simp
  go_enter Try.func6, Try.ntmps6
  go_wp2_with (fail)
  generalize ((w.alloc (.cells #[.int .i64 N0, .int .i64 T0, .int .i64 S0, .slice A0 n0 c0] 24)).alloc (.cells #[.int .i64 N1, .int .i64 T1, .int .i64 S1, .slice A1 n1 c1] 24)) = w0 at *
  (with_reducible refine (szSnap_yes N0 T0 S0 n0 c0 A0 1048576 _ (by omega) (by omega) (by omega)).mono ?_)
  rintro e w1 ⟨rfl, hbt⟩
  have hz_1 := hbt.size
  have HX0_1 := Lib.hid (HX0.out.below hbt HX0.out.lt)
  have HX1_2 := Lib.hid (HX1.out.below hbt HX1.out.lt)
  have HB_3 := Lib.hid (up HB.out hbt)
  clear HX0 HX1 HB
  clear hbt
  have a_4 := HX1_2.out.cell 0
  have a_5 := HX1_2.out.cell 1
  have a_6 := HX1_2.out.cell 2
  have a_7 := HX1_2.out.cell 3
  go_wp2_with (fail)
  try clear a_4 a_5 a_6 a_7
  (with_reducible refine (szSnap_yes N1 T1 S1 n1 c1 A1 ((1048576 : Int) - n0) _ (by omega) (by omega) (by omega)).mono ?_)
  rintro e w2 ⟨rfl, hbt⟩
  have hz_2 := hbt.size
  have HX0_8 := Lib.hid (HX0_1.out.below hbt HX0_1.out.lt)
  have HX1_9 := Lib.hid (HX1_2.out.below hbt HX1_2.out.lt)
  have HB_10 := Lib.hid (up HB_3.out hbt)
  clear HX0_1 HX1_2 HB_3
  clear hbt
  have hlx0 := HX0_8.out.lt
  have hlx1 := HX1_9.out.lt
  have HSW := Lib.hid (show ∀ wx, Below w2.heap.size w2 wx → wx.cell? ⟨w.heap.size, 0, none⟩ = some (.int .i64 N0) ∧ wx.cell? ⟨w.heap.size, 1, none⟩ = some (.int .i64 T0) ∧ wx.cell? ⟨w.heap.size, 2, none⟩ = some (.int .i64 S0) ∧ wx.cell? ⟨w.heap.size, 3, none⟩ = some (.slice A0 n0 c0) ∧ wx.cell? ⟨w.heap.size + 1, 0, none⟩ = some (.int .i64 N1) ∧ wx.cell? ⟨w.heap.size + 1, 1, none⟩ = some (.int .i64 T1) ∧ wx.cell? ⟨w.heap.size + 1, 2, none⟩ = some (.int .i64 S1) ∧ wx.cell? ⟨w.heap.size + 1, 3, none⟩ = some (.slice A1 n1 c1) from fun wx hb => ⟨(hb.cell (by show w.heap.size < w2.heap.size; omega)).trans (HX0_8.out.cell 0), (hb.cell (by show w.heap.size < w2.heap.size; omega)).trans (HX0_8.out.cell 1), (hb.cell (by show w.heap.size < w2.heap.size; omega)).trans (HX0_8.out.cell 2), (hb.cell (by show w.heap.size < w2.heap.size; omega)).trans (HX0_8.out.cell 3), (hb.cell (by show w.heap.size + 1 < w2.heap.size; omega)).trans (HX1_9.out.cell 0), (hb.cell (by show w.heap.size + 1 < w2.heap.size; omega)).trans (HX1_9.out.cell 1), (hb.cell (by show w.heap.size + 1 < w2.heap.size; omega)).trans (HX1_9.out.cell 2), (hb.cell (by show w.heap.size + 1 < w2.heap.size; omega)).trans (HX1_9.out.cell 3)⟩)
  have HTT0 := Lib.hid (show ∀ wx, Below w2.heap.size w2 wx → Calls Try.prog 15 #[.agg #[.int .i64 N0, .int .i64 T0, .int .i64 S0, .slice A0 n0 c0]] wx (ToSn N0 T0 S0 m0 n0 wx) from fun wx hb => toSnap_any N0 T0 S0 0 w.heap.size n0 c0 A0 m0 wx (HA0.out.keep (up HB_10.out hb) (Nat.le_refl _)) (Nat.le_trans HB_10.out.size hb.size) hm0)
  have HTT1 := Lib.hid (show ∀ wx, Below w2.heap.size w2 wx → Calls Try.prog 15 #[.agg #[.int .i64 N1, .int .i64 T1, .int .i64 S1, .slice A1 n1 c1]] wx (ToSn N1 T1 S1 m1 n1 wx) from fun wx hb => toSnap_any N1 T1 S1 0 w.heap.size n1 c1 A1 m1 wx (HA1.out.keep (up HB_10.out hb) (Nat.le_refl _)) (Nat.le_trans HB_10.out.size hb.size) hm1)
  obtain ⟨kk0, kk1, kk2, kk3, kk4, kk5, kk6, kk7⟩ := HSW.out _ (Below.refl _ _)
  go_upto_region 8 with fail
  clear kk0 kk1 kk2 kk3 kk4 kk5 kk6 kk7
  go_cut [6] from 24 to 28 (fun sw wx => ∃ g As cs, sw = .pointer (some ⟨g, 0, none⟩) ∧ Hid (SnGot w2 wx g N T S As kS cs R))
  case first =>
    go_region_held3 (fun wx => wx.cell? ⟨w.heap.size, 0, none⟩ = some (.int .i64 N0) ∧ wx.cell? ⟨w.heap.size, 1, none⟩ = some (.int .i64 T0) ∧ wx.cell? ⟨w.heap.size, 2, none⟩ = some (.int .i64 S0) ∧ wx.cell? ⟨w.heap.size, 3, none⟩ = some (.slice A0 n0 c0) ∧ wx.cell? ⟨w.heap.size + 1, 0, none⟩ = some (.int .i64 N1) ∧ wx.cell? ⟨w.heap.size + 1, 1, none⟩ = some (.int .i64 T1) ∧ wx.cell? ⟨w.heap.size + 1, 2, none⟩ = some (.int .i64 S1) ∧ wx.cell? ⟨w.heap.size + 1, 3, none⟩ = some (.slice A1 n1 c1))
      (first | with_reducible exact HSW.out _ (Below.refl _ _) | with_reducible exact HSW.out _ (up_drew (Below.refl _ _)) | with_reducible exact HSW.out _ (up_drew (up_alloc (Below.refl _ _) _)) | with_reducible exact HSW.out _ HV1.out | with_reducible exact HSW.out _ (up_alloc HV1.out _) | with_reducible exact HSW.out _ HV2.out | with_reducible exact HSW.out _ (up_alloc HV2.out _) | with_reducible exact HSW.out _ HV3.out | with_reducible exact HSW.out _ (up_alloc HV3.out _) | with_reducible exact HSW.out _ (snLay_below HV3.out hgE3))
      ((first
        | (go_at_call 15; (with_reducible refine (HTT0.out w2.drew (up_drew (Below.refl _ _))).mono ?_); rintro e v1 ⟨Aa, ca, rfl, hka, hra, _, hba⟩; have HRa := Lib.hid hra; have HV1 := Lib.hid (up (up_drew (Below.refl _ w2)) hba); have hs1 := HV1.out.size; have hE1 := True.intro; have hgE1 := True.intro; clear hra hba)
        | (go_at_call 15; (with_reducible refine (HTT0.out (w2.alloc (.cells #[.int .i64 0, .int .i64 0, .int .i64 0, .slice none 0 0] 29)).drew (up_drew (up_alloc (Below.refl _ _) _))).mono ?_); rintro e v1 ⟨Aa, ca, rfl, hka, hra, _, hba⟩; have HRa := Lib.hid hra; have HV1 := Lib.hid (up (up_drew (up_alloc (Below.refl _ w2) (.cells #[.int .i64 0, .int .i64 0, .int .i64 0, .slice none 0 0] 29))) hba); have hs1 := HV1.out.size; have hE1 := (Blk.new w2 29 #[.int .i64 0, .int .i64 0, .int .i64 0, .slice none 0 0]).drew.below hba (Blk.new w2 29 #[.int .i64 0, .int .i64 0, .int .i64 0, .slice none 0 0]).drew.lt; have hsx := hba.size; simp only [World.size_drew, World.size_alloc] at hsx; have hgE1 := Nat.le_refl w2.heap.size; clear hra hba)
        | (go_at_call 15; (with_reducible refine (HTT1.out v1 HV1.out).mono ?_); rintro e v2 ⟨Ab, cb, rfl, hkb, hrb, _, hbb⟩; have HRb := Lib.hid hrb; have HV2 := Lib.hid (up HV1.out hbb); have hs2 := HV2.out.size; have hs21 := hbb.size; have HRa2 := Lib.hid (HRa.out.keep hbb (Nat.le_refl _)); first | (have hE2 := hE1.below hbb hE1.lt; have hgE2 := hgE1; have hl2 := hE1.lt) | (have hE2 := True.intro; have hgE2 := True.intro)
           clear hrb hbb)
        | (go_at_call 15; (with_reducible refine (HTT1.out (v1.alloc (.cells #[.int .i64 0, .int .i64 0, .int .i64 0, .slice none 0 0] 29)) (up_alloc HV1.out _)).mono ?_); rintro e v2 ⟨Ab, cb, rfl, hkb, hrb, _, hbb⟩; have HRb := Lib.hid hrb; have HV2 := Lib.hid (up (up_alloc HV1.out (.cells #[.int .i64 0, .int .i64 0, .int .i64 0, .slice none 0 0] 29)) hbb); have hs2 := HV2.out.size; have hs21 : v1.heap.size + 1 ≤ v2.heap.size := by have := hbb.size; simpa using this
           have HRa2 := Lib.hid ((HRa.out.keep (up_alloc (Below.refl _ v1) (.cells #[.int .i64 0, .int .i64 0, .int .i64 0, .slice none 0 0] 29)) (Nat.le_refl _)).keep hbb (by simp)); have hE2 := (Blk.new v1 29 #[.int .i64 0, .int .i64 0, .int .i64 0, .slice none 0 0]).below hbb (Blk.new v1 29 #[.int .i64 0, .int .i64 0, .int .i64 0, .slice none 0 0]).lt; have hgE2 := HV1.out.size; clear hrb hbb)
        | (go_at_call 24; (with_reducible refine (InstallSnapS_any N0 T0 S0 _ _ n0 ca Aa m0 N1 T1 S1 _ _ n1 cb Ab m1 v2 HRa2.out (by omega) hm0 hka HRb.out (Nat.le_refl _) hm1 hkb).mono ?_); intro e v3 hvt; obtain ⟨As, cs, rfl, hks, hrt, hst, hbt⟩ := hvt.q HU.out HS.out; clear hvt; have HR3 := Lib.hid hrt; have HV3 := Lib.hid (up HV2.out hbt); have hs3 := HV3.out.size; have hs32 := hbt.size; first | (have hE3 := hE2.below hbt hE2.lt; have hgE3 := hgE2; have hl3 := hE2.lt; have y0 := hE3.cell 0; have y1 := hE3.cell 1; have y2 := hE3.cell 2; have y3 := hE3.cell 3; have g0 := hE3.soft 0; have g1 := hE3.soft 1; have g2 := hE3.soft 2; have g3 := hE3.soft 3) | have hE3 := True.intro
           clear hrt hst hbt)
        | (go_at_call 24; (with_reducible refine (InstallSnapS_any N0 T0 S0 _ _ n0 ca Aa m0 N1 T1 S1 _ _ n1 cb Ab m1 (v2.alloc (.cells #[.int .i64 0, .int .i64 0, .int .i64 0, .slice none 0 0] 29)) (HRa2.out.keep (up_alloc (Below.refl _ v2) _) (by omega)) (by simp; omega) hm0 hka (HRb.out.keep (up_alloc (Below.refl _ v2) _) (Nat.le_refl _)) (by simp) hm1 hkb).mono ?_); intro e v3 hvt; obtain ⟨As, cs, rfl, hks, hrt, hst, hbt⟩ := hvt.q HU.out HS.out; clear hvt; have HR3 := Lib.hid (hrt.wide (lo' := v2.heap.size + 1) (by simp) (Nat.le_refl _)); have HV3 := Lib.hid (up (up_alloc HV2.out (.cells #[.int .i64 0, .int .i64 0, .int .i64 0, .slice none 0 0] 29)) hbt); have hs3 := HV3.out.size; have hs32 : v2.heap.size + 1 ≤ v3.heap.size := by have := hbt.size; simpa using this
           have hE3 := (Blk.new v2 29 #[.int .i64 0, .int .i64 0, .int .i64 0, .slice none 0 0]).below hbt (Blk.new v2 29 #[.int .i64 0, .int .i64 0, .int .i64 0, .slice none 0 0]).lt; have hgE3 := HV2.out.size; have hl3 : v2.heap.size < v2.heap.size + 1 := Nat.lt_succ_self _; have y0 := hE3.cell 0; have y1 := hE3.cell 1; have y2 := hE3.cell 2; have y3 := hE3.cell 3; have g0 := hE3.soft 0; have g1 := hE3.soft 1; have g2 := hE3.soft 2; have g3 := hE3.soft 3; clear hrt hst hbt)
        | fail "no arm"))
    all_goals
      go_wp2_with fail
      go_meet
      first
        | exact ⟨_, As, cs, rfl, SnGot.early hE3 HR3.out (by omega) hl3 hgE3 HV3.out⟩
        | exact ⟨_, As, cs, rfl, SnGot.last HR3.out (by omega) HV3.out⟩
  case rest =>
  obtain ⟨gW, As, cs, rfl, hgot⟩ := hcut
  have HKW := Lib.hid hgot.out.blk
  have hglW := hgot.out.blk.lt
  have hrz := Lib.hid hgot.out.rd
  have hbz := Lib.hid hgot.out.bel
  clear hgot
  obtain ⟨w3, hww⟩ : ∃ x : World, x = wc := ⟨_, rfl⟩
  subst hww
  have hrt := hrz.out
  have hbt := hbz.out
  clear HSW HTT0 HTT1 hrz hbz
  have hz_3 := hbt.size
  have HX0_11 := Lib.hid (HX0_8.out.below hbt HX0_8.out.lt)
  have HX1_12 := Lib.hid (HX1_9.out.below hbt HX1_9.out.lt)
  have HB_13 := Lib.hid (up HB_10.out hbt)
  clear HX0_8 HX1_9 HB_10
  clear hbt
  have HRs_14 := Lib.hid hrt
  clear hrt
  have a_15 := HX0_11.out.cell 0
  have a_16 := HX0_11.out.cell 1
  have a_17 := HX0_11.out.cell 2
  have a_18 := HX0_11.out.cell 3
  go_wp2_with (fail)
  try clear a_15 a_16 a_17 a_18
  (with_reducible refine (toSnap_any N0 T0 S0 0 w.heap.size n0 c0 A0 m0 _ (HA0.out.keep HB_13.out (Nat.le_refl _)) HB_13.out.size hm0).mono ?_)
  rintro e w4 ⟨Ap0, cp0, rfl, hkp0, hrt, hst, hbt⟩
  have hz_4 := hbt.size
  have HX0_19 := Lib.hid (HX0_11.out.below hbt HX0_11.out.lt)
  have HX1_20 := Lib.hid (HX1_12.out.below hbt HX1_12.out.lt)
  have HB_21 := Lib.hid (up HB_13.out hbt)
  have HRs_22 := Lib.hid (HRs_14.out.keep hbt (by omega))
  have HW_23 := Lib.hid (HKW.out.below hbt HKW.out.lt)
  clear HX0_11 HX1_12 HB_13 HRs_14 HKW
  clear hbt
  have HRp0_24 := Lib.hid hrt
  have HSp0_25 := Lib.hid hst
  clear hrt hst
  have HKP0_26 := Lib.hid (Blk.new w4 29 #[.int .i64 N0, .int .i64 T0, .int .i64 S0, .slice Ap0 n0 cp0])
  have hbt := up_alloc (Below.refl _ w4) (.cells #[.int .i64 N0, .int .i64 T0, .int .i64 S0, .slice Ap0 n0 cp0] 29)
  have hs_5 : (w4.alloc (.cells #[.int .i64 N0, .int .i64 T0, .int .i64 S0, .slice Ap0 n0 cp0] 29)).heap.size = w4.heap.size + 1 := by simp
  have a_27 := HX1_20.out.cell 0
  have a_28 := HX1_20.out.cell 1
  have a_29 := HX1_20.out.cell 2
  have a_30 := HX1_20.out.cell 3
  have hz_5 := hbt.size
  have HX0_31 := Lib.hid (HX0_19.out.below hbt HX0_19.out.lt)
  have HX1_32 := Lib.hid (HX1_20.out.below hbt HX1_20.out.lt)
  have HB_33 := Lib.hid (up HB_21.out hbt)
  have HRs_34 := Lib.hid (HRs_22.out.keep hbt (by omega))
  have HW_35 := Lib.hid (HW_23.out.below hbt HW_23.out.lt)
  have HRp0_36 := Lib.hid (HRp0_24.out.keep hbt (by omega))
  have HSp0_37 := Lib.hid (HSp0_25.out.kept HRp0_24.out hbt (by omega))
  clear HX0_19 HX1_20 HB_21 HRs_22 HW_23 HRp0_24 HSp0_25
  clear hbt
  have a_38 := HX1_32.out.cell 0
  have a_39 := HX1_32.out.cell 1
  have a_40 := HX1_32.out.cell 2
  have a_41 := HX1_32.out.cell 3
  go_wp2_with (fail)
  try clear a_27 a_28 a_29 a_30 a_38 a_39 a_40 a_41
  generalize w4.alloc (.cells #[.int .i64 N0, .int .i64 T0, .int .i64 S0, .slice Ap0 n0 cp0] 29) = w5 at *
  have a_42 := HX1_32.out.cell 0
  have a_43 := HX1_32.out.cell 1
  have a_44 := HX1_32.out.cell 2
  have a_45 := HX1_32.out.cell 3
  try clear a_42 a_43 a_44 a_45
  (with_reducible refine (toSnap_any N1 T1 S1 0 w.heap.size n1 c1 A1 m1 _ (HA1.out.keep HB_33.out (Nat.le_refl _)) HB_33.out.size hm1).mono ?_)
  rintro e w6 ⟨Ap1, cp1, rfl, hkp1, hrt, hst, hbt⟩
  have hz_6 := hbt.size
  have HX0_46 := Lib.hid (HX0_31.out.below hbt HX0_31.out.lt)
  have HX1_47 := Lib.hid (HX1_32.out.below hbt HX1_32.out.lt)
  have HB_48 := Lib.hid (up HB_33.out hbt)
  have HRs_49 := Lib.hid (HRs_34.out.keep hbt (by omega))
  have HW_50 := Lib.hid (HW_35.out.below hbt HW_35.out.lt)
  have HRp0_51 := Lib.hid (HRp0_36.out.keep hbt (by omega))
  have HSp0_52 := Lib.hid (HSp0_37.out.kept HRp0_36.out hbt (by omega))
  have HP0_53 := Lib.hid (HKP0_26.out.below hbt HKP0_26.out.lt)
  clear HX0_31 HX1_32 HB_33 HRs_34 HW_35 HRp0_36 HSp0_37 HKP0_26
  clear hbt
  have HRp1_54 := Lib.hid hrt
  have HSp1_55 := Lib.hid hst
  clear hrt hst
  have HKP1_56 := Lib.hid (Blk.new w6 29 #[.int .i64 N1, .int .i64 T1, .int .i64 S1, .slice Ap1 n1 cp1])
  have hbt := up_alloc (Below.refl _ w6) (.cells #[.int .i64 N1, .int .i64 T1, .int .i64 S1, .slice Ap1 n1 cp1] 29)
  have hs_7 : (w6.alloc (.cells #[.int .i64 N1, .int .i64 T1, .int .i64 S1, .slice Ap1 n1 cp1] 29)).heap.size = w6.heap.size + 1 := by simp
  have a_57 := HP0_53.out.cell 0
  have a_58 := HP0_53.out.cell 1
  have a_59 := HP0_53.out.cell 2
  have a_60 := HP0_53.out.cell 3
  have hz_7 := hbt.size
  have HX0_61 := Lib.hid (HX0_46.out.below hbt HX0_46.out.lt)
  have HX1_62 := Lib.hid (HX1_47.out.below hbt HX1_47.out.lt)
  have HB_63 := Lib.hid (up HB_48.out hbt)
  have HRs_64 := Lib.hid (HRs_49.out.keep hbt (by omega))
  have HW_65 := Lib.hid (HW_50.out.below hbt HW_50.out.lt)
  have HRp0_66 := Lib.hid (HRp0_51.out.keep hbt (by omega))
  have HSp0_67 := Lib.hid (HSp0_52.out.kept HRp0_51.out hbt (by omega))
  have HP0_68 := Lib.hid (HP0_53.out.below hbt HP0_53.out.lt)
  have HRp1_69 := Lib.hid (HRp1_54.out.keep hbt (by omega))
  have HSp1_70 := Lib.hid (HSp1_55.out.kept HRp1_54.out hbt (by omega))
  clear HX0_46 HX1_47 HB_48 HRs_49 HW_50 HRp0_51 HSp0_52 HP0_53 HRp1_54 HSp1_55
  clear hbt
  have a_71 := HP0_68.out.cell 0
  have a_72 := HP0_68.out.cell 1
  have a_73 := HP0_68.out.cell 2
  have a_74 := HP0_68.out.cell 3
  go_wp2_with (fail)
  try clear a_57 a_58 a_59 a_60 a_71 a_72 a_73 a_74
  generalize w6.alloc (.cells #[.int .i64 N1, .int .i64 T1, .int .i64 S1, .slice Ap1 n1 cp1] 29) = w7 at *
  (with_reducible refine (InstallSnapI_any N0 T0 S0 _ _ n0 cp0 Ap0 m0 N1 T1 S1 _ _ n1 cp1 Ap1 m1 _ HRp0_66.out (by omega) hm0 hkp0 HRp1_69.out (by omega) hm1 hkp1).mono ?_)
  intro e w8 hvt
  obtain ⟨Ai, ci, rfl, hki, hrt, hst, hbt⟩ := hvt.q HU.out HS.out
  clear hvt
  have hz_8 := hbt.size
  have HX0_75 := Lib.hid (HX0_61.out.below hbt HX0_61.out.lt)
  have HX1_76 := Lib.hid (HX1_62.out.below hbt HX1_62.out.lt)
  have HB_77 := Lib.hid (up HB_63.out hbt)
  have HRs_78 := Lib.hid (HRs_64.out.keep hbt (by omega))
  have HW_79 := Lib.hid (HW_65.out.below hbt HW_65.out.lt)
  have HRp0_80 := Lib.hid (HRp0_66.out.keep hbt (by omega))
  have HSp0_81 := Lib.hid (HSp0_67.out.kept HRp0_66.out hbt (by omega))
  have HP0_82 := Lib.hid (HP0_68.out.below hbt HP0_68.out.lt)
  have HRp1_83 := Lib.hid (HRp1_69.out.keep hbt (by omega))
  have HSp1_84 := Lib.hid (HSp1_70.out.kept HRp1_69.out hbt (by omega))
  have HP1_85 := Lib.hid (HKP1_56.out.below hbt HKP1_56.out.lt)
  clear HX0_61 HX1_62 HB_63 HRs_64 HW_65 HRp0_66 HSp0_67 HP0_68 HRp1_69 HSp1_70 HKP1_56
  clear hbt
  have HRi_86 := Lib.hid hrt
  have HSi_87 := Lib.hid hst
  clear hrt hst
  have HKI_88 := Lib.hid (Blk.new w8 29 #[.int .i64 N, .int .i64 T, .int .i64 S, .slice Ai kS ci])
  have hbt := up_alloc (Below.refl _ w8) (.cells #[.int .i64 N, .int .i64 T, .int .i64 S, .slice Ai kS ci] 29)
  have hs_9 : (w8.alloc (.cells #[.int .i64 N, .int .i64 T, .int .i64 S, .slice Ai kS ci] 29)).heap.size = w8.heap.size + 1 := by simp
  have a_89 := HW_79.out.cell 0
  have a_90 := HW_79.out.cell 1
  have a_91 := HW_79.out.cell 2
  have a_92 := HW_79.out.cell 3
  have hz_9 := hbt.size
  have HX0_93 := Lib.hid (HX0_75.out.below hbt HX0_75.out.lt)
  have HX1_94 := Lib.hid (HX1_76.out.below hbt HX1_76.out.lt)
  have HB_95 := Lib.hid (up HB_77.out hbt)
  have HRs_96 := Lib.hid (HRs_78.out.keep hbt (by omega))
  have HW_97 := Lib.hid (HW_79.out.below hbt HW_79.out.lt)
  have HRp0_98 := Lib.hid (HRp0_80.out.keep hbt (by omega))
  have HSp0_99 := Lib.hid (HSp0_81.out.kept HRp0_80.out hbt (by omega))
  have HP0_100 := Lib.hid (HP0_82.out.below hbt HP0_82.out.lt)
  have HRp1_101 := Lib.hid (HRp1_83.out.keep hbt (by omega))
  have HSp1_102 := Lib.hid (HSp1_84.out.kept HRp1_83.out hbt (by omega))
  have HP1_103 := Lib.hid (HP1_85.out.below hbt HP1_85.out.lt)
  have HRi_104 := Lib.hid (HRi_86.out.keep hbt (by omega))
  have HSi_105 := Lib.hid (HSi_87.out.kept HRi_86.out hbt (by omega))
  clear HX0_75 HX1_76 HB_77 HRs_78 HW_79 HRp0_80 HSp0_81 HP0_82 HRp1_83 HSp1_84 HP1_85 HRi_86 HSi_87
  clear hbt
  have a_106 := HW_97.out.cell 0
  have a_107 := HW_97.out.cell 1
  have a_108 := HW_97.out.cell 2
  have a_109 := HW_97.out.cell 3
  go_wp2_with (fail)
  try clear a_89 a_90 a_91 a_92 a_106 a_107 a_108 a_109
  generalize w8.alloc (.cells #[.int .i64 N, .int .i64 T, .int .i64 S, .slice Ai kS ci] 29) = w9 at *
  (with_reducible refine (eqSnap_same N T S _ _ kS _ _ _ _ _ _ R _ HRi_104.out (by omega) (by omega) HRs_96.out (by omega)).mono ?_)
  rintro e w10 ⟨rfl, hbt⟩
  have hz_10 := hbt.size
  have HX0_110 := Lib.hid (HX0_93.out.below hbt HX0_93.out.lt)
  have HX1_111 := Lib.hid (HX1_94.out.below hbt HX1_94.out.lt)
  have HB_112 := Lib.hid (up HB_95.out hbt)
  have HRs_113 := Lib.hid (HRs_96.out.keep hbt (by omega))
  have HW_114 := Lib.hid (HW_97.out.below hbt HW_97.out.lt)
  have HRp0_115 := Lib.hid (HRp0_98.out.keep hbt (by omega))
  have HSp0_116 := Lib.hid (HSp0_99.out.kept HRp0_98.out hbt (by omega))
  have HP0_117 := Lib.hid (HP0_100.out.below hbt HP0_100.out.lt)
  have HRp1_118 := Lib.hid (HRp1_101.out.keep hbt (by omega))
  have HSp1_119 := Lib.hid (HSp1_102.out.kept HRp1_101.out hbt (by omega))
  have HP1_120 := Lib.hid (HP1_103.out.below hbt HP1_103.out.lt)
  have HRi_121 := Lib.hid (HRi_104.out.keep hbt (by omega))
  have HSi_122 := Lib.hid (HSi_105.out.kept HRi_104.out hbt (by omega))
  have HI_123 := Lib.hid (HKI_88.out.below hbt HKI_88.out.lt)
  clear HX0_93 HX1_94 HB_95 HRs_96 HW_97 HRp0_98 HSp0_99 HP0_100 HRp1_101 HSp1_102 HP1_103 HRi_104 HSi_105 HKI_88
  clear hbt
  have a_124 := HP0_117.out.cell 0
  have a_125 := HP0_117.out.cell 1
  have a_126 := HP0_117.out.cell 2
  have a_127 := HP0_117.out.cell 3
  have a_128 := HX0_110.out.cell 0
  have a_129 := HX0_110.out.cell 1
  have a_130 := HX0_110.out.cell 2
  have a_131 := HX0_110.out.cell 3
  go_wp2_with (fail)
  have kc0 : w10.cell? ⟨w4.heap.size, 0, none⟩ = some (.int .i64 N0) := HP0_117.out.cell 0
  have kc1 : w10.cell? ⟨w4.heap.size, 1, none⟩ = some (.int .i64 T0) := HP0_117.out.cell 1
  have kc2 : w10.cell? ⟨w4.heap.size, 2, none⟩ = some (.int .i64 S0) := HP0_117.out.cell 2
  have kc3 : w10.cell? ⟨w4.heap.size, 3, none⟩ = some (.slice Ap0 n0 cp0) := HP0_117.out.cell 3
  have kc4 : w10.cell? ⟨w.heap.size, 0, none⟩ = some (.int .i64 N0) := HX0_110.out.cell 0
  have kc5 : w10.cell? ⟨w.heap.size, 1, none⟩ = some (.int .i64 T0) := HX0_110.out.cell 1
  have kc6 : w10.cell? ⟨w.heap.size, 2, none⟩ = some (.int .i64 S0) := HX0_110.out.cell 2
  have kc7 : w10.cell? ⟨w.heap.size, 3, none⟩ = some (.slice A0 n0 c0) := HX0_110.out.cell 3
  have hlp := HP0_117.out.lt
  have hlx := HX0_110.out.lt
  have HC0 := Lib.hid (toSnap_any N0 T0 S0 0 w.heap.size n0 c0 A0 m0 w10.drew (HA0.out.keep (up_drew HB_112.out) (Nat.le_refl _)) HB_112.out.size hm0)
  try clear a_124 a_125 a_126 a_127 a_128 a_129 a_130 a_131
  go_region_held3 (fun w' => w'.cell? ⟨w4.heap.size, 0, none⟩ = some (.int .i64 N0) ∧ w'.cell? ⟨w4.heap.size, 1, none⟩ = some (.int .i64 T0) ∧ w'.cell? ⟨w4.heap.size, 2, none⟩ = some (.int .i64 S0) ∧ w'.cell? ⟨w4.heap.size, 3, none⟩ = some (.slice Ap0 n0 cp0) ∧ w'.cell? ⟨w.heap.size, 0, none⟩ = some (.int .i64 N0) ∧ w'.cell? ⟨w.heap.size, 1, none⟩ = some (.int .i64 T0) ∧ w'.cell? ⟨w.heap.size, 2, none⟩ = some (.int .i64 S0) ∧ w'.cell? ⟨w.heap.size, 3, none⟩ = some (.slice A0 n0 c0))
    (first | exact ⟨kc0, kc1, kc2, kc3, kc4, kc5, kc6, kc7⟩ | exact ⟨(hb7.cell (by show w4.heap.size < w10.heap.size; omega)).trans kc0, (hb7.cell (by show w4.heap.size < w10.heap.size; omega)).trans kc1, (hb7.cell (by show w4.heap.size < w10.heap.size; omega)).trans kc2, (hb7.cell (by show w4.heap.size < w10.heap.size; omega)).trans kc3, (hb7.cell (by show w.heap.size < w10.heap.size; omega)).trans kc4, (hb7.cell (by show w.heap.size < w10.heap.size; omega)).trans kc5, (hb7.cell (by show w.heap.size < w10.heap.size; omega)).trans kc6, (hb7.cell (by show w.heap.size < w10.heap.size; omega)).trans kc7⟩ | exact ⟨(hb8.cell (by show w4.heap.size < w97.heap.size; omega)).trans ((hb7.cell (by show w4.heap.size < w10.heap.size; omega)).trans kc0), (hb8.cell (by show w4.heap.size < w97.heap.size; omega)).trans ((hb7.cell (by show w4.heap.size < w10.heap.size; omega)).trans kc1), (hb8.cell (by show w4.heap.size < w97.heap.size; omega)).trans ((hb7.cell (by show w4.heap.size < w10.heap.size; omega)).trans kc2), (hb8.cell (by show w4.heap.size < w97.heap.size; omega)).trans ((hb7.cell (by show w4.heap.size < w10.heap.size; omega)).trans kc3), (hb8.cell (by show w.heap.size < w97.heap.size; omega)).trans ((hb7.cell (by show w.heap.size < w10.heap.size; omega)).trans kc4), (hb8.cell (by show w.heap.size < w97.heap.size; omega)).trans ((hb7.cell (by show w.heap.size < w10.heap.size; omega)).trans kc5), (hb8.cell (by show w.heap.size < w97.heap.size; omega)).trans ((hb7.cell (by show w.heap.size < w10.heap.size; omega)).trans kc6), (hb8.cell (by show w.heap.size < w97.heap.size; omega)).trans ((hb7.cell (by show w.heap.size < w10.heap.size; omega)).trans kc7)⟩)
    ((first
      | (go_at_call 15; refine HC0.out.mono ?_; rintro e w97 ⟨A7, c7, rfl, hk7, hr7, _, hb7⟩; have hs7 : w10.heap.size ≤ w97.heap.size := hb7.size)
      | (go_at_call 17; refine (eqSnap_same N0 T0 S0 _ _ n0 _ _ _ _ _ _ m0 w97 (HRp0_115.out.keep (up (up_drew (Below.refl _ w10)) hb7) (by omega)) (by omega) hm0 hr7 (Nat.le_refl _)).mono ?_; rintro e w98 ⟨rfl, hb8⟩)))
  all_goals
    have hbt := up (up (up_drew (Below.refl _ w10)) hb7) hb8
    clear HC0 kc0 kc1 kc2 kc3 kc4 kc5 kc6 kc7
    obtain ⟨w11, hww⟩ : ∃ x : World, x = w98 := ⟨_, rfl⟩
    subst hww
    have hz_11 := hbt.size
    have HX0_132 := Lib.hid (HX0_110.out.below hbt HX0_110.out.lt)
    have HX1_133 := Lib.hid (HX1_111.out.below hbt HX1_111.out.lt)
    have HB_134 := Lib.hid (up HB_112.out hbt)
    have HRs_135 := Lib.hid (HRs_113.out.keep hbt (by omega))
    have HW_136 := Lib.hid (HW_114.out.below hbt HW_114.out.lt)
    have HRp0_137 := Lib.hid (HRp0_115.out.keep hbt (by omega))
    have HSp0_138 := Lib.hid (HSp0_116.out.kept HRp0_115.out hbt (by omega))
    have HP0_139 := Lib.hid (HP0_117.out.below hbt HP0_117.out.lt)
    have HRp1_140 := Lib.hid (HRp1_118.out.keep hbt (by omega))
    have HSp1_141 := Lib.hid (HSp1_119.out.kept HRp1_118.out hbt (by omega))
    have HP1_142 := Lib.hid (HP1_120.out.below hbt HP1_120.out.lt)
    have HRi_143 := Lib.hid (HRi_121.out.keep hbt (by omega))
    have HSi_144 := Lib.hid (HSi_122.out.kept HRi_121.out hbt (by omega))
    have HI_145 := Lib.hid (HI_123.out.below hbt HI_123.out.lt)
    clear HX0_110 HX1_111 HB_112 HRs_113 HW_114 HRp0_115 HSp0_116 HP0_117 HRp1_118 HSp1_119 HP1_120 HRi_121 HSi_122 HI_123
    clear hbt hb7 hb8 hr7 hlp hlx
    try clear hs7
    have a_146 := HP1_142.out.cell 0
    have a_147 := HP1_142.out.cell 1
    have a_148 := HP1_142.out.cell 2
    have a_149 := HP1_142.out.cell 3
    have a_150 := HX1_133.out.cell 0
    have a_151 := HX1_133.out.cell 1
    have a_152 := HX1_133.out.cell 2
    have a_153 := HX1_133.out.cell 3
    go_wp2_with (fail)
    have kc0 : w11.cell? ⟨w6.heap.size, 0, none⟩ = some (.int .i64 N1) := HP1_142.out.cell 0
    have kc1 : w11.cell? ⟨w6.heap.size, 1, none⟩ = some (.int .i64 T1) := HP1_142.out.cell 1
    have kc2 : w11.cell? ⟨w6.heap.size, 2, none⟩ = some (.int .i64 S1) := HP1_142.out.cell 2
    have kc3 : w11.cell? ⟨w6.heap.size, 3, none⟩ = some (.slice Ap1 n1 cp1) := HP1_142.out.cell 3
    have kc4 : w11.cell? ⟨w.heap.size + 1, 0, none⟩ = some (.int .i64 N1) := HX1_133.out.cell 0
    have kc5 : w11.cell? ⟨w.heap.size + 1, 1, none⟩ = some (.int .i64 T1) := HX1_133.out.cell 1
    have kc6 : w11.cell? ⟨w.heap.size + 1, 2, none⟩ = some (.int .i64 S1) := HX1_133.out.cell 2
    have kc7 : w11.cell? ⟨w.heap.size + 1, 3, none⟩ = some (.slice A1 n1 c1) := HX1_133.out.cell 3
    have hlp := HP1_142.out.lt
    have hlx := HX1_133.out.lt
    have HC1 := Lib.hid (toSnap_any N1 T1 S1 0 w.heap.size n1 c1 A1 m1 w11.drew (HA1.out.keep (up_drew HB_134.out) (Nat.le_refl _)) HB_134.out.size hm1)
    try clear a_146 a_147 a_148 a_149 a_150 a_151 a_152 a_153
    go_region_held3 (fun w' => w'.cell? ⟨w6.heap.size, 0, none⟩ = some (.int .i64 N1) ∧ w'.cell? ⟨w6.heap.size, 1, none⟩ = some (.int .i64 T1) ∧ w'.cell? ⟨w6.heap.size, 2, none⟩ = some (.int .i64 S1) ∧ w'.cell? ⟨w6.heap.size, 3, none⟩ = some (.slice Ap1 n1 cp1) ∧ w'.cell? ⟨w.heap.size + 1, 0, none⟩ = some (.int .i64 N1) ∧ w'.cell? ⟨w.heap.size + 1, 1, none⟩ = some (.int .i64 T1) ∧ w'.cell? ⟨w.heap.size + 1, 2, none⟩ = some (.int .i64 S1) ∧ w'.cell? ⟨w.heap.size + 1, 3, none⟩ = some (.slice A1 n1 c1))
      (first | exact ⟨kc0, kc1, kc2, kc3, kc4, kc5, kc6, kc7⟩ | exact ⟨(hb7.cell (by show w6.heap.size < w11.heap.size; omega)).trans kc0, (hb7.cell (by show w6.heap.size < w11.heap.size; omega)).trans kc1, (hb7.cell (by show w6.heap.size < w11.heap.size; omega)).trans kc2, (hb7.cell (by show w6.heap.size < w11.heap.size; omega)).trans kc3, (hb7.cell (by show w.heap.size + 1 < w11.heap.size; omega)).trans kc4, (hb7.cell (by show w.heap.size + 1 < w11.heap.size; omega)).trans kc5, (hb7.cell (by show w.heap.size + 1 < w11.heap.size; omega)).trans kc6, (hb7.cell (by show w.heap.size + 1 < w11.heap.size; omega)).trans kc7⟩ | exact ⟨(hb8.cell (by show w6.heap.size < w97.heap.size; omega)).trans ((hb7.cell (by show w6.heap.size < w11.heap.size; omega)).trans kc0), (hb8.cell (by show w6.heap.size < w97.heap.size; omega)).trans ((hb7.cell (by show w6.heap.size < w11.heap.size; omega)).trans kc1), (hb8.cell (by show w6.heap.size < w97.heap.size; omega)).trans ((hb7.cell (by show w6.heap.size < w11.heap.size; omega)).trans kc2), (hb8.cell (by show w6.heap.size < w97.heap.size; omega)).trans ((hb7.cell (by show w6.heap.size < w11.heap.size; omega)).trans kc3), (hb8.cell (by show w.heap.size + 1 < w97.heap.size; omega)).trans ((hb7.cell (by show w.heap.size + 1 < w11.heap.size; omega)).trans kc4), (hb8.cell (by show w.heap.size + 1 < w97.heap.size; omega)).trans ((hb7.cell (by show w.heap.size + 1 < w11.heap.size; omega)).trans kc5), (hb8.cell (by show w.heap.size + 1 < w97.heap.size; omega)).trans ((hb7.cell (by show w.heap.size + 1 < w11.heap.size; omega)).trans kc6), (hb8.cell (by show w.heap.size + 1 < w97.heap.size; omega)).trans ((hb7.cell (by show w.heap.size + 1 < w11.heap.size; omega)).trans kc7)⟩)
      ((first
        | (go_at_call 15; refine HC1.out.mono ?_; rintro e w97 ⟨A7, c7, rfl, hk7, hr7, _, hb7⟩; have hs7 : w11.heap.size ≤ w97.heap.size := hb7.size)
        | (go_at_call 17; refine (eqSnap_same N1 T1 S1 _ _ n1 _ _ _ _ _ _ m1 w97 (HRp1_140.out.keep (up (up_drew (Below.refl _ w11)) hb7) (by omega)) (by omega) hm1 hr7 (Nat.le_refl _)).mono ?_; rintro e w98 ⟨rfl, hb8⟩)))
    all_goals
      have hbt := up (up (up_drew (Below.refl _ w11)) hb7) hb8
      clear HC1 kc0 kc1 kc2 kc3 kc4 kc5 kc6 kc7
      obtain ⟨w12, hww⟩ : ∃ x : World, x = w98 := ⟨_, rfl⟩
      subst hww
      have hz_12 := hbt.size
      have HX0_154 := Lib.hid (HX0_132.out.below hbt HX0_132.out.lt)
      have HX1_155 := Lib.hid (HX1_133.out.below hbt HX1_133.out.lt)
      have HB_156 := Lib.hid (up HB_134.out hbt)
      have HRs_157 := Lib.hid (HRs_135.out.keep hbt (by omega))
      have HW_158 := Lib.hid (HW_136.out.below hbt HW_136.out.lt)
      have HRp0_159 := Lib.hid (HRp0_137.out.keep hbt (by omega))
      have HSp0_160 := Lib.hid (HSp0_138.out.kept HRp0_137.out hbt (by omega))
      have HP0_161 := Lib.hid (HP0_139.out.below hbt HP0_139.out.lt)
      have HRp1_162 := Lib.hid (HRp1_140.out.keep hbt (by omega))
      have HSp1_163 := Lib.hid (HSp1_141.out.kept HRp1_140.out hbt (by omega))
      have HP1_164 := Lib.hid (HP1_142.out.below hbt HP1_142.out.lt)
      have HRi_165 := Lib.hid (HRi_143.out.keep hbt (by omega))
      have HSi_166 := Lib.hid (HSi_144.out.kept HRi_143.out hbt (by omega))
      have HI_167 := Lib.hid (HI_145.out.below hbt HI_145.out.lt)
      clear HX0_132 HX1_133 HB_134 HRs_135 HW_136 HRp0_137 HSp0_138 HP0_139 HRp1_140 HSp1_141 HP1_142 HRi_143 HSi_144 HI_145
      clear hbt hb7 hb8 hr7 hlp hlx
      try clear hs7
      have hlm := HP0_161.out.lt
      have a_168 := HP0_161.out.cell 0
      have a_169 := HP0_161.out.cell 1
      have a_170 := HP0_161.out.cell 2
      have a_171 := HP0_161.out.cell 3
      go_wp2_with (fail)
      try clear a_168 a_169 a_170 a_171
      (with_reducible refine (markSnap_any N0 T0 S0 _ _ n0 cp0 Ap0 _ (1) _ HRp0_159.out HSp0_160.out hm0 (by omega) (by omega) (by omega)).mono ?_)
      rintro e w13 ⟨rfl, hrq, wx, hbt, hwt⟩
      clear hlm
      clear HSp0_160
      clear HRp0_159
      obtain ⟨w14, hww⟩ : ∃ x : World, x = wx := ⟨_, rfl⟩
      subst hww
      have hz_14 := hbt.size
      have HX0_172 := Lib.hid (HX0_154.out.below hbt HX0_154.out.lt)
      have HX1_173 := Lib.hid (HX1_155.out.below hbt HX1_155.out.lt)
      have HB_174 := Lib.hid (up HB_156.out hbt)
      have HRs_175 := Lib.hid (HRs_157.out.keep hbt (by omega))
      have HW_176 := Lib.hid (HW_158.out.below hbt HW_158.out.lt)
      have HP0_177 := Lib.hid (HP0_161.out.below hbt HP0_161.out.lt)
      have HRp1_178 := Lib.hid (HRp1_162.out.keep hbt (by omega))
      have HSp1_179 := Lib.hid (HSp1_163.out.kept HRp1_162.out hbt (by omega))
      have HP1_180 := Lib.hid (HP1_164.out.below hbt HP1_164.out.lt)
      have HRi_181 := Lib.hid (HRi_165.out.keep hbt (by omega))
      have HSi_182 := Lib.hid (HSi_166.out.kept HRi_165.out hbt (by omega))
      have HI_183 := Lib.hid (HI_167.out.below hbt HI_167.out.lt)
      clear HX0_154 HX1_155 HB_156 HRs_157 HW_158 HP0_161 HRp1_162 HSp1_163 HP1_164 HRi_165 HSi_166 HI_167
      obtain ⟨w15, hww⟩ : ∃ x : World, x = w13 := ⟨_, rfl⟩
      subst hww
      have hz_15 := hwt.size
      have HX0_184 := Lib.hid (show Blk w15 _ _ _ from (hwt.block _ HX0_172.out.lt (by omega)).trans HX0_172.out)
      have HX1_185 := Lib.hid (show Blk w15 _ _ _ from (hwt.block _ HX1_173.out.lt (by omega)).trans HX1_173.out)
      have HB_186 := Lib.hid (Within.below HB_174.out hwt (by omega))
      have HRs_187 := Lib.hid (HRs_175.out.within hwt (by omega) (by omega))
      have HW_188 := Lib.hid (show Blk w15 _ _ _ from (hwt.block _ HW_176.out.lt (by omega)).trans HW_176.out)
      have HP0_189 := Lib.hid (show Blk w15 _ _ _ from (hwt.block _ HP0_177.out.lt (by omega)).trans HP0_177.out)
      have HRp1_190 := Lib.hid (HRp1_178.out.within hwt (by omega) (by omega))
      have HSp1_191 := Lib.hid (HSp1_179.out.within HRp1_178.out hwt (by omega) (by omega))
      have HP1_192 := Lib.hid (show Blk w15 _ _ _ from (hwt.block _ HP1_180.out.lt (by omega)).trans HP1_180.out)
      have HRi_193 := Lib.hid (HRi_181.out.within hwt (by omega) (by omega))
      have HSi_194 := Lib.hid (HSi_182.out.within HRi_181.out hwt (by omega) (by omega))
      have HI_195 := Lib.hid (show Blk w15 _ _ _ from (hwt.block _ HI_183.out.lt (by omega)).trans HI_183.out)
      clear HX0_172 HX1_173 HB_174 HRs_175 HW_176 HP0_177 HRp1_178 HSp1_179 HP1_180 HRi_181 HSi_182 HI_183
      clear hbt hwt
      clear hrq
      clear HP0_189
      have hq0 : decide ((1 : Int) + 2 * (n0 : Int) < 0) = false := decide_eq_false (by omega)
      have hlm := HP1_192.out.lt
      have a_196 := HP1_192.out.cell 0
      have a_197 := HP1_192.out.cell 1
      have a_198 := HP1_192.out.cell 2
      have a_199 := HP1_192.out.cell 3
      go_wp2_with (fail)
      try clear a_196 a_197 a_198 a_199
      (with_reducible refine (markSnap_any N1 T1 S1 _ _ n1 cp1 Ap1 _ ((1 : Int) + 2 * (n0 : Int)) _ HRp1_190.out HSp1_191.out hm1 (by omega) (by omega) (by omega)).mono ?_)
      rintro e w16 ⟨rfl, hrq, wx, hbt, hwt⟩
      clear hlm
      clear HSp1_191
      clear HRp1_190
      obtain ⟨w17, hww⟩ : ∃ x : World, x = wx := ⟨_, rfl⟩
      subst hww
      have hz_17 := hbt.size
      have HX0_200 := Lib.hid (HX0_184.out.below hbt HX0_184.out.lt)
      have HX1_201 := Lib.hid (HX1_185.out.below hbt HX1_185.out.lt)
      have HB_202 := Lib.hid (up HB_186.out hbt)
      have HRs_203 := Lib.hid (HRs_187.out.keep hbt (by omega))
      have HW_204 := Lib.hid (HW_188.out.below hbt HW_188.out.lt)
      have HP1_205 := Lib.hid (HP1_192.out.below hbt HP1_192.out.lt)
      have HRi_206 := Lib.hid (HRi_193.out.keep hbt (by omega))
      have HSi_207 := Lib.hid (HSi_194.out.kept HRi_193.out hbt (by omega))
      have HI_208 := Lib.hid (HI_195.out.below hbt HI_195.out.lt)
      clear HX0_184 HX1_185 HB_186 HRs_187 HW_188 HP1_192 HRi_193 HSi_194 HI_195
      obtain ⟨w18, hww⟩ : ∃ x : World, x = w16 := ⟨_, rfl⟩
      subst hww
      have hz_18 := hwt.size
      have HX0_209 := Lib.hid (show Blk w18 _ _ _ from (hwt.block _ HX0_200.out.lt (by omega)).trans HX0_200.out)
      have HX1_210 := Lib.hid (show Blk w18 _ _ _ from (hwt.block _ HX1_201.out.lt (by omega)).trans HX1_201.out)
      have HB_211 := Lib.hid (Within.below HB_202.out hwt (by omega))
      have HRs_212 := Lib.hid (HRs_203.out.within hwt (by omega) (by omega))
      have HW_213 := Lib.hid (show Blk w18 _ _ _ from (hwt.block _ HW_204.out.lt (by omega)).trans HW_204.out)
      have HP1_214 := Lib.hid (show Blk w18 _ _ _ from (hwt.block _ HP1_205.out.lt (by omega)).trans HP1_205.out)
      have HRi_215 := Lib.hid (HRi_206.out.within hwt (by omega) (by omega))
      have HSi_216 := Lib.hid (HSi_207.out.within HRi_206.out hwt (by omega) (by omega))
      have HI_217 := Lib.hid (show Blk w18 _ _ _ from (hwt.block _ HI_208.out.lt (by omega)).trans HI_208.out)
      clear HX0_200 HX1_201 HB_202 HRs_203 HW_204 HP1_205 HRi_206 HSi_207 HI_208
      clear hbt hwt
      clear hrq
      clear HP1_214
      have hq1 : decide ((1 : Int) + 2 * (n0 : Int) + 2 * (n1 : Int) < 0) = false := decide_eq_false (by omega)
      have a_218 := HI_217.out.cell 0
      have a_219 := HI_217.out.cell 1
      have a_220 := HI_217.out.cell 2
      have a_221 := HI_217.out.cell 3
      have a_222 := HW_213.out.cell 0
      have a_223 := HW_213.out.cell 1
      have a_224 := HW_213.out.cell 2
      have a_225 := HW_213.out.cell 3
      go_wp2_with (fail)
      try clear a_218 a_219 a_220 a_221 a_222 a_223 a_224 a_225
      (with_reducible refine (eqSnap_same N T S _ _ kS _ _ _ _ _ _ R _ HRi_215.out (by omega) (by omega) HRs_212.out (by omega)).mono ?_)
      rintro e w19 ⟨rfl, hbt⟩
      have hz_19 := hbt.size
      have HX0_226 := Lib.hid (HX0_209.out.below hbt HX0_209.out.lt)
      have HX1_227 := Lib.hid (HX1_210.out.below hbt HX1_210.out.lt)
      have HB_228 := Lib.hid (up HB_211.out hbt)
      have HRs_229 := Lib.hid (HRs_212.out.keep hbt (by omega))
      have HW_230 := Lib.hid (HW_213.out.below hbt HW_213.out.lt)
      have HRi_231 := Lib.hid (HRi_215.out.keep hbt (by omega))
      have HSi_232 := Lib.hid (HSi_216.out.kept HRi_215.out hbt (by omega))
      have HI_233 := Lib.hid (HI_217.out.below hbt HI_217.out.lt)
      clear HX0_209 HX1_210 HB_211 HRs_212 HW_213 HRi_215 HSi_216 HI_217
      clear hbt
      have hlm := HI_233.out.lt
      have a_234 := HI_233.out.cell 0
      have a_235 := HI_233.out.cell 1
      have a_236 := HI_233.out.cell 2
      have a_237 := HI_233.out.cell 3
      go_wp2_with (fail)
      try clear a_234 a_235 a_236 a_237
      (with_reducible refine (markSnap_any N T S _ _ kS ci Ai _ (1) _ HRi_231.out HSi_232.out hkS (by omega) (by omega) (by omega)).mono ?_)
      rintro e w20 ⟨rfl, hrq, wx, hbt, hwt⟩
      clear hlm
      clear HSi_232
      clear HRi_231
      obtain ⟨w21, hww⟩ : ∃ x : World, x = wx := ⟨_, rfl⟩
      subst hww
      have hz_21 := hbt.size
      have HX0_238 := Lib.hid (HX0_226.out.below hbt HX0_226.out.lt)
      have HX1_239 := Lib.hid (HX1_227.out.below hbt HX1_227.out.lt)
      have HB_240 := Lib.hid (up HB_228.out hbt)
      have HRs_241 := Lib.hid (HRs_229.out.keep hbt (by omega))
      have HW_242 := Lib.hid (HW_230.out.below hbt HW_230.out.lt)
      have HI_243 := Lib.hid (HI_233.out.below hbt HI_233.out.lt)
      clear HX0_226 HX1_227 HB_228 HRs_229 HW_230 HI_233
      obtain ⟨w22, hww⟩ : ∃ x : World, x = w20 := ⟨_, rfl⟩
      subst hww
      have hz_22 := hwt.size
      have HX0_244 := Lib.hid (show Blk w22 _ _ _ from (hwt.block _ HX0_238.out.lt (by omega)).trans HX0_238.out)
      have HX1_245 := Lib.hid (show Blk w22 _ _ _ from (hwt.block _ HX1_239.out.lt (by omega)).trans HX1_239.out)
      have HB_246 := Lib.hid (Within.below HB_240.out hwt (by omega))
      have HRs_247 := Lib.hid (HRs_241.out.within hwt (by omega) (by omega))
      have HW_248 := Lib.hid (show Blk w22 _ _ _ from (hwt.block _ HW_242.out.lt (by omega)).trans HW_242.out)
      have HI_249 := Lib.hid (show Blk w22 _ _ _ from (hwt.block _ HI_243.out.lt (by omega)).trans HI_243.out)
      clear HX0_238 HX1_239 HB_240 HRs_241 HW_242 HI_243
      clear hbt hwt
      have HRz_250 := Lib.hid hrq
      clear hrq
      have hr2 : decide ((1 : Int) + 2 * (kS : Int) < 0) = false := decide_eq_false (by omega)
      have hr3 : ((1 : Int) + 2 * (kS : Int) != (1 : Int) + 2 * (kS : Int)) = false := by simp
      have a_251 := HI_249.out.cell 0
      have a_252 := HI_249.out.cell 1
      have a_253 := HI_249.out.cell 2
      have a_254 := HI_249.out.cell 3
      go_wp2_with (fail)
      try clear a_251 a_252 a_253 a_254
      (with_reducible refine (heldSnap_any N T S _ _ kS ci Ai 1 _ HRz_250.out (by omega) hkS (by omega) (by omega)).mono ?_)
      rintro e w23 ⟨rfl, hbt⟩
      have hz_23 := hbt.size
      have HX0_255 := Lib.hid (HX0_244.out.below hbt HX0_244.out.lt)
      have HX1_256 := Lib.hid (HX1_245.out.below hbt HX1_245.out.lt)
      have HB_257 := Lib.hid (up HB_246.out hbt)
      have HRs_258 := Lib.hid (HRs_247.out.keep hbt (by omega))
      have HW_259 := Lib.hid (HW_248.out.below hbt HW_248.out.lt)
      have HI_260 := Lib.hid (HI_249.out.below hbt HI_249.out.lt)
      have HRz_261 := Lib.hid (HRz_250.out.keep hbt (by omega))
      clear HX0_244 HX1_245 HB_246 HRs_247 HW_248 HI_249 HRz_250
      clear hbt
      have hlx0 := HX0_255.out.lt
      have hlx1 := HX1_256.out.lt
      have HSW := Lib.hid (show ∀ wx, Below w23.heap.size w23 wx → wx.cell? ⟨w.heap.size, 0, none⟩ = some (.int .i64 N0) ∧ wx.cell? ⟨w.heap.size, 1, none⟩ = some (.int .i64 T0) ∧ wx.cell? ⟨w.heap.size, 2, none⟩ = some (.int .i64 S0) ∧ wx.cell? ⟨w.heap.size, 3, none⟩ = some (.slice A0 n0 c0) ∧ wx.cell? ⟨w.heap.size + 1, 0, none⟩ = some (.int .i64 N1) ∧ wx.cell? ⟨w.heap.size + 1, 1, none⟩ = some (.int .i64 T1) ∧ wx.cell? ⟨w.heap.size + 1, 2, none⟩ = some (.int .i64 S1) ∧ wx.cell? ⟨w.heap.size + 1, 3, none⟩ = some (.slice A1 n1 c1) from fun wx hb => ⟨(hb.cell (by show w.heap.size < w23.heap.size; omega)).trans (HX0_255.out.cell 0), (hb.cell (by show w.heap.size < w23.heap.size; omega)).trans (HX0_255.out.cell 1), (hb.cell (by show w.heap.size < w23.heap.size; omega)).trans (HX0_255.out.cell 2), (hb.cell (by show w.heap.size < w23.heap.size; omega)).trans (HX0_255.out.cell 3), (hb.cell (by show w.heap.size + 1 < w23.heap.size; omega)).trans (HX1_256.out.cell 0), (hb.cell (by show w.heap.size + 1 < w23.heap.size; omega)).trans (HX1_256.out.cell 1), (hb.cell (by show w.heap.size + 1 < w23.heap.size; omega)).trans (HX1_256.out.cell 2), (hb.cell (by show w.heap.size + 1 < w23.heap.size; omega)).trans (HX1_256.out.cell 3)⟩)
      have HTT0 := Lib.hid (show ∀ wx, Below w23.heap.size w23 wx → Calls Try.prog 15 #[.agg #[.int .i64 N0, .int .i64 T0, .int .i64 S0, .slice A0 n0 c0]] wx (ToSn N0 T0 S0 m0 n0 wx) from fun wx hb => toSnap_any N0 T0 S0 0 w.heap.size n0 c0 A0 m0 wx (HA0.out.keep (up HB_257.out hb) (Nat.le_refl _)) (Nat.le_trans HB_257.out.size hb.size) hm0)
      have HTT1 := Lib.hid (show ∀ wx, Below w23.heap.size w23 wx → Calls Try.prog 15 #[.agg #[.int .i64 N1, .int .i64 T1, .int .i64 S1, .slice A1 n1 c1]] wx (ToSn N1 T1 S1 m1 n1 wx) from fun wx hb => toSnap_any N1 T1 S1 0 w.heap.size n1 c1 A1 m1 wx (HA1.out.keep (up HB_257.out hb) (Nat.le_refl _)) (Nat.le_trans HB_257.out.size hb.size) hm1)
      obtain ⟨kk0, kk1, kk2, kk3, kk4, kk5, kk6, kk7⟩ := HSW.out _ (Below.refl _ _)
      go_upto_region 31 with fail
      clear kk0 kk1 kk2 kk3 kk4 kk5 kk6 kk7
      go_cut [13] from 75 to 79 (fun sw wx => ∃ g Aj cj, sw = .pointer (some ⟨g, 0, none⟩) ∧ Hid (SnGot w23 wx g N T S Aj kS cj R))
      case first =>
        go_region_held3 (fun wx => wx.cell? ⟨w.heap.size, 0, none⟩ = some (.int .i64 N0) ∧ wx.cell? ⟨w.heap.size, 1, none⟩ = some (.int .i64 T0) ∧ wx.cell? ⟨w.heap.size, 2, none⟩ = some (.int .i64 S0) ∧ wx.cell? ⟨w.heap.size, 3, none⟩ = some (.slice A0 n0 c0) ∧ wx.cell? ⟨w.heap.size + 1, 0, none⟩ = some (.int .i64 N1) ∧ wx.cell? ⟨w.heap.size + 1, 1, none⟩ = some (.int .i64 T1) ∧ wx.cell? ⟨w.heap.size + 1, 2, none⟩ = some (.int .i64 S1) ∧ wx.cell? ⟨w.heap.size + 1, 3, none⟩ = some (.slice A1 n1 c1))
          (first | with_reducible exact HSW.out _ (Below.refl _ _) | with_reducible exact HSW.out _ (up_drew (Below.refl _ _)) | with_reducible exact HSW.out _ (up_drew (up_alloc (Below.refl _ _) _)) | with_reducible exact HSW.out _ HV1.out | with_reducible exact HSW.out _ (up_alloc HV1.out _) | with_reducible exact HSW.out _ HV2.out | with_reducible exact HSW.out _ (up_alloc HV2.out _) | with_reducible exact HSW.out _ HV3.out | with_reducible exact HSW.out _ (up_alloc HV3.out _) | with_reducible exact HSW.out _ (snLay_below HV3.out hgE3))
          ((first
            | (go_at_call 15; (with_reducible refine (HTT0.out w23.drew (up_drew (Below.refl _ _))).mono ?_); rintro e v1 ⟨Aa, ca, rfl, hka, hra, _, hba⟩; have HRa := Lib.hid hra; have HV1 := Lib.hid (up (up_drew (Below.refl _ w23)) hba); have hs1 := HV1.out.size; have hE1 := True.intro; have hgE1 := True.intro; clear hra hba)
            | (go_at_call 15; (with_reducible refine (HTT0.out (w23.alloc (.cells #[.int .i64 0, .int .i64 0, .int .i64 0, .slice none 0 0] 29)).drew (up_drew (up_alloc (Below.refl _ _) _))).mono ?_); rintro e v1 ⟨Aa, ca, rfl, hka, hra, _, hba⟩; have HRa := Lib.hid hra; have HV1 := Lib.hid (up (up_drew (up_alloc (Below.refl _ w23) (.cells #[.int .i64 0, .int .i64 0, .int .i64 0, .slice none 0 0] 29))) hba); have hs1 := HV1.out.size; have hE1 := (Blk.new w23 29 #[.int .i64 0, .int .i64 0, .int .i64 0, .slice none 0 0]).drew.below hba (Blk.new w23 29 #[.int .i64 0, .int .i64 0, .int .i64 0, .slice none 0 0]).drew.lt; have hsx := hba.size; simp only [World.size_drew, World.size_alloc] at hsx; have hgE1 := Nat.le_refl w23.heap.size; clear hra hba)
            | (go_at_call 15; (with_reducible refine (HTT1.out v1 HV1.out).mono ?_); rintro e v2 ⟨Ab, cb, rfl, hkb, hrb, _, hbb⟩; have HRb := Lib.hid hrb; have HV2 := Lib.hid (up HV1.out hbb); have hs2 := HV2.out.size; have hs21 := hbb.size; have HRa2 := Lib.hid (HRa.out.keep hbb (Nat.le_refl _)); first | (have hE2 := hE1.below hbb hE1.lt; have hgE2 := hgE1; have hl2 := hE1.lt) | (have hE2 := True.intro; have hgE2 := True.intro)
               clear hrb hbb)
            | (go_at_call 15; (with_reducible refine (HTT1.out (v1.alloc (.cells #[.int .i64 0, .int .i64 0, .int .i64 0, .slice none 0 0] 29)) (up_alloc HV1.out _)).mono ?_); rintro e v2 ⟨Ab, cb, rfl, hkb, hrb, _, hbb⟩; have HRb := Lib.hid hrb; have HV2 := Lib.hid (up (up_alloc HV1.out (.cells #[.int .i64 0, .int .i64 0, .int .i64 0, .slice none 0 0] 29)) hbb); have hs2 := HV2.out.size; have hs21 : v1.heap.size + 1 ≤ v2.heap.size := by have := hbb.size; simpa using this
               have HRa2 := Lib.hid ((HRa.out.keep (up_alloc (Below.refl _ v1) (.cells #[.int .i64 0, .int .i64 0, .int .i64 0, .slice none 0 0] 29)) (Nat.le_refl _)).keep hbb (by simp)); have hE2 := (Blk.new v1 29 #[.int .i64 0, .int .i64 0, .int .i64 0, .slice none 0 0]).below hbb (Blk.new v1 29 #[.int .i64 0, .int .i64 0, .int .i64 0, .slice none 0 0]).lt; have hgE2 := HV1.out.size; clear hrb hbb)
            | (go_at_call 25; (with_reducible refine (InstallSnapI_any N0 T0 S0 _ _ n0 ca Aa m0 N1 T1 S1 _ _ n1 cb Ab m1 v2 HRa2.out (by omega) hm0 hka HRb.out (Nat.le_refl _) hm1 hkb).mono ?_); intro e v3 hvt; obtain ⟨Aj, cj, rfl, hkj, hrt, hst, hbt⟩ := hvt.q HU.out HS.out; clear hvt; have HR3 := Lib.hid hrt; have HV3 := Lib.hid (up HV2.out hbt); have hs3 := HV3.out.size; have hs32 := hbt.size; first | (have hE3 := hE2.below hbt hE2.lt; have hgE3 := hgE2; have hl3 := hE2.lt; have y0 := hE3.cell 0; have y1 := hE3.cell 1; have y2 := hE3.cell 2; have y3 := hE3.cell 3; have g0 := hE3.soft 0; have g1 := hE3.soft 1; have g2 := hE3.soft 2; have g3 := hE3.soft 3) | have hE3 := True.intro
               clear hrt hst hbt)
            | (go_at_call 25; (with_reducible refine (InstallSnapI_any N0 T0 S0 _ _ n0 ca Aa m0 N1 T1 S1 _ _ n1 cb Ab m1 (v2.alloc (.cells #[.int .i64 0, .int .i64 0, .int .i64 0, .slice none 0 0] 29)) (HRa2.out.keep (up_alloc (Below.refl _ v2) _) (by omega)) (by simp; omega) hm0 hka (HRb.out.keep (up_alloc (Below.refl _ v2) _) (Nat.le_refl _)) (by simp) hm1 hkb).mono ?_); intro e v3 hvt; obtain ⟨Aj, cj, rfl, hkj, hrt, hst, hbt⟩ := hvt.q HU.out HS.out; clear hvt; have HR3 := Lib.hid (hrt.wide (lo' := v2.heap.size + 1) (by simp) (Nat.le_refl _)); have HV3 := Lib.hid (up (up_alloc HV2.out (.cells #[.int .i64 0, .int .i64 0, .int .i64 0, .slice none 0 0] 29)) hbt); have hs3 := HV3.out.size; have hs32 : v2.heap.size + 1 ≤ v3.heap.size := by have := hbt.size; simpa using this
               have hE3 := (Blk.new v2 29 #[.int .i64 0, .int .i64 0, .int .i64 0, .slice none 0 0]).below hbt (Blk.new v2 29 #[.int .i64 0, .int .i64 0, .int .i64 0, .slice none 0 0]).lt; have hgE3 := HV2.out.size; have hl3 : v2.heap.size < v2.heap.size + 1 := Nat.lt_succ_self _; have y0 := hE3.cell 0; have y1 := hE3.cell 1; have y2 := hE3.cell 2; have y3 := hE3.cell 3; have g0 := hE3.soft 0; have g1 := hE3.soft 1; have g2 := hE3.soft 2; have g3 := hE3.soft 3; clear hrt hst hbt)
            | fail "no arm"))
        all_goals
          go_wp2_with fail
          go_meet
          first
            | exact ⟨_, Aj, cj, rfl, SnGot.early hE3 HR3.out (by omega) hl3 hgE3 HV3.out⟩
            | exact ⟨_, Aj, cj, rfl, SnGot.last HR3.out (by omega) HV3.out⟩
      case rest =>
      obtain ⟨gJ, Aj, cj, rfl, hgot⟩ := hcut
      have HKJ := Lib.hid hgot.out.blk
      have hglJ := hgot.out.blk.lt
      have hrz := Lib.hid hgot.out.rd
      have hbz := Lib.hid hgot.out.bel
      clear hgot
      obtain ⟨w24, hww⟩ : ∃ x : World, x = wc := ⟨_, rfl⟩
      subst hww
      have hrt := hrz.out
      have hbt := hbz.out
      clear HSW HTT0 HTT1 hrz hbz
      have hz_24 := hbt.size
      have HX0_262 := Lib.hid (HX0_255.out.below hbt HX0_255.out.lt)
      have HX1_263 := Lib.hid (HX1_256.out.below hbt HX1_256.out.lt)
      have HB_264 := Lib.hid (up HB_257.out hbt)
      have HRs_265 := Lib.hid (HRs_258.out.keep hbt (by omega))
      have HW_266 := Lib.hid (HW_259.out.below hbt HW_259.out.lt)
      have HI_267 := Lib.hid (HI_260.out.below hbt HI_260.out.lt)
      have HRz_268 := Lib.hid (HRz_261.out.keep hbt (by omega))
      clear HX0_255 HX1_256 HB_257 HRs_258 HW_259 HI_260 HRz_261
      clear hbt
      have HRj_269 := Lib.hid hrt
      clear hrt
      have a_270 := HW_266.out.cell 0
      have a_271 := HW_266.out.cell 1
      have a_272 := HW_266.out.cell 2
      have a_273 := HW_266.out.cell 3
      have a_274 := HKJ.out.cell 0
      have a_275 := HKJ.out.cell 1
      have a_276 := HKJ.out.cell 2
      have a_277 := HKJ.out.cell 3
      go_wp2_with (fail)
      try clear a_270 a_271 a_272 a_273 a_274 a_275 a_276 a_277
      (with_reducible refine (eqSnap_same N T S _ _ kS _ _ _ _ _ _ R _ HRj_269.out (by omega) (by omega) HRs_265.out (by omega)).mono ?_)
      rintro e w25 ⟨rfl, hbt⟩
      have hz_25 := hbt.size
      have HX0_278 := Lib.hid (HX0_262.out.below hbt HX0_262.out.lt)
      have HX1_279 := Lib.hid (HX1_263.out.below hbt HX1_263.out.lt)
      have HB_280 := Lib.hid (up HB_264.out hbt)
      have HRs_281 := Lib.hid (HRs_265.out.keep hbt (by omega))
      have HW_282 := Lib.hid (HW_266.out.below hbt HW_266.out.lt)
      have HI_283 := Lib.hid (HI_267.out.below hbt HI_267.out.lt)
      have HRz_284 := Lib.hid (HRz_268.out.keep hbt (by omega))
      have HRj_285 := Lib.hid (HRj_269.out.keep hbt (by omega))
      have HJ_286 := Lib.hid (HKJ.out.below hbt HKJ.out.lt)
      clear HX0_262 HX1_263 HB_264 HRs_265 HW_266 HI_267 HRz_268 HRj_269 HKJ
      clear hbt
      have a_287 := HI_283.out.cell 0
      have a_288 := HI_283.out.cell 1
      have a_289 := HI_283.out.cell 2
      have a_290 := HI_283.out.cell 3
      go_wp2_with (fail)
      try clear a_287 a_288 a_289 a_290
      (with_reducible refine (heldSnap_any N T S _ _ kS ci Ai 1 _ HRz_284.out (by omega) hkS (by omega) (by omega)).mono ?_)
      rintro e w26 ⟨rfl, hbt⟩
      have hz_26 := hbt.size
      have HX0_291 := Lib.hid (HX0_278.out.below hbt HX0_278.out.lt)
      have HX1_292 := Lib.hid (HX1_279.out.below hbt HX1_279.out.lt)
      have HB_293 := Lib.hid (up HB_280.out hbt)
      have HRs_294 := Lib.hid (HRs_281.out.keep hbt (by omega))
      have HW_295 := Lib.hid (HW_282.out.below hbt HW_282.out.lt)
      have HI_296 := Lib.hid (HI_283.out.below hbt HI_283.out.lt)
      have HRz_297 := Lib.hid (HRz_284.out.keep hbt (by omega))
      have HRj_298 := Lib.hid (HRj_285.out.keep hbt (by omega))
      have HJ_299 := Lib.hid (HJ_286.out.below hbt HJ_286.out.lt)
      clear HX0_278 HX1_279 HB_280 HRs_281 HW_282 HI_283 HRz_284 HRj_285 HJ_286
      clear hbt
      go_wp2
      go_ret
      exact ⟨rfl, HB_293.out⟩
end Go.Proofs.Ythodkjflnjocbaa
