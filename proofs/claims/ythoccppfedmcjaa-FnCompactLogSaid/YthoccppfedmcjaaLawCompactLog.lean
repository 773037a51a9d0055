/- The law FnCompactLog, walked: it returns true. (Written by a program over gen/lawlib.py.) -/
import Derived.Test.YthoccppfedmcjaaDrawSn
import Derived.Test.YthoccppfedmcjaaLawSnapM
import Derived.Test.YthoccppfedmcjaaSnapS
import Derived.BigQuiet
import Derived.Deep.RegionHeld3
import Derived.Test.YthoccppfedmcjaaDrawSn2
import Derived.Test.YthoccppfedmcjaaSnapK
import Derived.Test.YthoccppfedmcjaaSnapT
set_option linter.unusedSimpArgs false
set_option linter.unusedVariables false
namespace Go.Proofs.Ythoccppfedmcjaa
open Go.RowKit

set_option maxRecDepth 100000 in
set_option maxHeartbeats 6400000 in
theorem lawCompactLog_any (n c : Nat) (A : Option Addr) (xs : List Int) (w : World) (hr : Rd w 0 w.heap.size 1 A n (bvs xs)) (hby : Bytes xs) (hc : n ≤ c) (hc2 : c ≤ 9223372036854775807) :
    Calls Try.prog 6 #[.slice A n c] w fun e w' => e = .returned (.bool true) ∧ Below w.heap.size w w' := by
  by_cases hbig : (1048576 : Int) < n
  · go_enter Try.func6, Try.ntmps6
    go_wp2
    go_ret
    exact ⟨rfl, Below.refl _ _⟩
  go_enter Try.func6, Try.ntmps6
  go_wp2_with (fail)
  (with_reducible refine (drawCompactLog_any n c A xs w hr hby (by omega) hc hc2).mono ?_)
  rintro e w1 ⟨N, T, S, A1, m, c1, ps, z, rfl, hN, hT, hS, hm, hc1, hcx, ⟨hz1, hz2⟩, hrd, hb1⟩
  clear hbig hr
  have HB_0 := Lib.hid hb1
  have hz_1 := hb1.size
  clear hb1
  have HPL := Lib.hid hrd.len2
  have hz64 : in64 z := in64_sn (by omega) (by omega)
  have HL_1 := Lib.hid (hrd.wide (Nat.zero_le _) (Nat.le_refl _))
  clear hrd
  have HEV_2 := Lib.hid (Blk.new w1 25 #[.int .i64 N, .int .i64 T, .int .i64 S, .slice A1 m c1])
  have hbt := up_alloc (Below.refl _ w1) (.cells #[.int .i64 N, .int .i64 T, .int .i64 S, .slice A1 m c1] 25)
  have hs_2 : (w1.alloc (.cells #[.int .i64 N, .int .i64 T, .int .i64 S, .slice A1 m c1] 25)).heap.size = w1.heap.size + 1 := by simp
  have HL_3 := Lib.hid (HL_1.out.keep hbt (by omega))
  have HB_4 := Lib.hid (up HB_0.out hbt)
  have hz_2 := hbt.size
  clear HL_1 HB_0
  clear hbt
  go_wp2_with (fail)
  generalize w1.alloc (.cells #[.int .i64 N, .int .i64 T, .int .i64 S, .slice A1 m c1] 25) = w2 at *
  have hgV := HEV_2.out.lt
  obtain ⟨⟨⟨N2, T2, S2, R2⟩, b⟩, hU⟩ : ∃ u, compOf N T S ps z = u := ⟨_, rfl⟩
  obtain ⟨k2, hk2⟩ : ∃ k, R2.length = k := ⟨_, rfl⟩
  have hk2b : k2 ≤ 17 := by
    have h1 := compOf_len N T S ps z
    have h2 := HPL.out
    rw [hU] at h1
    dsimp only at h1
    omega
  have HU := Lib.hid hU
  have HK2 := Lib.hid hk2
  have hne : (b != b) = false := by simp
  have heq : (b == b) = true := by simp
  clear hU hk2
  (with_reducible refine ((CompactLogI_any N T S 0 _ m c1 A1 ps z _ HL_3.out (by omega) (by omega) (by omega) hz64).mono fun _ _ h => SnPost.p HU.out HK2.out h).mono ?_)
  rintro e w3 ⟨A3, c3, rfl, hk3, hrd3, hbt⟩
  have HEV_5 := Lib.hid (HEV_2.out.below hbt HEV_2.out.lt)
  clear HEV_2
  have HL_6 := Lib.hid (HL_3.out.keep hbt (by omega))
  have HB_7 := Lib.hid (up HB_4.out hbt)
  have hz_3 := hbt.size
  clear HL_3 HB_4
  have HW_8 := Lib.hid (hrd3.wide (Nat.zero_le _) (Nat.le_refl _))
  clear hrd3
  clear hbt
  have HEW_9 := Lib.hid (Blk.new w3 25 #[.int .i64 N2, .int .i64 T2, .int .i64 S2, .slice A3 k2 c3])
  have hbt := up_alloc (Below.refl _ w3) (.cells #[.int .i64 N2, .int .i64 T2, .int .i64 S2, .slice A3 k2 c3] 25)
  have hs_4 : (w3.alloc (.cells #[.int .i64 N2, .int .i64 T2, .int .i64 S2, .slice A3 k2 c3] 25)).heap.size = w3.heap.size + 1 := by simp
  have a_10 := HEV_5.out.cell 0
  have a_11 := HEV_5.out.cell 1
  have a_12 := HEV_5.out.cell 2
  have a_13 := HEV_5.out.cell 3
  have HEV_14 := Lib.hid (HEV_5.out.below hbt HEV_5.out.lt)
  clear HEV_5
  have HL_15 := Lib.hid (HL_6.out.keep hbt (by omega))
  have HW_16 := Lib.hid (HW_8.out.keep hbt (by omega))
  have HB_17 := Lib.hid (up HB_7.out hbt)
  have hz_4 := hbt.size
  clear HL_6 HW_8 HB_7
  clear hbt
  have a_18 := HEV_14.out.cell 0
  have a_19 := HEV_14.out.cell 1
  have a_20 := HEV_14.out.cell 2
  have a_21 := HEV_14.out.cell 3
  go_wp2_with (fail)
  try clear a_10 a_11 a_12 a_13 a_18 a_19 a_20 a_21
  generalize w3.alloc (.cells #[.int .i64 N2, .int .i64 T2, .int .i64 S2, .slice A3 k2 c3] 25) = w4 at *
  have hgW := HEW_9.out.lt
  (with_reducible refine ((CompactLogS_any N T S 0 _ m c1 A1 ps z _ HL_15.out (by omega) (by omega) (by omega) hz64).mono fun _ _ h => SnPost.p HU.out HK2.out h).mono ?_)
  rintro e w5 ⟨A4, c4, rfl, hk4, hrd4, hbt⟩
  have HEV_22 := Lib.hid (HEV_14.out.below hbt HEV_14.out.lt)
  have HEW_23 := Lib.hid (HEW_9.out.below hbt HEW_9.out.lt)
  clear HEV_14 HEW_9
  have HL_24 := Lib.hid (HL_15.out.keep hbt (by omega))
  have HW_25 := Lib.hid (HW_16.out.keep hbt (by omega))
  have HB_26 := Lib.hid (up HB_17.out hbt)
  have hz_5 := hbt.size
  clear HL_15 HW_16 HB_17
  have HM_27 := Lib.hid (hrd4.wide (Nat.zero_le _) (Nat.le_refl _))
  clear hrd4
  clear hbt
  have HEM_28 := Lib.hid (Blk.new w5 25 #[.int .i64 N2, .int .i64 T2, .int .i64 S2, .slice A4 k2 c4])
  have hbt := up_alloc (Below.refl _ w5) (.cells #[.int .i64 N2, .int .i64 T2, .int .i64 S2, .slice A4 k2 c4] 25)
  have hs_6 : (w5.alloc (.cells #[.int .i64 N2, .int .i64 T2, .int .i64 S2, .slice A4 k2 c4] 25)).heap.size = w5.heap.size + 1 := by simp
  have a_29 := HEW_23.out.cell 0
  have a_30 := HEW_23.out.cell 1
  have a_31 := HEW_23.out.cell 2
  have a_32 := HEW_23.out.cell 3
  have HEV_33 := Lib.hid (HEV_22.out.below hbt HEV_22.out.lt)
  have HEW_34 := Lib.hid (HEW_23.out.below hbt HEW_23.out.lt)
  clear HEV_22 HEW_23
  have HL_35 := Lib.hid (HL_24.out.keep hbt (by omega))
  have HW_36 := Lib.hid (HW_25.out.keep hbt (by omega))
  have HM_37 := Lib.hid (HM_27.out.keep hbt (by omega))
  have HB_38 := Lib.hid (up HB_26.out hbt)
  have hz_6 := hbt.size
  clear HL_24 HW_25 HM_27 HB_26
  clear hbt
  have a_39 := HEW_34.out.cell 0
  have a_40 := HEW_34.out.cell 1
  have a_41 := HEW_34.out.cell 2
  have a_42 := HEW_34.out.cell 3
  go_wp2_with (fail)
  try clear a_29 a_30 a_31 a_32 a_39 a_40 a_41 a_42
  generalize w5.alloc (.cells #[.int .i64 N2, .int .i64 T2, .int .i64 S2, .slice A4 k2 c4] 25) = w6 at *
  have hgM := HEM_28.out.lt
  (with_reducible refine (equalSnap_same N2 T2 S2 0 _ _ _ 0 _ _ _ _ _ _ HW_36.out (by omega) (by omega) HM_37.out (by omega)).mono ?_)
  rintro e w7 ⟨rfl, hbt⟩
  have HEV_43 := Lib.hid (HEV_33.out.below hbt HEV_33.out.lt)
  have HEW_44 := Lib.hid (HEW_34.out.below hbt HEW_34.out.lt)
  have HEM_45 := Lib.hid (HEM_28.out.below hbt HEM_28.out.lt)
  clear HEV_33 HEW_34 HEM_28
  have HL_46 := Lib.hid (HL_35.out.keep hbt (by omega))
  have HW_47 := Lib.hid (HW_36.out.keep hbt (by omega))
  have HM_48 := Lib.hid (HM_37.out.keep hbt (by omega))
  have HB_49 := Lib.hid (up HB_38.out hbt)
  have hz_7 := hbt.size
  clear HL_35 HW_36 HM_37 HB_38
  clear hbt
  cases b with
  | false =>
    have a_50 := HEW_44.out.cell 0
    have a_51 := HEW_44.out.cell 1
    have a_52 := HEW_44.out.cell 2
    have a_53 := HEW_44.out.cell 3
    have a_54 := HEM_45.out.cell 0
    have a_55 := HEM_45.out.cell 1
    have a_56 := HEM_45.out.cell 2
    have a_57 := HEM_45.out.cell 3
    go_wp2_with (fail)
    try clear a_50 a_51 a_52 a_53 a_54 a_55 a_56 a_57
    (with_reducible refine (equalSnap_same N2 T2 S2 0 _ _ _ 0 _ _ _ _ _ _ HW_47.out (by omega) (by omega) HM_48.out (by omega)).mono ?_)
    rintro e w8 ⟨rfl, hbt⟩
    have HEV_58 := Lib.hid (HEV_43.out.below hbt HEV_43.out.lt)
    have HEW_59 := Lib.hid (HEW_44.out.below hbt HEW_44.out.lt)
    have HEM_60 := Lib.hid (HEM_45.out.below hbt HEM_45.out.lt)
    clear HEV_43 HEW_44 HEM_45
    have HL_61 := Lib.hid (HL_46.out.keep hbt (by omega))
    have HW_62 := Lib.hid (HW_47.out.keep hbt (by omega))
    have HM_63 := Lib.hid (HM_48.out.keep hbt (by omega))
    have HB_64 := Lib.hid (up HB_49.out hbt)
    have hz_8 := hbt.size
    clear HL_46 HW_47 HM_48 HB_49
    clear hbt
    go_wp2
    go_ret
    exact ⟨rfl, HB_64.out⟩
  | true =>
    have HST := Lib.hid (comp_state HU.out)
    have HV2 := Lib.hid (comp_ok HU.out)
    have hex : ∃ kk : Nat, z = (kk : Int) ∧ kk ≤ ps.length ∧ vSnap N T S ps = true ∧ vSnap N2 T2 S2 R2 = true ∧ N2 = N + kk := by
      obtain ⟨kk, h1, h2, h3, h4, h5, _⟩ := comp_ok HU.out
      exact ⟨kk, h1, h2, h3, h4, h5⟩
    obtain ⟨kk, hzk, hkl, hv, hv2, hN2⟩ := hex
    have HVV := Lib.hid hv2
    have hq1 := HST.out.2
    rw [HPL.out, HK2.out] at hq1
    have HQ1 := Lib.hid HST.out.1
    obtain ⟨n0, n1⟩ := (vSnap_iff.1 hv).1
    generalize hqq : stateOf N T S ps = q at *
    have HQ2 := Lib.hid hqq
    clear hqq hv hv2 HST HV2
    have w1' : IntKind.i64.wrap (N2 + (k2 : Int)) = N2 + (k2 : Int) := IntWalk.i64_in _ (by omega)
    have w2' : IntKind.i64.wrap (N + (m : Int)) = N + (m : Int) := IntWalk.i64_in _ (by omega)
    have w3' : IntKind.i64.wrap (N + z) = N + z := IntWalk.i64_in _ (by omega)
    have b1 : (N2 + (k2 : Int) == N + (m : Int)) = true := by rw [beq_iff_eq]; exact hq1
    have b2 : (N2 == N + z) = true := by rw [beq_iff_eq]; omega
    have b3 : (q == q) = true := by simp
    clear hq1 hN2 hzk hkl
    have HSW := Lib.hid (show ∀ wx, Below w7.heap.size w7 wx → wx.cell? ⟨w3.heap.size, 0, none⟩ = some (.int .i64 N2) ∧ wx.cell? ⟨w3.heap.size, 1, none⟩ = some (.int .i64 T2) ∧ wx.cell? ⟨w3.heap.size, 2, none⟩ = some (.int .i64 S2) ∧ wx.cell? ⟨w3.heap.size, 3, none⟩ = some (.slice A3 k2 c3) ∧ wx.cell? ⟨w1.heap.size, 0, none⟩ = some (.int .i64 N) ∧ wx.cell? ⟨w1.heap.size, 1, none⟩ = some (.int .i64 T) ∧ wx.cell? ⟨w1.heap.size, 2, none⟩ = some (.int .i64 S) ∧ wx.cell? ⟨w1.heap.size, 3, none⟩ = some (.slice A1 m c1) from fun wx hb => ⟨(hb.cell (by show w3.heap.size < w7.heap.size; omega)).trans (HEW_44.out.cell 0), (hb.cell (by show w3.heap.size < w7.heap.size; omega)).trans (HEW_44.out.cell 1), (hb.cell (by show w3.heap.size < w7.heap.size; omega)).trans (HEW_44.out.cell 2), (hb.cell (by show w3.heap.size < w7.heap.size; omega)).trans (HEW_44.out.cell 3), (hb.cell (by show w1.heap.size < w7.heap.size; omega)).trans (HEV_43.out.cell 0), (hb.cell (by show w1.heap.size < w7.heap.size; omega)).trans (HEV_43.out.cell 1), (hb.cell (by show w1.heap.size < w7.heap.size; omega)).trans (HEV_43.out.cell 2), (hb.cell (by show w1.heap.size < w7.heap.size; omega)).trans (HEV_43.out.cell 3)⟩)
    have HC0 := Lib.hid (show ∀ wx, Below w7.heap.size w7 wx → Calls Try.prog 16 #[.agg #[.int .i64 N2, .int .i64 T2, .int .i64 S2, .slice A3 k2 c3]] wx fun e w' => e = .returned (.int .i64 q) ∧ Below w7.heap.size w7 w' from fun wx hb => (StateOfI_any N2 T2 S2 0 _ k2 c3 A3 R2 wx (HW_47.out.keep hb (by omega)) (Nat.le_trans (by omega) hb.size) (by omega) (by omega)).mono fun e w' ⟨h1, h2⟩ => ⟨by rw [h1, HQ1.out], up hb h2⟩)
    have HC1 := Lib.hid (show ∀ wx, Below w7.heap.size w7 wx → Calls Try.prog 16 #[.agg #[.int .i64 N, .int .i64 T, .int .i64 S, .slice A1 m c1]] wx fun e w' => e = .returned (.int .i64 q) ∧ Below w7.heap.size w7 w' from fun wx hb => (StateOfI_any N T S 0 _ m c1 A1 ps wx (HL_46.out.keep hb (by omega)) (Nat.le_trans (by omega) hb.size) (by omega) (by omega)).mono fun e w' ⟨h1, h2⟩ => ⟨by rw [h1, HQ2.out], up hb h2⟩)
    have HC2 := Lib.hid (show ∀ wx, Below w7.heap.size w7 wx → Calls Try.prog 13 #[.agg #[.int .i64 N2, .int .i64 T2, .int .i64 S2, .slice A3 k2 c3]] wx fun e w' => e = .returned (.bool true) ∧ Below w7.heap.size w7 w' from fun wx hb => (ValidSnapI_any N2 T2 S2 0 _ k2 c3 A3 R2 wx (HW_47.out.keep hb (by omega)) (Nat.le_trans (by omega) hb.size) (by omega) (by omega)).mono fun e w' ⟨h1, h2⟩ => ⟨by rw [h1, HVV.out], up hb h2⟩)
    obtain ⟨kk0, kk1, kk2, kk3, kk4, kk5, kk6, kk7⟩ := HSW.out _ (Below.refl _ _)
    go_wp2_with (fail)
    clear kk0 kk1 kk2 kk3 kk4 kk5 kk6 kk7
    go_region_held3 (fun wx => wx.cell? ⟨w3.heap.size, 0, none⟩ = some (.int .i64 N2) ∧ wx.cell? ⟨w3.heap.size, 1, none⟩ = some (.int .i64 T2) ∧ wx.cell? ⟨w3.heap.size, 2, none⟩ = some (.int .i64 S2) ∧ wx.cell? ⟨w3.heap.size, 3, none⟩ = some (.slice A3 k2 c3) ∧ wx.cell? ⟨w1.heap.size, 0, none⟩ = some (.int .i64 N) ∧ wx.cell? ⟨w1.heap.size, 1, none⟩ = some (.int .i64 T) ∧ wx.cell? ⟨w1.heap.size, 2, none⟩ = some (.int .i64 S) ∧ wx.cell? ⟨w1.heap.size, 3, none⟩ = some (.slice A1 m c1))
      (first | with_reducible exact HSW.out _ (Below.refl _ _) | with_reducible exact HSW.out _ (up_drew (Below.refl _ _)) | with_reducible exact HSW.out _ (HX0.out) | with_reducible exact HSW.out _ (HX1.out) | with_reducible exact HSW.out _ (HX2.out))
      ((first
        | (go_at_call 16; (with_reducible refine (HC0.out _ (up_drew (Below.refl _ _))).mono ?_); rintro e x0 ⟨rfl, hbx⟩; have HX0 := Lib.hid hbx; clear hbx)
        | (go_at_call 16; (with_reducible refine (HC1.out _ (up_drew (Below.refl _ _))).mono ?_); rintro e x1 ⟨rfl, hbx⟩; have HX1 := Lib.hid hbx; clear hbx)
        | (go_at_call 16; (with_reducible refine (HC1.out _ HX0.out).mono ?_); rintro e x1 ⟨rfl, hbx⟩; have HX1 := Lib.hid hbx; clear hbx)
        | (go_at_call 13; (with_reducible refine (HC2.out _ (up_drew (Below.refl _ _))).mono ?_); rintro e x2 ⟨rfl, hbx⟩; have HX2 := Lib.hid hbx; clear hbx)
        | (go_at_call 13; (with_reducible refine (HC2.out _ HX0.out).mono ?_); rintro e x2 ⟨rfl, hbx⟩; have HX2 := Lib.hid hbx; clear hbx)
        | (go_at_call 13; (with_reducible refine (HC2.out _ HX1.out).mono ?_); rintro e x2 ⟨rfl, hbx⟩; have HX2 := Lib.hid hbx; clear hbx)
        | fail "no arm"))
    all_goals
      go_wp2
      go_ret
      exact ⟨rfl, up HB_49.out HX2.out⟩
end Go.Proofs.Ythoccppfedmcjaa
