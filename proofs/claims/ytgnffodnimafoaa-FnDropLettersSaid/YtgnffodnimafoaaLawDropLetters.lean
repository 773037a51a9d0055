/- The law FnDropLetters, walked: it returns true. (Written by a program over gen/lawlib.py.) -/
import Derived.Test.YtgnffodnimafoaaDrawT3
import Derived.Test.YtgnffodnimafoaaSendI
import Derived.Test.YtgnffodnimafoaaDropI
import Derived.Test.YtgnffodnimafoaaEqPost
import Derived.Test.YtgnffodnimafoaaLawPostM
import Derived.Test.YtgnffodnimafoaaLawPostN
import Derived.Test.YtgnffodnimafoaaPostO
import Derived.BigQuiet
import Derived.Deep.RegionLaw
import Derived.Test.YtgnffodnimafoaaDrawT4
import Derived.Test.YtgnffodnimafoaaLawPostD
import Derived.Test.YtgnffodnimafoaaLawPostE
import Derived.Test.YtgnffodnimafoaaEqLists
set_option linter.unusedSimpArgs false
set_option linter.unusedVariables false
namespace Go.Proofs.Ytgnffodnimafoaa
open Go.RowKit

set_option maxRecDepth 100000 in
set_option maxHeartbeats 6400000 in
theorem lawDropLetters_any (n c : Nat) (A : Option Addr) (xs : List Int) (w : World) (hr : Rd w 0 w.heap.size 1 A n (bvs xs)) (hby : Bytes xs) (hc : n ≤ c) (hc2 : c ≤ 9223372036854775807) :
    Calls Try.prog 3 #[.slice A n c] w fun e w' => e = .returned (.bool true) ∧ Below w.heap.size w w' := by
  by_cases hbig : (1048576 : Int) < n
  · go_enter Try.func3, Try.ntmps3
    go_wp2
    go_ret
    exact ⟨rfl, Below.refl _ _⟩
  go_enter Try.func3, Try.ntmps3
  go_wp2_with (fail)
  (with_reducible refine (drawDropLetters_any n c A xs w hr hby (by omega) hc hc2).mono ?_)
  rintro e w1 ⟨A1, n1, c1, A2, n2, c2, ns, fs, z, rfl, hz0, hz1, hoff⟩
  clear hbig hr
  obtain ⟨hn1, hn2, hk1, hk2, hrd1, hrd2, hb1⟩ := hoff
  have HB_0 := Lib.hid hb1
  have hz_1 := hb1.size
  clear hb1
  have HL1 := Lib.hid hrd1.len3
  have HL2 := Lib.hid hrd2.len3
  have HX1_1 := Lib.hid (hrd1.wide (Nat.zero_le _) (Nat.le_refl _))
  clear hrd1
  have HX2_2 := Lib.hid (hrd2.wide (Nat.zero_le _) (Nat.le_refl _))
  clear hrd2
  obtain ⟨⟨d1, d2⟩, hU⟩ : ∃ u, dropOf ns fs z = u := ⟨_, rfl⟩
  have hlen := drop_lens ns fs z
  rw [hU] at hlen
  obtain ⟨hm1, hm2⟩ := hlen
  dsimp only at hm1 hm2
  rw [HL1.out] at hm1
  rw [HL2.out] at hm2
  have HU := Lib.hid hU
  clear hU
  obtain ⟨m1, hD1⟩ : ∃ m, d1.length = m := ⟨_, rfl⟩
  obtain ⟨m2, hD2⟩ : ∃ m, d2.length = m := ⟨_, rfl⟩
  rw [hD1] at hm1
  rw [hD2] at hm2
  have HD1 := Lib.hid hD1
  have HD2 := Lib.hid hD2
  clear hD1 hD2
  cases hV : vPost ns fs with
  | false =>
    have HV := Lib.hid hV
    clear hV
    have HEX_3 := Lib.hid (Blk.new w1 26 #[.slice A1 n1 c1, .slice A2 n2 c2])
    have hbt := up_alloc (Below.refl _ w1) (.cells #[.slice A1 n1 c1, .slice A2 n2 c2] 26)
    have hs_2 : (w1.alloc (.cells #[.slice A1 n1 c1, .slice A2 n2 c2] 26)).heap.size = w1.heap.size + 1 := by simp
    have HX1_4 := Lib.hid (HX1_1.out.keep hbt (by omega))
    have HX2_5 := Lib.hid (HX2_2.out.keep hbt (by omega))
    have HB_6 := Lib.hid (up HB_0.out hbt)
    have hz_2 := hbt.size
    clear HX1_1 HX2_2 HB_0
    clear hbt
    go_wp2_with (fail)
    generalize (w1.alloc (.cells #[.slice A1 n1 c1, .slice A2 n2 c2] 26)) = w2 at *
    (with_reducible refine (dropI_at (Below.refl _ _) 0 _ n1 c1 A1 ns 0 _ n2 c2 A2 fs z HX1_4.out (by omega) (by omega) HX2_5.out (by omega) (by omega) HU.out HD1.out HD2.out).mono ?_)
    rintro e w3 ⟨AY1, cY1, AY2, cY2, rfl, hr1, hr2, hbt⟩
    have HEX_7 := Lib.hid (HEX_3.out.below hbt HEX_3.out.lt)
    clear HEX_3
    have HX1_8 := Lib.hid (HX1_4.out.keep hbt (by omega))
    have HX2_9 := Lib.hid (HX2_5.out.keep hbt (by omega))
    have HB_10 := Lib.hid (up HB_6.out hbt)
    have hz_3 := hbt.size
    clear HX1_4 HX2_5 HB_6
    clear hbt
    have HY1_11 := Lib.hid (hr1.wide (Nat.zero_le _) (Nat.le_refl _))
    clear hr1
    have HY2_12 := Lib.hid (hr2.wide (Nat.zero_le _) (Nat.le_refl _))
    clear hr2
    have HEY_13 := Lib.hid (Blk.new w3 26 #[.slice AY1 m1 cY1, .slice AY2 m2 cY2])
    have hbt := up_alloc (Below.refl _ w3) (.cells #[.slice AY1 m1 cY1, .slice AY2 m2 cY2] 26)
    have hs_4 : (w3.alloc (.cells #[.slice AY1 m1 cY1, .slice AY2 m2 cY2] 26)).heap.size = w3.heap.size + 1 := by simp
    have a_14 := HEX_7.out.cell 0
    have a_15 := HEX_7.out.cell 1
    have HEX_16 := Lib.hid (HEX_7.out.below hbt HEX_7.out.lt)
    clear HEX_7
    have HX1_17 := Lib.hid (HX1_8.out.keep hbt (by omega))
    have HX2_18 := Lib.hid (HX2_9.out.keep hbt (by omega))
    have HY1_19 := Lib.hid (HY1_11.out.keep hbt (by omega))
    have HY2_20 := Lib.hid (HY2_12.out.keep hbt (by omega))
    have HB_21 := Lib.hid (up HB_10.out hbt)
    have hz_4 := hbt.size
    clear HX1_8 HX2_9 HY1_11 HY2_12 HB_10
    clear hbt
    have a_22 := HEX_16.out.cell 0
    have a_23 := HEX_16.out.cell 1
    go_wp2_with (fail)
    try clear a_14 a_15 a_22 a_23
    generalize (w3.alloc (.cells #[.slice AY1 m1 cY1, .slice AY2 m2 cY2] 26)) = w4 at *
    have HC0 := Lib.hid (show ∀ wx, Below w4.heap.size w4 wx → Calls Try.prog 15 #[.agg #[.slice A1 n1 c1, .slice A2 n2 c2], .int .i64 (z)] wx (KnownD d1 d2 m1 m2 w4) from fun wx hb => dropS_at hb (DropLettersS_any 0 _ n1 c1 A1 ns 0 _ n2 c2 A2 fs (z) wx (HX1_17.out.keep hb (by omega)) (Nat.le_trans (by omega) hb.size) (by omega) (HX2_18.out.keep hb (by omega)) (Nat.le_trans (by omega) hb.size) (by omega)) HU.out HD1.out HD2.out)
    have HC1 := Lib.hid (show ∀ wx E1 p1 E2 p2, Below w4.heap.size w4 wx → Rd wx 0 wx.heap.size 3 E1 m1 (tvs d1) → Rd wx 0 wx.heap.size 3 E2 m2 (tvs d2) → Calls Try.prog 14 #[.agg #[.slice AY1 m1 cY1, .slice AY2 m2 cY2], .agg #[.slice E1 m1 p1, .slice E2 m2 p2]] wx (fun e w' => e = .returned (.bool true) ∧ Below w4.heap.size w4 w') from fun wx E1 p1 E2 p2 hb h1 h2 => (equalPost_same 0 _ m1 cY1 0 _ m2 cY2 0 _ p1 0 _ p2 AY1 AY2 E1 E2 d1 d2 wx (HY1_19.out.keep hb (by omega)) (Nat.le_trans (by omega) hb.size) (by omega) (HY2_20.out.keep hb (by omega)) (Nat.le_trans (by omega) hb.size) (by omega) h1 (Nat.le_refl _) h2 (Nat.le_refl _)).mono fun e w' ⟨h3, h4⟩ => ⟨h3, up hb h4⟩)
    have HC2 := Lib.hid (show ∀ wx, Below w4.heap.size w4 wx → Calls Try.prog 16 #[.agg #[.slice A1 n1 c1, .slice A2 n2 c2]] wx (fun e w' => e = .returned (.bool false) ∧ Below w4.heap.size w4 w') from fun wx hb => (ValidPostI_any 0 _ n1 c1 A1 ns 0 _ n2 c2 A2 fs wx (HX1_17.out.keep hb (by omega)) (Nat.le_trans (by omega) hb.size) (by omega) (HX2_18.out.keep hb (by omega)) (Nat.le_trans (by omega) hb.size) (by omega)).mono fun e w' ⟨h3, h4⟩ => ⟨by rw [h3, HV.out], up hb h4⟩)
    have HSW := Lib.hid (show ∀ wx, Below w4.heap.size w4 wx → wx.cell? ⟨w1.heap.size, 0, none⟩ = some (.slice A1 n1 c1) ∧ wx.cell? ⟨w1.heap.size, 1, none⟩ = some (.slice A2 n2 c2) ∧ wx.cell? ⟨w3.heap.size, 0, none⟩ = some (.slice AY1 m1 cY1) ∧ wx.cell? ⟨w3.heap.size, 1, none⟩ = some (.slice AY2 m2 cY2) from fun wx hb => ⟨(hb.cell (by show w1.heap.size < w4.heap.size; omega)).trans (HEX_16.out.cell 0), (hb.cell (by show w1.heap.size < w4.heap.size; omega)).trans (HEX_16.out.cell 1), (hb.cell (by show w3.heap.size < w4.heap.size; omega)).trans (HEY_13.out.cell 0), (hb.cell (by show w3.heap.size < w4.heap.size; omega)).trans (HEY_13.out.cell 1)⟩)
    obtain ⟨kk0, kk1, kk2, kk3⟩ := HSW.out _ (Below.refl _ _)
    clear kk0 kk1 kk2 kk3
    go_region_held3 (fun wx => wx.cell? ⟨w1.heap.size, 0, none⟩ = some (.slice A1 n1 c1) ∧ wx.cell? ⟨w1.heap.size, 1, none⟩ = some (.slice A2 n2 c2) ∧ wx.cell? ⟨w3.heap.size, 0, none⟩ = some (.slice AY1 m1 cY1) ∧ wx.cell? ⟨w3.heap.size, 1, none⟩ = some (.slice AY2 m2 cY2))
      (first | with_reducible exact HSW.out _ (Below.refl _ _) | with_reducible exact HSW.out _ (up_drew (Below.refl _ _)) | with_reducible exact HSW.out _ (HX0.out) | with_reducible exact HSW.out _ (HX1.out) | with_reducible exact HSW.out _ (HX2.out))
      ((first
        | (go_at_call 15; (with_reducible refine (HC0.out _ (up_drew (Below.refl _ _))).mono ?_); rintro e x0 ⟨E1, p1, E2, p2, rfl, hE1, hE2, hbx⟩; have HX0 := Lib.hid hbx; have HE1 := Lib.hid hE1; have HE2 := Lib.hid hE2; clear hbx hE1 hE2)
        | (go_at_call 14; (with_reducible refine (HC1.out _ _ _ _ _ HX0.out HE1.out HE2.out).mono ?_); rintro e x1 ⟨rfl, hbx⟩; have HX1 := Lib.hid hbx; clear hbx)
        | (go_at_call 16; (with_reducible refine (HC2.out _ HX1.out).mono ?_); rintro e w5 ⟨rfl, hbx⟩; have HX2 := Lib.hid hbx; clear hbx)
        | fail "no arm"))
    have hbt := HX2.out
    have HEX_24 := Lib.hid (HEX_16.out.below hbt HEX_16.out.lt)
    have HEY_25 := Lib.hid (HEY_13.out.below hbt HEY_13.out.lt)
    clear HEX_16 HEY_13
    have HX1_26 := Lib.hid (HX1_17.out.keep hbt (by omega))
    have HX2_27 := Lib.hid (HX2_18.out.keep hbt (by omega))
    have HY1_28 := Lib.hid (HY1_19.out.keep hbt (by omega))
    have HY2_29 := Lib.hid (HY2_20.out.keep hbt (by omega))
    have HB_30 := Lib.hid (up HB_21.out hbt)
    have hz_5 := hbt.size
    clear HX1_17 HX2_18 HY1_19 HY2_20 HB_21
    clear hbt HSW HX0 HX1 HX2 HC0 HC1 HC2
    try clear HE1 HE2
    have HC0 := Lib.hid (show ∀ wx, Below w5.heap.size w5 wx → Calls Try.prog 15 #[.agg #[.slice A1 n1 c1, .slice A2 n2 c2], .int .i64 (z)] wx (KnownD d1 d2 m1 m2 w5) from fun wx hb => dropS_at hb (DropLettersS_any 0 _ n1 c1 A1 ns 0 _ n2 c2 A2 fs (z) wx (HX1_26.out.keep hb (by omega)) (Nat.le_trans (by omega) hb.size) (by omega) (HX2_27.out.keep hb (by omega)) (Nat.le_trans (by omega) hb.size) (by omega)) HU.out HD1.out HD2.out)
    have HC1 := Lib.hid (show ∀ wx E1 p1 E2 p2, Below w5.heap.size w5 wx → Rd wx 0 wx.heap.size 3 E1 m1 (tvs d1) → Rd wx 0 wx.heap.size 3 E2 m2 (tvs d2) → Calls Try.prog 14 #[.agg #[.slice AY1 m1 cY1, .slice AY2 m2 cY2], .agg #[.slice E1 m1 p1, .slice E2 m2 p2]] wx (fun e w' => e = .returned (.bool true) ∧ Below w5.heap.size w5 w') from fun wx E1 p1 E2 p2 hb h1 h2 => (equalPost_same 0 _ m1 cY1 0 _ m2 cY2 0 _ p1 0 _ p2 AY1 AY2 E1 E2 d1 d2 wx (HY1_28.out.keep hb (by omega)) (Nat.le_trans (by omega) hb.size) (by omega) (HY2_29.out.keep hb (by omega)) (Nat.le_trans (by omega) hb.size) (by omega) h1 (Nat.le_refl _) h2 (Nat.le_refl _)).mono fun e w' ⟨h3, h4⟩ => ⟨h3, up hb h4⟩)
    have HSW := Lib.hid (show ∀ wx, Below w5.heap.size w5 wx → wx.cell? ⟨w1.heap.size, 0, none⟩ = some (.slice A1 n1 c1) ∧ wx.cell? ⟨w1.heap.size, 1, none⟩ = some (.slice A2 n2 c2) ∧ wx.cell? ⟨w3.heap.size, 0, none⟩ = some (.slice AY1 m1 cY1) ∧ wx.cell? ⟨w3.heap.size, 1, none⟩ = some (.slice AY2 m2 cY2) from fun wx hb => ⟨(hb.cell (by show w1.heap.size < w5.heap.size; omega)).trans (HEX_24.out.cell 0), (hb.cell (by show w1.heap.size < w5.heap.size; omega)).trans (HEX_24.out.cell 1), (hb.cell (by show w3.heap.size < w5.heap.size; omega)).trans (HEY_25.out.cell 0), (hb.cell (by show w3.heap.size < w5.heap.size; omega)).trans (HEY_25.out.cell 1)⟩)
    obtain ⟨kk0, kk1, kk2, kk3⟩ := HSW.out _ (Below.refl _ _)
    go_wp2_with (fail)
    clear kk0 kk1 kk2 kk3
    go_region_held3 (fun wx => wx.cell? ⟨w1.heap.size, 0, none⟩ = some (.slice A1 n1 c1) ∧ wx.cell? ⟨w1.heap.size, 1, none⟩ = some (.slice A2 n2 c2) ∧ wx.cell? ⟨w3.heap.size, 0, none⟩ = some (.slice AY1 m1 cY1) ∧ wx.cell? ⟨w3.heap.size, 1, none⟩ = some (.slice AY2 m2 cY2))
      (first | with_reducible exact HSW.out _ (Below.refl _ _) | with_reducible exact HSW.out _ (up_drew (Below.refl _ _)) | with_reducible exact HSW.out _ (HX0.out) | with_reducible exact HSW.out _ (HX1.out))
      ((first
        | (go_at_call 15; (with_reducible refine (HC0.out _ (up_drew (Below.refl _ _))).mono ?_); rintro e x0 ⟨E1, p1, E2, p2, rfl, hE1, hE2, hbx⟩; have HX0 := Lib.hid hbx; have HE1 := Lib.hid hE1; have HE2 := Lib.hid hE2; clear hbx hE1 hE2)
        | (go_at_call 14; (with_reducible refine (HC1.out _ _ _ _ _ HX0.out HE1.out HE2.out).mono ?_); rintro e x1 ⟨rfl, hbx⟩; have HX1 := Lib.hid hbx; clear hbx)
        | fail "no arm"))
    all_goals
      go_wp2
      go_ret
      exact ⟨rfl, up HB_30.out HX1.out⟩
  | true =>
    have hd := HU.out.symm.trans (drop_yes hV z)
    injection hd with e1 e2
    replace e1 := e1.symm
    subst e1
    have HE2K := Lib.hid e2
    have HU2 := Lib.hid (show dropOf ns d2 z = (ns, d2) by rw [e2]; exact drop_twice hV z)
    have HV := Lib.hid hV
    clear e2 hV
    have HEX_31 := Lib.hid (Blk.new w1 26 #[.slice A1 n1 c1, .slice A2 n2 c2])
    have hbt := up_alloc (Below.refl _ w1) (.cells #[.slice A1 n1 c1, .slice A2 n2 c2] 26)
    have hs_2 : (w1.alloc (.cells #[.slice A1 n1 c1, .slice A2 n2 c2] 26)).heap.size = w1.heap.size + 1 := by simp
    have HX1_32 := Lib.hid (HX1_1.out.keep hbt (by omega))
    have HX2_33 := Lib.hid (HX2_2.out.keep hbt (by omega))
    have HB_34 := Lib.hid (up HB_0.out hbt)
    have hz_2 := hbt.size
    clear HX1_1 HX2_2 HB_0
    clear hbt
    go_wp2_with (fail)
    generalize (w1.alloc (.cells #[.slice A1 n1 c1, .slice A2 n2 c2] 26)) = w2 at *
    (with_reducible refine (dropI_at (Below.refl _ _) 0 _ n1 c1 A1 ns 0 _ n2 c2 A2 fs z HX1_32.out (by omega) (by omega) HX2_33.out (by omega) (by omega) HU.out HD1.out HD2.out).mono ?_)
    rintro e w3 ⟨AY1, cY1, AY2, cY2, rfl, hr1, hr2, hbt⟩
    have HEX_35 := Lib.hid (HEX_31.out.below hbt HEX_31.out.lt)
    clear HEX_31
    have HX1_36 := Lib.hid (HX1_32.out.keep hbt (by omega))
    have HX2_37 := Lib.hid (HX2_33.out.keep hbt (by omega))
    have HB_38 := Lib.hid (up HB_34.out hbt)
    have hz_3 := hbt.size
    clear HX1_32 HX2_33 HB_34
    clear hbt
    have HY1_39 := Lib.hid (hr1.wide (Nat.zero_le _) (Nat.le_refl _))
    clear hr1
    have HY2_40 := Lib.hid (hr2.wide (Nat.zero_le _) (Nat.le_refl _))
    clear hr2
    have HEY_41 := Lib.hid (Blk.new w3 26 #[.slice AY1 m1 cY1, .slice AY2 m2 cY2])
    have hbt := up_alloc (Below.refl _ w3) (.cells #[.slice AY1 m1 cY1, .slice AY2 m2 cY2] 26)
    have hs_4 : (w3.alloc (.cells #[.slice AY1 m1 cY1, .slice AY2 m2 cY2] 26)).heap.size = w3.heap.size + 1 := by simp
    have a_42 := HEX_35.out.cell 0
    have a_43 := HEX_35.out.cell 1
    have HEX_44 := Lib.hid (HEX_35.out.below hbt HEX_35.out.lt)
    clear HEX_35
    have HX1_45 := Lib.hid (HX1_36.out.keep hbt (by omega))
    have HX2_46 := Lib.hid (HX2_37.out.keep hbt (by omega))
    have HY1_47 := Lib.hid (HY1_39.out.keep hbt (by omega))
    have HY2_48 := Lib.hid (HY2_40.out.keep hbt (by omega))
    have HB_49 := Lib.hid (up HB_38.out hbt)
    have hz_4 := hbt.size
    clear HX1_36 HX2_37 HY1_39 HY2_40 HB_38
    clear hbt
    have a_50 := HEX_44.out.cell 0
    have a_51 := HEX_44.out.cell 1
    go_wp2_with (fail)
    try clear a_42 a_43 a_50 a_51
    generalize (w3.alloc (.cells #[.slice AY1 m1 cY1, .slice AY2 m2 cY2] 26)) = w4 at *
    have HC0 := Lib.hid (show ∀ wx, Below w4.heap.size w4 wx → Calls Try.prog 15 #[.agg #[.slice A1 n1 c1, .slice A2 n2 c2], .int .i64 (z)] wx (KnownD ns d2 m1 m2 w4) from fun wx hb => dropS_at hb (DropLettersS_any 0 _ n1 c1 A1 ns 0 _ n2 c2 A2 fs (z) wx (HX1_45.out.keep hb (by omega)) (Nat.le_trans (by omega) hb.size) (by omega) (HX2_46.out.keep hb (by omega)) (Nat.le_trans (by omega) hb.size) (by omega)) HU.out HD1.out HD2.out)
    have HC1 := Lib.hid (show ∀ wx E1 p1 E2 p2, Below w4.heap.size w4 wx → Rd wx 0 wx.heap.size 3 E1 m1 (tvs ns) → Rd wx 0 wx.heap.size 3 E2 m2 (tvs d2) → Calls Try.prog 14 #[.agg #[.slice AY1 m1 cY1, .slice AY2 m2 cY2], .agg #[.slice E1 m1 p1, .slice E2 m2 p2]] wx (fun e w' => e = .returned (.bool true) ∧ Below w4.heap.size w4 w') from fun wx E1 p1 E2 p2 hb h1 h2 => (equalPost_same 0 _ m1 cY1 0 _ m2 cY2 0 _ p1 0 _ p2 AY1 AY2 E1 E2 ns d2 wx (HY1_47.out.keep hb (by omega)) (Nat.le_trans (by omega) hb.size) (by omega) (HY2_48.out.keep hb (by omega)) (Nat.le_trans (by omega) hb.size) (by omega) h1 (Nat.le_refl _) h2 (Nat.le_refl _)).mono fun e w' ⟨h3, h4⟩ => ⟨h3, up hb h4⟩)
    have HC2 := Lib.hid (show ∀ wx, Below w4.heap.size w4 wx → Calls Try.prog 16 #[.agg #[.slice A1 n1 c1, .slice A2 n2 c2]] wx (fun e w' => e = .returned (.bool true) ∧ Below w4.heap.size w4 w') from fun wx hb => (ValidPostI_any 0 _ n1 c1 A1 ns 0 _ n2 c2 A2 fs wx (HX1_45.out.keep hb (by omega)) (Nat.le_trans (by omega) hb.size) (by omega) (HX2_46.out.keep hb (by omega)) (Nat.le_trans (by omega) hb.size) (by omega)).mono fun e w' ⟨h3, h4⟩ => ⟨by rw [h3, HV.out], up hb h4⟩)
    have HSW := Lib.hid (show ∀ wx, Below w4.heap.size w4 wx → wx.cell? ⟨w1.heap.size, 0, none⟩ = some (.slice A1 n1 c1) ∧ wx.cell? ⟨w1.heap.size, 1, none⟩ = some (.slice A2 n2 c2) ∧ wx.cell? ⟨w3.heap.size, 0, none⟩ = some (.slice AY1 m1 cY1) ∧ wx.cell? ⟨w3.heap.size, 1, none⟩ = some (.slice AY2 m2 cY2) from fun wx hb => ⟨(hb.cell (by show w1.heap.size < w4.heap.size; omega)).trans (HEX_44.out.cell 0), (hb.cell (by show w1.heap.size < w4.heap.size; omega)).trans (HEX_44.out.cell 1), (hb.cell (by show w3.heap.size < w4.heap.size; omega)).trans (HEY_41.out.cell 0), (hb.cell (by show w3.heap.size < w4.heap.size; omega)).trans (HEY_41.out.cell 1)⟩)
    obtain ⟨kk0, kk1, kk2, kk3⟩ := HSW.out _ (Below.refl _ _)
    clear kk0 kk1 kk2 kk3
    go_region_held3 (fun wx => wx.cell? ⟨w1.heap.size, 0, none⟩ = some (.slice A1 n1 c1) ∧ wx.cell? ⟨w1.heap.size, 1, none⟩ = some (.slice A2 n2 c2) ∧ wx.cell? ⟨w3.heap.size, 0, none⟩ = some (.slice AY1 m1 cY1) ∧ wx.cell? ⟨w3.heap.size, 1, none⟩ = some (.slice AY2 m2 cY2))
      (first | with_reducible exact HSW.out _ (Below.refl _ _) | with_reducible exact HSW.out _ (up_drew (Below.refl _ _)) | with_reducible exact HSW.out _ (HX0.out) | with_reducible exact HSW.out _ (HX1.out) | with_reducible exact HSW.out _ (HX2.out))
      ((first
        | (go_at_call 15; (with_reducible refine (HC0.out _ (up_drew (Below.refl _ _))).mono ?_); rintro e x0 ⟨E1, p1, E2, p2, rfl, hE1, hE2, hbx⟩; have HX0 := Lib.hid hbx; have HE1 := Lib.hid hE1; have HE2 := Lib.hid hE2; clear hbx hE1 hE2)
        | (go_at_call 14; (with_reducible refine (HC1.out _ _ _ _ _ HX0.out HE1.out HE2.out).mono ?_); rintro e x1 ⟨rfl, hbx⟩; have HX1 := Lib.hid hbx; clear hbx)
        | (go_at_call 16; (with_reducible refine (HC2.out _ HX1.out).mono ?_); rintro e w5 ⟨rfl, hbx⟩; have HX2 := Lib.hid hbx; clear hbx)
        | fail "no arm"))
    have hbt := HX2.out
    have HEX_52 := Lib.hid (HEX_44.out.below hbt HEX_44.out.lt)
    have HEY_53 := Lib.hid (HEY_41.out.below hbt HEY_41.out.lt)
    clear HEX_44 HEY_41
    have HX1_54 := Lib.hid (HX1_45.out.keep hbt (by omega))
    have HX2_55 := Lib.hid (HX2_46.out.keep hbt (by omega))
    have HY1_56 := Lib.hid (HY1_47.out.keep hbt (by omega))
    have HY2_57 := Lib.hid (HY2_48.out.keep hbt (by omega))
    have HB_58 := Lib.hid (up HB_49.out hbt)
    have hz_5 := hbt.size
    clear HX1_45 HX2_46 HY1_47 HY2_48 HB_49
    clear hbt HSW HX0 HX1 HX2 HC0 HC1 HC2
    try clear HE1 HE2
    have a_59 := HEX_52.out.cell 0
    have a_60 := HEX_52.out.cell 1
    go_wp2
    try clear a_59 a_60
    go_loopw [6, 7] (fun nv iv wr => ∃ (k h : Nat), k ≤ n2 ∧ h ≤ k ∧ Hid ((keptOf (fs.take k) z).length = h) ∧ nv = .int .i64 h ∧ iv = .int .i64 k ∧ Hid (Below w5.heap.size w5 wr))
       (fun _ iv _ => n2 - (intOf iv).toNat)
    case atStart => exact ⟨0, 0, by omega, by omega, Lib.hid rfl, rfl, rfl, Below.refl _ _⟩
    case round =>
      obtain ⟨w6, HWR⟩ : ∃ x : World, x = wr := ⟨_, rfl⟩
      subst HWR
      obtain ⟨i, h, hi, hh, HH, rfl, rfl, HLP⟩ := hrel
      have hlb := HLP.out
      have HEX_61 := Lib.hid (HEX_52.out.below hlb HEX_52.out.lt)
      have HEY_62 := Lib.hid (HEY_53.out.below hlb HEY_53.out.lt)
      clear HEX_52 HEY_53
      have HX1_63 := Lib.hid (HX1_54.out.keep hlb (by omega))
      have HX2_64 := Lib.hid (HX2_55.out.keep hlb (by omega))
      have HY1_65 := Lib.hid (HY1_56.out.keep hlb (by omega))
      have HY2_66 := Lib.hid (HY2_57.out.keep hlb (by omega))
      have HB_67 := Lib.hid (up HB_58.out hlb)
      have hz_6 := hlb.size
      clear HX1_54 HX2_55 HY1_56 HY2_57 HB_58
      clear hlb
      have hi0 : (0 : Int) ≤ (i : Int) := by omega
      by_cases hlt : i < n2
      case neg =>
        have hge : (n2 : Int) ≤ (i : Int) := by omega
        have hhm : m2 = h := by rw [← HH.out, ← HD2.out, HE2K.out, List.take_of_length_le (by rw [HL2.out]; omega)]
        subst hhm
        have hmm : ((m2 : Int) == (m2 : Int)) = true := by simp
        have HC0 := Lib.hid (show ∀ wx, Below w6.heap.size w6 wx → Calls Try.prog 17 #[.slice AY1 m1 cY1, .slice A1 n1 c1] wx (fun e w' => e = .returned (.bool true) ∧ Below w6.heap.size w6 w') from fun wx hb => (equalSubs_any 0 _ m1 cY1 0 _ n1 c1 AY1 A1 ns ns wx (HY1_65.out.keep hb (by omega)) (Nat.le_trans (by omega) hb.size) (by omega) (HX1_63.out.keep hb (by omega)) (Nat.le_trans (by omega) hb.size) (by omega)).mono fun e w' ⟨h1, h2⟩ => ⟨by rw [h1, beq_self_eq_true], up hb h2⟩)
        have HC1 := Lib.hid (show ∀ wx, Below w6.heap.size w6 wx → Calls Try.prog 13 #[.agg #[.slice AY1 m1 cY1, .slice AY2 m2 cY2], .int .i64 (z)] wx (KnownD ns d2 m1 m2 w6) from fun wx hb => dropI_at hb 0 _ m1 cY1 AY1 ns 0 _ m2 cY2 AY2 d2 (z) (HY1_65.out.keep hb (by omega)) (Nat.le_trans (by omega) hb.size) (by omega) (HY2_66.out.keep hb (by omega)) (Nat.le_trans (by omega) hb.size) (by omega) HU2.out HD1.out HD2.out)
        have HC2 := Lib.hid (show ∀ wx E1 p1 E2 p2, Below w6.heap.size w6 wx → Rd wx 0 wx.heap.size 3 E1 m1 (tvs ns) → Rd wx 0 wx.heap.size 3 E2 m2 (tvs d2) → Calls Try.prog 14 #[.agg #[.slice E1 m1 p1, .slice E2 m2 p2], .agg #[.slice AY1 m1 cY1, .slice AY2 m2 cY2]] wx (fun e w' => e = .returned (.bool true) ∧ Below w6.heap.size w6 w') from fun wx E1 p1 E2 p2 hb h1 h2 => (equalPost_same 0 _ m1 p1 0 _ m2 p2 0 _ cY1 0 _ cY2 E1 E2 AY1 AY2 ns d2 wx h1 (Nat.le_refl _) (by omega) h2 (Nat.le_refl _) (by omega) (HY1_65.out.keep hb (by omega)) (Nat.le_trans (by omega) hb.size) (HY2_66.out.keep hb (by omega)) (Nat.le_trans (by omega) hb.size)).mono fun e w' ⟨h3, h4⟩ => ⟨h3, up hb h4⟩)
        have HSW := Lib.hid (show ∀ wx, Below w6.heap.size w6 wx → wx.cell? ⟨w1.heap.size, 0, none⟩ = some (.slice A1 n1 c1) ∧ wx.cell? ⟨w1.heap.size, 1, none⟩ = some (.slice A2 n2 c2) ∧ wx.cell? ⟨w3.heap.size, 0, none⟩ = some (.slice AY1 m1 cY1) ∧ wx.cell? ⟨w3.heap.size, 1, none⟩ = some (.slice AY2 m2 cY2) from fun wx hb => ⟨(hb.cell (by show w1.heap.size < w6.heap.size; omega)).trans (HEX_61.out.cell 0), (hb.cell (by show w1.heap.size < w6.heap.size; omega)).trans (HEX_61.out.cell 1), (hb.cell (by show w3.heap.size < w6.heap.size; omega)).trans (HEY_62.out.cell 0), (hb.cell (by show w3.heap.size < w6.heap.size; omega)).trans (HEY_62.out.cell 1)⟩)
        obtain ⟨kk0, kk1, kk2, kk3⟩ := HSW.out _ (Below.refl _ _)
        go_wp2_with (fail)
        clear kk0 kk1 kk2 kk3
        go_region_held3 (fun wx => wx.cell? ⟨w1.heap.size, 0, none⟩ = some (.slice A1 n1 c1) ∧ wx.cell? ⟨w1.heap.size, 1, none⟩ = some (.slice A2 n2 c2) ∧ wx.cell? ⟨w3.heap.size, 0, none⟩ = some (.slice AY1 m1 cY1) ∧ wx.cell? ⟨w3.heap.size, 1, none⟩ = some (.slice AY2 m2 cY2))
          (first | with_reducible exact HSW.out _ (Below.refl _ _) | with_reducible exact HSW.out _ (up_drew (Below.refl _ _)) | with_reducible exact HSW.out _ (HX0.out) | with_reducible exact HSW.out _ (HX1.out) | with_reducible exact HSW.out _ (HX2.out))
          ((first
            | (go_at_call 17; (with_reducible refine (HC0.out _ (up_drew (Below.refl _ _))).mono ?_); rintro e x0 ⟨rfl, hbx⟩; have HX0 := Lib.hid hbx; clear hbx)
            | (go_at_call 13; (with_reducible refine (HC1.out _ HX0.out).mono ?_); rintro e x1 ⟨E1, p1, E2, p2, rfl, hE1, hE2, hbx⟩; have HX1 := Lib.hid hbx; have HE1 := Lib.hid hE1; have HE2 := Lib.hid hE2; clear hbx hE1 hE2)
            | (go_at_call 14; (with_reducible refine (HC2.out _ _ _ _ _ HX1.out HE1.out HE2.out).mono ?_); rintro e x2 ⟨rfl, hbx⟩; have HX2 := Lib.hid hbx; clear hbx)
            | fail "no arm"))
        all_goals
          go_wp2
          go_ret
          exact ⟨rfl, up HB_67.out HX2.out⟩
      have him : (i : Int) < (n2 : Int) := by omega
      obtain ⟨b, off, u, v, o, hAe, hbB, _, hg, hc0, hc1', hc2'⟩ := HX2_64.out.trip (k := i) hlt
      have HG := Lib.hid hg
      clear hg
      subst hAe
      by_cases ho : z ≤ o
      case neg =>
        have hod : decide (z ≤ o) = false := decide_eq_false ho
        have HN2 := Lib.hid ((kept_no HG.out ho).trans HH.out)
        have a_68 := HEX_61.out.cell 0
        have a_69 := HEX_61.out.cell 1
        go_wp2
        go_roundw
        case rel => exact ⟨i + 1, h, by omega, by omega, HN2, rfl, by go_num, HLP.out⟩
        case measure => (simp [intOf]) <;> omega
      have hod : decide (z ≤ o) = true := decide_eq_true ho
      have hat := kept_at HG.out ho
      have HN2 := Lib.hid ((kept_yes HG.out ho).trans (congrArg (· + 1) HH.out))
      rw [HH.out, ← HE2K.out] at hat
      have hnm : h < m2 := by rw [← HD2.out]; exact (List.getElem?_eq_some_iff.1 hat).1
      have hnmi : (h : Int) < (m2 : Int) := by omega
      have hh0 : (0 : Int) ≤ (h : Int) := by omega
      obtain ⟨b2, off2, u2, v2, o2, hAe2, hbB2, _, hg2, hd0, hd1, hd2⟩ := HY2_66.out.trip (k := h) hnm
      have hx9 := Option.some.inj (hat.symm.trans hg2)
      injection hx9 with e1 hx9
      injection hx9 with e2 e3
      subst e1 e2 e3
      clear hat hg2
      subst hAe2
      have hex : (u == u) = true := by simp
      have hey : (v == v) = true := by simp
      have hez : (o == o) = true := by simp
      have a_70 := HEX_61.out.cell 0
      have a_71 := HEX_61.out.cell 1
      have a_72 := HEY_62.out.cell 0
      have a_73 := HEY_62.out.cell 1
      go_wp2_with (fail)
      go_quiet (fail)
      go_wp2
      go_roundw
      case rel => exact ⟨i + 1, h + 1, by omega, by omega, HN2, by go_num, by go_num, up_drewN HLP.out _⟩
      case measure => (simp [intOf]) <;> omega
end Go.Proofs.Ytgnffodnimafoaa
