/- The law FnOfferItemTwice, walked: it returns true. (Written by a program over gen/lawlib.py.) -/
import Derived.Test.YtipoakimjhfhfaaDrawW4
import Derived.Test.YtipoakimjhfhfaaWorkI
import Derived.Test.YtipoakimjhfhfaaWorkJ
import Derived.Test.YtipoakimjhfhfaaMayE
import Derived.Test.YtipoakimjhfhfaaEqLists
import Derived.Test.YtipoakimjhfhfaaLawLists
import Derived.Test.YtipoakimjhfhfaaLawWorkN
import Derived.BigQuiet
import Derived.Deep.RegionLaw
set_option linter.unusedSimpArgs false
set_option linter.unusedVariables false
namespace Go.Proofs.Ytipoakimjhfhfaa
open Go.RowKit

set_option maxRecDepth 100000 in
set_option maxHeartbeats 6400000 in
theorem lawOfferItemTwice_any (n c : Nat) (A : Option Addr) (xs : List Int) (w : World) (hr : Rd w 0 w.heap.size 1 A n (bvs xs)) (hby : Bytes xs) (hc : n ≤ c) (hc2 : c ≤ 9223372036854775807) :
    Calls Try.prog 6 #[.slice A n c] w fun e w' => e = .returned (.bool true) ∧ Below w.heap.size w w' := by
  by_cases hbig : (1048576 : Int) < n
  · go_enter Try.func6, Try.ntmps6
    go_wp2
    go_ret
    exact ⟨rfl, Below.refl _ _⟩
  go_enter Try.func6, Try.ntmps6
  go_wp2_with (fail)
  (with_reducible refine (drawOfferItem_any n c A xs w hr hby (by omega) hc hc2).mono ?_)
  rintro e w1 ⟨A1, m, c1, ps, z0, rfl, hm, hc1, hsm, hrd, ⟨z0a, z0b⟩, hb1⟩
  clear hbig hr
  have HB_0 := Lib.hid hb1
  have hz_1 := hb1.size
  clear hb1
  have HSM := Lib.hid hsm
  clear hsm
  have hz0 : in64 z0 := by unfold in64; omega
  have HPL := Lib.hid hrd.len3
  have HL_1 := Lib.hid (hrd.wide (Nat.zero_le _) (Nat.le_refl _))
  clear hrd
  cases hU : offerOf ps z0 with
  | none =>
    have HU := Lib.hid hU
    clear hU
    go_wp2_with (fail)
    (with_reducible refine (mayN (OfferItemI_any 0 _ m c1 A1 ps z0 _ HL_1.out (by omega) (by omega) hz0) HU.out).mono ?_)
    rintro e w2 ⟨A_2, c_3, rfl, hrt, hbt⟩
    have HO_4 := Lib.hid (hrt.wide (Nat.zero_le _) (Nat.le_refl _))
    clear hrt
    have HL_5 := Lib.hid (HL_1.out.keep hbt (by omega))
    have HB_6 := Lib.hid (up HB_0.out hbt)
    have hz_2 := hbt.size
    clear HL_1 HB_0
    clear hbt
    go_wp2_with (fail)
    (with_reducible refine (mayN (OfferItemS_any 0 _ m c1 A1 ps z0 _ HL_5.out (by omega) (by omega) hz0) HU.out).mono ?_)
    rintro e w3 ⟨A_7, c_8, rfl, hrt, hbt⟩
    have HX_9 := Lib.hid (hrt.wide (Nat.zero_le _) (Nat.le_refl _))
    clear hrt
    have HL_10 := Lib.hid (HL_5.out.keep hbt (by omega))
    have HO_11 := Lib.hid (HO_4.out.keep hbt (by omega))
    have HB_12 := Lib.hid (up HB_6.out hbt)
    have hz_3 := hbt.size
    clear HL_5 HO_4 HB_6
    clear hbt
    go_wp2_with (fail)
    (with_reducible refine (equalItems_any _ _ 0 c_3 _ _ 0 c_8 A_2 A_7 ([] : List Tri) ([] : List Tri) _ HO_11.out (by omega) (by omega) HX_9.out (by omega) (by omega)).mono ?_)
    rintro e w4 ⟨rfl, hbt⟩
    rw [beq_self_eq_true]
    have HL_13 := Lib.hid (HL_10.out.keep hbt (by omega))
    have HO_14 := Lib.hid (HO_11.out.keep hbt (by omega))
    have HX_15 := Lib.hid (HX_9.out.keep hbt (by omega))
    have HB_16 := Lib.hid (up HB_12.out hbt)
    have hz_4 := hbt.size
    clear HL_10 HO_11 HX_9 HB_12
    clear hbt
    go_wp2_with (fail)
    (with_reducible refine (equalItems_any _ _ 0 c_3 _ _ 0 c_8 A_2 A_7 ([] : List Tri) ([] : List Tri) _ HO_14.out (by omega) (by omega) HX_15.out (by omega) (by omega)).mono ?_)
    rintro e w5 ⟨rfl, hbt⟩
    rw [beq_self_eq_true]
    have HL_17 := Lib.hid (HL_13.out.keep hbt (by omega))
    have HO_18 := Lib.hid (HO_14.out.keep hbt (by omega))
    have HX_19 := Lib.hid (HX_15.out.keep hbt (by omega))
    have HB_20 := Lib.hid (up HB_16.out hbt)
    have hz_5 := hbt.size
    clear HL_13 HO_14 HX_15 HB_16
    clear hbt
    go_wp2
    go_ret
    exact ⟨rfl, HB_20.out⟩
  | some l =>
  have HU := Lib.hid hU
  obtain ⟨hv0, hvl0, hl0, _⟩ := offer_facts hU
  have HNN := Lib.hid (next_next hl0)
  have HVL := Lib.hid hvl0
  clear hv0 hvl0 hl0
  obtain ⟨hv, hvl, hl, hr0⟩ := offer_facts hU
  have HV := Lib.hid hvl
  have HVP := Lib.hid hv
  have HLL := Lib.hid (show l.length = m + 1 by rw [hl, List.length_append, HPL.out]; rfl)
  have HLG := Lib.hid (show l[m]? = some (nextNum ps, z0, 0) by rw [hl, ← HPL.out]; simp)
  have HNB := Lib.hid (nextNum_bd hv)
  have hw : IntKind.i64.wrap (((m + 1 : Nat) : Int) - 1) = (m : Int) := by rw [IntWalk.i64_in _ (by omega)]; omega
  have hm0 : (0 : Int) ≤ (m : Int) := by omega
  have hml : (m : Int) < ((m + 1 : Nat) : Int) := by omega
  have hmn : (((m + 1 : Nat) : Int) == 0) = false := by rw [beq_eq_false_iff_ne]; omega
  clear hU hv hvl hl hr0
  go_wp2_with (fail)
  (with_reducible refine (mayS (N := (m + 1)) (OfferItemI_any 0 _ m c1 A1 ps z0 _ HL_1.out (by omega) (by omega) hz0) HU.out HLL.out).mono ?_)
  rintro e w2 ⟨A_21, c_22, rfl, hk_c_22, hrt, hbt⟩
  have HO_23 := Lib.hid (hrt.wide (Nat.zero_le _) (Nat.le_refl _))
  clear hrt
  have HL_24 := Lib.hid (HL_1.out.keep hbt (by omega))
  have HB_25 := Lib.hid (up HB_0.out hbt)
  have hz_2 := hbt.size
  clear HL_1 HB_0
  clear hbt
  go_wp2_with (fail)
  (with_reducible refine (mayS (N := (m + 1)) (OfferItemS_any 0 _ m c1 A1 ps z0 _ HL_24.out (by omega) (by omega) hz0) HU.out HLL.out).mono ?_)
  rintro e w3 ⟨A_26, c_27, rfl, hk_c_27, hrt, hbt⟩
  have HX_28 := Lib.hid (hrt.wide (Nat.zero_le _) (Nat.le_refl _))
  clear hrt
  have HL_29 := Lib.hid (HL_24.out.keep hbt (by omega))
  have HO_30 := Lib.hid (HO_23.out.keep hbt (by omega))
  have HB_31 := Lib.hid (up HB_25.out hbt)
  have hz_3 := hbt.size
  clear HL_24 HO_23 HB_25
  clear hbt
  go_wp2_with (fail)
  (with_reducible refine (equalItems_any _ _ (m + 1) c_22 _ _ (m + 1) c_27 A_21 A_26 l l _ HO_30.out (by omega) (by omega) HX_28.out (by omega) (by omega)).mono ?_)
  rintro e w4 ⟨rfl, hbt⟩
  rw [beq_self_eq_true]
  have HL_32 := Lib.hid (HL_29.out.keep hbt (by omega))
  have HO_33 := Lib.hid (HO_30.out.keep hbt (by omega))
  have HX_34 := Lib.hid (HX_28.out.keep hbt (by omega))
  have HB_35 := Lib.hid (up HB_31.out hbt)
  have hz_4 := hbt.size
  clear HL_29 HO_30 HX_28 HB_31
  clear hbt
  clear HX_34
  clear HL_32
  cases hU2 : offerOf l 0 with
  | none =>
    go_wp2_with (fail)
    (with_reducible refine (mayN (OfferItemI_any 0 _ (m + 1) c_22 A_21 l 0 _ HO_33.out (by omega) (by omega) (by unfold in64; omega)) hU2).mono ?_)
    rintro e w5 ⟨A_36, c_37, rfl, hrt, hbt⟩
    clear hrt
    have HO_38 := Lib.hid (HO_33.out.keep hbt (by omega))
    have HB_39 := Lib.hid (up HB_35.out hbt)
    have hz_5 := hbt.size
    clear HO_33 HB_35
    clear hbt
    clear hU2
    go_wp2_with (fail)
    go_quiet (fail)
    go_wp2
    go_ret
    exact ⟨rfl, up_drewN HB_39.out _⟩
  | some l2 =>
  obtain ⟨_, _, hl2, _⟩ := offer_facts hU2
  have HU2 := Lib.hid hU2
  have HL2 := Lib.hid (show l2.length = m + 1 + 1 by rw [hl2, List.length_append, HLL.out]; rfl)
  have HG2 := Lib.hid (show l2[m + 1]? = some (nextNum ps + 1, 0, 0) by rw [hl2, ← HNN.out, ← HLL.out]; simp)
  clear hU2 hl2
  go_wp2_with (fail)
  (with_reducible refine (mayS (N := (m + 1 + 1)) (OfferItemI_any 0 _ (m + 1) c_22 A_21 l 0 _ HO_33.out (by omega) (by omega) (by unfold in64; omega)) HU2.out HL2.out).mono ?_)
  rintro e w5 ⟨A_40, c_41, rfl, hk_c_41, hrt, hbt⟩
  have HM_42 := Lib.hid (hrt.wide (Nat.zero_le _) (Nat.le_refl _))
  clear hrt
  have HO_43 := Lib.hid (HO_33.out.keep hbt (by omega))
  have HB_44 := Lib.hid (up HB_35.out hbt)
  have hz_5 := hbt.size
  clear HO_33 HB_35
  clear hbt
  obtain ⟨b_45, off_46, x_47, y_48, u_49, hAe_53, hbB_b_45, _, hg, hc_50, hc_51, hc_52⟩ := HO_43.out.trip (k := m) (by omega)
  have hq_54 : (nextNum ps, z0, (0 : Int)) = (x_47, y_48, u_49) := by rw [HLG.out] at hg; injection hg
  injection hq_54 with hq_54_1 hq_54; injection hq_54 with hq_54_2 hq_54_3
  clear hg
  rw [← hq_54_1] at hc_50
  rw [← hq_54_2] at hc_51
  rw [← hq_54_3] at hc_52
  clear hq_54_1 hq_54_2 hq_54_3
  subst hAe_53
  obtain ⟨b_55, off_56, x_57, y_58, u_59, hAe_63, hbB_b_55, _, hg, hc_60, hc_61, hc_62⟩ := HM_42.out.trip (k := (m + 1)) (by omega)
  have hq_64 : (nextNum ps + 1, (0 : Int), (0 : Int)) = (x_57, y_58, u_59) := by rw [HG2.out] at hg; injection hg
  injection hq_64 with hq_64_1 hq_64; injection hq_64 with hq_64_2 hq_64_3
  clear hg
  rw [← hq_64_1] at hc_60
  rw [← hq_64_2] at hc_61
  rw [← hq_64_3] at hc_62
  clear hq_64_1 hq_64_2 hq_64_3
  subst hAe_63
  have hm2 : ((m + 1 : Nat) : Int) < ((m + 1 + 1 : Nat) : Int) := by omega
  have hm3 : (0 : Int) ≤ ((m + 1 : Nat) : Int) := by omega
  have hw2 : IntKind.i64.wrap (((m + 1 : Nat) : Int) + 1) = ((m + 1 + 1 : Nat) : Int) := by rw [IntWalk.i64_in _ (by omega)]; omega
  obtain ⟨hnb1, hnb2, _⟩ := HNB.out
  generalize nextNum ps = N at *
  have hw3 : IntKind.i64.wrap (N + 1) = N + 1 := IntWalk.i64_in _ (by omega)
  go_wp2_with (fail)
  go_quiet (fail)
  go_wp2
  go_ret
  exact ⟨rfl, up_drewN HB_44.out _⟩
end Go.Proofs.Ytipoakimjhfhfaa
