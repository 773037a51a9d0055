/- The law FnOfferItem, walked: it returns true. (Written by a program over gen/lawlib.py.) -/
import Derived.Test.YtipoakimjhfhfaaDrawW4
import Derived.Test.YtipoakimjhfhfaaWorkI
import Derived.Test.YtipoakimjhfhfaaWorkJ
import Derived.Test.YtipoakimjhfhfaaMayE
import Derived.Test.YtipoakimjhfhfaaEqLists
import Derived.Test.YtipoakimjhfhfaaLawLists
import Derived.Test.YtipoakimjhfhfaaLawWorkM
import Derived.BigQuiet
set_option linter.unusedSimpArgs false
set_option linter.unusedVariables false
namespace Go.Proofs.Ytipoakimjhfhfaa
open Go.RowKit

set_option maxRecDepth 100000 in
set_option maxHeartbeats 6400000 in
theorem lawOfferItem_any (n c : Nat) (A : Option Addr) (xs : List Int) (w : World) (hr : Rd w 0 w.heap.size 1 A n (bvs xs)) (hby : Bytes xs) (hc : n ≤ c) (hc2 : c ≤ 9223372036854775807) :
    Calls Try.prog 4 #[.slice A n c] w fun e w' => e = .returned (.bool true) ∧ Below w.heap.size w w' := by
  by_cases hbig : (1048576 : Int) < n
  · go_enter Try.func4, Try.ntmps4
    go_wp2
    go_ret
    exact ⟨rfl, Below.refl _ _⟩
  go_enter Try.func4, Try.ntmps4
  go_wp2_with (fail)
  (with_reducible refine (drawOfferItem_any n c A xs w hr hby (by omega) hc hc2).mono ?_)
  rintro e w1 ⟨A1, m, c1, ps, z0, rfl, hm, hc1, hsm, hrd, ⟨z0a, z0b⟩, hb1⟩
  clear hbig hr
  have HB_0 := Lib.hid hb1
  have hz_1 := hb1.size
  clear hb1
  have HSM := Lib.hid hsm
  clear hsm
  have hz0 : in64 z0 := by unfold in64; omega
  have HPL := Lib.hid hrd.len3
  have HL_1 := Lib.hid (hrd.wide (Nat.zero_le _) (Nat.le_refl _))
  clear hrd
  cases hU : offerOf ps z0 with
  | none =>
    have HU := Lib.hid hU
    clear hU
    go_wp2_with (fail)
    (with_reducible refine (mayN (OfferItemI_any 0 _ m c1 A1 ps z0 _ HL_1.out (by omega) (by omega) hz0) HU.out).mono ?_)
    rintro e w2 ⟨A_2, c_3, rfl, hrt, hbt⟩
    have HO_4 := Lib.hid (hrt.wide (Nat.zero_le _) (Nat.le_refl _))
    clear hrt
    have HL_5 := Lib.hid (HL_1.out.keep hbt (by omega))
    have HB_6 := Lib.hid (up HB_0.out hbt)
    have hz_2 := hbt.size
    clear HL_1 HB_0
    clear hbt
    go_wp2_with (fail)
    (with_reducible refine (mayN (OfferItemS_any 0 _ m c1 A1 ps z0 _ HL_5.out (by omega) (by omega) hz0) HU.out).mono ?_)
    rintro e w3 ⟨A_7, c_8, rfl, hrt, hbt⟩
    have HX_9 := Lib.hid (hrt.wide (Nat.zero_le _) (Nat.le_refl _))
    clear hrt
    have HL_10 := Lib.hid (HL_5.out.keep hbt (by omega))
    have HO_11 := Lib.hid (HO_4.out.keep hbt (by omega))
    have HB_12 := Lib.hid (up HB_6.out hbt)
    have hz_3 := hbt.size
    clear HL_5 HO_4 HB_6
    clear hbt
    go_wp2_with (fail)
    (with_reducible refine (equalItems_any _ _ 0 c_3 _ _ 0 c_8 A_2 A_7 ([] : List Tri) ([] : List Tri) _ HO_11.out (by omega) (by omega) HX_9.out (by omega) (by omega)).mono ?_)
    rintro e w4 ⟨rfl, hbt⟩
    rw [beq_self_eq_true]
    have HL_13 := Lib.hid (HL_10.out.keep hbt (by omega))
    have HO_14 := Lib.hid (HO_11.out.keep hbt (by omega))
    have HX_15 := Lib.hid (HX_9.out.keep hbt (by omega))
    have HB_16 := Lib.hid (up HB_12.out hbt)
    have hz_4 := hbt.size
    clear HL_10 HO_11 HX_9 HB_12
    clear hbt
    go_wp2_with (fail)
    (with_reducible refine (equalItems_any _ _ 0 c_3 _ _ 0 c_8 A_2 A_7 ([] : List Tri) ([] : List Tri) _ HO_14.out (by omega) (by omega) HX_15.out (by omega) (by omega)).mono ?_)
    rintro e w5 ⟨rfl, hbt⟩
    rw [beq_self_eq_true]
    have HL_17 := Lib.hid (HL_13.out.keep hbt (by omega))
    have HO_18 := Lib.hid (HO_14.out.keep hbt (by omega))
    have HX_19 := Lib.hid (HX_15.out.keep hbt (by omega))
    have HB_20 := Lib.hid (up HB_16.out hbt)
    have hz_5 := hbt.size
    clear HL_13 HO_14 HX_15 HB_16
    clear hbt
    go_wp2
    go_ret
    exact ⟨rfl, HB_20.out⟩
  | some l =>
  have HU := Lib.hid hU
  obtain ⟨hv, hvl, hl, hr0⟩ := offer_facts hU
  have HV := Lib.hid hvl
  have HLL := Lib.hid (show l.length = m + 1 by rw [hl, List.length_append, HPL.out]; rfl)
  have HLT := Lib.hid (show l.take m = ps by rw [hl, ← HPL.out]; simp)
  have HLG := Lib.hid (show l[m]? = some (nextNum ps, z0, 0) by rw [hl, ← HPL.out]; simp)
  have hw : IntKind.i64.wrap (((m + 1 : Nat) : Int) - 1) = (m : Int) := by rw [IntWalk.i64_in _ (by omega)]; omega
  clear hU hv hvl hl hr0
  go_wp2_with (fail)
  (with_reducible refine (mayS (N := (m + 1)) (OfferItemI_any 0 _ m c1 A1 ps z0 _ HL_1.out (by omega) (by omega) hz0) HU.out HLL.out).mono ?_)
  rintro e w2 ⟨A_21, c_22, rfl, hk_c_22, hrt, hbt⟩
  have HO_23 := Lib.hid (hrt.wide (Nat.zero_le _) (Nat.le_refl _))
  clear hrt
  have HL_24 := Lib.hid (HL_1.out.keep hbt (by omega))
  have HB_25 := Lib.hid (up HB_0.out hbt)
  have hz_2 := hbt.size
  clear HL_1 HB_0
  clear hbt
  go_wp2_with (fail)
  (with_reducible refine (mayS (N := (m + 1)) (OfferItemS_any 0 _ m c1 A1 ps z0 _ HL_24.out (by omega) (by omega) hz0) HU.out HLL.out).mono ?_)
  rintro e w3 ⟨A_26, c_27, rfl, hk_c_27, hrt, hbt⟩
  have HX_28 := Lib.hid (hrt.wide (Nat.zero_le _) (Nat.le_refl _))
  clear hrt
  have HL_29 := Lib.hid (HL_24.out.keep hbt (by omega))
  have HO_30 := Lib.hid (HO_23.out.keep hbt (by omega))
  have HB_31 := Lib.hid (up HB_25.out hbt)
  have hz_3 := hbt.size
  clear HL_24 HO_23 HB_25
  clear hbt
  go_wp2_with (fail)
  (with_reducible refine (equalItems_any _ _ (m + 1) c_22 _ _ (m + 1) c_27 A_21 A_26 l l _ HO_30.out (by omega) (by omega) HX_28.out (by omega) (by omega)).mono ?_)
  rintro e w4 ⟨rfl, hbt⟩
  rw [beq_self_eq_true]
  have HL_32 := Lib.hid (HL_29.out.keep hbt (by omega))
  have HO_33 := Lib.hid (HO_30.out.keep hbt (by omega))
  have HX_34 := Lib.hid (HX_28.out.keep hbt (by omega))
  have HB_35 := Lib.hid (up HB_31.out hbt)
  have hz_4 := hbt.size
  clear HL_29 HO_30 HX_28 HB_31
  clear hbt
  clear HX_34
  have hmc : (m : Int) ≤ (c_22 : Int) := by omega
  have hm0 : (0 : Int) ≤ (m : Int) := by omega
  have hml : (m : Int) < ((m + 1 : Nat) : Int) := by omega
  have HC_36 := Lib.hid (show Rd w4 0 _ 3 A_21 m (tvs (l.take m)) by have := HO_33.out.cut (m := m) (by omega); rwa [tvs_take] at this)
  rw [HLT.out] at HC_36
  go_wp2_with (fail)
  (with_reducible refine (equalItems_any _ _ m c_22 _ _ m c1 A_21 A1 ps ps _ HC_36.out (by omega) (by omega) HL_32.out (by omega) (by omega)).mono ?_)
  rintro e w5 ⟨rfl, hbt⟩
  rw [beq_self_eq_true]
  have HL_37 := Lib.hid (HL_32.out.keep hbt (by omega))
  have HO_38 := Lib.hid (HO_33.out.keep hbt (by omega))
  have HC_39 := Lib.hid (HC_36.out.keep hbt (by omega))
  have HB_40 := Lib.hid (up HB_35.out hbt)
  have hz_5 := hbt.size
  clear HL_32 HO_33 HC_36 HB_35
  clear hbt
  obtain ⟨b, off, x, y, u, hAe, hbB, _, hg, hc0, hc1', hc2'⟩ := HO_38.out.trip (k := m) (by omega)
  have hq : (nextNum ps, z0, (0 : Int)) = (x, y, u) := by rw [HLG.out] at hg; injection hg
  injection hq with hq1 hq
  injection hq with hq2 hq3
  subst hq2; subst hq3
  clear hg
  subst hAe
  go_wp2_with (fail)
  (with_reducible refine (ValidWorkI_any 0 _ (m + 1) c_22 (some ⟨b, off, none⟩) l _ HO_38.out (by omega) (by omega)).mono ?_)
  rintro e w6 ⟨rfl, hbt⟩
  rw [HV.out]
  have HL_41 := Lib.hid (HL_37.out.keep hbt (by omega))
  have HO_42 := Lib.hid (HO_38.out.keep hbt (by omega))
  have HC_43 := Lib.hid (HC_39.out.keep hbt (by omega))
  have HB_44 := Lib.hid (up HB_40.out hbt)
  have hz_6 := hbt.size
  clear HL_37 HO_38 HC_39 HB_40
  clear hbt
  go_wp2
  go_ret
  exact ⟨rfl, HB_44.out⟩
end Go.Proofs.Ytipoakimjhfhfaa
