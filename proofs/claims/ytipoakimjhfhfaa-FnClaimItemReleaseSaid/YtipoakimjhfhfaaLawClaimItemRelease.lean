/- The law FnClaimItemRelease, walked: it returns true. (Written by a program over gen/lawlib.py.) -/
import Derived.Test.YtipoakimjhfhfaaDrawW4
import Derived.Test.YtipoakimjhfhfaaWorkI
import Derived.Test.YtipoakimjhfhfaaWorkJ
import Derived.Test.YtipoakimjhfhfaaMayE
import Derived.Test.YtipoakimjhfhfaaEqLists
import Derived.Test.YtipoakimjhfhfaaLawLists
import Derived.Test.YtipoakimjhfhfaaLawWorkM
import Derived.BigQuiet
set_option linter.unusedSimpArgs false
set_option linter.unusedVariables false
namespace Go.Proofs.Ytipoakimjhfhfaa
open Go.RowKit

set_option maxRecDepth 100000 in
set_option maxHeartbeats 6400000 in
theorem lawClaimItemRelease_any (n c : Nat) (A : Option Addr) (xs : List Int) (w : World) (hr : Rd w 0 w.heap.size 1 A n (bvs xs)) (hby : Bytes xs) (hc : n ≤ c) (hc2 : c ≤ 9223372036854775807) :
    Calls Try.prog 8 #[.slice A n c] w fun e w' => e = .returned (.bool true) ∧ Below w.heap.size w w' := by
  by_cases hbig : (1048576 : Int) < n
  · go_enter Try.func8, Try.ntmps8
    go_wp2
    go_ret
    exact ⟨rfl, Below.refl _ _⟩
  go_enter Try.func8, Try.ntmps8
  go_wp2_with (fail)
  (with_reducible refine (drawClaimItem_any n c A xs w hr hby (by omega) hc hc2).mono ?_)
  rintro e w1 ⟨A1, m, c1, ps, z0, z1, A3, n3, c3, rs, rfl, hm, hc1, hsm, hrd, ⟨z0a, z0b⟩, ⟨z1a, z1b⟩, hn3, hrr, hb1⟩
  clear hbig hr
  have HB_0 := Lib.hid hb1
  have hz_1 := hb1.size
  clear hb1
  have HSM := Lib.hid hsm
  clear hsm
  have hz0 : in64 z0 := by unfold in64; omega
  have hz1 : in64 z1 := by unfold in64; omega
  have HPL := Lib.hid hrd.len3
  have HL_1 := Lib.hid (hrd.wide (Nat.zero_le _) (Nat.le_refl _))
  clear hrd
  have HR_2 := Lib.hid (hrr.wide (Nat.zero_le _) (Nat.le_refl _))
  clear hrr
  cases hU : claimOf ps z0 z1 rs with
  | none =>
    have HU := Lib.hid hU
    clear hU
    go_wp2_with (fail)
    (with_reducible refine (mayN (ClaimItemI_any 0 _ m c1 A1 ps z0 z1 0 _ n3 c3 A3 rs _ HL_1.out (by omega) (by omega) hz0 hz1 HR_2.out (by omega) (by omega)) HU.out).mono ?_)
    rintro e w2 ⟨A_3, c_4, rfl, hrt, hbt⟩
    have HO_5 := Lib.hid (hrt.wide (Nat.zero_le _) (Nat.le_refl _))
    clear hrt
    have HL_6 := Lib.hid (HL_1.out.keep hbt (by omega))
    have HR_7 := Lib.hid (HR_2.out.keep hbt (by omega))
    have HB_8 := Lib.hid (up HB_0.out hbt)
    have hz_2 := hbt.size
    clear HL_1 HR_2 HB_0
    clear hbt
    go_wp2_with (fail)
    (with_reducible refine (mayN (ClaimItemS_any 0 _ m c1 A1 ps z0 z1 0 _ n3 c3 A3 rs _ HL_6.out (by omega) (by omega) hz0 hz1 HR_7.out (by omega) (by omega)) HU.out).mono ?_)
    rintro e w3 ⟨A_9, c_10, rfl, hrt, hbt⟩
    have HX_11 := Lib.hid (hrt.wide (Nat.zero_le _) (Nat.le_refl _))
    clear hrt
    have HL_12 := Lib.hid (HL_6.out.keep hbt (by omega))
    have HR_13 := Lib.hid (HR_7.out.keep hbt (by omega))
    have HO_14 := Lib.hid (HO_5.out.keep hbt (by omega))
    have HB_15 := Lib.hid (up HB_8.out hbt)
    have hz_3 := hbt.size
    clear HL_6 HR_7 HO_5 HB_8
    clear hbt
    go_wp2_with (fail)
    (with_reducible refine (equalItems_any _ _ 0 c_4 _ _ 0 c_10 A_3 A_9 ([] : List Tri) ([] : List Tri) _ HO_14.out (by omega) (by omega) HX_11.out (by omega) (by omega)).mono ?_)
    rintro e w4 ⟨rfl, hbt⟩
    rw [beq_self_eq_true]
    have HL_16 := Lib.hid (HL_12.out.keep hbt (by omega))
    have HR_17 := Lib.hid (HR_13.out.keep hbt (by omega))
    have HO_18 := Lib.hid (HO_14.out.keep hbt (by omega))
    have HX_19 := Lib.hid (HX_11.out.keep hbt (by omega))
    have HB_20 := Lib.hid (up HB_15.out hbt)
    have hz_4 := hbt.size
    clear HL_12 HR_13 HO_14 HX_11 HB_15
    clear hbt
    go_wp2_with (fail)
    (with_reducible refine (equalItems_any _ _ 0 c_4 _ _ 0 c_10 A_3 A_9 ([] : List Tri) ([] : List Tri) _ HO_18.out (by omega) (by omega) HX_19.out (by omega) (by omega)).mono ?_)
    rintro e w5 ⟨rfl, hbt⟩
    rw [beq_self_eq_true]
    have HL_21 := Lib.hid (HL_16.out.keep hbt (by omega))
    have HR_22 := Lib.hid (HR_17.out.keep hbt (by omega))
    have HO_23 := Lib.hid (HO_18.out.keep hbt (by omega))
    have HX_24 := Lib.hid (HX_19.out.keep hbt (by omega))
    have HB_25 := Lib.hid (up HB_20.out hbt)
    have hz_5 := hbt.size
    clear HL_16 HR_17 HO_18 HX_19 HB_20
    clear hbt
    go_wp2
    go_ret
    exact ⟨rfl, HB_25.out⟩
  | some l =>
  have HU := Lib.hid hU
  obtain ⟨k, q, hv, hk, hr0, ho, hl, hvl⟩ := claim_facts hU
  have HLL := Lib.hid (show l.length = m by rw [hl, List.length_set, HPL.out])
  have HUB := Lib.hid (show freeOf l z0 z1 = some ps by rw [free_yes hvl (show l[k]? = some (z0, q, z1) by rw [hl]; exact set_at hk) ho, hl, set_back hk])
  clear hv hk hr0 ho hl hvl hU
  go_wp2_with (fail)
  (with_reducible refine (mayS (N := m) (ClaimItemI_any 0 _ m c1 A1 ps z0 z1 0 _ n3 c3 A3 rs _ HL_1.out (by omega) (by omega) hz0 hz1 HR_2.out (by omega) (by omega)) HU.out HLL.out).mono ?_)
  rintro e w2 ⟨A_26, c_27, rfl, hk_c_27, hrt, hbt⟩
  have HO_28 := Lib.hid (hrt.wide (Nat.zero_le _) (Nat.le_refl _))
  clear hrt
  have HL_29 := Lib.hid (HL_1.out.keep hbt (by omega))
  have HR_30 := Lib.hid (HR_2.out.keep hbt (by omega))
  have HB_31 := Lib.hid (up HB_0.out hbt)
  have hz_2 := hbt.size
  clear HL_1 HR_2 HB_0
  clear hbt
  go_wp2_with (fail)
  (with_reducible refine (mayS (N := m) (ClaimItemS_any 0 _ m c1 A1 ps z0 z1 0 _ n3 c3 A3 rs _ HL_29.out (by omega) (by omega) hz0 hz1 HR_30.out (by omega) (by omega)) HU.out HLL.out).mono ?_)
  rintro e w3 ⟨A_32, c_33, rfl, hk_c_33, hrt, hbt⟩
  have HX_34 := Lib.hid (hrt.wide (Nat.zero_le _) (Nat.le_refl _))
  clear hrt
  have HL_35 := Lib.hid (HL_29.out.keep hbt (by omega))
  have HR_36 := Lib.hid (HR_30.out.keep hbt (by omega))
  have HO_37 := Lib.hid (HO_28.out.keep hbt (by omega))
  have HB_38 := Lib.hid (up HB_31.out hbt)
  have hz_3 := hbt.size
  clear HL_29 HR_30 HO_28 HB_31
  clear hbt
  go_wp2_with (fail)
  (with_reducible refine (equalItems_any _ _ m c_27 _ _ m c_33 A_26 A_32 l l _ HO_37.out (by omega) (by omega) HX_34.out (by omega) (by omega)).mono ?_)
  rintro e w4 ⟨rfl, hbt⟩
  rw [beq_self_eq_true]
  have HL_39 := Lib.hid (HL_35.out.keep hbt (by omega))
  have HR_40 := Lib.hid (HR_36.out.keep hbt (by omega))
  have HO_41 := Lib.hid (HO_37.out.keep hbt (by omega))
  have HX_42 := Lib.hid (HX_34.out.keep hbt (by omega))
  have HB_43 := Lib.hid (up HB_38.out hbt)
  have hz_4 := hbt.size
  clear HL_35 HR_36 HO_37 HX_34 HB_38
  clear hbt
  clear HX_42
  clear HR_40
  go_wp2_with (fail)
  (with_reducible refine (mayS (N := m) (ReleaseItemI_any 0 _ m c_27 A_26 l z0 z1 _ HO_41.out (by omega) (by omega) hz0 hz1) HUB.out HPL.out).mono ?_)
  rintro e w5 ⟨A_44, c_45, rfl, hk_c_45, hrt, hbt⟩
  have HB_46 := Lib.hid (hrt.wide (Nat.zero_le _) (Nat.le_refl _))
  clear hrt
  have HL_47 := Lib.hid (HL_39.out.keep hbt (by omega))
  have HO_48 := Lib.hid (HO_41.out.keep hbt (by omega))
  have HB_49 := Lib.hid (up HB_43.out hbt)
  have hz_5 := hbt.size
  clear HL_39 HO_41 HB_43
  clear hbt
  go_wp2_with (fail)
  (with_reducible refine (equalItems_any _ _ m c_45 _ _ m c1 A_44 A1 ps ps _ HB_46.out (by omega) (by omega) HL_47.out (by omega) (by omega)).mono ?_)
  rintro e w6 ⟨rfl, hbt⟩
  rw [beq_self_eq_true]
  have HL_50 := Lib.hid (HL_47.out.keep hbt (by omega))
  have HO_51 := Lib.hid (HO_48.out.keep hbt (by omega))
  have HB_52 := Lib.hid (HB_46.out.keep hbt (by omega))
  have HB_53 := Lib.hid (up HB_49.out hbt)
  have hz_6 := hbt.size
  clear HL_47 HO_48 HB_46 HB_49
  clear hbt
  go_wp2
  go_ret
  exact ⟨rfl, HB_53.out⟩
end Go.Proofs.Ytipoakimjhfhfaa
