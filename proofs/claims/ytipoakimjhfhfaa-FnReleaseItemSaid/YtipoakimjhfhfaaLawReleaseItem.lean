/- The law FnReleaseItem, walked: it returns true. (Written by a program over gen/lawlib.py.) -/
import Derived.Test.YtipoakimjhfhfaaDrawW4
import Derived.Test.YtipoakimjhfhfaaWorkI
import Derived.Test.YtipoakimjhfhfaaWorkJ
import Derived.Test.YtipoakimjhfhfaaMayE
import Derived.Test.YtipoakimjhfhfaaEqLists
import Derived.Test.YtipoakimjhfhfaaLawLists
import Derived.Test.YtipoakimjhfhfaaLawWorkM
import Derived.BigQuiet
set_option linter.unusedSimpArgs false
set_option linter.unusedVariables false
namespace Go.Proofs.Ytipoakimjhfhfaa
open Go.RowKit

set_option maxRecDepth 100000 in
set_option maxHeartbeats 6400000 in
theorem lawReleaseItem_any (n c : Nat) (A : Option Addr) (xs : List Int) (w : World) (hr : Rd w 0 w.heap.size 1 A n (bvs xs)) (hby : Bytes xs) (hc : n ≤ c) (hc2 : c ≤ 9223372036854775807) :
    Calls Try.prog 10 #[.slice A n c] w fun e w' => e = .returned (.bool true) ∧ Below w.heap.size w w' := by
  by_cases hbig : (1048576 : Int) < n
  · go_enter Try.func10, Try.ntmps10
    go_wp2
    go_ret
    exact ⟨rfl, Below.refl _ _⟩
  go_enter Try.func10, Try.ntmps10
  go_wp2_with (fail)
  (with_reducible refine (drawReleaseItem_any n c A xs w hr hby (by omega) hc hc2).mono ?_)
  rintro e w1 ⟨A1, m, c1, ps, z0, z1, rfl, hm, hc1, hsm, hrd, ⟨z0a, z0b⟩, ⟨z1a, z1b⟩, hb1⟩
  clear hbig hr
  have HB_0 := Lib.hid hb1
  have hz_1 := hb1.size
  clear hb1
  have HSM := Lib.hid hsm
  clear hsm
  have hz0 : in64 z0 := by unfold in64; omega
  have hz1 : in64 z1 := by unfold in64; omega
  have HPL := Lib.hid hrd.len3
  have HL_1 := Lib.hid (hrd.wide (Nat.zero_le _) (Nat.le_refl _))
  clear hrd
  cases hU : freeOf ps z0 z1 with
  | none =>
    have HU := Lib.hid hU
    clear hU
    go_wp2_with (fail)
    (with_reducible refine (mayN (ReleaseItemI_any 0 _ m c1 A1 ps z0 z1 _ HL_1.out (by omega) (by omega) hz0 hz1) HU.out).mono ?_)
    rintro e w2 ⟨A_2, c_3, rfl, hrt, hbt⟩
    have HO_4 := Lib.hid (hrt.wide (Nat.zero_le _) (Nat.le_refl _))
    clear hrt
    have HL_5 := Lib.hid (HL_1.out.keep hbt (by omega))
    have HB_6 := Lib.hid (up HB_0.out hbt)
    have hz_2 := hbt.size
    clear HL_1 HB_0
    clear hbt
    go_wp2_with (fail)
    (with_reducible refine (mayN (ReleaseItemS_any 0 _ m c1 A1 ps z0 z1 _ HL_5.out (by omega) (by omega) hz0 hz1) HU.out).mono ?_)
    rintro e w3 ⟨A_7, c_8, rfl, hrt, hbt⟩
    have HX_9 := Lib.hid (hrt.wide (Nat.zero_le _) (Nat.le_refl _))
    clear hrt
    have HL_10 := Lib.hid (HL_5.out.keep hbt (by omega))
    have HO_11 := Lib.hid (HO_4.out.keep hbt (by omega))
    have HB_12 := Lib.hid (up HB_6.out hbt)
    have hz_3 := hbt.size
    clear HL_5 HO_4 HB_6
    clear hbt
    go_wp2_with (fail)
    (with_reducible refine (equalItems_any _ _ 0 c_3 _ _ 0 c_8 A_2 A_7 ([] : List Tri) ([] : List Tri) _ HO_11.out (by omega) (by omega) HX_9.out (by omega) (by omega)).mono ?_)
    rintro e w4 ⟨rfl, hbt⟩
    rw [beq_self_eq_true]
    have HL_13 := Lib.hid (HL_10.out.keep hbt (by omega))
    have HO_14 := Lib.hid (HO_11.out.keep hbt (by omega))
    have HX_15 := Lib.hid (HX_9.out.keep hbt (by omega))
    have HB_16 := Lib.hid (up HB_12.out hbt)
    have hz_4 := hbt.size
    clear HL_10 HO_11 HX_9 HB_12
    clear hbt
    go_wp2_with (fail)
    (with_reducible refine (equalItems_any _ _ 0 c_3 _ _ 0 c_8 A_2 A_7 ([] : List Tri) ([] : List Tri) _ HO_14.out (by omega) (by omega) HX_15.out (by omega) (by omega)).mono ?_)
    rintro e w5 ⟨rfl, hbt⟩
    rw [beq_self_eq_true]
    have HL_17 := Lib.hid (HL_13.out.keep hbt (by omega))
    have HO_18 := Lib.hid (HO_14.out.keep hbt (by omega))
    have HX_19 := Lib.hid (HX_15.out.keep hbt (by omega))
    have HB_20 := Lib.hid (up HB_16.out hbt)
    have hz_5 := hbt.size
    clear HL_13 HO_14 HX_15 HB_16
    clear hbt
    go_wp2
    go_ret
    exact ⟨rfl, HB_20.out⟩
  | some l =>
  have HU := Lib.hid hU
  obtain ⟨k, q, hv, hk, ho, hl, hvl⟩ := free_facts hU
  have HLL := Lib.hid (show l.length = m by rw [hl, List.length_set, HPL.out])
  have HV := Lib.hid hvl
  obtain ⟨ot, HOT⟩ : ∃ ot : Int, Hid (1 ≤ ot ∧ ot ≤ 9 ∧ ot ≠ z1 ∧ z1.tmod 9 + 1 = ot) := ⟨_, by rw [Int.tmod_eq_emod_of_nonneg (by omega)]; omega, by rw [Int.tmod_eq_emod_of_nonneg (by omega)]; omega, by rw [Int.tmod_eq_emod_of_nonneg (by omega)]; omega, rfl⟩
  obtain ⟨ot1, ot9, otn, ote⟩ := HOT.out
  have hot : in64 ot := by unfold in64; omega
  have hwo : IntKind.i64.wrap (z1.tmod 9 + 1) = ot := by rw [ote]; exact IntWalk.i64_in _ (by omega)
  clear ote HOT
  have HU2 := Lib.hid (show (freeOf ps z0 ot).isSome = false by rw [free_not hv hk (Ne.symm otn)]; rfl)
  have HU3 := Lib.hid (show (freeOf l z0 z1).isSome = false by rw [free_not hvl (show l[k]? = some (z0, q, 0) by rw [hl]; exact set_at hk) (by omega)]; rfl)
  clear hv hk ho hl hvl otn hU
  go_wp2_with (fail)
  (with_reducible refine (mayS (N := m) (ReleaseItemI_any 0 _ m c1 A1 ps z0 z1 _ HL_1.out (by omega) (by omega) hz0 hz1) HU.out HLL.out).mono ?_)
  rintro e w2 ⟨A_21, c_22, rfl, hk_c_22, hrt, hbt⟩
  have HO_23 := Lib.hid (hrt.wide (Nat.zero_le _) (Nat.le_refl _))
  clear hrt
  have HL_24 := Lib.hid (HL_1.out.keep hbt (by omega))
  have HB_25 := Lib.hid (up HB_0.out hbt)
  have hz_2 := hbt.size
  clear HL_1 HB_0
  clear hbt
  go_wp2_with (fail)
  (with_reducible refine (mayS (N := m) (ReleaseItemS_any 0 _ m c1 A1 ps z0 z1 _ HL_24.out (by omega) (by omega) hz0 hz1) HU.out HLL.out).mono ?_)
  rintro e w3 ⟨A_26, c_27, rfl, hk_c_27, hrt, hbt⟩
  have HX_28 := Lib.hid (hrt.wide (Nat.zero_le _) (Nat.le_refl _))
  clear hrt
  have HL_29 := Lib.hid (HL_24.out.keep hbt (by omega))
  have HO_30 := Lib.hid (HO_23.out.keep hbt (by omega))
  have HB_31 := Lib.hid (up HB_25.out hbt)
  have hz_3 := hbt.size
  clear HL_24 HO_23 HB_25
  clear hbt
  go_wp2_with (fail)
  (with_reducible refine (equalItems_any _ _ m c_22 _ _ m c_27 A_21 A_26 l l _ HO_30.out (by omega) (by omega) HX_28.out (by omega) (by omega)).mono ?_)
  rintro e w4 ⟨rfl, hbt⟩
  rw [beq_self_eq_true]
  have HL_32 := Lib.hid (HL_29.out.keep hbt (by omega))
  have HO_33 := Lib.hid (HO_30.out.keep hbt (by omega))
  have HX_34 := Lib.hid (HX_28.out.keep hbt (by omega))
  have HB_35 := Lib.hid (up HB_31.out hbt)
  have hz_4 := hbt.size
  clear HL_29 HO_30 HX_28 HB_31
  clear hbt
  clear HX_34
  go_wp2_with (fail)
  (with_reducible refine (mayB (ReleaseItemI_any 0 _ m c1 A1 ps z0 ot _ HL_32.out (by omega) (by omega) hz0 hot) HU2.out).mono ?_)
  rintro e w5 ⟨A_36, n_38, c_37, rfl, hbt⟩
  have HL_39 := Lib.hid (HL_32.out.keep hbt (by omega))
  have HO_40 := Lib.hid (HO_33.out.keep hbt (by omega))
  have HB_41 := Lib.hid (up HB_35.out hbt)
  have hz_5 := hbt.size
  clear HL_32 HO_33 HB_35
  clear hbt
  go_wp2_with (fail)
  (with_reducible refine (mayB (ReleaseItemI_any 0 _ m c_22 A_21 l z0 z1 _ HO_40.out (by omega) (by omega) hz0 hz1) HU3.out).mono ?_)
  rintro e w6 ⟨A_42, n_44, c_43, rfl, hbt⟩
  have HL_45 := Lib.hid (HL_39.out.keep hbt (by omega))
  have HO_46 := Lib.hid (HO_40.out.keep hbt (by omega))
  have HB_47 := Lib.hid (up HB_41.out hbt)
  have hz_6 := hbt.size
  clear HL_39 HO_40 HB_41
  clear hbt
  go_wp2_with (fail)
  (with_reducible refine (ValidWorkI_any 0 _ m c_22 A_21 l _ HO_46.out (by omega) (by omega)).mono ?_)
  rintro e w7 ⟨rfl, hbt⟩
  rw [HV.out]
  have HL_48 := Lib.hid (HL_45.out.keep hbt (by omega))
  have HO_49 := Lib.hid (HO_46.out.keep hbt (by omega))
  have HB_50 := Lib.hid (up HB_47.out hbt)
  have hz_7 := hbt.size
  clear HL_45 HO_46 HB_47
  clear hbt
  go_wp2
  go_ret
  exact ⟨rfl, HB_50.out⟩
end Go.Proofs.Ytipoakimjhfhfaa
