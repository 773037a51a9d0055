/- The law FnFinishItemOwner, walked: it returns true. (Written by a program over gen/lawlib.py.) -/
import Derived.Test.YtipoakimjhfhfabDrawW4
import Derived.Test.YtipoakimjhfhfabWorkI
import Derived.Test.YtipoakimjhfhfabWorkJ
import Derived.Test.YtipoakimjhfhfabMayE
import Derived.Test.YtipoakimjhfhfabEqLists
import Derived.Test.YtipoakimjhfhfabLawLists
import Derived.Test.YtipoakimjhfhfabLawWorkN
import Derived.BigQuiet
import Derived.Deep.RegionLaw
set_option linter.unusedSimpArgs false
set_option linter.unusedVariables false
namespace Go.Proofs.Ytipoakimjhfhfab
open Go.RowKit

set_option maxRecDepth 100000 in
set_option maxHeartbeats 6400000 in
theorem lawFinishItemOwner_any (n c : Nat) (A : Option Addr) (xs : List Int) (w : World) (hr : Rd w 0 w.heap.size 1 A n (bvs xs)) (hby : Bytes xs) (hc : n ≤ c) (hc2 : c ≤ 9223372036854775807) :
    Calls Try.prog 4 #[.slice A n c] w fun e w' => e = .returned (.bool true) ∧ Below w.heap.size w w' := by
  by_cases hbig : (1048576 : Int) < n
  · go_enter Try.func4, Try.ntmps4
    go_wp2
    go_ret
    exact ⟨rfl, Below.refl _ _⟩
  go_enter Try.func4, Try.ntmps4
  go_wp2_with (fail)
  (with_reducible refine (drawFinishItem_any n c A xs w hr hby (by omega) hc hc2).mono ?_)
  rintro e w1 ⟨A1, m, c1, ps, z0, z1, rfl, hm, hc1, hsm, hrd, ⟨z0a, z0b⟩, ⟨z1a, z1b⟩, hb1⟩
  clear hbig hr
  have HB_0 := Lib.hid hb1
  have hz_1 := hb1.size
  clear hb1
  have HSM := Lib.hid hsm
  clear hsm
  have hz0 : in64 z0 := by unfold in64; omega
  have hz1 : in64 z1 := by unfold in64; omega
  have HPL := Lib.hid hrd.len3
  have HL_1 := Lib.hid (hrd.wide (Nat.zero_le _) (Nat.le_refl _))
  clear hrd
  cases hU : doneOf ps z0 z1 with
  | none =>
    have HU := Lib.hid hU
    have HFR := Lib.hid (show (freeOf ps z0 z1).isSome = false by rw [done_free, hU]; rfl)
    clear hU
    go_wp2_with (fail)
    (with_reducible refine (mayN (FinishItemI_any 0 _ m c1 A1 ps z0 z1 _ HL_1.out (by omega) (by omega) hz0 hz1) HU.out).mono ?_)
    rintro e w2 ⟨A_2, c_3, rfl, hrt, hbt⟩
    have HO_4 := Lib.hid (hrt.wide (Nat.zero_le _) (Nat.le_refl _))
    clear hrt
    have HL_5 := Lib.hid (HL_1.out.keep hbt (by omega))
    have HB_6 := Lib.hid (up HB_0.out hbt)
    have hz_2 := hbt.size
    clear HL_1 HB_0
    clear hbt
    go_wp2_with (fail)
    (with_reducible refine (mayN (FinishItemS_any 0 _ m c1 A1 ps z0 z1 _ HL_5.out (by omega) (by omega) (by omega) hz0 hz1) HU.out).mono ?_)
    rintro e w3 ⟨A_7, c_8, rfl, hrt, hbt⟩
    have HX_9 := Lib.hid (hrt.wide (Nat.zero_le _) (Nat.le_refl _))
    clear hrt
    have HL_10 := Lib.hid (HL_5.out.keep hbt (by omega))
    have HO_11 := Lib.hid (HO_4.out.keep hbt (by omega))
    have HB_12 := Lib.hid (up HB_6.out hbt)
    have hz_3 := hbt.size
    clear HL_5 HO_4 HB_6
    clear hbt
    go_wp2_with (fail)
    (with_reducible refine (equalItems_any _ _ 0 c_3 _ _ 0 c_8 A_2 A_7 ([] : List Tri) ([] : List Tri) _ HO_11.out (by omega) (by omega) HX_9.out (by omega) (by omega)).mono ?_)
    rintro e w4 ⟨rfl, hbt⟩
    rw [beq_self_eq_true]
    have HL_13 := Lib.hid (HL_10.out.keep hbt (by omega))
    have HO_14 := Lib.hid (HO_11.out.keep hbt (by omega))
    have HX_15 := Lib.hid (HX_9.out.keep hbt (by omega))
    have HB_16 := Lib.hid (up HB_12.out hbt)
    have hz_4 := hbt.size
    clear HL_10 HO_11 HX_9 HB_12
    clear hbt
    clear HO_14
    clear HX_15
    go_wp2_with (fail)
    (with_reducible refine (mayB (ReleaseItemI_any 0 _ m c1 A1 ps z0 z1 _ HL_13.out (by omega) (by omega) hz0 hz1) HFR.out).mono ?_)
    rintro e w5 ⟨A_17, n_19, c_18, rfl, hbt⟩
    have HL_20 := Lib.hid (HL_13.out.keep hbt (by omega))
    have HB_21 := Lib.hid (up HB_16.out hbt)
    have hz_5 := hbt.size
    clear HL_13 HB_16
    clear hbt
    go_wp2
    go_ret
    exact ⟨rfl, HB_21.out⟩
  | some l =>
    have HU := Lib.hid hU
    have HFR := Lib.hid (show (freeOf ps z0 z1).isSome = true by rw [done_free, hU]; rfl)
    clear hU
    obtain ⟨N, HLL⟩ : ∃ N, Hid (l.length = N ∧ N ≤ 12) := ⟨_, rfl, by obtain ⟨_, _, _, _, _, _, h⟩ := done_facts HU.out; exact vWork_len h⟩
    have hN := HLL.out.2
    go_wp2_with (fail)
    (with_reducible refine (mayS (N := N) (FinishItemI_any 0 _ m c1 A1 ps z0 z1 _ HL_1.out (by omega) (by omega) hz0 hz1) HU.out HLL.out.1).mono ?_)
    rintro e w2 ⟨A_22, c_23, rfl, hk_c_23, hrt, hbt⟩
    have HO_24 := Lib.hid (hrt.wide (Nat.zero_le _) (Nat.le_refl _))
    clear hrt
    have HL_25 := Lib.hid (HL_1.out.keep hbt (by omega))
    have HB_26 := Lib.hid (up HB_0.out hbt)
    have hz_2 := hbt.size
    clear HL_1 HB_0
    clear hbt
    go_wp2_with (fail)
    (with_reducible refine (mayS (N := N) (FinishItemS_any 0 _ m c1 A1 ps z0 z1 _ HL_25.out (by omega) (by omega) (by omega) hz0 hz1) HU.out HLL.out.1).mono ?_)
    rintro e w3 ⟨A_27, c_28, rfl, hk_c_28, hrt, hbt⟩
    have HX_29 := Lib.hid (hrt.wide (Nat.zero_le _) (Nat.le_refl _))
    clear hrt
    have HL_30 := Lib.hid (HL_25.out.keep hbt (by omega))
    have HO_31 := Lib.hid (HO_24.out.keep hbt (by omega))
    have HB_32 := Lib.hid (up HB_26.out hbt)
    have hz_3 := hbt.size
    clear HL_25 HO_24 HB_26
    clear hbt
    go_wp2_with (fail)
    (with_reducible refine (equalItems_any _ _ N c_23 _ _ N c_28 A_22 A_27 l l _ HO_31.out (by omega) (by omega) HX_29.out (by omega) (by omega)).mono ?_)
    rintro e w4 ⟨rfl, hbt⟩
    rw [beq_self_eq_true]
    have HL_33 := Lib.hid (HL_30.out.keep hbt (by omega))
    have HO_34 := Lib.hid (HO_31.out.keep hbt (by omega))
    have HX_35 := Lib.hid (HX_29.out.keep hbt (by omega))
    have HB_36 := Lib.hid (up HB_32.out hbt)
    have hz_4 := hbt.size
    clear HL_30 HO_31 HX_29 HB_32
    clear hbt
    clear HO_34
    clear HX_35
    go_wp2_with (fail)
    (with_reducible refine (mayB (ReleaseItemI_any 0 _ m c1 A1 ps z0 z1 _ HL_33.out (by omega) (by omega) hz0 hz1) HFR.out).mono ?_)
    rintro e w5 ⟨A_37, n_39, c_38, rfl, hbt⟩
    have HL_40 := Lib.hid (HL_33.out.keep hbt (by omega))
    have HB_41 := Lib.hid (up HB_36.out hbt)
    have hz_5 := hbt.size
    clear HL_33 HB_36
    clear hbt
    go_wp2
    go_ret
    exact ⟨rfl, HB_41.out⟩
end Go.Proofs.Ytipoakimjhfhfab
