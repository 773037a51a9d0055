/- The law FnRecordCall, walked: it returns true. (Written by a program over gen/lawlib.py.) -/
import Derived.Test.YtipoakimjhfhfabDrawK2
import Derived.Test.YtipoakimjhfhfabClientI
import Derived.Test.YtipoakimjhfhfabClientF
import Derived.Test.YtipoakimjhfhfabMayE
import Derived.Test.YtipoakimjhfhfabEqLists
import Derived.Test.YtipoakimjhfhfabLawClientM
import Derived.BigQuiet
import Derived.Deep.RegionLaw
set_option linter.unusedSimpArgs false
set_option linter.unusedVariables false
namespace Go.Proofs.Ytipoakimjhfhfab
open Go.RowKit

set_option maxRecDepth 100000 in
set_option maxHeartbeats 6400000 in
theorem lawRecordCall_any (n c : Nat) (A : Option Addr) (xs : List Int) (w : World) (hr : Rd w 0 w.heap.size 1 A n (bvs xs)) (hby : Bytes xs) (hc : n ≤ c) (hc2 : c ≤ 9223372036854775807) :
    Calls Try.prog 9 #[.slice A n c] w fun e w' => e = .returned (.bool true) ∧ Below w.heap.size w w' := by
  by_cases hbig : (1048576 : Int) < n
  · go_enter Try.func9, Try.ntmps9
    go_wp2
    go_ret
    exact ⟨rfl, Below.refl _ _⟩
  go_enter Try.func9, Try.ntmps9
  go_wp2_with (fail)
  (with_reducible refine (drawRecordCall_any n c A xs w hr hby (by omega) hc hc2).mono ?_)
  rintro e w1 ⟨A1, m, c1, ps, z0, z1, z2, z3, rfl, hm, hk1, hsm, hrd, ⟨z0a, z0b⟩, ⟨z1a, z1b⟩, ⟨z2a, z2b⟩, ⟨z3a, z3b⟩, hb1⟩
  clear hbig hr
  have HB_0 := Lib.hid hb1
  have hz_1 := hb1.size
  clear hb1
  clear hsm
  have hz0 : in64 z0 := by unfold in64; omega
  have hz1 : in64 z1 := by unfold in64; omega
  have hz2 : in64 z2 := by unfold in64; omega
  have hz3 : in64 z3 := by unfold in64; omega
  have HPL := Lib.hid hrd.len4
  have HL_1 := Lib.hid (hrd.wide (Nat.zero_le _) (Nat.le_refl _))
  clear hrd
  cases hU : recordOf ps z0 z1 z2 z3 with
  | none =>
    have HU := Lib.hid hU
    clear hU
    go_wp2_with (fail)
    (with_reducible refine (mayN (RecordCallI_any 0 _ m c1 A1 ps z0 z1 z2 z3 _ HL_1.out (by omega) (by omega) hz0 hz1 hz2 hz3) HU.out).mono ?_)
    rintro e w2 ⟨A_2, c_3, rfl, hrt, hbt⟩
    have HO_5 := Lib.hid (hrt.wide (Nat.zero_le _) (Nat.le_refl _))
    clear hrt
    have HL_6 := Lib.hid (HL_1.out.keep hbt (by omega))
    have HB_7 := Lib.hid (up HB_0.out hbt)
    have hz_2 := hbt.size
    clear HL_1 HB_0
    clear hbt
    go_wp2_with (fail)
    (with_reducible refine (mayN (RecordCallS_any 0 _ m c1 A1 ps z0 z1 z2 z3 _ HL_6.out (by omega) (by omega) hz0 hz1 hz2 hz3) HU.out).mono ?_)
    rintro e w3 ⟨A_8, c_9, rfl, hrt, hbt⟩
    have HX_11 := Lib.hid (hrt.wide (Nat.zero_le _) (Nat.le_refl _))
    clear hrt
    have HL_12 := Lib.hid (HL_6.out.keep hbt (by omega))
    have HO_13 := Lib.hid (HO_5.out.keep hbt (by omega))
    have HB_14 := Lib.hid (up HB_7.out hbt)
    have hz_3 := hbt.size
    clear HL_6 HO_5 HB_7
    clear hbt
    go_wp2_with (fail)
    (with_reducible refine (equalClients_any _ _ 0 c_3 _ _ 0 c_9 A_2 A_8 ([] : List Qd) ([] : List Qd) _ HO_13.out (by omega) (by omega) HX_11.out (by omega) (by omega)).mono ?_)
    rintro e w4 ⟨rfl, hbt⟩
    rw [beq_self_eq_true]
    have HL_15 := Lib.hid (HL_12.out.keep hbt (by omega))
    have HO_16 := Lib.hid (HO_13.out.keep hbt (by omega))
    have HX_17 := Lib.hid (HX_11.out.keep hbt (by omega))
    have HB_18 := Lib.hid (up HB_14.out hbt)
    have hz_4 := hbt.size
    clear HL_12 HO_13 HX_11 HB_14
    clear hbt
    go_wp2_with (fail)
    (with_reducible refine (equalClients_any _ _ 0 c_3 _ _ 0 c_9 A_2 A_8 ([] : List Qd) ([] : List Qd) _ HO_16.out (by omega) (by omega) HX_17.out (by omega) (by omega)).mono ?_)
    rintro e w5 ⟨rfl, hbt⟩
    rw [beq_self_eq_true]
    have HL_19 := Lib.hid (HL_15.out.keep hbt (by omega))
    have HO_20 := Lib.hid (HO_16.out.keep hbt (by omega))
    have HX_21 := Lib.hid (HX_17.out.keep hbt (by omega))
    have HB_22 := Lib.hid (up HB_18.out hbt)
    have hz_5 := hbt.size
    clear HL_15 HO_16 HX_17 HB_18
    clear hbt
    go_wp2
    go_ret
    exact ⟨rfl, HB_22.out⟩
  | some l =>
  have HU := Lib.hid hU
  obtain ⟨hv, hvl, hl, ⟨hq0, hq9⟩, ⟨hk0, hk9⟩⟩ := record_facts hU
  obtain ⟨N, HLL⟩ : ∃ N, Hid (l.length = N) := ⟨_, rfl⟩
  have hN : N ≤ 10 := by have := vCls_len hvl; have := HLL.out; omega
  have HVP := Lib.hid hv
  have HV := Lib.hid hvl
  have HL := Lib.hid hl
  clear hU hv hvl hl
  go_wp2_with (fail)
  (with_reducible refine (mayS (N := N) (RecordCallI_any 0 _ m c1 A1 ps z0 z1 z2 z3 _ HL_1.out (by omega) (by omega) hz0 hz1 hz2 hz3) HU.out HLL.out).mono ?_)
  rintro e w2 ⟨A_23, c_24, rfl, hk_c_24, hrt, hbt⟩
  have HO_26 := Lib.hid (hrt.wide (Nat.zero_le _) (Nat.le_refl _))
  clear hrt
  have HL_27 := Lib.hid (HL_1.out.keep hbt (by omega))
  have HB_28 := Lib.hid (up HB_0.out hbt)
  have hz_2 := hbt.size
  clear HL_1 HB_0
  clear hbt
  go_wp2_with (fail)
  (with_reducible refine (mayS (N := N) (RecordCallS_any 0 _ m c1 A1 ps z0 z1 z2 z3 _ HL_27.out (by omega) (by omega) hz0 hz1 hz2 hz3) HU.out HLL.out).mono ?_)
  rintro e w3 ⟨A_29, c_30, rfl, hk_c_30, hrt, hbt⟩
  have HX_32 := Lib.hid (hrt.wide (Nat.zero_le _) (Nat.le_refl _))
  clear hrt
  have HL_33 := Lib.hid (HL_27.out.keep hbt (by omega))
  have HO_34 := Lib.hid (HO_26.out.keep hbt (by omega))
  have HB_35 := Lib.hid (up HB_28.out hbt)
  have hz_3 := hbt.size
  clear HL_27 HO_26 HB_28
  clear hbt
  go_wp2_with (fail)
  (with_reducible refine (equalClients_any _ _ N c_24 _ _ N c_30 A_23 A_29 l l _ HO_34.out (by omega) (by omega) HX_32.out (by omega) (by omega)).mono ?_)
  rintro e w4 ⟨rfl, hbt⟩
  rw [beq_self_eq_true]
  have HL_36 := Lib.hid (HL_33.out.keep hbt (by omega))
  have HO_37 := Lib.hid (HO_34.out.keep hbt (by omega))
  have HX_38 := Lib.hid (HX_32.out.keep hbt (by omega))
  have HB_39 := Lib.hid (up HB_35.out hbt)
  have hz_4 := hbt.size
  clear HL_33 HO_34 HX_32 HB_35
  clear hbt
  clear HX_38
  clear HL_36
  have HLO := Lib.hid (show lastOf l z0 = z1 ∧ repOf l z0 = z2 by rw [HL.out]; exact rec_last HVP.out z0 z1 z2 z3)
  have HCK := Lib.hid (check_again HV.out ⟨hq0, hq9⟩ ⟨hk0, hk9⟩ HLO.out.1)
  have HRP := Lib.hid (show replyOf l z0 z1 = some z2 by unfold replyOf; rw [HCK.out, HLO.out.2]; rfl)
  have HRN := Lib.hid (show (recordOf l z0 z1 z2 z3).isSome = false by unfold recordOf; rw [HCK.out]; rfl)
  go_wp2_with (fail)
  (with_reducible refine (ReplyOfI_any 0 _ N c_24 A_23 l z0 z1 _ HO_37.out (by omega) (by omega) hz0 hz1).mono ?_)
  rintro e w5 ⟨rfl, hbt⟩
  rw [HRP.out]
  try simp only [Option.getD_some, Option.isSome_some, Option.getD_none, Option.isSome_none]
  have HO_40 := Lib.hid (HO_37.out.keep hbt (by omega))
  have HB_41 := Lib.hid (up HB_39.out hbt)
  have hz_5 := hbt.size
  clear HO_37 HB_39
  clear hbt
  go_wp2_with (fail)
  (with_reducible refine (mayB (RecordCallI_any 0 _ N c_24 A_23 l z0 z1 z2 z3 _ HO_40.out (by omega) (by omega) hz0 hz1 hz2 hz3) HRN.out).mono ?_)
  rintro e w6 ⟨A_42, n_44, c_43, rfl, hbt⟩
  have HO_45 := Lib.hid (HO_40.out.keep hbt (by omega))
  have HB_46 := Lib.hid (up HB_41.out hbt)
  have hz_6 := hbt.size
  clear HO_40 HB_41
  clear hbt
  go_wp2_with (fail)
  (with_reducible refine (CheckCallI_any 0 _ N c_24 A_23 l z0 z1 _ HO_45.out (by omega) (by omega) hz0 hz1).mono ?_)
  rintro e w7 ⟨rfl, hbt⟩
  rw [HCK.out]
  have HO_47 := Lib.hid (HO_45.out.keep hbt (by omega))
  have HB_48 := Lib.hid (up HB_46.out hbt)
  have hz_7 := hbt.size
  clear HO_45 HB_46
  clear hbt
  by_cases h9 : z1 = 999
  case pos =>
    subst h9
    go_wp2_with (fail)
    (with_reducible refine (ValidClientsI_any 0 _ N c_24 A_23 l _ HO_47.out (by omega) (by omega)).mono ?_)
    rintro e w8 ⟨rfl, hbt⟩
    rw [HV.out]
    have HO_49 := Lib.hid (HO_47.out.keep hbt (by omega))
    have HB_50 := Lib.hid (up HB_48.out hbt)
    have hz_8 := hbt.size
    clear HO_47 HB_48
    clear hbt
    go_wp2
    go_ret
    exact ⟨rfl, HB_50.out⟩
  have h9b : (z1 == 999) = false := by simpa using h9
  have hzz : in64 (z1 + 1) := by unfold in64; omega
  have hw : IntKind.i64.wrap (z1 + 1) = z1 + 1 := IntWalk.i64_in _ (by omega)
  have HCN := Lib.hid (check_new HV.out ⟨hq0, hq9⟩ (show 1 ≤ z1 + 1 ∧ z1 + 1 ≤ 999 by omega) (by rw [HLO.out.1]))
  go_wp2_with (fail)
  (with_reducible refine (CheckCallI_any 0 _ N c_24 A_23 l z0 (z1 + 1) _ HO_47.out (by omega) (by omega) hz0 hzz).mono ?_)
  rintro e w8 ⟨rfl, hbt⟩
  rw [HCN.out]
  have HO_51 := Lib.hid (HO_47.out.keep hbt (by omega))
  have HB_52 := Lib.hid (up HB_48.out hbt)
  have hz_8 := hbt.size
  clear HO_47 HB_48
  clear hbt
  go_wp2_with (fail)
  (with_reducible refine (ValidClientsI_any 0 _ N c_24 A_23 l _ HO_51.out (by omega) (by omega)).mono ?_)
  rintro e w9 ⟨rfl, hbt⟩
  rw [HV.out]
  have HO_53 := Lib.hid (HO_51.out.keep hbt (by omega))
  have HB_54 := Lib.hid (up HB_52.out hbt)
  have hz_9 := hbt.size
  clear HO_51 HB_52
  clear hbt
  go_wp2
  go_ret
  exact ⟨rfl, HB_54.out⟩
end Go.Proofs.Ytipoakimjhfhfab
