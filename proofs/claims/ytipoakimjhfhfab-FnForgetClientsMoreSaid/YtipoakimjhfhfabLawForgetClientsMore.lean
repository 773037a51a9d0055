/- The law FnForgetClientsMore, walked: it returns true. (Written by a program over gen/lawlib.py.) -/
import Derived.Test.YtipoakimjhfhfabDrawK2
import Derived.Test.YtipoakimjhfhfabClientI
import Derived.Test.YtipoakimjhfhfabClientF
import Derived.Test.YtipoakimjhfhfabMayE
import Derived.Test.YtipoakimjhfhfabEqLists
import Derived.Test.YtipoakimjhfhfabLawClientM
import Derived.BigQuiet
import Derived.Deep.RegionLaw
set_option linter.unusedSimpArgs false
set_option linter.unusedVariables false
namespace Go.Proofs.Ytipoakimjhfhfab
open Go.RowKit

set_option maxRecDepth 100000 in
set_option maxHeartbeats 6400000 in
theorem lawForgetClientsMore_any (n c : Nat) (A : Option Addr) (xs : List Int) (w : World) (hr : Rd w 0 w.heap.size 1 A n (bvs xs)) (hby : Bytes xs) (hc : n ≤ c) (hc2 : c ≤ 9223372036854775807) :
    Calls Try.prog 14 #[.slice A n c] w fun e w' => e = .returned (.bool true) ∧ Below w.heap.size w w' := by
  by_cases hbig : (1048576 : Int) < n
  · go_enter Try.func14, Try.ntmps14
    go_wp2
    go_ret
    exact ⟨rfl, Below.refl _ _⟩
  go_enter Try.func14, Try.ntmps14
  go_wp2_with (fail)
  (with_reducible refine (drawForgetClients_any n c A xs w hr hby (by omega) hc hc2).mono ?_)
  rintro e w1 ⟨A1, m, c1, ps, z0, rfl, hm, hk1, hsm, hrd, ⟨z0a, z0b⟩, hb1⟩
  clear hbig hr
  have HB_0 := Lib.hid hb1
  have hz_1 := hb1.size
  clear hb1
  clear hsm
  have hz0 : in64 z0 := by unfold in64; omega
  have HPL := Lib.hid hrd.len4
  have HL_1 := Lib.hid (hrd.wide (Nat.zero_le _) (Nat.le_refl _))
  clear hrd
  cases hv : vCls ps with
  | false =>
    have HV := Lib.hid hv
    have HF0 := Lib.hid (show forgetOf ps z0 = [] by simp [forgetOf, hv])
    clear hv
    go_wp2_with (fail)
    (with_reducible refine (ForgetClientsI_any 0 _ m c1 A1 ps z0 _ HL_1.out (by omega) (by omega) hz0).mono ?_)
    rintro e w2 ⟨A_2, c_3, rfl, hk_c_3, hrt, _, hbt⟩
    simp only [HF0.out, List.length_nil] at hrt hk_c_3 ⊢
    have HO_4 := Lib.hid (hrt.wide (Nat.zero_le _) (Nat.le_refl _))
    clear hrt
    have HL_5 := Lib.hid (HL_1.out.keep hbt (by omega))
    have HB_6 := Lib.hid (up HB_0.out hbt)
    have hz_2 := hbt.size
    clear HL_1 HB_0
    clear hbt
    go_wp2_with (fail)
    (with_reducible refine (ForgetClientsS_any 0 _ m c1 A1 ps z0 _ HL_5.out (by omega) (by omega) hz0).mono ?_)
    rintro e w3 ⟨A_7, c_8, rfl, hk_c_8, hrt, _, hbt⟩
    simp only [HF0.out, List.length_nil] at hrt hk_c_8 ⊢
    have HX_9 := Lib.hid (hrt.wide (Nat.zero_le _) (Nat.le_refl _))
    clear hrt
    have HL_10 := Lib.hid (HL_5.out.keep hbt (by omega))
    have HO_11 := Lib.hid (HO_4.out.keep hbt (by omega))
    have HB_12 := Lib.hid (up HB_6.out hbt)
    have hz_3 := hbt.size
    clear HL_5 HO_4 HB_6
    clear hbt
    go_wp2_with (fail)
    (with_reducible refine (equalClients_any _ _ 0 c_3 _ _ 0 c_8 A_2 A_7 ([] : List Qd) ([] : List Qd) _ HO_11.out (by omega) (by omega) HX_9.out (by omega) (by omega)).mono ?_)
    rintro e w4 ⟨rfl, hbt⟩
    rw [beq_self_eq_true]
    have HL_13 := Lib.hid (HL_10.out.keep hbt (by omega))
    have HO_14 := Lib.hid (HO_11.out.keep hbt (by omega))
    have HX_15 := Lib.hid (HX_9.out.keep hbt (by omega))
    have HB_16 := Lib.hid (up HB_12.out hbt)
    have hz_4 := hbt.size
    clear HL_10 HO_11 HX_9 HB_12
    clear hbt
    clear HX_15
    go_wp2_with (fail)
    (with_reducible refine (ValidClientsI_any 0 _ m c1 A1 ps _ HL_13.out (by omega) (by omega)).mono ?_)
    rintro e w5 ⟨rfl, hbt⟩
    rw [HV.out]
    have HL_17 := Lib.hid (HL_13.out.keep hbt (by omega))
    have HO_18 := Lib.hid (HO_14.out.keep hbt (by omega))
    have HB_19 := Lib.hid (up HB_16.out hbt)
    have hz_5 := hbt.size
    clear HL_13 HO_14 HB_16
    clear hbt
    go_wp2_with (fail)
    (with_reducible refine (ForgetClientsS_any 0 _ m c1 A1 ps z0 _ HL_17.out (by omega) (by omega) hz0).mono ?_)
    rintro e w6 ⟨A_20, c_21, rfl, hk_c_21, hrt, _, hbt⟩
    simp only [HF0.out, List.length_nil] at hrt hk_c_21 ⊢
    have HX_22 := Lib.hid (hrt.wide (Nat.zero_le _) (Nat.le_refl _))
    clear hrt
    have HL_23 := Lib.hid (HL_17.out.keep hbt (by omega))
    have HO_24 := Lib.hid (HO_18.out.keep hbt (by omega))
    have HB_25 := Lib.hid (up HB_19.out hbt)
    have hz_6 := hbt.size
    clear HL_17 HO_18 HB_19
    clear hbt
    go_wp2_with (fail)
    (with_reducible refine (equalClients_any _ _ 0 c_3 _ _ 0 c_21 A_2 A_20 ([] : List Qd) ([] : List Qd) _ HO_24.out (by omega) (by omega) HX_22.out (by omega) (by omega)).mono ?_)
    rintro e w7 ⟨rfl, hbt⟩
    rw [beq_self_eq_true]
    have HL_26 := Lib.hid (HL_23.out.keep hbt (by omega))
    have HO_27 := Lib.hid (HO_24.out.keep hbt (by omega))
    have HX_28 := Lib.hid (HX_22.out.keep hbt (by omega))
    have HB_29 := Lib.hid (up HB_25.out hbt)
    have hz_7 := hbt.size
    clear HL_23 HO_24 HX_22 HB_25
    clear hbt
    go_wp2
    go_ret
    exact ⟨rfl, HB_29.out⟩
  | true =>
  have HV := Lib.hid hv
  obtain ⟨hf1, hf2⟩ := forget_v hv z0
  have HVK := Lib.hid hf2
  have HF1 := Lib.hid hf1
  clear hv hf1 hf2
  obtain ⟨l, HLQ⟩ : ∃ l, Hid (keptCls ps z0 = l) := ⟨_, rfl⟩
  obtain ⟨N, HLL⟩ : ∃ N, Hid (l.length = N) := ⟨_, rfl⟩
  have hN : N ≤ 20 := by rw [← HLL.out, ← HLQ.out]; have := keptCls_le ps z0; rw [HPL.out] at this; omega
  go_wp2_with (fail)
  (with_reducible refine (ForgetClientsI_any 0 _ m c1 A1 ps z0 _ HL_1.out (by omega) (by omega) hz0).mono ?_)
  rintro e w2 ⟨A_30, c_31, rfl, hk_c_31, hrt, _, hbt⟩
  simp only [HF1.out, HLQ.out, HLL.out] at hrt hk_c_31 ⊢
  have HO_32 := Lib.hid (hrt.wide (Nat.zero_le _) (Nat.le_refl _))
  clear hrt
  have HL_33 := Lib.hid (HL_1.out.keep hbt (by omega))
  have HB_34 := Lib.hid (up HB_0.out hbt)
  have hz_2 := hbt.size
  clear HL_1 HB_0
  clear hbt
  go_wp2_with (fail)
  (with_reducible refine (ForgetClientsS_any 0 _ m c1 A1 ps z0 _ HL_33.out (by omega) (by omega) hz0).mono ?_)
  rintro e w3 ⟨A_35, c_36, rfl, hk_c_36, hrt, _, hbt⟩
  simp only [HF1.out, HLQ.out, HLL.out] at hrt hk_c_36 ⊢
  have HX_37 := Lib.hid (hrt.wide (Nat.zero_le _) (Nat.le_refl _))
  clear hrt
  have HL_38 := Lib.hid (HL_33.out.keep hbt (by omega))
  have HO_39 := Lib.hid (HO_32.out.keep hbt (by omega))
  have HB_40 := Lib.hid (up HB_34.out hbt)
  have hz_3 := hbt.size
  clear HL_33 HO_32 HB_34
  clear hbt
  go_wp2_with (fail)
  (with_reducible refine (equalClients_any _ _ N c_31 _ _ N c_36 A_30 A_35 l l _ HO_39.out (by omega) (by omega) HX_37.out (by omega) (by omega)).mono ?_)
  rintro e w4 ⟨rfl, hbt⟩
  rw [beq_self_eq_true]
  have HL_41 := Lib.hid (HL_38.out.keep hbt (by omega))
  have HO_42 := Lib.hid (HO_39.out.keep hbt (by omega))
  have HX_43 := Lib.hid (HX_37.out.keep hbt (by omega))
  have HB_44 := Lib.hid (up HB_40.out hbt)
  have hz_4 := hbt.size
  clear HL_38 HO_39 HX_37 HB_40
  clear hbt
  clear HX_43
  go_wp2_with (fail)
  (with_reducible refine (ValidClientsI_any 0 _ m c1 A1 ps _ HL_41.out (by omega) (by omega)).mono ?_)
  rintro e w5 ⟨rfl, hbt⟩
  rw [HV.out]
  have HL_45 := Lib.hid (HL_41.out.keep hbt (by omega))
  have HO_46 := Lib.hid (HO_42.out.keep hbt (by omega))
  have HB_47 := Lib.hid (up HB_44.out hbt)
  have hz_5 := hbt.size
  clear HL_41 HO_42 HB_44
  clear hbt
  have hw10 : IntKind.i64.wrap (z0 + 10) = z0 + 10 := IntWalk.i64_in _ (by omega)
  have hz10 : in64 (z0 + 10) := by unfold in64; omega
  obtain ⟨l2, HL2⟩ : ∃ l2, Hid (forgetOf ps (z0 + 10) = l2) := ⟨_, rfl⟩
  have HL3 := Lib.hid (show forgetOf l (z0 + 10) = l2 by rw [← HLQ.out, forget_more HV.out]; exact HL2.out)
  obtain ⟨K, HK⟩ : ∃ K, Hid (l2.length = K) := ⟨_, rfl⟩
  have hK : K ≤ 20 := by rw [← HK.out, ← HL2.out, (forget_v HV.out _).1]; have := keptCls_le ps (z0 + 10); rw [HPL.out] at this; omega
  have HF3 := Lib.hid (forget_none HV.out)
  go_wp2_with (fail)
  (with_reducible refine (ForgetClientsI_any 0 _ N c_31 A_30 l (z0 + 10) _ HO_46.out (by omega) (by omega) hz10).mono ?_)
  rintro e w6 ⟨A_48, c_49, rfl, hk_c_49, hrt, _, hbt⟩
  simp only [HL3.out, HK.out] at hrt hk_c_49 ⊢
  have HP_50 := Lib.hid (hrt.wide (Nat.zero_le _) (Nat.le_refl _))
  clear hrt
  have HL_51 := Lib.hid (HL_45.out.keep hbt (by omega))
  have HO_52 := Lib.hid (HO_46.out.keep hbt (by omega))
  have HB_53 := Lib.hid (up HB_47.out hbt)
  have hz_6 := hbt.size
  clear HL_45 HO_46 HB_47
  clear hbt
  go_wp2_with (fail)
  (with_reducible refine (ForgetClientsI_any 0 _ m c1 A1 ps (z0 + 10) _ HL_51.out (by omega) (by omega) hz10).mono ?_)
  rintro e w7 ⟨A_54, c_55, rfl, hk_c_55, hrt, _, hbt⟩
  simp only [HL2.out, HK.out] at hrt hk_c_55 ⊢
  have HQ_56 := Lib.hid (hrt.wide (Nat.zero_le _) (Nat.le_refl _))
  clear hrt
  have HL_57 := Lib.hid (HL_51.out.keep hbt (by omega))
  have HO_58 := Lib.hid (HO_52.out.keep hbt (by omega))
  have HP_59 := Lib.hid (HP_50.out.keep hbt (by omega))
  have HB_60 := Lib.hid (up HB_53.out hbt)
  have hz_7 := hbt.size
  clear HL_51 HO_52 HP_50 HB_53
  clear hbt
  go_wp2_with (fail)
  (with_reducible refine (equalClients_any _ _ K c_49 _ _ K c_55 A_48 A_54 l2 l2 _ HP_59.out (by omega) (by omega) HQ_56.out (by omega) (by omega)).mono ?_)
  rintro e w8 ⟨rfl, hbt⟩
  rw [beq_self_eq_true]
  have HL_61 := Lib.hid (HL_57.out.keep hbt (by omega))
  have HO_62 := Lib.hid (HO_58.out.keep hbt (by omega))
  have HP_63 := Lib.hid (HP_59.out.keep hbt (by omega))
  have HQ_64 := Lib.hid (HQ_56.out.keep hbt (by omega))
  have HB_65 := Lib.hid (up HB_60.out hbt)
  have hz_8 := hbt.size
  clear HL_57 HO_58 HP_59 HQ_56 HB_60
  clear hbt
  go_wp2_with (fail)
  (with_reducible refine (ForgetClientsI_any 0 _ m c1 A1 ps 0 _ HL_61.out (by omega) (by omega) (by unfold in64; omega)).mono ?_)
  rintro e w9 ⟨A_66, c_67, rfl, hk_c_67, hrt, _, hbt⟩
  simp only [HF3.out, HPL.out] at hrt hk_c_67 ⊢
  have HR_68 := Lib.hid (hrt.wide (Nat.zero_le _) (Nat.le_refl _))
  clear hrt
  have HL_69 := Lib.hid (HL_61.out.keep hbt (by omega))
  have HO_70 := Lib.hid (HO_62.out.keep hbt (by omega))
  have HP_71 := Lib.hid (HP_63.out.keep hbt (by omega))
  have HQ_72 := Lib.hid (HQ_64.out.keep hbt (by omega))
  have HB_73 := Lib.hid (up HB_65.out hbt)
  have hz_9 := hbt.size
  clear HL_61 HO_62 HP_63 HQ_64 HB_65
  clear hbt
  go_wp2_with (fail)
  (with_reducible refine (equalClients_any _ _ m c_67 _ _ m c1 A_66 A1 ps ps _ HR_68.out (by omega) (by omega) HL_69.out (by omega) (by omega)).mono ?_)
  rintro e w10 ⟨rfl, hbt⟩
  rw [beq_self_eq_true]
  have HL_74 := Lib.hid (HL_69.out.keep hbt (by omega))
  have HO_75 := Lib.hid (HO_70.out.keep hbt (by omega))
  have HP_76 := Lib.hid (HP_71.out.keep hbt (by omega))
  have HQ_77 := Lib.hid (HQ_72.out.keep hbt (by omega))
  have HR_78 := Lib.hid (HR_68.out.keep hbt (by omega))
  have HB_79 := Lib.hid (up HB_73.out hbt)
  have hz_10 := hbt.size
  clear HL_69 HO_70 HP_71 HQ_72 HR_68 HB_73
  clear hbt
  go_wp2
  go_ret
  exact ⟨rfl, HB_79.out⟩
end Go.Proofs.Ytipoakimjhfhfab
