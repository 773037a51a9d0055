/- The law FnForgetClients, walked: it returns true. (Written by a program over gen/lawlib.py.) -/
import Derived.Test.YtipoakimjhfhfabDrawK2
import Derived.Test.YtipoakimjhfhfabClientI
import Derived.Test.YtipoakimjhfhfabClientF
import Derived.Test.YtipoakimjhfhfabMayE
import Derived.Test.YtipoakimjhfhfabEqLists
import Derived.Test.YtipoakimjhfhfabLawClientM
import Derived.BigQuiet
import Derived.Deep.RegionLaw
set_option linter.unusedSimpArgs false
set_option linter.unusedVariables false
namespace Go.Proofs.Ytipoakimjhfhfab
open Go.RowKit

set_option maxRecDepth 100000 in
set_option maxHeartbeats 6400000 in
theorem lawForgetClients_any (n c : Nat) (A : Option Addr) (xs : List Int) (w : World) (hr : Rd w 0 w.heap.size 1 A n (bvs xs)) (hby : Bytes xs) (hc : n ≤ c) (hc2 : c ≤ 9223372036854775807) :
    Calls Try.prog 12 #[.slice A n c] w fun e w' => e = .returned (.bool true) ∧ Below w.heap.size w w' := by
  by_cases hbig : (1048576 : Int) < n
  · go_enter Try.func12, Try.ntmps12
    go_wp2
    go_ret
    exact ⟨rfl, Below.refl _ _⟩
  go_enter Try.func12, Try.ntmps12
  go_wp2_with (fail)
  (with_reducible refine (drawForgetClients_any n c A xs w hr hby (by omega) hc hc2).mono ?_)
  rintro e w1 ⟨A1, m, c1, ps, z0, rfl, hm, hk1, hsm, hrd, ⟨z0a, z0b⟩, hb1⟩
  clear hbig hr
  have HB_0 := Lib.hid hb1
  have hz_1 := hb1.size
  clear hb1
  clear hsm
  have hz0 : in64 z0 := by unfold in64; omega
  have HPL := Lib.hid hrd.len4
  have HL_1 := Lib.hid (hrd.wide (Nat.zero_le _) (Nat.le_refl _))
  clear hrd
  cases hv : vCls ps with
  | false =>
    have HV := Lib.hid hv
    have HF0 := Lib.hid (show forgetOf ps z0 = [] by simp [forgetOf, hv])
    clear hv
    go_wp2_with (fail)
    (with_reducible refine (ForgetClientsI_any 0 _ m c1 A1 ps z0 _ HL_1.out (by omega) (by omega) hz0).mono ?_)
    rintro e w2 ⟨A_2, c_3, rfl, hk_c_3, hrt, _, hbt⟩
    simp only [HF0.out, List.length_nil] at hrt hk_c_3 ⊢
    have HO_4 := Lib.hid (hrt.wide (Nat.zero_le _) (Nat.le_refl _))
    clear hrt
    have HL_5 := Lib.hid (HL_1.out.keep hbt (by omega))
    have HB_6 := Lib.hid (up HB_0.out hbt)
    have hz_2 := hbt.size
    clear HL_1 HB_0
    clear hbt
    go_wp2_with (fail)
    (with_reducible refine (ForgetClientsS_any 0 _ m c1 A1 ps z0 _ HL_5.out (by omega) (by omega) hz0).mono ?_)
    rintro e w3 ⟨A_7, c_8, rfl, hk_c_8, hrt, _, hbt⟩
    simp only [HF0.out, List.length_nil] at hrt hk_c_8 ⊢
    have HX_9 := Lib.hid (hrt.wide (Nat.zero_le _) (Nat.le_refl _))
    clear hrt
    have HL_10 := Lib.hid (HL_5.out.keep hbt (by omega))
    have HO_11 := Lib.hid (HO_4.out.keep hbt (by omega))
    have HB_12 := Lib.hid (up HB_6.out hbt)
    have hz_3 := hbt.size
    clear HL_5 HO_4 HB_6
    clear hbt
    go_wp2_with (fail)
    (with_reducible refine (equalClients_any _ _ 0 c_3 _ _ 0 c_8 A_2 A_7 ([] : List Qd) ([] : List Qd) _ HO_11.out (by omega) (by omega) HX_9.out (by omega) (by omega)).mono ?_)
    rintro e w4 ⟨rfl, hbt⟩
    rw [beq_self_eq_true]
    have HL_13 := Lib.hid (HL_10.out.keep hbt (by omega))
    have HO_14 := Lib.hid (HO_11.out.keep hbt (by omega))
    have HX_15 := Lib.hid (HX_9.out.keep hbt (by omega))
    have HB_16 := Lib.hid (up HB_12.out hbt)
    have hz_4 := hbt.size
    clear HL_10 HO_11 HX_9 HB_12
    clear hbt
    clear HX_15
    go_wp2_with (fail)
    (with_reducible refine (ValidClientsI_any 0 _ m c1 A1 ps _ HL_13.out (by omega) (by omega)).mono ?_)
    rintro e w5 ⟨rfl, hbt⟩
    rw [HV.out]
    have HL_17 := Lib.hid (HL_13.out.keep hbt (by omega))
    have HO_18 := Lib.hid (HO_14.out.keep hbt (by omega))
    have HB_19 := Lib.hid (up HB_16.out hbt)
    have hz_5 := hbt.size
    clear HL_13 HO_14 HB_16
    clear hbt
    go_wp2_with (fail)
    (with_reducible refine (ForgetClientsS_any 0 _ m c1 A1 ps z0 _ HL_17.out (by omega) (by omega) hz0).mono ?_)
    rintro e w6 ⟨A_20, c_21, rfl, hk_c_21, hrt, _, hbt⟩
    simp only [HF0.out, List.length_nil] at hrt hk_c_21 ⊢
    have HX_22 := Lib.hid (hrt.wide (Nat.zero_le _) (Nat.le_refl _))
    clear hrt
    have HL_23 := Lib.hid (HL_17.out.keep hbt (by omega))
    have HO_24 := Lib.hid (HO_18.out.keep hbt (by omega))
    have HB_25 := Lib.hid (up HB_19.out hbt)
    have hz_6 := hbt.size
    clear HL_17 HO_18 HB_19
    clear hbt
    go_wp2_with (fail)
    (with_reducible refine (equalClients_any _ _ 0 c_3 _ _ 0 c_21 A_2 A_20 ([] : List Qd) ([] : List Qd) _ HO_24.out (by omega) (by omega) HX_22.out (by omega) (by omega)).mono ?_)
    rintro e w7 ⟨rfl, hbt⟩
    rw [beq_self_eq_true]
    have HL_26 := Lib.hid (HL_23.out.keep hbt (by omega))
    have HO_27 := Lib.hid (HO_24.out.keep hbt (by omega))
    have HX_28 := Lib.hid (HX_22.out.keep hbt (by omega))
    have HB_29 := Lib.hid (up HB_25.out hbt)
    have hz_7 := hbt.size
    clear HL_23 HO_24 HX_22 HB_25
    clear hbt
    go_wp2
    go_ret
    exact ⟨rfl, HB_29.out⟩
  | true =>
  have HV := Lib.hid hv
  obtain ⟨hf1, hf2⟩ := forget_v hv z0
  have HVK := Lib.hid hf2
  have HF1 := Lib.hid hf1
  clear hv hf1 hf2
  obtain ⟨l, HLQ⟩ : ∃ l, Hid (keptCls ps z0 = l) := ⟨_, rfl⟩
  obtain ⟨N, HLL⟩ : ∃ N, Hid (l.length = N) := ⟨_, rfl⟩
  have hN : N ≤ 20 := by rw [← HLL.out, ← HLQ.out]; have := keptCls_le ps z0; rw [HPL.out] at this; omega
  go_wp2_with (fail)
  (with_reducible refine (ForgetClientsI_any 0 _ m c1 A1 ps z0 _ HL_1.out (by omega) (by omega) hz0).mono ?_)
  rintro e w2 ⟨A_30, c_31, rfl, hk_c_31, hrt, _, hbt⟩
  simp only [HF1.out, HLQ.out, HLL.out] at hrt hk_c_31 ⊢
  have HO_32 := Lib.hid (hrt.wide (Nat.zero_le _) (Nat.le_refl _))
  clear hrt
  have HL_33 := Lib.hid (HL_1.out.keep hbt (by omega))
  have HB_34 := Lib.hid (up HB_0.out hbt)
  have hz_2 := hbt.size
  clear HL_1 HB_0
  clear hbt
  go_wp2_with (fail)
  (with_reducible refine (ForgetClientsS_any 0 _ m c1 A1 ps z0 _ HL_33.out (by omega) (by omega) hz0).mono ?_)
  rintro e w3 ⟨A_35, c_36, rfl, hk_c_36, hrt, _, hbt⟩
  simp only [HF1.out, HLQ.out, HLL.out] at hrt hk_c_36 ⊢
  have HX_37 := Lib.hid (hrt.wide (Nat.zero_le _) (Nat.le_refl _))
  clear hrt
  have HL_38 := Lib.hid (HL_33.out.keep hbt (by omega))
  have HO_39 := Lib.hid (HO_32.out.keep hbt (by omega))
  have HB_40 := Lib.hid (up HB_34.out hbt)
  have hz_3 := hbt.size
  clear HL_33 HO_32 HB_34
  clear hbt
  go_wp2_with (fail)
  (with_reducible refine (equalClients_any _ _ N c_31 _ _ N c_36 A_30 A_35 l l _ HO_39.out (by omega) (by omega) HX_37.out (by omega) (by omega)).mono ?_)
  rintro e w4 ⟨rfl, hbt⟩
  rw [beq_self_eq_true]
  have HL_41 := Lib.hid (HL_38.out.keep hbt (by omega))
  have HO_42 := Lib.hid (HO_39.out.keep hbt (by omega))
  have HX_43 := Lib.hid (HX_37.out.keep hbt (by omega))
  have HB_44 := Lib.hid (up HB_40.out hbt)
  have hz_4 := hbt.size
  clear HL_38 HO_39 HX_37 HB_40
  clear hbt
  clear HX_43
  go_wp2_with (fail)
  (with_reducible refine (ValidClientsI_any 0 _ m c1 A1 ps _ HL_41.out (by omega) (by omega)).mono ?_)
  rintro e w5 ⟨rfl, hbt⟩
  rw [HV.out]
  have HL_45 := Lib.hid (HL_41.out.keep hbt (by omega))
  have HO_46 := Lib.hid (HO_42.out.keep hbt (by omega))
  have HB_47 := Lib.hid (up HB_44.out hbt)
  have hz_5 := hbt.size
  clear HL_41 HO_42 HB_44
  clear hbt
  go_wp2
  go_loopw [6, 7] (fun fv iv wr => ∃ (k f : Nat), k ≤ m ∧ f ≤ k ∧ fv = .int .i64 f ∧ iv = .int .i64 k ∧ Hid ((keptCls (ps.take k) z0).length = f) ∧ Hid (Below w5.heap.size w5 wr))
     (fun _ iv _ => m - (intOf iv).toNat)
  case atStart => exact ⟨0, 0, by omega, by omega, rfl, rfl, rfl, Below.refl _ _⟩
  case round =>
    obtain ⟨w6, HWR⟩ : ∃ x : World, x = wr := ⟨_, rfl⟩
    subst HWR
    obtain ⟨k, f, hk, hf, rfl, rfl, HF, HLP⟩ := hrel
    have hlb := HLP.out
    have HL_48 := Lib.hid (HL_45.out.keep hlb (by omega))
    have HO_49 := Lib.hid (HO_46.out.keep hlb (by omega))
    have HB_50 := Lib.hid (up HB_47.out hlb)
    have hz_6 := hlb.size
    clear HL_45 HO_46 HB_47
    clear hlb
    by_cases hlt : k < m
    case neg =>
      obtain rfl : m = k := by omega
      obtain rfl : N = f := by have h := HF.out; rw [List.take_of_length_le (by rw [HPL.out]; omega)] at h; rw [← h, HLQ.out]; exact HLL.out.symm
      go_wp2
      go_ret
      exact ⟨rfl, HB_50.out⟩
    have hkm : (k : Int) < (m : Int) := by omega
    have hk0 : (0 : Int) ≤ (k : Int) := by omega
    obtain ⟨b, off, x, y, u, t, hAe, hbB, _, hg, hc0, hc1', hc2', hc3'⟩ := HL_48.out.quad (k := k) hlt
    subst hAe
    have HS := Lib.hid (keptCls_step (b := z0) hg)
    by_cases hs : z0 ≤ t
    case pos =>
      have hsd : decide (z0 ≤ t) = true := decide_eq_true hs
      have HS2 := Lib.hid (show (keptCls (ps.take (k + 1)) z0).length = f + 1 by rw [HS.out, if_pos hs, List.length_append, HF.out]; rfl)
      have HG2 := Lib.hid (show l[f]? = some (x, y, u, t) by rw [← HLQ.out, ← HF.out]; exact kept_get _ hg (by simpa using hs))
      have hfN : f < N := by rw [← HLL.out]; exact (List.getElem?_eq_some_iff.1 HG2.out).1
      clear hg hs
      have hfn : (f : Int) < (N : Int) := by omega
      have hf0 : (0 : Int) ≤ (f : Int) := by omega
      have hfd : decide ((N : Int) ≤ (f : Int)) = false := decide_eq_false (by omega)
      have hfd2 : decide (N ≤ f) = false := decide_eq_false (by omega)
      have hwf : IntKind.i64.wrap ((f : Int) + 1) = (f : Int) + 1 := IntWalk.i64_in _ (by omega)
      obtain ⟨b2, off2, x2, y2, u2, t2, hAe2, hbB2, _, hg2, hd0, hd1, hd2, hd3⟩ := HO_49.out.quad (k := f) hfN
      subst hAe2
      have hq : (x, y, u, t) = (x2, y2, u2, t2) := by rw [HG2.out] at hg2; injection hg2
      injection hq with hq1 hq; injection hq with hq2 hq; injection hq with hq3 hq4
      subst hq1; subst hq2; subst hq3; subst hq4
      clear hg2
      go_wp2_with (fail)
      go_quiet (fail)
      go_wp2
      go_roundw
      case rel => exact ⟨k + 1, f + 1, by omega, by omega, by go_num, by go_num, HS2.out, up_drewN HLP.out _⟩
      case measure => simp [intOf]; omega
    have hsd : decide (z0 ≤ t) = false := decide_eq_false hs
    have HS2 := Lib.hid (show (keptCls (ps.take (k + 1)) z0).length = f by rw [HS.out, if_neg hs, List.append_nil, HF.out])
    have HCN := Lib.hid (show checkOf l x 1 = 1 by rw [← HLQ.out]; exact forget_check (q := (x, y, u, t)) HV.out (List.mem_of_getElem? hg) (by show t < z0; omega))
    have hx64 : in64 x := by have h := (vCls_ok HV.out (List.mem_of_getElem? hg)).1; have h1 : 0 ≤ x := h.1; have h2 : x ≤ 9 := h.2; unfold in64; omega
    clear hg hs
    go_wp2_with (fail)
    (with_reducible refine (CheckCallI_any 0 _ N c_31 A_30 l x 1 _ HO_49.out (by omega) (by omega) hx64 (by unfold in64; omega)).mono ?_)
    rintro e w7 ⟨rfl, hbt⟩
    rw [HCN.out]
    have HL_51 := Lib.hid (HL_48.out.keep hbt (by omega))
    have HO_52 := Lib.hid (HO_49.out.keep hbt (by omega))
    have HB_53 := Lib.hid (up HB_50.out hbt)
    have hz_7 := hbt.size
    have HP_54 := Lib.hid (up HLP.out hbt)
    clear HL_48 HO_49 HB_50 HLP
    clear hbt
    go_wp2
    go_roundw
    case rel => exact ⟨k + 1, f, by omega, by omega, rfl, by go_num, HS2.out, HP_54.out⟩
    case measure => simp [intOf]; omega
end Go.Proofs.Ytipoakimjhfhfab
