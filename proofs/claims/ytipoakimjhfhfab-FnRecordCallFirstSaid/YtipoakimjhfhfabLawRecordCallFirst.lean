/- The law FnRecordCallFirst, walked: it returns true. (Written by a program over gen/lawlib.py.) -/
import Derived.Test.YtipoakimjhfhfabDrawK2
import Derived.Test.YtipoakimjhfhfabClientI
import Derived.Test.YtipoakimjhfhfabClientF
import Derived.Test.YtipoakimjhfhfabMayE
import Derived.Test.YtipoakimjhfhfabEqLists
import Derived.Test.YtipoakimjhfhfabLawClientM
import Derived.BigQuiet
import Derived.Deep.RegionLaw
set_option linter.unusedSimpArgs false
set_option linter.unusedVariables false
namespace Go.Proofs.Ytipoakimjhfhfab
open Go.RowKit

set_option maxRecDepth 100000 in
set_option maxHeartbeats 6400000 in
theorem lawRecordCallFirst_any (n c : Nat) (A : Option Addr) (xs : List Int) (w : World) (hr : Rd w 0 w.heap.size 1 A n (bvs xs)) (hby : Bytes xs) (hc : n ≤ c) (hc2 : c ≤ 9223372036854775807) :
    Calls Try.prog 13 #[.slice A n c] w fun e w' => e = .returned (.bool true) ∧ Below w.heap.size w w' := by
  by_cases hbig : (1048576 : Int) < n
  · go_enter Try.func13, Try.ntmps13
    go_wp2
    go_ret
    exact ⟨rfl, Below.refl _ _⟩
  go_enter Try.func13, Try.ntmps13
  go_wp2_with (fail)
  (with_reducible refine (drawRecordCall_any n c A xs w hr hby (by omega) hc hc2).mono ?_)
  rintro e w1 ⟨A1, m, c1, ps, z0, z1, z2, z3, rfl, hm, hk1, hsm, hrd, ⟨z0a, z0b⟩, ⟨z1a, z1b⟩, ⟨z2a, z2b⟩, ⟨z3a, z3b⟩, hb1⟩
  clear hbig hr
  have HB_0 := Lib.hid hb1
  have hz_1 := hb1.size
  clear hb1
  clear hsm
  have hz0 : in64 z0 := by unfold in64; omega
  have hz1 : in64 z1 := by unfold in64; omega
  have hz2 : in64 z2 := by unfold in64; omega
  have hz3 : in64 z3 := by unfold in64; omega
  have HPL := Lib.hid hrd.len4
  have HL_1 := Lib.hid (hrd.wide (Nat.zero_le _) (Nat.le_refl _))
  clear hrd
  cases hU : recordOf ps z0 z1 z2 z3 with
  | none =>
    have HU := Lib.hid hU
    clear hU
    go_wp2_with (fail)
    (with_reducible refine (mayN (RecordCallI_any 0 _ m c1 A1 ps z0 z1 z2 z3 _ HL_1.out (by omega) (by omega) hz0 hz1 hz2 hz3) HU.out).mono ?_)
    rintro e w2 ⟨A_2, c_3, rfl, hrt, hbt⟩
    have HO_5 := Lib.hid (hrt.wide (Nat.zero_le _) (Nat.le_refl _))
    clear hrt
    have HL_6 := Lib.hid (HL_1.out.keep hbt (by omega))
    have HB_7 := Lib.hid (up HB_0.out hbt)
    have hz_2 := hbt.size
    clear HL_1 HB_0
    clear hbt
    go_wp2_with (fail)
    (with_reducible refine (mayN (RecordCallS_any 0 _ m c1 A1 ps z0 z1 z2 z3 _ HL_6.out (by omega) (by omega) hz0 hz1 hz2 hz3) HU.out).mono ?_)
    rintro e w3 ⟨A_8, c_9, rfl, hrt, hbt⟩
    have HX_11 := Lib.hid (hrt.wide (Nat.zero_le _) (Nat.le_refl _))
    clear hrt
    have HL_12 := Lib.hid (HL_6.out.keep hbt (by omega))
    have HO_13 := Lib.hid (HO_5.out.keep hbt (by omega))
    have HB_14 := Lib.hid (up HB_7.out hbt)
    have hz_3 := hbt.size
    clear HL_6 HO_5 HB_7
    clear hbt
    go_wp2_with (fail)
    (with_reducible refine (equalClients_any _ _ 0 c_3 _ _ 0 c_9 A_2 A_8 ([] : List Qd) ([] : List Qd) _ HO_13.out (by omega) (by omega) HX_11.out (by omega) (by omega)).mono ?_)
    rintro e w4 ⟨rfl, hbt⟩
    rw [beq_self_eq_true]
    have HL_15 := Lib.hid (HL_12.out.keep hbt (by omega))
    have HO_16 := Lib.hid (HO_13.out.keep hbt (by omega))
    have HX_17 := Lib.hid (HX_11.out.keep hbt (by omega))
    have HB_18 := Lib.hid (up HB_14.out hbt)
    have hz_4 := hbt.size
    clear HL_12 HO_13 HX_11 HB_14
    clear hbt
    go_wp2_with (fail)
    (with_reducible refine (ValidClientsI_any 0 _ m c1 A1 ps _ HL_15.out (by omega) (by omega)).mono ?_)
    rintro e w5 ⟨rfl, hbt⟩
    have HL_19 := Lib.hid (HL_15.out.keep hbt (by omega))
    have HO_20 := Lib.hid (HO_16.out.keep hbt (by omega))
    have HX_21 := Lib.hid (HX_17.out.keep hbt (by omega))
    have HB_22 := Lib.hid (up HB_18.out hbt)
    have hz_5 := hbt.size
    clear HL_15 HO_16 HX_17 HB_18
    clear hbt
    cases hv : vCls ps with
    | false =>
      clear hv
      go_wp2_with (fail)
      (with_reducible refine (equalClients_any _ _ 0 c_3 _ _ 0 c_9 A_2 A_8 ([] : List Qd) ([] : List Qd) _ HO_20.out (by omega) (by omega) HX_21.out (by omega) (by omega)).mono ?_)
      rintro e w6 ⟨rfl, hbt⟩
      rw [beq_self_eq_true]
      have HL_23 := Lib.hid (HL_19.out.keep hbt (by omega))
      have HO_24 := Lib.hid (HO_20.out.keep hbt (by omega))
      have HX_25 := Lib.hid (HX_21.out.keep hbt (by omega))
      have HB_26 := Lib.hid (up HB_22.out hbt)
      have hz_6 := hbt.size
      clear HL_19 HO_20 HX_21 HB_22
      clear hbt
      go_wp2
      go_ret
      exact ⟨rfl, HB_26.out⟩
    | true =>
    have HV := Lib.hid hv
    clear hv
    clear HO_20
    clear HX_21
    go_wp2
    go_loopw [12] (fun iv wr => ∃ (k : Nat), k ≤ m ∧ iv = .int .i64 k ∧ Hid (∀ q ∈ ps.take k, q.1 ≠ 7) ∧ Hid (Below w5.heap.size w5 wr))
       (fun iv _ => m - (intOf iv).toNat)
    case atStart => exact ⟨0, by omega, rfl, (fun q hq => by simp at hq), Below.refl _ _⟩
    case round =>
      obtain ⟨w6, HWR⟩ : ∃ x : World, x = wr := ⟨_, rfl⟩
      subst HWR
      obtain ⟨k, hk, rfl, HNO, HLP⟩ := hrel
      have hlb := HLP.out
      have HL_27 := Lib.hid (HL_19.out.keep hlb (by omega))
      have HB_28 := Lib.hid (up HB_22.out hlb)
      have hz_6 := hlb.size
      clear HL_19 HB_22
      clear hlb
      by_cases hlt : k < m
      case neg =>
        have hge : (m : Int) ≤ (k : Int) := by omega
        have HRF := Lib.hid (record_first HV.out (fun q hq => HNO.out q (by rwa [List.take_of_length_le (by rw [HPL.out]; omega)])) z2)
        go_wp2_with (fail)
        (with_reducible refine (mayB (RecordCallI_any 0 _ m c1 A1 ps 7 1 z2 5 _ HL_27.out (by omega) (by omega) (by unfold in64; omega) (by unfold in64; omega) hz2 (by unfold in64; omega)) HRF.out.1).mono ?_)
        rintro e w7 ⟨A_29, n_31, c_30, rfl, hbt⟩
        have HL_32 := Lib.hid (HL_27.out.keep hbt (by omega))
        have HB_33 := Lib.hid (up HB_28.out hbt)
        have hz_7 := hbt.size
        have HP_34 := Lib.hid (up HLP.out hbt)
        clear HL_27 HB_28 HLP
        clear hbt
        go_wp2_with (fail)
        (with_reducible refine (mayB (RecordCallI_any 0 _ m c1 A1 ps 7 2 z2 5 _ HL_32.out (by omega) (by omega) (by unfold in64; omega) (by unfold in64; omega) hz2 (by unfold in64; omega)) HRF.out.2).mono ?_)
        rintro e w8 ⟨A_35, n_37, c_36, rfl, hbt⟩
        have HL_38 := Lib.hid (HL_32.out.keep hbt (by omega))
        have HB_39 := Lib.hid (up HB_33.out hbt)
        have hz_8 := hbt.size
        have HP_40 := Lib.hid (up HP_34.out hbt)
        clear HL_32 HB_33 HP_34
        clear hbt
        go_wp2
        go_ret
        exact ⟨rfl, HB_39.out⟩
      have hkm : (k : Int) < (m : Int) := by omega
      have hk0 : (0 : Int) ≤ (k : Int) := by omega
      obtain ⟨b, off, x, y, u, t, hAe, hbB, _, hg, hc0, hc1', hc2', hc3'⟩ := HL_27.out.quad (k := k) hlt
      subst hAe
      have HTK := Lib.hid (take_snoc hg)
      clear hg
      by_cases h7 : x = 7
      case pos =>
        subst h7
        go_wp2
        go_ret
        exact ⟨rfl, HB_28.out⟩
      have h7b : (x == 7) = false := by simpa using h7
      have HN2 := Lib.hid (show ∀ q ∈ ps.take (k + 1), q.1 ≠ 7 from fun q hq => by rw [HTK.out] at hq; rcases List.mem_append.1 hq with h | h; exact HNO.out q h; obtain rfl := List.mem_singleton.1 h; exact h7)
      clear h7
      go_wp2
      go_roundw
      case rel => exact ⟨k + 1, by omega, by go_num, HN2.out, HLP.out⟩
      case measure => simp [intOf]; omega
  | some l =>
    have HU := Lib.hid hU
    obtain ⟨N, HLL⟩ : ∃ N, Hid (l.length = N) := ⟨_, rfl⟩
    have hN : N ≤ 10 := by obtain ⟨_, h, _⟩ := record_facts hU; have := vCls_len h; have := HLL.out; omega
    clear hU
    go_wp2_with (fail)
    (with_reducible refine (mayS (N := N) (RecordCallI_any 0 _ m c1 A1 ps z0 z1 z2 z3 _ HL_1.out (by omega) (by omega) hz0 hz1 hz2 hz3) HU.out HLL.out).mono ?_)
    rintro e w2 ⟨A_42, c_43, rfl, hk_c_43, hrt, hbt⟩
    have HO_45 := Lib.hid (hrt.wide (Nat.zero_le _) (Nat.le_refl _))
    clear hrt
    have HL_46 := Lib.hid (HL_1.out.keep hbt (by omega))
    have HB_47 := Lib.hid (up HB_0.out hbt)
    have hz_2 := hbt.size
    clear HL_1 HB_0
    clear hbt
    go_wp2_with (fail)
    (with_reducible refine (mayS (N := N) (RecordCallS_any 0 _ m c1 A1 ps z0 z1 z2 z3 _ HL_46.out (by omega) (by omega) hz0 hz1 hz2 hz3) HU.out HLL.out).mono ?_)
    rintro e w3 ⟨A_48, c_49, rfl, hk_c_49, hrt, hbt⟩
    have HX_51 := Lib.hid (hrt.wide (Nat.zero_le _) (Nat.le_refl _))
    clear hrt
    have HL_52 := Lib.hid (HL_46.out.keep hbt (by omega))
    have HO_53 := Lib.hid (HO_45.out.keep hbt (by omega))
    have HB_54 := Lib.hid (up HB_47.out hbt)
    have hz_3 := hbt.size
    clear HL_46 HO_45 HB_47
    clear hbt
    go_wp2_with (fail)
    (with_reducible refine (equalClients_any _ _ N c_43 _ _ N c_49 A_42 A_48 l l _ HO_53.out (by omega) (by omega) HX_51.out (by omega) (by omega)).mono ?_)
    rintro e w4 ⟨rfl, hbt⟩
    rw [beq_self_eq_true]
    have HL_55 := Lib.hid (HL_52.out.keep hbt (by omega))
    have HO_56 := Lib.hid (HO_53.out.keep hbt (by omega))
    have HX_57 := Lib.hid (HX_51.out.keep hbt (by omega))
    have HB_58 := Lib.hid (up HB_54.out hbt)
    have hz_4 := hbt.size
    clear HL_52 HO_53 HX_51 HB_54
    clear hbt
    go_wp2_with (fail)
    (with_reducible refine (ValidClientsI_any 0 _ m c1 A1 ps _ HL_55.out (by omega) (by omega)).mono ?_)
    rintro e w5 ⟨rfl, hbt⟩
    have HL_59 := Lib.hid (HL_55.out.keep hbt (by omega))
    have HO_60 := Lib.hid (HO_56.out.keep hbt (by omega))
    have HX_61 := Lib.hid (HX_57.out.keep hbt (by omega))
    have HB_62 := Lib.hid (up HB_58.out hbt)
    have hz_5 := hbt.size
    clear HL_55 HO_56 HX_57 HB_58
    clear hbt
    cases hv : vCls ps with
    | false =>
      clear hv
      go_wp2_with (fail)
      (with_reducible refine (equalClients_any _ _ N c_43 _ _ N c_49 A_42 A_48 l l _ HO_60.out (by omega) (by omega) HX_61.out (by omega) (by omega)).mono ?_)
      rintro e w6 ⟨rfl, hbt⟩
      rw [beq_self_eq_true]
      have HL_63 := Lib.hid (HL_59.out.keep hbt (by omega))
      have HO_64 := Lib.hid (HO_60.out.keep hbt (by omega))
      have HX_65 := Lib.hid (HX_61.out.keep hbt (by omega))
      have HB_66 := Lib.hid (up HB_62.out hbt)
      have hz_6 := hbt.size
      clear HL_59 HO_60 HX_61 HB_62
      clear hbt
      go_wp2
      go_ret
      exact ⟨rfl, HB_66.out⟩
    | true =>
    have HV := Lib.hid hv
    clear hv
    clear HO_60
    clear HX_61
    go_wp2
    go_loopw [12] (fun iv wr => ∃ (k : Nat), k ≤ m ∧ iv = .int .i64 k ∧ Hid (∀ q ∈ ps.take k, q.1 ≠ 7) ∧ Hid (Below w5.heap.size w5 wr))
       (fun iv _ => m - (intOf iv).toNat)
    case atStart => exact ⟨0, by omega, rfl, (fun q hq => by simp at hq), Below.refl _ _⟩
    case round =>
      obtain ⟨w6, HWR⟩ : ∃ x : World, x = wr := ⟨_, rfl⟩
      subst HWR
      obtain ⟨k, hk, rfl, HNO, HLP⟩ := hrel
      have hlb := HLP.out
      have HL_67 := Lib.hid (HL_59.out.keep hlb (by omega))
      have HB_68 := Lib.hid (up HB_62.out hlb)
      have hz_6 := hlb.size
      clear HL_59 HB_62
      clear hlb
      by_cases hlt : k < m
      case neg =>
        have hge : (m : Int) ≤ (k : Int) := by omega
        have HRF := Lib.hid (record_first HV.out (fun q hq => HNO.out q (by rwa [List.take_of_length_le (by rw [HPL.out]; omega)])) z2)
        go_wp2_with (fail)
        (with_reducible refine (mayB (RecordCallI_any 0 _ m c1 A1 ps 7 1 z2 5 _ HL_67.out (by omega) (by omega) (by unfold in64; omega) (by unfold in64; omega) hz2 (by unfold in64; omega)) HRF.out.1).mono ?_)
        rintro e w7 ⟨A_69, n_71, c_70, rfl, hbt⟩
        have HL_72 := Lib.hid (HL_67.out.keep hbt (by omega))
        have HB_73 := Lib.hid (up HB_68.out hbt)
        have hz_7 := hbt.size
        have HP_74 := Lib.hid (up HLP.out hbt)
        clear HL_67 HB_68 HLP
        clear hbt
        go_wp2_with (fail)
        (with_reducible refine (mayB (RecordCallI_any 0 _ m c1 A1 ps 7 2 z2 5 _ HL_72.out (by omega) (by omega) (by unfold in64; omega) (by unfold in64; omega) hz2 (by unfold in64; omega)) HRF.out.2).mono ?_)
        rintro e w8 ⟨A_75, n_77, c_76, rfl, hbt⟩
        have HL_78 := Lib.hid (HL_72.out.keep hbt (by omega))
        have HB_79 := Lib.hid (up HB_73.out hbt)
        have hz_8 := hbt.size
        have HP_80 := Lib.hid (up HP_74.out hbt)
        clear HL_72 HB_73 HP_74
        clear hbt
        go_wp2
        go_ret
        exact ⟨rfl, HB_79.out⟩
      have hkm : (k : Int) < (m : Int) := by omega
      have hk0 : (0 : Int) ≤ (k : Int) := by omega
      obtain ⟨b, off, x, y, u, t, hAe, hbB, _, hg, hc0, hc1', hc2', hc3'⟩ := HL_67.out.quad (k := k) hlt
      subst hAe
      have HTK := Lib.hid (take_snoc hg)
      clear hg
      by_cases h7 : x = 7
      case pos =>
        subst h7
        go_wp2
        go_ret
        exact ⟨rfl, HB_68.out⟩
      have h7b : (x == 7) = false := by simpa using h7
      have HN2 := Lib.hid (show ∀ q ∈ ps.take (k + 1), q.1 ≠ 7 from fun q hq => by rw [HTK.out] at hq; rcases List.mem_append.1 hq with h | h; exact HNO.out q h; obtain rfl := List.mem_singleton.1 h; exact h7)
      clear h7
      go_wp2
      go_roundw
      case rel => exact ⟨k + 1, by omega, by go_num, HN2.out, HLP.out⟩
      case measure => simp [intOf]; omega
end Go.Proofs.Ytipoakimjhfhfab
