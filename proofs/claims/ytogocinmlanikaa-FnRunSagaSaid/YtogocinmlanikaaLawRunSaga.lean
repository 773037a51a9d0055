/- The law FnRunSaga, walked: it returns true. (Written by a program over gen/lawlib.py.) -/
import Derived.Test.YtogocinmlanikaaDrawSt2
import Derived.Test.YtogocinmlanikaaSagaD
import Derived.Test.YtogocinmlanikaaSagaS
import Derived.Test.YtogocinmlanikaaLawLists
import Derived.Test.YtogocinmlanikaaLawSagaM
import Derived.BigQuiet
import Derived.Deep.RegionLaw
import Derived.Deep.RegionHeld3
set_option linter.unusedSimpArgs false
set_option linter.unusedVariables false
namespace Go.Proofs.Ytogocinmlanikaa
open Go.RowKit

set_option maxRecDepth 100000 in
set_option maxHeartbeats 6400000 in
theorem lawRunSaga_any (n c : Nat) (A : Option Addr) (xs : List Int) (w : World) (hr : Rd w 0 w.heap.size 1 A n (bvs xs)) (hby : Bytes xs) (hc : n ≤ c) (hc2 : c ≤ 9223372036854775807) :
    Calls Try.prog 10 #[.slice A n c] w fun e w' => e = .returned (.bool true) ∧ Below w.heap.size w w' := by
  by_cases hbig : (1048576 : Int) < n
  · go_enter Try.func10, Try.ntmps10
    go_wp2
    go_ret
    exact ⟨rfl, Below.refl _ _⟩
  go_enter Try.func10, Try.ntmps10
  go_wp2_with (fail)
  (with_reducible refine (drawRunSaga_any n c A xs w hr hby (by omega) hc hc2).mono ?_)
  rintro e w1 ⟨A1, m, c1, ps, z, rfl, hm, hc1, hcc, hz0, hz1, hsm, hrd, hb1⟩
  clear hbig hr
  have HB_0 := Lib.hid hb1
  have hz_1 := hb1.size
  clear hb1
  have HSM := Lib.hid hsm
  clear hsm
  have HPL := Lib.hid hrd.len2
  have HL_1 := Lib.hid (hrd.wide (Nat.zero_le _) (Nat.le_refl _))
  clear hrd
  have hz64 : in64 z := by unfold in64; omega
  cases hv : vSteps ps with
  | false =>
    have HV := Lib.hid hv
    clear hv
    by_cases h10 : m ≤ 10
    ·
      go_wp2_with (fail)
      (with_reducible refine (freshN (RunSagaI_any 0 _ m c1 A1 ps z _ HL_1.out (by omega) (by omega) hz64) (sagaOf_bad HV.out).1 (sagaOf_bad HV.out).2 rfl).mono ?_)
      rintro e w2 ⟨AG, cG, rfl, hcG, hrg, hbt⟩
      have HL_2 := Lib.hid (HL_1.out.keep hbt (by omega))
      have HB_3 := Lib.hid (up HB_0.out hbt)
      have hz_2 := hbt.size
      clear HL_1 HB_0
      clear hbt
      have HG_4 := Lib.hid (hrg.wide (Nat.zero_le _) (Nat.le_refl _))
      clear hrg
      go_wp2_with (fail)
      (with_reducible refine (freshN (RunSagaS_any 0 _ m c1 A1 ps z _ HL_2.out (by omega) (by omega) hz64) (sagaOf_bad HV.out).1 (sagaOf_bad HV.out).2 rfl).mono ?_)
      rintro e w3 ⟨AH, cH, rfl, hcH, hrg, hbt⟩
      have HL_5 := Lib.hid (HL_2.out.keep hbt (by omega))
      have HG_6 := Lib.hid (HG_4.out.keep hbt (by omega))
      have HB_7 := Lib.hid (up HB_3.out hbt)
      have hz_3 := hbt.size
      clear HL_2 HG_4 HB_3
      clear hbt
      have HH_8 := Lib.hid (hrg.wide (Nat.zero_le _) (Nat.le_refl _))
      clear hrg
      go_wp2_with (fail)
      (with_reducible refine (equalInts_any _ _ 0 cG _ _ 0 cH AG AH [] [] _ HG_6.out (by omega) (by omega) HH_8.out (by omega) (by omega)).mono ?_)
      rintro e w4 ⟨rfl, hbt⟩
      rw [beq_self_eq_true]
      have HL_9 := Lib.hid (HL_5.out.keep hbt (by omega))
      have HG_10 := Lib.hid (HG_6.out.keep hbt (by omega))
      have HH_11 := Lib.hid (HH_8.out.keep hbt (by omega))
      have HB_12 := Lib.hid (up HB_7.out hbt)
      have hz_4 := hbt.size
      clear HL_5 HG_6 HH_8 HB_7
      clear hbt
      go_wp2
      go_ret
      exact ⟨rfl, HB_12.out⟩
    ·
      go_wp2_with (fail)
      (with_reducible refine (freshN (RunSagaI_any 0 _ m c1 A1 ps z _ HL_1.out (by omega) (by omega) hz64) (sagaOf_bad HV.out).1 (sagaOf_bad HV.out).2 rfl).mono ?_)
      rintro e w2 ⟨AG, cG, rfl, hcG, hrg, hbt⟩
      have HL_13 := Lib.hid (HL_1.out.keep hbt (by omega))
      have HB_14 := Lib.hid (up HB_0.out hbt)
      have hz_2 := hbt.size
      clear HL_1 HB_0
      clear hbt
      have HG_15 := Lib.hid (hrg.wide (Nat.zero_le _) (Nat.le_refl _))
      clear hrg
      go_wp2_with (fail)
      (with_reducible refine (freshN (RunSagaS_any 0 _ m c1 A1 ps z _ HL_13.out (by omega) (by omega) hz64) (sagaOf_bad HV.out).1 (sagaOf_bad HV.out).2 rfl).mono ?_)
      rintro e w3 ⟨AH, cH, rfl, hcH, hrg, hbt⟩
      have HL_16 := Lib.hid (HL_13.out.keep hbt (by omega))
      have HG_17 := Lib.hid (HG_15.out.keep hbt (by omega))
      have HB_18 := Lib.hid (up HB_14.out hbt)
      have hz_3 := hbt.size
      clear HL_13 HG_15 HB_14
      clear hbt
      have HH_19 := Lib.hid (hrg.wide (Nat.zero_le _) (Nat.le_refl _))
      clear hrg
      go_wp2_with (fail)
      (with_reducible refine (equalInts_any _ _ 0 cG _ _ 0 cH AG AH [] [] _ HG_17.out (by omega) (by omega) HH_19.out (by omega) (by omega)).mono ?_)
      rintro e w4 ⟨rfl, hbt⟩
      rw [beq_self_eq_true]
      have HL_20 := Lib.hid (HL_16.out.keep hbt (by omega))
      have HG_21 := Lib.hid (HG_17.out.keep hbt (by omega))
      have HH_22 := Lib.hid (HH_19.out.keep hbt (by omega))
      have HB_23 := Lib.hid (up HB_18.out hbt)
      have hz_4 := hbt.size
      clear HL_16 HG_17 HH_19 HB_18
      clear hbt
      go_wp2_with (fail)
      (with_reducible refine (equalInts_any _ _ 0 cG _ _ 0 cH AG AH [] [] _ HG_21.out (by omega) (by omega) HH_22.out (by omega) (by omega)).mono ?_)
      rintro e w5 ⟨rfl, hbt⟩
      rw [beq_self_eq_true]
      have HL_24 := Lib.hid (HL_20.out.keep hbt (by omega))
      have HG_25 := Lib.hid (HG_21.out.keep hbt (by omega))
      have HH_26 := Lib.hid (HH_22.out.keep hbt (by omega))
      have HB_27 := Lib.hid (up HB_23.out hbt)
      have hz_5 := hbt.size
      clear HL_20 HG_21 HH_22 HB_23
      clear hbt
      go_wp2
      go_ret
      exact ⟨rfl, HB_27.out⟩
  | true =>
    have HV := Lib.hid hv
    have h10 := vSteps_len hv
    rw [HPL.out] at h10
    clear hv
    cases hf : failsAt ps z with
    | false =>
      have HF := Lib.hid hf
      clear hf
      have HN := Lib.hid (show (dos ps).length = m by rw [dos_len, HPL.out])
      rcases Nat.eq_zero_or_pos m with hm0 | hm0
      · subst hm0
        go_wp2_with (fail)
        (with_reducible refine (freshN (RunSagaI_any 0 _ 0 c1 A1 ps z _ HL_1.out (by omega) (by omega) hz64) (sagaOf_good HV.out HF.out).1 (sagaOf_good HV.out HF.out).2 HN.out).mono ?_)
        rintro e w2 ⟨AG, cG, rfl, hcG, hrg, hbt⟩
        have HL_28 := Lib.hid (HL_1.out.keep hbt (by omega))
        have HB_29 := Lib.hid (up HB_0.out hbt)
        have hz_2 := hbt.size
        clear HL_1 HB_0
        clear hbt
        have HG_30 := Lib.hid (hrg.wide (Nat.zero_le _) (Nat.le_refl _))
        clear hrg
        go_wp2_with (fail)
        (with_reducible refine (freshN (RunSagaS_any 0 _ 0 c1 A1 ps z _ HL_28.out (by omega) (by omega) hz64) (sagaOf_good HV.out HF.out).1 (sagaOf_good HV.out HF.out).2 HN.out).mono ?_)
        rintro e w3 ⟨AH, cH, rfl, hcH, hrg, hbt⟩
        have HL_31 := Lib.hid (HL_28.out.keep hbt (by omega))
        have HG_32 := Lib.hid (HG_30.out.keep hbt (by omega))
        have HB_33 := Lib.hid (up HB_29.out hbt)
        have hz_3 := hbt.size
        clear HL_28 HG_30 HB_29
        clear hbt
        have HH_34 := Lib.hid (hrg.wide (Nat.zero_le _) (Nat.le_refl _))
        clear hrg
        go_wp2_with (fail)
        (with_reducible refine (equalInts_any _ _ 0 cG _ _ 0 cH AG AH (dos ps) (dos ps) _ HG_32.out (by omega) (by omega) HH_34.out (by omega) (by omega)).mono ?_)
        rintro e w4 ⟨rfl, hbt⟩
        rw [beq_self_eq_true]
        have HL_35 := Lib.hid (HL_31.out.keep hbt (by omega))
        have HG_36 := Lib.hid (HG_32.out.keep hbt (by omega))
        have HH_37 := Lib.hid (HH_34.out.keep hbt (by omega))
        have HB_38 := Lib.hid (up HB_33.out hbt)
        have hz_4 := hbt.size
        clear HL_31 HG_32 HH_34 HB_33
        clear hbt
        go_wp2
        go_ret
        exact ⟨rfl, HB_38.out⟩
      ·
        have hme : ((m : Int) == 0) = false := by rw [beq_eq_false_iff_ne]; omega
        have hmm : ((m : Int) == (m : Int)) = true := by simp
        go_wp2_with (fail)
        (with_reducible refine (freshN (RunSagaI_any 0 _ m c1 A1 ps z _ HL_1.out (by omega) (by omega) hz64) (sagaOf_good HV.out HF.out).1 (sagaOf_good HV.out HF.out).2 HN.out).mono ?_)
        rintro e w2 ⟨AG, cG, rfl, hcG, hrg, hbt⟩
        have HL_39 := Lib.hid (HL_1.out.keep hbt (by omega))
        have HB_40 := Lib.hid (up HB_0.out hbt)
        have hz_2 := hbt.size
        clear HL_1 HB_0
        clear hbt
        have HG_41 := Lib.hid (hrg.wide (Nat.zero_le _) (Nat.le_refl _))
        clear hrg
        go_wp2_with (fail)
        (with_reducible refine (freshN (RunSagaS_any 0 _ m c1 A1 ps z _ HL_39.out (by omega) (by omega) hz64) (sagaOf_good HV.out HF.out).1 (sagaOf_good HV.out HF.out).2 HN.out).mono ?_)
        rintro e w3 ⟨AH, cH, rfl, hcH, hrg, hbt⟩
        have HL_42 := Lib.hid (HL_39.out.keep hbt (by omega))
        have HG_43 := Lib.hid (HG_41.out.keep hbt (by omega))
        have HB_44 := Lib.hid (up HB_40.out hbt)
        have hz_3 := hbt.size
        clear HL_39 HG_41 HB_40
        clear hbt
        have HH_45 := Lib.hid (hrg.wide (Nat.zero_le _) (Nat.le_refl _))
        clear hrg
        go_wp2_with (fail)
        (with_reducible refine (equalInts_any _ _ m cG _ _ m cH AG AH (dos ps) (dos ps) _ HG_43.out (by omega) (by omega) HH_45.out (by omega) (by omega)).mono ?_)
        rintro e w4 ⟨rfl, hbt⟩
        rw [beq_self_eq_true]
        have HL_46 := Lib.hid (HL_42.out.keep hbt (by omega))
        have HG_47 := Lib.hid (HG_43.out.keep hbt (by omega))
        have HH_48 := Lib.hid (HH_45.out.keep hbt (by omega))
        have HB_49 := Lib.hid (up HB_44.out hbt)
        have hz_4 := hbt.size
        clear HL_42 HG_43 HH_45 HB_44
        clear hbt
        go_wp2
        go_loopw [10] (fun iv wr => (∃ (k : Nat), k ≤ m ∧ iv = .int .i64 k) ∧ Hid (Below w4.heap.size w4 wr))
           (fun iv _ => m - (intOf iv).toNat)
        case atStart => exact ⟨⟨0, by omega, rfl⟩, Below.refl _ _⟩
        case round =>
          obtain ⟨w5, HWR⟩ : ∃ x : World, x = wr := ⟨_, rfl⟩
          subst HWR
          obtain ⟨⟨k, hk, rfl⟩, HLP⟩ := hrel
          have hlb := HLP.out
          have HL_50 := Lib.hid (HL_46.out.keep hlb (by omega))
          have HG_51 := Lib.hid (HG_47.out.keep hlb (by omega))
          have HH_52 := Lib.hid (HH_48.out.keep hlb (by omega))
          have HB_53 := Lib.hid (up HB_49.out hlb)
          have hz_5 := hlb.size
          clear HL_46 HG_47 HH_48 HB_49
          clear hlb
          by_cases hlt : k < m
          case neg =>
            obtain rfl : m = k := by omega
            have hkk : decide ((m : Int) < (m : Int)) = false := by simp
            go_wp2
            go_ret
            exact ⟨rfl, HB_53.out⟩
          obtain ⟨b, off, x, y, hA, hbB, _, hg, hc0, hc1'⟩ := HL_50.out.pair (k := k) (by omega)
          subst hA
          obtain ⟨bG, oG, xG, hAG, _, _, hgG, hcG⟩ := HG_51.out.one hlt
          have hxx : xG = x := by have := dos_at hg; rw [hgG] at this; injection this
          subst hxx
          subst hAG
          clear hg hgG
          have hkn : (k : Int) < (m : Int) := by omega
          have hk0 : (0 : Int) ≤ (k : Int) := by omega
          have hxe : (xG != xG) = false := by simp
          have hke : decide ((m : Int) ≤ (k : Int)) = false := decide_eq_false (by omega)
          have hke2 : decide (m ≤ k) = false := decide_eq_false (by omega)
          go_wp2
          go_quiet (fail)
          go_wp2
          go_roundw
          case rel => exact ⟨⟨k + 1, by omega, by go_num⟩, up_drewN HLP.out _⟩
          case measure => simp [intOf]; omega
    | true =>
      have HF := Lib.hid hf
      have hz2 := (failsAt_iff.1 hf).2
      have hz3 := (failsAt_iff.1 hf).1
      rw [HPL.out] at hz2
      clear hf
      obtain ⟨j, rfl⟩ := Int.eq_ofNat_of_zero_le hz3
      have HTL := Lib.hid (show (ps.take j).length = j by rw [List.length_take, HPL.out]; omega)
      have HN := Lib.hid (show (backed (ps.take (j : Int).toNat)).length = 2 * j by rw [Int.toNat_natCast, backed_len, HTL.out])
      rcases Nat.eq_zero_or_pos j with hm0 | hm0
      · subst hm0
        have HF0 := Lib.hid (show failsAt ps 0 = true from HF.out)
        go_wp2_with (fail)
        (with_reducible refine (freshN (RunSagaI_any 0 _ m c1 A1 ps 0 _ HL_1.out (by omega) (by omega) (by unfold in64; omega)) (sagaOf_fail HV.out HF0.out).1 (sagaOf_fail HV.out HF0.out).2 (show (backed (ps.take (0 : Int).toNat)).length = 0 by simp [backed, dos, undos])).mono ?_)
        rintro e w2 ⟨AG, cG, rfl, hcG, hrg, hbt⟩
        have HL_54 := Lib.hid (HL_1.out.keep hbt (by omega))
        have HB_55 := Lib.hid (up HB_0.out hbt)
        have hz_2 := hbt.size
        clear HL_1 HB_0
        clear hbt
        have HG_56 := Lib.hid (hrg.wide (Nat.zero_le _) (Nat.le_refl _))
        clear hrg
        go_wp2_with (fail)
        (with_reducible refine (freshN (RunSagaS_any 0 _ m c1 A1 ps 0 _ HL_54.out (by omega) (by omega) (by unfold in64; omega)) (sagaOf_fail HV.out HF0.out).1 (sagaOf_fail HV.out HF0.out).2 (show (backed (ps.take (0 : Int).toNat)).length = 0 by simp [backed, dos, undos])).mono ?_)
        rintro e w3 ⟨AH, cH, rfl, hcH, hrg, hbt⟩
        have HL_57 := Lib.hid (HL_54.out.keep hbt (by omega))
        have HG_58 := Lib.hid (HG_56.out.keep hbt (by omega))
        have HB_59 := Lib.hid (up HB_55.out hbt)
        have hz_3 := hbt.size
        clear HL_54 HG_56 HB_55
        clear hbt
        have HH_60 := Lib.hid (hrg.wide (Nat.zero_le _) (Nat.le_refl _))
        clear hrg
        go_wp2_with (fail)
        (with_reducible refine (equalInts_any _ _ 0 cG _ _ 0 cH AG AH (backed (ps.take (0 : Int).toNat)) (backed (ps.take (0 : Int).toNat)) _ HG_58.out (by omega) (by omega) HH_60.out (by omega) (by omega)).mono ?_)
        rintro e w4 ⟨rfl, hbt⟩
        rw [beq_self_eq_true]
        have HL_61 := Lib.hid (HL_57.out.keep hbt (by omega))
        have HG_62 := Lib.hid (HG_58.out.keep hbt (by omega))
        have HH_63 := Lib.hid (HH_60.out.keep hbt (by omega))
        have HB_64 := Lib.hid (up HB_59.out hbt)
        have hz_4 := hbt.size
        clear HL_57 HG_58 HH_60 HB_59
        clear hbt
        go_wp2
        go_ret
        exact ⟨rfl, HB_64.out⟩
      ·
        obtain ⟨N, hNj⟩ : ∃ N : Nat, N = 2 * j := ⟨_, rfl⟩
        obtain ⟨M, hMj⟩ : ∃ M : Nat, M + 1 = 2 * j := ⟨2 * j - 1, by omega⟩
        have HNN := Lib.hid (show (backed (ps.take (j : Int).toNat)).length = N by rw [HN.out, hNj])
        have hme : ((N : Int) == 0) = false := by rw [beq_eq_false_iff_ne]; omega
        have hNN : (N : Int) = 2 * (j : Int) := by omega
        have HNI := Lib.hid hNN
        clear hNN
        have hw1 : IntKind.i64.wrap (2 * (j : Int)) = (N : Int) := by rw [IntWalk.i64_in _ (by omega)]; omega
        have hw2 : IntKind.i64.wrap ((N : Int) - 1) = (M : Int) := by rw [IntWalk.i64_in _ (by omega)]; omega
        have hne2 : ((N : Int) != (N : Int)) = false := by simp
        have HNJ := Lib.hid hNj
        have HMJ := Lib.hid hMj
        have hnb : N ≤ 20 := by omega
        have hmN : M < N := by omega
        have hjM : j ≤ M + 1 := by omega
        have hjN : j ≤ N := by omega
        have hjm : j ≤ m := by omega
        clear hNj hMj HN
        go_wp2_with (fail)
        (with_reducible refine (freshN (RunSagaI_any 0 _ m c1 A1 ps (j : Int) _ HL_1.out (by omega) (by omega) hz64) (sagaOf_fail HV.out HF.out).1 (sagaOf_fail HV.out HF.out).2 HNN.out).mono ?_)
        rintro e w2 ⟨AG, cG, rfl, hcG, hrg, hbt⟩
        have HL_65 := Lib.hid (HL_1.out.keep hbt (by omega))
        have HB_66 := Lib.hid (up HB_0.out hbt)
        have hz_2 := hbt.size
        clear HL_1 HB_0
        clear hbt
        have HG_67 := Lib.hid (hrg.wide (Nat.zero_le _) (Nat.le_refl _))
        clear hrg
        go_wp2_with (fail)
        (with_reducible refine (freshN (RunSagaS_any 0 _ m c1 A1 ps (j : Int) _ HL_65.out (by omega) (by omega) hz64) (sagaOf_fail HV.out HF.out).1 (sagaOf_fail HV.out HF.out).2 HNN.out).mono ?_)
        rintro e w3 ⟨AH, cH, rfl, hcH, hrg, hbt⟩
        have HL_68 := Lib.hid (HL_65.out.keep hbt (by omega))
        have HG_69 := Lib.hid (HG_67.out.keep hbt (by omega))
        have HB_70 := Lib.hid (up HB_66.out hbt)
        have hz_3 := hbt.size
        clear HL_65 HG_67 HB_66
        clear hbt
        have HH_71 := Lib.hid (hrg.wide (Nat.zero_le _) (Nat.le_refl _))
        clear hrg
        go_wp2_with (fail)
        (with_reducible refine (equalInts_any _ _ N cG _ _ N cH AG AH (backed (ps.take (j : Int).toNat)) (backed (ps.take (j : Int).toNat)) _ HG_69.out (by omega) (by omega) HH_71.out (by omega) (by omega)).mono ?_)
        rintro e w4 ⟨rfl, hbt⟩
        rw [beq_self_eq_true]
        have HL_72 := Lib.hid (HL_68.out.keep hbt (by omega))
        have HG_73 := Lib.hid (HG_69.out.keep hbt (by omega))
        have HH_74 := Lib.hid (HH_71.out.keep hbt (by omega))
        have HB_75 := Lib.hid (up HB_70.out hbt)
        have hz_4 := hbt.size
        clear HL_68 HG_69 HH_71 HB_70
        clear hbt
        go_wp2
        go_loopw [10] (fun iv wr => (∃ (k : Nat), k ≤ j ∧ iv = .int .i64 k) ∧ Hid (Below w4.heap.size w4 wr))
           (fun iv _ => j - (intOf iv).toNat)
        case atStart => exact ⟨⟨0, by omega, rfl⟩, Below.refl _ _⟩
        case round =>
          obtain ⟨w5, HWR⟩ : ∃ x : World, x = wr := ⟨_, rfl⟩
          subst HWR
          obtain ⟨⟨k, hk, rfl⟩, HLP⟩ := hrel
          have hlb := HLP.out
          have HL_76 := Lib.hid (HL_72.out.keep hlb (by omega))
          have HG_77 := Lib.hid (HG_73.out.keep hlb (by omega))
          have HH_78 := Lib.hid (HH_74.out.keep hlb (by omega))
          have HB_79 := Lib.hid (up HB_75.out hlb)
          have hz_5 := hlb.size
          clear HL_72 HG_73 HH_74 HB_75
          clear hlb
          by_cases hlt : k < j
          case neg =>
            obtain rfl : j = k := by omega
            have hkk : decide ((j : Int) < (j : Int)) = false := by simp
            go_wp2
            go_ret
            exact ⟨rfl, HB_79.out⟩
          obtain ⟨b, off, x, y, hA, hbB, _, hg, hc0, hc1'⟩ := HL_76.out.pair (k := k) (by omega)
          subst hA
          have HGA := Lib.hid (show (ps.take j)[k]? = some (x, y) by rw [get_take hlt]; exact hg)
          clear hg
          obtain ⟨bG, oG, xG, hAG, _, _, hgG, hcG⟩ := HG_77.out.one (k := k) (by omega)
          have hxx : xG = x := by have := backed_do HGA.out; rw [Int.toNat_natCast] at hgG; rw [hgG] at this; injection this
          subst hxx
          subst hAG
          clear hgG
          obtain ⟨Q, hQ⟩ : ∃ Q : Nat, Q + k = M := ⟨M - k, by omega⟩
          obtain ⟨bH, oH, xH, hAH, _, _, hgH, hcH⟩ := HG_77.out.one (k := Q) (by omega)
          injection hAH with hAH
          injection hAH with hAH1 hAH2
          subst hAH1
          subst hAH2
          have hyy : xH = y := by have := backed_undo HGA.out; rw [HTL.out, show 2 * j - 1 - k = Q by have := HMJ.out; omega] at this; rw [Int.toNat_natCast] at hgH; rw [hgH] at this; injection this
          subst hyy
          clear hgH
          have hkn : (k : Int) < (m : Int) := by omega
          have hk0 : (0 : Int) ≤ (k : Int) := by omega
          have hkj : (k : Int) < (j : Int) := by omega
          have hk2 : (k : Int) < (N : Int) := by omega
          have hxe : (xG != xG) = false := by simp
          have hye : (xH != xH) = false := by simp
          have hke : decide ((N : Int) ≤ (k : Int)) = false := decide_eq_false (by omega)
          have hke2 : decide (N ≤ k) = false := decide_eq_false (by omega)
          have hw3 : IntKind.i64.wrap ((M : Int) - (k : Int)) = (Q : Int) := by rw [IntWalk.i64_in _ (by omega)]; omega
          have hi0' : (0 : Int) ≤ (Q : Int) := by omega
          have hi1' : (Q : Int) < (N : Int) := by omega
          clear hQ
          go_wp2
          go_quiet (fail)
          go_wp2
          go_roundw
          case rel => exact ⟨⟨k + 1, by omega, by go_num⟩, up_drewN HLP.out _⟩
          case measure => simp [intOf]; omega
end Go.Proofs.Ytogocinmlanikaa
