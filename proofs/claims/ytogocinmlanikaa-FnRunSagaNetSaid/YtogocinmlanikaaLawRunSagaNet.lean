/- The law FnRunSagaNet, walked: it returns true. (Written by a program over gen/lawlib.py.) -/
import Derived.Test.YtogocinmlanikaaDrawSt2
import Derived.Test.YtogocinmlanikaaSagaD
import Derived.Test.YtogocinmlanikaaSagaS
import Derived.Test.YtogocinmlanikaaLawLists
import Derived.Test.YtogocinmlanikaaLawSagaM
import Derived.BigQuiet
import Derived.Deep.RegionLaw
import Derived.Deep.RegionHeld3
set_option linter.unusedSimpArgs false
set_option linter.unusedVariables false
namespace Go.Proofs.Ytogocinmlanikaa
open Go.RowKit

set_option maxRecDepth 100000 in
set_option maxHeartbeats 6400000 in
theorem lawRunSagaNet_any (n c : Nat) (A : Option Addr) (xs : List Int) (w : World) (hr : Rd w 0 w.heap.size 1 A n (bvs xs)) (hby : Bytes xs) (hc : n ≤ c) (hc2 : c ≤ 9223372036854775807) :
    Calls Try.prog 11 #[.slice A n c] w fun e w' => e = .returned (.bool true) ∧ Below w.heap.size w w' := by
  by_cases hbig : (1048576 : Int) < n
  · go_enter Try.func11, Try.ntmps11
    go_wp2
    go_ret
    exact ⟨rfl, Below.refl _ _⟩
  go_enter Try.func11, Try.ntmps11
  go_wp2_with (fail)
  (with_reducible refine (drawRunSaga_any n c A xs w hr hby (by omega) hc hc2).mono ?_)
  rintro e w1 ⟨A1, m, c1, ps, z, rfl, hm, hc1, hcc, hz0, hz1, hsm, hrd, hb1⟩
  clear hbig hr
  have HB_0 := Lib.hid hb1
  have hz_1 := hb1.size
  clear hb1
  have HSM := Lib.hid hsm
  clear hsm
  have HPL := Lib.hid hrd.len2
  have HL_1 := Lib.hid (hrd.wide (Nat.zero_le _) (Nat.le_refl _))
  clear hrd
  have hz64 : in64 z := by unfold in64; omega
  cases hC : undoOf ps with
  | false =>
    have HC := Lib.hid hC
    clear hC
    obtain ⟨N, hN⟩ : ∃ N, (sagaOf ps z).length = N := ⟨_, rfl⟩
    have hN2 := sagaOf_len ps z
    rw [HPL.out, hN] at hN2
    generalize hU : sagaOf ps z = u at hN
    generalize hK : sagaOk ps z = b
    have HU := Lib.hid hU
    have HK := Lib.hid hK
    have HN := Lib.hid hN
    clear hU hK hN
    have hbb : (b != b) = false := by simp
    have hbe : (b == b) = true := by simp
    go_wp2_with (fail)
    (with_reducible refine (freshN (RunSagaI_any 0 _ m c1 A1 ps z _ HL_1.out (by omega) (by omega) hz64) HU.out HK.out HN.out).mono ?_)
    rintro e w2 ⟨AG, cG, rfl, hcG, hrg, hbt⟩
    have HL_2 := Lib.hid (HL_1.out.keep hbt (by omega))
    have HB_3 := Lib.hid (up HB_0.out hbt)
    have hz_2 := hbt.size
    clear HL_1 HB_0
    clear hbt
    have HG_4 := Lib.hid (hrg.wide (Nat.zero_le _) (Nat.le_refl _))
    clear hrg
    go_wp2_with (fail)
    (with_reducible refine (freshN (RunSagaS_any 0 _ m c1 A1 ps z _ HL_2.out (by omega) (by omega) hz64) HU.out HK.out HN.out).mono ?_)
    rintro e w3 ⟨AH, cH, rfl, hcH, hrg, hbt⟩
    have HL_5 := Lib.hid (HL_2.out.keep hbt (by omega))
    have HG_6 := Lib.hid (HG_4.out.keep hbt (by omega))
    have HB_7 := Lib.hid (up HB_3.out hbt)
    have hz_3 := hbt.size
    clear HL_2 HG_4 HB_3
    clear hbt
    have HH_8 := Lib.hid (hrg.wide (Nat.zero_le _) (Nat.le_refl _))
    clear hrg
    go_wp2_with (fail)
    (with_reducible refine (equalInts_any _ _ N cG _ _ N cH AG AH u u _ HG_6.out (by omega) (by omega) HH_8.out (by omega) (by omega)).mono ?_)
    rintro e w4 ⟨rfl, hbt⟩
    rw [beq_self_eq_true]
    have HL_9 := Lib.hid (HL_5.out.keep hbt (by omega))
    have HG_10 := Lib.hid (HG_6.out.keep hbt (by omega))
    have HH_11 := Lib.hid (HH_8.out.keep hbt (by omega))
    have HB_12 := Lib.hid (up HB_7.out hbt)
    have hz_4 := hbt.size
    clear HL_5 HG_6 HH_8 HB_7
    clear hbt
    go_wp2_with (fail)
    (with_reducible refine (CanUndoI_any 0 _ m c1 A1 ps _ HL_9.out (by omega) (by omega)).mono ?_)
    rintro e w5 ⟨rfl, hbt⟩
    rw [HC.out]
    have HL_13 := Lib.hid (HL_9.out.keep hbt (by omega))
    have HG_14 := Lib.hid (HG_10.out.keep hbt (by omega))
    have HH_15 := Lib.hid (HH_11.out.keep hbt (by omega))
    have HB_16 := Lib.hid (up HB_12.out hbt)
    have hz_5 := hbt.size
    clear HL_9 HG_10 HH_11 HB_12
    clear hbt
    go_wp2_with (fail)
    (with_reducible refine (equalInts_any _ _ N cG _ _ N cH AG AH u u _ HG_14.out (by omega) (by omega) HH_15.out (by omega) (by omega)).mono ?_)
    rintro e w6 ⟨rfl, hbt⟩
    rw [beq_self_eq_true]
    have HL_17 := Lib.hid (HL_13.out.keep hbt (by omega))
    have HG_18 := Lib.hid (HG_14.out.keep hbt (by omega))
    have HH_19 := Lib.hid (HH_15.out.keep hbt (by omega))
    have HB_20 := Lib.hid (up HB_16.out hbt)
    have hz_6 := hbt.size
    clear HL_13 HG_14 HH_15 HB_16
    clear hbt
    go_wp2
    go_ret
    exact ⟨rfl, HB_20.out⟩
  | true =>
    have HC := Lib.hid hC
    have HV := Lib.hid (undoOf_valid hC)
    have h10 := vSteps_len (undoOf_valid hC)
    rw [HPL.out] at h10
    clear hC
    cases hf : failsAt ps z with
    | true =>
      have HF := Lib.hid hf
      have hz2 := (failsAt_iff.1 hf).2
      have hz3 := (failsAt_iff.1 hf).1
      rw [HPL.out] at hz2
      clear hf
      obtain ⟨j, rfl⟩ := Int.eq_ofNat_of_zero_le hz3
      have HN := Lib.hid (show (backed (ps.take (j : Int).toNat)).length = 2 * j by rw [Int.toNat_natCast, backed_len, List.length_take, HPL.out]; omega)
      have HX := Lib.hid (show netOf (backed (ps.take (j : Int).toNat)) = 0 from net_backed HC.out _)
      go_wp2_with (fail)
      (with_reducible refine (freshN (RunSagaI_any 0 _ m c1 A1 ps (j : Int) _ HL_1.out (by omega) (by omega) hz64) (sagaOf_fail HV.out HF.out).1 (sagaOf_fail HV.out HF.out).2 HN.out).mono ?_)
      rintro e w2 ⟨AG, cG, rfl, hcG, hrg, hbt⟩
      have HL_21 := Lib.hid (HL_1.out.keep hbt (by omega))
      have HB_22 := Lib.hid (up HB_0.out hbt)
      have hz_2 := hbt.size
      clear HL_1 HB_0
      clear hbt
      have HG_23 := Lib.hid (hrg.wide (Nat.zero_le _) (Nat.le_refl _))
      clear hrg
      go_wp2_with (fail)
      (with_reducible refine (freshN (RunSagaS_any 0 _ m c1 A1 ps (j : Int) _ HL_21.out (by omega) (by omega) hz64) (sagaOf_fail HV.out HF.out).1 (sagaOf_fail HV.out HF.out).2 HN.out).mono ?_)
      rintro e w3 ⟨AH, cH, rfl, hcH, hrg, hbt⟩
      have HL_24 := Lib.hid (HL_21.out.keep hbt (by omega))
      have HG_25 := Lib.hid (HG_23.out.keep hbt (by omega))
      have HB_26 := Lib.hid (up HB_22.out hbt)
      have hz_3 := hbt.size
      clear HL_21 HG_23 HB_22
      clear hbt
      have HH_27 := Lib.hid (hrg.wide (Nat.zero_le _) (Nat.le_refl _))
      clear hrg
      go_wp2_with (fail)
      (with_reducible refine (equalInts_any _ _ (2 * j) cG _ _ (2 * j) cH AG AH (backed (ps.take (j : Int).toNat)) (backed (ps.take (j : Int).toNat)) _ HG_25.out (by omega) (by omega) HH_27.out (by omega) (by omega)).mono ?_)
      rintro e w4 ⟨rfl, hbt⟩
      rw [beq_self_eq_true]
      have HL_28 := Lib.hid (HL_24.out.keep hbt (by omega))
      have HG_29 := Lib.hid (HG_25.out.keep hbt (by omega))
      have HH_30 := Lib.hid (HH_27.out.keep hbt (by omega))
      have HB_31 := Lib.hid (up HB_26.out hbt)
      have hz_4 := hbt.size
      clear HL_24 HG_25 HH_27 HB_26
      clear hbt
      go_wp2_with (fail)
      (with_reducible refine (CanUndoI_any 0 _ m c1 A1 ps _ HL_28.out (by omega) (by omega)).mono ?_)
      rintro e w5 ⟨rfl, hbt⟩
      rw [HC.out]
      have HL_32 := Lib.hid (HL_28.out.keep hbt (by omega))
      have HG_33 := Lib.hid (HG_29.out.keep hbt (by omega))
      have HH_34 := Lib.hid (HH_30.out.keep hbt (by omega))
      have HB_35 := Lib.hid (up HB_31.out hbt)
      have hz_5 := hbt.size
      clear HL_28 HG_29 HH_30 HB_31
      clear hbt
      go_wp2_with (fail)
      (with_reducible refine (NetEffectI_any 0 _ (2 * j) cG AG (backed (ps.take (j : Int).toNat)) _ HG_33.out (by omega) (by omega)).mono ?_)
      rintro e w6 ⟨rfl, hbt⟩
      rw [HX.out]
      have HL_36 := Lib.hid (HL_32.out.keep hbt (by omega))
      have HG_37 := Lib.hid (HG_33.out.keep hbt (by omega))
      have HH_38 := Lib.hid (HH_34.out.keep hbt (by omega))
      have HB_39 := Lib.hid (up HB_35.out hbt)
      have hz_6 := hbt.size
      clear HL_32 HG_33 HH_34 HB_35
      clear hbt
      go_wp2
      go_ret
      exact ⟨rfl, HB_39.out⟩
    | false =>
      have HF := Lib.hid hf
      clear hf
      have HN := Lib.hid (show (dos ps).length = m by rw [dos_len, HPL.out])
      have HX := Lib.hid (net_dos HV.out)
      go_wp2_with (fail)
      (with_reducible refine (freshN (RunSagaI_any 0 _ m c1 A1 ps z _ HL_1.out (by omega) (by omega) hz64) (sagaOf_good HV.out HF.out).1 (sagaOf_good HV.out HF.out).2 HN.out).mono ?_)
      rintro e w2 ⟨AG, cG, rfl, hcG, hrg, hbt⟩
      have HL_40 := Lib.hid (HL_1.out.keep hbt (by omega))
      have HB_41 := Lib.hid (up HB_0.out hbt)
      have hz_2 := hbt.size
      clear HL_1 HB_0
      clear hbt
      have HG_42 := Lib.hid (hrg.wide (Nat.zero_le _) (Nat.le_refl _))
      clear hrg
      go_wp2_with (fail)
      (with_reducible refine (freshN (RunSagaS_any 0 _ m c1 A1 ps z _ HL_40.out (by omega) (by omega) hz64) (sagaOf_good HV.out HF.out).1 (sagaOf_good HV.out HF.out).2 HN.out).mono ?_)
      rintro e w3 ⟨AH, cH, rfl, hcH, hrg, hbt⟩
      have HL_43 := Lib.hid (HL_40.out.keep hbt (by omega))
      have HG_44 := Lib.hid (HG_42.out.keep hbt (by omega))
      have HB_45 := Lib.hid (up HB_41.out hbt)
      have hz_3 := hbt.size
      clear HL_40 HG_42 HB_41
      clear hbt
      have HH_46 := Lib.hid (hrg.wide (Nat.zero_le _) (Nat.le_refl _))
      clear hrg
      go_wp2_with (fail)
      (with_reducible refine (equalInts_any _ _ m cG _ _ m cH AG AH (dos ps) (dos ps) _ HG_44.out (by omega) (by omega) HH_46.out (by omega) (by omega)).mono ?_)
      rintro e w4 ⟨rfl, hbt⟩
      rw [beq_self_eq_true]
      have HL_47 := Lib.hid (HL_43.out.keep hbt (by omega))
      have HG_48 := Lib.hid (HG_44.out.keep hbt (by omega))
      have HH_49 := Lib.hid (HH_46.out.keep hbt (by omega))
      have HB_50 := Lib.hid (up HB_45.out hbt)
      have hz_4 := hbt.size
      clear HL_43 HG_44 HH_46 HB_45
      clear hbt
      go_wp2_with (fail)
      (with_reducible refine (CanUndoI_any 0 _ m c1 A1 ps _ HL_47.out (by omega) (by omega)).mono ?_)
      rintro e w5 ⟨rfl, hbt⟩
      rw [HC.out]
      have HL_51 := Lib.hid (HL_47.out.keep hbt (by omega))
      have HG_52 := Lib.hid (HG_48.out.keep hbt (by omega))
      have HH_53 := Lib.hid (HH_49.out.keep hbt (by omega))
      have HB_54 := Lib.hid (up HB_50.out hbt)
      have hz_5 := hbt.size
      clear HL_47 HG_48 HH_49 HB_50
      clear hbt
      go_wp2
      go_loopw [9, 10] (fun sv iv wr => (∃ (k : Nat) (S : Int), k ≤ m ∧ iv = .int .i64 k ∧ sv = .int .i64 S ∧ -199980 ≤ S ∧ S ≤ 199980 ∧ Hid (S = sumOf ((dos ps).take k))) ∧ Hid (Below w5.heap.size w5 wr))
         (fun _ iv _ => m - (intOf iv).toNat)
      case atStart => exact ⟨⟨0, 0, by omega, rfl, rfl, by omega, by omega, rfl⟩, Below.refl _ _⟩
      case round =>
        obtain ⟨w6, HWR⟩ : ∃ x : World, x = wr := ⟨_, rfl⟩
        subst HWR
        obtain ⟨⟨k, S, hk, rfl, rfl, hs0, hs1, hS⟩, HLP⟩ := hrel
        have hlb := HLP.out
        have HL_55 := Lib.hid (HL_51.out.keep hlb (by omega))
        have HG_56 := Lib.hid (HG_52.out.keep hlb (by omega))
        have HH_57 := Lib.hid (HH_53.out.keep hlb (by omega))
        have HB_58 := Lib.hid (up HB_54.out hlb)
        have hz_6 := hlb.size
        clear HL_51 HG_52 HH_53 HB_54
        clear hlb
        by_cases hlt : k < m
        case neg =>
          obtain rfl : m = k := by omega
          have hXS : netOf (dos ps) = S := by rw [HX.out, hS.out, List.take_of_length_le (by rw [HN.out]; omega)]
          have HXS := Lib.hid hXS
          clear hXS
          have hss : (S == S) = true := by simp
          have hkk : decide ((m : Int) < (m : Int)) = false := by simp
          go_wp2_with (fail)
          (with_reducible refine (NetEffectI_any 0 _ m cG AG (dos ps) _ HG_56.out (by omega) (by omega)).mono ?_)
          rintro e w7 ⟨rfl, hbt⟩
          rw [HXS.out]
          have HL_59 := Lib.hid (HL_55.out.keep hbt (by omega))
          have HG_60 := Lib.hid (HG_56.out.keep hbt (by omega))
          have HH_61 := Lib.hid (HH_57.out.keep hbt (by omega))
          have HB_62 := Lib.hid (up HB_58.out hbt)
          have hz_7 := hbt.size
          have HP_63 := Lib.hid (up HLP.out hbt)
          clear HL_55 HG_56 HH_57 HB_58 HLP
          clear hbt
          go_wp2
          go_ret
          exact ⟨rfl, HB_62.out⟩
        obtain ⟨b, off, x, y, hA, hbB, _, hg, hc0, hc1'⟩ := HL_55.out.pair hlt
        have HT := Lib.hid (sumOf_step (dos_at hg))
        have hbd : -199980 ≤ S + x ∧ S + x ≤ 199980 := by
          have hk1 := net_take (xs := dos ps) (k := k + 1) (by
            simp only [netOk, allIn, Bool.and_eq_true, decide_eq_true_eq, List.all_eq_true, dos_len]
            refine ⟨fun q hq => ?_, by rw [HPL.out]; omega⟩
            obtain ⟨p, hp, rfl⟩ := List.mem_map.1 hq
            have := okSt_bounds (vSteps_ok HV.out hp)
            simp only [inR, Bool.and_eq_true, decide_eq_true_eq]; omega) (by rw [HN.out]; omega)
          rw [HT.out, ← hS.out] at hk1
          exact hk1
        obtain ⟨hbd0, hbd1⟩ := hbd
        have hw1 : IntKind.i64.wrap (S + x) = S + x := IntWalk.i64_in _ (by omega)
        have HS2 := Lib.hid (show S + x = sumOf ((dos ps).take (k + 1)) by rw [HT.out, hS.out])
        clear hg
        subst hA
        have hkn : (k : Int) < (m : Int) := by omega
        have hk0 : (0 : Int) ≤ (k : Int) := by omega
        go_wp2
        go_roundw
        case rel => exact ⟨⟨k + 1, S + x, by omega, by go_num, rfl, hbd0, hbd1, HS2⟩, HLP.out⟩
        case measure => simp [intOf]; omega
end Go.Proofs.Ytogocinmlanikaa
