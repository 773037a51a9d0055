/- The law FnRunSagaNone, walked: it returns true. (Written by a program over gen/lawlib.py.) -/
import Derived.Test.YtogocinmlanikaaDrawSt2
import Derived.Test.YtogocinmlanikaaSagaD
import Derived.Test.YtogocinmlanikaaSagaS
import Derived.Test.YtogocinmlanikaaLawLists
import Derived.Test.YtogocinmlanikaaLawSagaM
import Derived.BigQuiet
import Derived.Deep.RegionLaw
import Derived.Deep.RegionHeld3
set_option linter.unusedSimpArgs false
set_option linter.unusedVariables false
namespace Go.Proofs.Ytogocinmlanikaa
open Go.RowKit

set_option maxRecDepth 100000 in
set_option maxHeartbeats 6400000 in
theorem lawRunSagaNone_any (n c : Nat) (A : Option Addr) (xs : List Int) (w : World) (hr : Rd w 0 w.heap.size 1 A n (bvs xs)) (hby : Bytes xs) (hc : n ≤ c) (hc2 : c ≤ 9223372036854775807) :
    Calls Try.prog 12 #[.slice A n c] w fun e w' => e = .returned (.bool true) ∧ Below w.heap.size w w' := by
  by_cases hbig : (1048576 : Int) < n
  · go_enter Try.func12, Try.ntmps12
    go_wp2
    go_ret
    exact ⟨rfl, Below.refl _ _⟩
  go_enter Try.func12, Try.ntmps12
  go_wp2_with (fail)
  (with_reducible refine (drawRunSaga_any n c A xs w hr hby (by omega) hc hc2).mono ?_)
  rintro e w1 ⟨A1, m, c1, ps, z, rfl, hm, hc1, hcc, hz0, hz1, hsm, hrd, hb1⟩
  clear hbig hr
  have HB_0 := Lib.hid hb1
  have hz_1 := hb1.size
  clear hb1
  have HSM := Lib.hid hsm
  clear hsm
  have HPL := Lib.hid hrd.len2
  have HL_1 := Lib.hid (hrd.wide (Nat.zero_le _) (Nat.le_refl _))
  clear hrd
  have hz64 : in64 z := by unfold in64; omega
  obtain ⟨N, hN⟩ : ∃ N, (sagaOf ps z).length = N := ⟨_, rfl⟩
  have hN2 := sagaOf_len ps z
  rw [HPL.out, hN] at hN2
  generalize hU : sagaOf ps z = u at hN
  generalize hK : sagaOk ps z = b
  have HU := Lib.hid hU
  have HK := Lib.hid hK
  have HN := Lib.hid hN
  clear hU hK hN
  have hbb : (b != b) = false := by simp
  have hbe : (b == b) = true := by simp
  go_wp2_with (fail)
  (with_reducible refine (freshN (RunSagaI_any 0 _ m c1 A1 ps z _ HL_1.out (by omega) (by omega) hz64) HU.out HK.out HN.out).mono ?_)
  rintro e w2 ⟨AG, cG, rfl, hcG, hrg, hbt⟩
  have HL_2 := Lib.hid (HL_1.out.keep hbt (by omega))
  have HB_3 := Lib.hid (up HB_0.out hbt)
  have hz_2 := hbt.size
  clear HL_1 HB_0
  clear hbt
  have HG_4 := Lib.hid (hrg.wide (Nat.zero_le _) (Nat.le_refl _))
  clear hrg
  go_wp2_with (fail)
  (with_reducible refine (freshN (RunSagaS_any 0 _ m c1 A1 ps z _ HL_2.out (by omega) (by omega) hz64) HU.out HK.out HN.out).mono ?_)
  rintro e w3 ⟨AH, cH, rfl, hcH, hrg, hbt⟩
  have HL_5 := Lib.hid (HL_2.out.keep hbt (by omega))
  have HG_6 := Lib.hid (HG_4.out.keep hbt (by omega))
  have HB_7 := Lib.hid (up HB_3.out hbt)
  have hz_3 := hbt.size
  clear HL_2 HG_4 HB_3
  clear hbt
  have HH_8 := Lib.hid (hrg.wide (Nat.zero_le _) (Nat.le_refl _))
  clear hrg
  go_wp2_with (fail)
  (with_reducible refine (equalInts_any _ _ N cG _ _ N cH AG AH u u _ HG_6.out (by omega) (by omega) HH_8.out (by omega) (by omega)).mono ?_)
  rintro e w4 ⟨rfl, hbt⟩
  rw [beq_self_eq_true]
  have HL_9 := Lib.hid (HL_5.out.keep hbt (by omega))
  have HG_10 := Lib.hid (HG_6.out.keep hbt (by omega))
  have HH_11 := Lib.hid (HH_8.out.keep hbt (by omega))
  have HB_12 := Lib.hid (up HB_7.out hbt)
  have hz_4 := hbt.size
  clear HL_5 HG_6 HH_8 HB_7
  clear hbt
  clear HG_10
  clear HH_11
  cases hv : vSteps ps with
  | false =>
    have HV := Lib.hid hv
    clear hv
    go_wp2_with (fail)
    (with_reducible refine (freshN (RunSagaI_any 0 _ m c1 A1 ps 0 _ HL_9.out (by omega) (by omega) (by unfold in64; omega)) (sagaOf_bad HV.out).1 (sagaOf_bad HV.out).2 rfl).mono ?_)
    rintro e w5 ⟨AP, cP, rfl, hcP, hrg, hbt⟩
    have HL_13 := Lib.hid (HL_9.out.keep hbt (by omega))
    have HB_14 := Lib.hid (up HB_12.out hbt)
    have hz_5 := hbt.size
    clear HL_9 HB_12
    clear hbt
    have HP_15 := Lib.hid (hrg.wide (Nat.zero_le _) (Nat.le_refl _))
    clear hrg
    go_wp2_with (fail)
    (with_reducible refine (freshN (RunSagaI_any 0 _ m c1 A1 ps (-1) _ HL_13.out (by omega) (by omega) (by unfold in64; omega)) (sagaOf_bad HV.out).1 (sagaOf_bad HV.out).2 rfl).mono ?_)
    rintro e w6 ⟨AQ, cQ, rfl, hcQ, hrg, hbt⟩
    have HL_16 := Lib.hid (HL_13.out.keep hbt (by omega))
    have HP_17 := Lib.hid (HP_15.out.keep hbt (by omega))
    have HB_18 := Lib.hid (up HB_14.out hbt)
    have hz_6 := hbt.size
    clear HL_13 HP_15 HB_14
    clear hbt
    have HQ_19 := Lib.hid (hrg.wide (Nat.zero_le _) (Nat.le_refl _))
    clear hrg
    go_wp2
    go_ret
    exact ⟨rfl, HB_18.out⟩
  | true =>
    have HV := Lib.hid hv
    clear hv
    have HF1 := Lib.hid (show failsAt ps (-1) = false by cases h : failsAt ps (-1) with | false => rfl | true => have := failsAt_iff.1 h; omega)
    rcases Nat.eq_zero_or_pos m with hm0 | hm0
    · subst hm0
      have HF0 := Lib.hid (show failsAt ps 0 = false by cases h : failsAt ps 0 with | false => rfl | true => have := failsAt_iff.1 h; rw [HPL.out] at this; omega)
      have HD := Lib.hid (show (dos ps).length = 0 by rw [dos_len]; exact HPL.out)
      go_wp2_with (fail)
      (with_reducible refine (freshN (RunSagaI_any 0 _ 0 c1 A1 ps 0 _ HL_9.out (by omega) (by omega) (by unfold in64; omega)) (sagaOf_good HV.out HF0.out).1 (sagaOf_good HV.out HF0.out).2 HD.out).mono ?_)
      rintro e w5 ⟨AP, cP, rfl, hcP, hrg, hbt⟩
      have HL_20 := Lib.hid (HL_9.out.keep hbt (by omega))
      have HB_21 := Lib.hid (up HB_12.out hbt)
      have hz_5 := hbt.size
      clear HL_9 HB_12
      clear hbt
      have HP_22 := Lib.hid (hrg.wide (Nat.zero_le _) (Nat.le_refl _))
      clear hrg
      go_wp2_with (fail)
      (with_reducible refine (freshN (RunSagaI_any 0 _ 0 c1 A1 ps (-1) _ HL_20.out (by omega) (by omega) (by unfold in64; omega)) (sagaOf_good HV.out HF1.out).1 (sagaOf_good HV.out HF1.out).2 HD.out).mono ?_)
      rintro e w6 ⟨AQ, cQ, rfl, hcQ, hrg, hbt⟩
      have HL_23 := Lib.hid (HL_20.out.keep hbt (by omega))
      have HP_24 := Lib.hid (HP_22.out.keep hbt (by omega))
      have HB_25 := Lib.hid (up HB_21.out hbt)
      have hz_6 := hbt.size
      clear HL_20 HP_22 HB_21
      clear hbt
      have HQ_26 := Lib.hid (hrg.wide (Nat.zero_le _) (Nat.le_refl _))
      clear hrg
      go_wp2
      go_ret
      exact ⟨rfl, HB_25.out⟩
    ·
      have HF0 := Lib.hid (show failsAt ps 0 = true from failsAt_iff.2 ⟨by omega, by rw [HPL.out]; omega⟩)
      have HD := Lib.hid (show (dos ps).length = m by rw [dos_len]; exact HPL.out)
      have hme : ((m : Int) == 0) = false := by rw [beq_eq_false_iff_ne]; omega
      have hmm : ((m : Int) == (m : Int)) = true := by simp
      go_wp2_with (fail)
      (with_reducible refine (freshN (RunSagaI_any 0 _ m c1 A1 ps 0 _ HL_9.out (by omega) (by omega) (by unfold in64; omega)) (sagaOf_fail HV.out HF0.out).1 (sagaOf_fail HV.out HF0.out).2 (show (backed (ps.take (0 : Int).toNat)).length = 0 by simp [backed, dos, undos])).mono ?_)
      rintro e w5 ⟨AP, cP, rfl, hcP, hrg, hbt⟩
      have HL_27 := Lib.hid (HL_9.out.keep hbt (by omega))
      have HB_28 := Lib.hid (up HB_12.out hbt)
      have hz_5 := hbt.size
      clear HL_9 HB_12
      clear hbt
      have HP_29 := Lib.hid (hrg.wide (Nat.zero_le _) (Nat.le_refl _))
      clear hrg
      go_wp2_with (fail)
      (with_reducible refine (freshN (RunSagaI_any 0 _ m c1 A1 ps (-1) _ HL_27.out (by omega) (by omega) (by unfold in64; omega)) (sagaOf_good HV.out HF1.out).1 (sagaOf_good HV.out HF1.out).2 HD.out).mono ?_)
      rintro e w6 ⟨AQ, cQ, rfl, hcQ, hrg, hbt⟩
      have HL_30 := Lib.hid (HL_27.out.keep hbt (by omega))
      have HP_31 := Lib.hid (HP_29.out.keep hbt (by omega))
      have HB_32 := Lib.hid (up HB_28.out hbt)
      have hz_6 := hbt.size
      clear HL_27 HP_29 HB_28
      clear hbt
      have HQ_33 := Lib.hid (hrg.wide (Nat.zero_le _) (Nat.le_refl _))
      clear hrg
      go_wp2
      go_ret
      exact ⟨rfl, HB_32.out⟩
end Go.Proofs.Ytogocinmlanikaa
