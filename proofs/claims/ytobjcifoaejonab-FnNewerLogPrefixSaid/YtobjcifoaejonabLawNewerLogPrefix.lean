/- The law FnNewerLogPrefix, walked: it returns true. (Written by a program over gen/lawlib.py.) -/
import Derived.Test.YtobjcifoaejonabDrawL2
import Derived.Test.YtobjcifoaejonabLogJ
import Derived.Test.YtobjcifoaejonabLogS1
import Derived.Test.YtobjcifoaejonabEqLists
import Derived.Test.YtobjcifoaejonabLawLogM
import Derived.BigQuiet
import Derived.Deep.RegionLaw
set_option linter.unusedSimpArgs false
set_option linter.unusedVariables false
namespace Go.Proofs.Ytobjcifoaejonab
open Go.RowKit

set_option maxRecDepth 100000 in
set_option maxHeartbeats 6400000 in
theorem lawNewerLogPrefix_any (n c : Nat) (A : Option Addr) (xs : List Int) (w : World) (hr : Rd w 0 w.heap.size 1 A n (bvs xs)) (hby : Bytes xs) (hc : n ≤ c) (hc2 : c ≤ 9223372036854775807) :
    Calls Try.prog 5 #[.slice A n c] w fun e w' => e = .returned (.bool true) ∧ Below w.heap.size w w' := by
  by_cases hbig : (1048576 : Int) < n
  · go_enter Try.func5, Try.ntmps5
    go_wp2
    go_ret
    exact ⟨rfl, Below.refl _ _⟩
  go_enter Try.func5, Try.ntmps5
  go_wp2_with (fail)
  (with_reducible refine (drawNewerLog_any n c A xs w hr hby (by omega) hc hc2).mono ?_)
  rintro e w1 ⟨A1, m, c1, ps, A2, m2, c2, qs, rfl, hm, hc1, hsm, hrd, hm2, hc2', hsm2, hrd2, hb1⟩
  clear hbig hr
  have HB_0 := Lib.hid hb1
  have hz_1 := hb1.size
  clear hb1
  have HSM := Lib.hid hsm
  clear hsm
  have HPL := Lib.hid hrd.len2
  have HQL := Lib.hid hrd2.len2
  clear hsm2
  have HL_1 := Lib.hid (hrd.wide (Nat.zero_le _) (Nat.le_refl _))
  clear hrd
  have HR_2 := Lib.hid (hrd2.wide (Nat.zero_le _) (Nat.le_refl _))
  clear hrd2
  cases hV : vLog ps with
  | false =>
    have HV := Lib.hid hV
    have HU := Lib.hid (newer_no (b := qs) (.inl hV))
    clear hV
    go_wp2_with (fail)
    (with_reducible refine (NewerLogI_any 0 _ m c1 A1 ps 0 _ m2 c2 A2 qs _ HL_1.out (by omega) (by omega) (by omega) HR_2.out (by omega) (by omega) (by omega)).mono ?_)
    rintro e w2 ⟨rfl, hbt⟩
    rw [HU.out]
    have HL_3 := Lib.hid (HL_1.out.keep hbt (by omega))
    have HR_4 := Lib.hid (HR_2.out.keep hbt (by omega))
    have HB_5 := Lib.hid (up HB_0.out hbt)
    have hz_2 := hbt.size
    clear HL_1 HR_2 HB_0
    clear hbt
    go_wp2_with (fail)
    (with_reducible refine (NewerLogS_any 0 _ m c1 A1 ps 0 _ m2 c2 A2 qs _ HL_3.out (by omega) (by omega) HR_4.out (by omega) (by omega)).mono ?_)
    rintro e w3 ⟨rfl, hbt⟩
    rw [HU.out]
    have HL_6 := Lib.hid (HL_3.out.keep hbt (by omega))
    have HR_7 := Lib.hid (HR_4.out.keep hbt (by omega))
    have HB_8 := Lib.hid (up HB_5.out hbt)
    have hz_3 := hbt.size
    clear HL_3 HR_4 HB_5
    clear hbt
    go_wp2_with (fail)
    (with_reducible refine (ValidLogI_any 0 _ m c1 A1 ps _ HL_6.out (by omega) (by omega) (by omega)).mono ?_)
    rintro e w4 ⟨rfl, hbt⟩
    rw [HV.out]
    have HL_9 := Lib.hid (HL_6.out.keep hbt (by omega))
    have HR_10 := Lib.hid (HR_7.out.keep hbt (by omega))
    have HB_11 := Lib.hid (up HB_8.out hbt)
    have hz_4 := hbt.size
    clear HL_6 HR_7 HB_8
    clear hbt
    go_wp2_with (fail)
    (with_reducible refine (NewerLogS_any 0 _ m c1 A1 ps 0 _ m2 c2 A2 qs _ HL_9.out (by omega) (by omega) HR_10.out (by omega) (by omega)).mono ?_)
    rintro e w5 ⟨rfl, hbt⟩
    rw [HU.out]
    have HL_12 := Lib.hid (HL_9.out.keep hbt (by omega))
    have HR_13 := Lib.hid (HR_10.out.keep hbt (by omega))
    have HB_14 := Lib.hid (up HB_11.out hbt)
    have hz_5 := hbt.size
    clear HL_9 HR_10 HB_11
    clear hbt
    go_wp2
    go_ret
    exact ⟨rfl, HB_14.out⟩
  | true =>
    have HV := Lib.hid hV
    clear hV
    generalize hU : newerOf ps qs = o
    have HU := Lib.hid hU
    clear hU
    have hoo : (o != o) = false := by simp
    go_wp2_with (fail)
    (with_reducible refine (NewerLogI_any 0 _ m c1 A1 ps 0 _ m2 c2 A2 qs _ HL_1.out (by omega) (by omega) (by omega) HR_2.out (by omega) (by omega) (by omega)).mono ?_)
    rintro e w2 ⟨rfl, hbt⟩
    rw [HU.out]
    have HL_15 := Lib.hid (HL_1.out.keep hbt (by omega))
    have HR_16 := Lib.hid (HR_2.out.keep hbt (by omega))
    have HB_17 := Lib.hid (up HB_0.out hbt)
    have hz_2 := hbt.size
    clear HL_1 HR_2 HB_0
    clear hbt
    go_wp2_with (fail)
    (with_reducible refine (NewerLogS_any 0 _ m c1 A1 ps 0 _ m2 c2 A2 qs _ HL_15.out (by omega) (by omega) HR_16.out (by omega) (by omega)).mono ?_)
    rintro e w3 ⟨rfl, hbt⟩
    rw [HU.out]
    have HL_18 := Lib.hid (HL_15.out.keep hbt (by omega))
    have HR_19 := Lib.hid (HR_16.out.keep hbt (by omega))
    have HB_20 := Lib.hid (up HB_17.out hbt)
    have hz_3 := hbt.size
    clear HL_15 HR_16 HB_17
    clear hbt
    go_wp2_with (fail)
    (with_reducible refine (ValidLogI_any 0 _ m c1 A1 ps _ HL_18.out (by omega) (by omega) (by omega)).mono ?_)
    rintro e w4 ⟨rfl, hbt⟩
    rw [HV.out]
    have HL_21 := Lib.hid (HL_18.out.keep hbt (by omega))
    have HR_22 := Lib.hid (HR_19.out.keep hbt (by omega))
    have HB_23 := Lib.hid (up HB_20.out hbt)
    have hz_4 := hbt.size
    clear HL_18 HR_19 HB_20
    clear hbt
    clear HR_22
    clear HU HQL
    go_wp2
    go_loopw [6] (fun iv wr => ∃ (k : Nat), k ≤ m + 1 ∧ iv = .int .i64 k ∧ Hid (Below w4.heap.size w4 wr))
       (fun iv _ => m + 1 - (intOf iv).toNat)
    case atStart => exact ⟨0, by omega, rfl, Below.refl _ _⟩
    case round =>
      obtain ⟨w5, HWR⟩ : ∃ x : World, x = wr := ⟨_, rfl⟩
      subst HWR
      obtain ⟨k, hk, rfl, HLP⟩ := hrel
      have hlb := HLP.out
      have HL_24 := Lib.hid (HL_21.out.keep hlb (by omega))
      have HB_25 := Lib.hid (up HB_23.out hlb)
      have hz_5 := hlb.size
      clear HL_21 HB_23
      clear hlb
      by_cases hlt : k ≤ m
      case neg =>
        have hd : decide ((k : Int) ≤ (m : Int)) = false := decide_eq_false (by omega)
        go_wp2
        go_ret
        exact ⟨rfl, HB_25.out⟩
      have hd : decide ((k : Int) ≤ (m : Int)) = true := decide_eq_true (by omega)
      have hk0 : (0 : Int) ≤ (k : Int) := by omega
      have hkc : (k : Int) ≤ (c1 : Int) := by omega
      have HN := Lib.hid (newer_prefix HV.out HPL.out hlt)
      have HC_26 := Lib.hid (HL_24.out.cut2 (m := k) (hlt))
      go_wp2_with (fail)
      (with_reducible refine (NewerLogI_any 0 _ m c1 A1 ps 0 _ k c1 A1 (ps.take k) _ HL_24.out (by omega) (by omega) (by omega) HC_26.out (by omega) (by omega) (by omega)).mono ?_)
      rintro e w6 ⟨rfl, hbt⟩
      rw [HN.out]
      have HL_27 := Lib.hid (HL_24.out.keep hbt (by omega))
      have HC_28 := Lib.hid (HC_26.out.keep hbt (by omega))
      have HB_29 := Lib.hid (up HB_25.out hbt)
      have hz_6 := hbt.size
      have HP_30 := Lib.hid (up HLP.out hbt)
      clear HL_24 HC_26 HB_25 HLP
      clear hbt
      go_wp2
      go_roundw
      case rel => exact ⟨k + 1, by omega, by go_num, HP_30.out⟩
      case measure => simp [intOf]; omega
end Go.Proofs.Ytobjcifoaejonab
