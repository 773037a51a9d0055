/- The law FnOneStepGroups, walked: it returns true. (Written by a program over gen/lawlib.py.) -/
import Derived.Test.YtobjcifoaejonacDrawG
import Derived.Test.YtobjcifoaejonacVoteI
import Derived.Test.YtobjcifoaejonacVoteS
import Derived.Test.YtobjcifoaejonacLawLists
import Derived.Test.YtobjcifoaejonacLawVoteM
import Derived.BigQuiet
import Derived.Deep.RegionLaw
set_option linter.unusedSimpArgs false
set_option linter.unusedVariables false
namespace Go.Proofs.Ytobjcifoaejonac
open Go.RowKit

set_option maxRecDepth 100000 in
set_option maxHeartbeats 6400000 in
theorem lawOneStepGroups_any (n c : Nat) (A : Option Addr) (xs : List Int) (w : World) (hr : Rd w 0 w.heap.size 1 A n (bvs xs)) (hby : Bytes xs) (hc : n ≤ c) (hc2 : c ≤ 9223372036854775807) :
    Calls Try.prog 14 #[.slice A n c] w fun e w' => e = .returned (.bool true) ∧ Below w.heap.size w w' := by
  by_cases hbig : (1048576 : Int) < n
  · go_enter Try.func14, Try.ntmps14
    go_wp2
    go_ret
    exact ⟨rfl, Below.refl _ _⟩
  go_enter Try.func14, Try.ntmps14
  go_wp2_with (fail)
  (with_reducible refine (drawOneStep_any n c A xs w hr hby (by omega) hc hc2).mono ?_)
  rintro e w1 ⟨A1, m, c1, ga, A2, m2, c2, gb, rfl, hm, hc1, hrd, hm2, hc2', hrd2, hb1⟩
  clear hbig hr
  have HB_0 := Lib.hid hb1
  have hz_1 := hb1.size
  clear hb1
  have HPL := Lib.hid hrd.len1
  have HQL := Lib.hid hrd2.len1
  have HL_1 := Lib.hid (hrd.wide (Nat.zero_le _) (Nat.le_refl _))
  clear hrd
  have HR_2 := Lib.hid (hrd2.wide (Nat.zero_le _) (Nat.le_refl _))
  clear hrd2
  cases hU : stepOf ga gb with
  | false =>
    have HU := Lib.hid hU
    clear hU
    go_wp2_with (fail)
    (with_reducible refine (OneStepI_any 0 _ m c1 A1 ga 0 _ m2 c2 A2 gb _ HL_1.out (by omega) (by omega) HR_2.out (by omega) (by omega)).mono ?_)
    rintro e w2 ⟨rfl, hbt⟩
    rw [HU.out]
    have HL_3 := Lib.hid (HL_1.out.keep hbt (by omega))
    have HR_4 := Lib.hid (HR_2.out.keep hbt (by omega))
    have HB_5 := Lib.hid (up HB_0.out hbt)
    have hz_2 := hbt.size
    clear HL_1 HR_2 HB_0
    clear hbt
    go_wp2_with (fail)
    (with_reducible refine (OneStepS_any 0 _ m c1 A1 ga 0 _ m2 c2 A2 gb _ HL_3.out (by omega) (by omega) HR_4.out (by omega) (by omega)).mono ?_)
    rintro e w3 ⟨rfl, hbt⟩
    rw [HU.out]
    have HL_6 := Lib.hid (HL_3.out.keep hbt (by omega))
    have HR_7 := Lib.hid (HR_4.out.keep hbt (by omega))
    have HB_8 := Lib.hid (up HB_5.out hbt)
    have hz_3 := hbt.size
    clear HL_3 HR_4 HB_5
    clear hbt
    go_wp2_with (fail)
    (with_reducible refine (OneStepS_any 0 _ m c1 A1 ga 0 _ m2 c2 A2 gb _ HL_6.out (by omega) (by omega) HR_7.out (by omega) (by omega)).mono ?_)
    rintro e w4 ⟨rfl, hbt⟩
    rw [HU.out]
    have HL_9 := Lib.hid (HL_6.out.keep hbt (by omega))
    have HR_10 := Lib.hid (HR_7.out.keep hbt (by omega))
    have HB_11 := Lib.hid (up HB_8.out hbt)
    have hz_4 := hbt.size
    clear HL_6 HR_7 HB_8
    clear hbt
    go_wp2
    go_ret
    exact ⟨rfl, HB_11.out⟩
  | true =>
    have HU := Lib.hid hU
    clear hU
    go_wp2_with (fail)
    (with_reducible refine (OneStepI_any 0 _ m c1 A1 ga 0 _ m2 c2 A2 gb _ HL_1.out (by omega) (by omega) HR_2.out (by omega) (by omega)).mono ?_)
    rintro e w2 ⟨rfl, hbt⟩
    rw [HU.out]
    have HL_12 := Lib.hid (HL_1.out.keep hbt (by omega))
    have HR_13 := Lib.hid (HR_2.out.keep hbt (by omega))
    have HB_14 := Lib.hid (up HB_0.out hbt)
    have hz_2 := hbt.size
    clear HL_1 HR_2 HB_0
    clear hbt
    go_wp2_with (fail)
    (with_reducible refine (OneStepS_any 0 _ m c1 A1 ga 0 _ m2 c2 A2 gb _ HL_12.out (by omega) (by omega) HR_13.out (by omega) (by omega)).mono ?_)
    rintro e w3 ⟨rfl, hbt⟩
    rw [HU.out]
    have HL_15 := Lib.hid (HL_12.out.keep hbt (by omega))
    have HR_16 := Lib.hid (HR_13.out.keep hbt (by omega))
    have HB_17 := Lib.hid (up HB_14.out hbt)
    have hz_3 := hbt.size
    clear HL_12 HR_13 HB_14
    clear hbt
    obtain ⟨_, _, hst⟩ := step_cases HU.out
    rw [HPL.out, HQL.out] at hst
    have HST := Lib.hid hst
    clear hst
    rcases HST.out with ⟨hl, hs⟩ | ⟨hl, hs⟩
    · have HSB := Lib.hid hs
      have hgt : decide ((m2 : Int) < (m : Int)) = true := decide_eq_true (by omega)
      have hgn : decide (m2 < m) = true := decide_eq_true (by omega)
      clear hs HST
      have hl1 : m ≤ m2 + 1 := by omega
      have hl2 : m2 + 1 ≤ m := by omega
      clear hl
      go_wp2
      go_loop [8] (fun iv => ∃ (k : Nat), iv = .int .i64 k ∧ k ≤ m2)
         (fun iv => m2 - (intOf iv).toNat)
      case atStart => exact ⟨0, rfl, by omega⟩
      case round =>
        obtain ⟨k, rfl, hk⟩ := hrel
        by_cases hlt : k < m2
        case pos =>
          obtain ⟨b, off, x, hA, _, _, hg, hc0⟩ := HR_16.out.one hlt
          have HIN := Lib.hid (show inL ga x = true from HSB.out x (List.mem_of_getElem? hg))
          clear hg
          subst hA
          have hkn : (k : Int) < (m2 : Int) := by omega
          have hk0 : (0 : Int) ≤ (k : Int) := by omega
          go_wp2_with (fail)
          (with_reducible refine (isIn_any 0 _ m c1 A1 ga x _ HL_15.out (by omega)).mono ?_)
          rintro e w8 ⟨rfl, rfl⟩
          rw [HIN.out]
          go_wp2
          go_round
          case rel => exact ⟨k + 1, by go_num, by omega⟩
          case measure => simp [intOf]; omega
        obtain rfl : k = m2 := by omega
        have hw1 : IntKind.i64.wrap ((k : Int) + 1) = (k : Int) + 1 := IntWalk.i64_in _ (by omega)
        have he1 : ((m : Int) == (k : Int) + 1) = true := by rw [beq_iff_eq]; omega
        go_wp2
        go_ret
        exact ⟨rfl, HB_17.out⟩
    · have HSB := Lib.hid hs
      have hgt : decide ((m2 : Int) < (m : Int)) = false := decide_eq_false (by omega)
      have hgn : decide (m2 < m) = false := decide_eq_false (by omega)
      clear hs HST
      have hl1 : m2 ≤ m + 1 := by omega
      have hl2 : m + 1 ≤ m2 := by omega
      clear hl
      go_wp2
      go_loop [8] (fun iv => ∃ (k : Nat), iv = .int .i64 k ∧ k ≤ m)
         (fun iv => m - (intOf iv).toNat)
      case atStart => exact ⟨0, rfl, by omega⟩
      case round =>
        obtain ⟨k, rfl, hk⟩ := hrel
        by_cases hlt : k < m
        case pos =>
          obtain ⟨b, off, x, hA, _, _, hg, hc0⟩ := HL_15.out.one hlt
          have HIN := Lib.hid (show inL gb x = true from HSB.out x (List.mem_of_getElem? hg))
          clear hg
          subst hA
          have hkn : (k : Int) < (m : Int) := by omega
          have hk0 : (0 : Int) ≤ (k : Int) := by omega
          go_wp2_with (fail)
          (with_reducible refine (isIn_any 0 _ m2 c2 A2 gb x _ HR_16.out (by omega)).mono ?_)
          rintro e w8 ⟨rfl, rfl⟩
          rw [HIN.out]
          go_wp2
          go_round
          case rel => exact ⟨k + 1, by go_num, by omega⟩
          case measure => simp [intOf]; omega
        obtain rfl : k = m := by omega
        have hw1 : IntKind.i64.wrap ((k : Int) + 1) = (k : Int) + 1 := IntWalk.i64_in _ (by omega)
        have he1 : ((m2 : Int) == (k : Int) + 1) = true := by rw [beq_iff_eq]; omega
        go_wp2
        go_ret
        exact ⟨rfl, HB_17.out⟩
end Go.Proofs.Ytobjcifoaejonac
