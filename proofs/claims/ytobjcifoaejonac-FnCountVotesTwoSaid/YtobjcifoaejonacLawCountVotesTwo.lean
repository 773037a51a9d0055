/- The law FnCountVotesTwo, walked: it returns true. (Written by a program over gen/lawlib.py.) -/
import Derived.Test.YtobjcifoaejonacDrawV2
import Derived.Test.YtobjcifoaejonacLawCountM
import Derived.Test.YtobjcifoaejonacEqVot
import Derived.BigQuiet
import Derived.Deep.RegionLaw
set_option linter.unusedSimpArgs false
set_option linter.unusedVariables false
namespace Go.Proofs.Ytobjcifoaejonac
open Go.RowKit

set_option maxRecDepth 100000 in
set_option maxHeartbeats 6400000 in
theorem lawCountVotesTwo_any (n c : Nat) (A : Option Addr) (xs : List Int) (w : World) (hr : Rd w 0 w.heap.size 1 A n (bvs xs)) (hby : Bytes xs) (hc : n ≤ c) (hc2 : c ≤ 9223372036854775807) :
    Calls Try.prog 10 #[.slice A n c] w fun e w' => e = .returned (.bool true) ∧ Below w.heap.size w w' := by
  by_cases hbig : (1048576 : Int) < n
  · go_enter Try.func10, Try.ntmps10
    go_wp2
    go_ret
    exact ⟨rfl, Below.refl _ _⟩
  go_enter Try.func10, Try.ntmps10
  go_wp2_with (fail)
  (with_reducible refine (drawCountVotes_any n c A xs w hr hby (by omega) hc hc2).mono ?_)
  rintro e w1 ⟨A1, m, c1, fs, cand, term, A2, m2, c2, qs, rfl, hm, hvs, hcand, hterm, hm2, hc2', hrd2, hb1⟩
  clear hbig hr
  have HB_0 := Lib.hid hb1
  have hz_1 := hb1.size
  clear hb1
  have HPL := Lib.hid hvs.len
  have HL_1 := Lib.hid (hvs.wide (Nat.zero_le _) (Nat.le_refl _))
  clear hvs
  have HR_2 := Lib.hid (hrd2.wide (Nat.zero_le _) (Nat.le_refl _))
  clear hrd2
  obtain ⟨⟨u, bs⟩, hU⟩ : ∃ u, countOf fs cand term qs = u := ⟨_, rfl⟩
  obtain ⟨kb, hK⟩ : ∃ k, bs.length = k := ⟨_, rfl⟩
  have HCC := Lib.hid (countOf_cases fs cand term qs)
  rw [hU] at HCC
  have HU := Lib.hid hU
  have HK := Lib.hid hK
  have hkb : kb ≤ 7 := by
    have h1 := HCC.out
    have h2 := HPL.out
    rcases h1 with h1 | ⟨_, _, h4, h5⟩
    · injection h1 with _ h3; subst h3; simp at hK; omega
    · injection h5 with _ h3; rw [h3, behindOf_len] at hK; omega
  have hgg : (u != u) = false := by simp
  have hge : (u == u) = true := by simp
  clear hU hK
  go_wp2_with (fail)
  (with_reducible refine (countI_at HU.out HK.out HL_1.out (by omega) (by omega) HR_2.out (by omega) (by omega) hc2').mono ?_)
  rintro e w2 ⟨A3, c3, rfl, hk3, hv3, hbt⟩
  have HL_3 := Lib.hid (HL_1.out.keep hbt (by omega))
  have HR_4 := Lib.hid (HR_2.out.keep hbt (by omega))
  have HB_5 := Lib.hid (up HB_0.out hbt)
  have hz_2 := hbt.size
  clear HL_1 HR_2 HB_0
  have HV3_6 := Lib.hid (hv3.wide (Nat.zero_le _) (Nat.le_refl _))
  clear hv3
  clear hbt
  go_wp2_with (fail)
  (with_reducible refine (countS_at HU.out HK.out HL_3.out (by omega) (by omega) HR_4.out (by omega) (by omega)).mono ?_)
  rintro e w3 ⟨A4, c4, rfl, hk4, hv4, hbt⟩
  have HL_7 := Lib.hid (HL_3.out.keep hbt (by omega))
  have HR_8 := Lib.hid (HR_4.out.keep hbt (by omega))
  have HV3_9 := Lib.hid (HV3_6.out.keep hbt (by omega))
  have HB_10 := Lib.hid (up HB_5.out hbt)
  have hz_3 := hbt.size
  clear HL_3 HR_4 HV3_6 HB_5
  have HV4_11 := Lib.hid (hv4.wide (Nat.zero_le _) (Nat.le_refl _))
  clear hv4
  clear hbt
  go_wp2_with (fail)
  (with_reducible refine (equalVoters_same 0 _ kb _ 0 _ _ _ _ bs _ HV3_9.out (by omega) (by omega) HV4_11.out (by omega)).mono ?_)
  rintro e w4 ⟨rfl, hbt⟩
  have HL_12 := Lib.hid (HL_7.out.keep hbt (by omega))
  have HR_13 := Lib.hid (HR_8.out.keep hbt (by omega))
  have HV3_14 := Lib.hid (HV3_9.out.keep hbt (by omega))
  have HV4_15 := Lib.hid (HV4_11.out.keep hbt (by omega))
  have HB_16 := Lib.hid (up HB_10.out hbt)
  have hz_4 := hbt.size
  clear HL_7 HR_8 HV3_9 HV4_11 HB_10
  clear hbt
  by_cases hneg : u < 0
  case pos =>
    have hd : decide (u < 0) = true := decide_eq_true hneg
    go_wp2_with (fail)
    (with_reducible refine (equalVoters_same 0 _ kb _ 0 _ _ _ _ bs _ HV3_14.out (by omega) (by omega) HV4_15.out (by omega)).mono ?_)
    rintro e w5 ⟨rfl, hbt⟩
    have HL_17 := Lib.hid (HL_12.out.keep hbt (by omega))
    have HR_18 := Lib.hid (HR_13.out.keep hbt (by omega))
    have HV3_19 := Lib.hid (HV3_14.out.keep hbt (by omega))
    have HV4_20 := Lib.hid (HV4_15.out.keep hbt (by omega))
    have HB_21 := Lib.hid (up HB_16.out hbt)
    have hz_5 := hbt.size
    clear HL_12 HR_13 HV3_14 HV4_15 HB_16
    clear hbt
    go_wp2
    go_ret
    exact ⟨rfl, HB_21.out⟩
  have hd : decide (u < 0) = false := decide_eq_false hneg
  have HV := Lib.hid (show vAsk cand term qs = true ∧ u = (gaveOf fs cand term qs : Int) ∧ bs = behindOf fs cand term qs by
    rcases HCC.out with h1 | ⟨h1, _, _, h5⟩
    · injection h1 with h1 _; omega
    · injection h5 with h5 h6; exact ⟨h1, h5, h6⟩)
  have hc6 : 0 ≤ cand ∧ cand ≤ 6 := by
    have h := HV.out.1
    simp only [vAsk, inR, Bool.and_eq_true, decide_eq_true_eq] at h
    omega
  have hw1 : IntKind.i64.wrap (cand + 1) = cand + 1 := IntWalk.i64_in _ (by omega)
  have htm : (cand + 1).tmod 7 = (cand + 1) % 7 := Int.tmod_eq_emod_of_nonneg (by omega)
  obtain ⟨⟨u2, bs2⟩, hU2⟩ : ∃ x, countOf bs ((cand + 1) % 7) term qs = x := ⟨_, rfl⟩
  obtain ⟨kb2, hK2⟩ : ∃ k, bs2.length = k := ⟨_, rfl⟩
  have hsum : u + u2 ≤ (m : Int) ∧ -1 ≤ u2 ∧ u2 ≤ 7 ∧ u ≤ 8 := by
    have h2 := two_le (c := cand) (d := (cand + 1) % 7) (term := term) (log := qs) (by omega) (by simp [inR]; omega) fs
    have h3 := HPL.out
    have h4 := gaveOf_le fs cand term qs
    obtain ⟨_, h5, h6⟩ := HV.out
    rcases countOf_cases bs ((cand + 1) % 7) term qs with h7 | ⟨_, _, h8, h7⟩
    · rw [hU2] at h7; injection h7 with h7 _; omega
    · rw [hU2] at h7; injection h7 with h7 _; rw [h6] at h7 h8; have := gaveOf_le (behindOf fs cand term qs) ((cand + 1) % 7) term qs; omega
  have HU2 := Lib.hid hU2
  have HK2 := Lib.hid hK2
  have hw2 : IntKind.i64.wrap (u + u2) = u + u2 := IntWalk.i64_in _ (by omega)
  have hdl : decide (u + u2 ≤ (m : Int)) = true := decide_eq_true hsum.1
  clear hU2 hK2 hsum hneg
  go_wp2_with (fail)
  try rw [htm]
  (with_reducible refine (countI_at HU2.out HK2.out HV3_14.out (by omega) (by omega) HR_13.out (by omega) (by omega) hc2').mono ?_)
  rintro e w5 ⟨A5, c5, rfl, hk5, hv5, hbt⟩
  have HL_22 := Lib.hid (HL_12.out.keep hbt (by omega))
  have HR_23 := Lib.hid (HR_13.out.keep hbt (by omega))
  have HV3_24 := Lib.hid (HV3_14.out.keep hbt (by omega))
  have HV4_25 := Lib.hid (HV4_15.out.keep hbt (by omega))
  have HB_26 := Lib.hid (up HB_16.out hbt)
  have hz_5 := hbt.size
  clear HL_12 HR_13 HV3_14 HV4_15 HB_16
  have HV5_27 := Lib.hid (hv5.wide (Nat.zero_le _) (Nat.le_refl _))
  clear hv5
  clear hbt
  go_wp2
  go_ret
  exact ⟨rfl, HB_26.out⟩
end Go.Proofs.Ytobjcifoaejonac
