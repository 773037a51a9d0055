/- The law FnCountVotesTerm, walked: it returns true. (Written by a program over gen/lawlib.py.) -/
import Derived.Test.YtobjcifoaejonacDrawV2
import Derived.Test.YtobjcifoaejonacLawCountM
import Derived.Test.YtobjcifoaejonacEqVot
import Derived.BigQuiet
import Derived.Deep.RegionLaw
set_option linter.unusedSimpArgs false
set_option linter.unusedVariables false
namespace Go.Proofs.Ytobjcifoaejonac
open Go.RowKit

set_option maxRecDepth 100000 in
set_option maxHeartbeats 6400000 in
theorem lawCountVotesTerm_any (n c : Nat) (A : Option Addr) (xs : List Int) (w : World) (hr : Rd w 0 w.heap.size 1 A n (bvs xs)) (hby : Bytes xs) (hc : n ≤ c) (hc2 : c ≤ 9223372036854775807) :
    Calls Try.prog 13 #[.slice A n c] w fun e w' => e = .returned (.bool true) ∧ Below w.heap.size w w' := by
  by_cases hbig : (1048576 : Int) < n
  · go_enter Try.func13, Try.ntmps13
    go_wp2
    go_ret
    exact ⟨rfl, Below.refl _ _⟩
  go_enter Try.func13, Try.ntmps13
  go_wp2_with (fail)
  (with_reducible refine (drawCountVotes_any n c A xs w hr hby (by omega) hc hc2).mono ?_)
  rintro e w1 ⟨A1, m, c1, fs, cand, term, A2, m2, c2, qs, rfl, hm, hvs, hcand, hterm, hm2, hc2', hrd2, hb1⟩
  clear hbig hr
  have HB_0 := Lib.hid hb1
  have hz_1 := hb1.size
  clear hb1
  have HPL := Lib.hid hvs.len
  have HL_1 := Lib.hid (hvs.wide (Nat.zero_le _) (Nat.le_refl _))
  clear hvs
  have HR_2 := Lib.hid (hrd2.wide (Nat.zero_le _) (Nat.le_refl _))
  clear hrd2
  obtain ⟨⟨u, bs⟩, hU⟩ : ∃ u, countOf fs cand term qs = u := ⟨_, rfl⟩
  obtain ⟨kb, hK⟩ : ∃ k, bs.length = k := ⟨_, rfl⟩
  have HCC := Lib.hid (countOf_cases fs cand term qs)
  rw [hU] at HCC
  have HU := Lib.hid hU
  have HK := Lib.hid hK
  have hkb : kb ≤ 7 := by
    have h1 := HCC.out
    have h2 := HPL.out
    rcases h1 with h1 | ⟨_, _, h4, h5⟩
    · injection h1 with _ h3; subst h3; simp at hK; omega
    · injection h5 with _ h3; rw [h3, behindOf_len] at hK; omega
  have hgg : (u != u) = false := by simp
  have hge : (u == u) = true := by simp
  clear hU hK
  go_wp2_with (fail)
  (with_reducible refine (countI_at HU.out HK.out HL_1.out (by omega) (by omega) HR_2.out (by omega) (by omega) hc2').mono ?_)
  rintro e w2 ⟨A3, c3, rfl, hk3, hv3, hbt⟩
  have HL_3 := Lib.hid (HL_1.out.keep hbt (by omega))
  have HR_4 := Lib.hid (HR_2.out.keep hbt (by omega))
  have HB_5 := Lib.hid (up HB_0.out hbt)
  have hz_2 := hbt.size
  clear HL_1 HR_2 HB_0
  have HV3_6 := Lib.hid (hv3.wide (Nat.zero_le _) (Nat.le_refl _))
  clear hv3
  clear hbt
  go_wp2_with (fail)
  (with_reducible refine (countS_at HU.out HK.out HL_3.out (by omega) (by omega) HR_4.out (by omega) (by omega)).mono ?_)
  rintro e w3 ⟨A4, c4, rfl, hk4, hv4, hbt⟩
  have HL_7 := Lib.hid (HL_3.out.keep hbt (by omega))
  have HR_8 := Lib.hid (HR_4.out.keep hbt (by omega))
  have HV3_9 := Lib.hid (HV3_6.out.keep hbt (by omega))
  have HB_10 := Lib.hid (up HB_5.out hbt)
  have hz_3 := hbt.size
  clear HL_3 HR_4 HV3_6 HB_5
  have HV4_11 := Lib.hid (hv4.wide (Nat.zero_le _) (Nat.le_refl _))
  clear hv4
  clear hbt
  go_wp2_with (fail)
  (with_reducible refine (equalVoters_same 0 _ kb _ 0 _ _ _ _ bs _ HV3_9.out (by omega) (by omega) HV4_11.out (by omega)).mono ?_)
  rintro e w4 ⟨rfl, hbt⟩
  have HL_12 := Lib.hid (HL_7.out.keep hbt (by omega))
  have HR_13 := Lib.hid (HR_8.out.keep hbt (by omega))
  have HV3_14 := Lib.hid (HV3_9.out.keep hbt (by omega))
  have HV4_15 := Lib.hid (HV4_11.out.keep hbt (by omega))
  have HB_16 := Lib.hid (up HB_10.out hbt)
  have hz_4 := hbt.size
  clear HL_7 HR_8 HV3_9 HV4_11 HB_10
  clear hbt
  have HT := Lib.hid (show ∀ f ∈ bs, term ≤ f.1 by
    rcases HCC.out with h1 | ⟨h1, h2, _, h5⟩
    · injection h1 with _ h1; rw [h1]; intro f hf; cases hf
    · injection h5 with _ h6; rw [h6]; exact behind_term h1 h2)
  have hle : u ≤ (m : Int) := by
    have h3 := HPL.out
    rcases HCC.out with h1 | ⟨_, _, _, h5⟩
    · injection h1 with h1 _; omega
    · injection h5 with h5 _; have := gaveOf_le fs cand term qs; omega
  have hdl : decide (u ≤ (m : Int)) = true := decide_eq_true hle
  go_wp2
  go_loop [11] (fun iv => ∃ (k : Nat), iv = .int .i64 k ∧ k ≤ kb)
     (fun iv => kb - (intOf iv).toNat)
  case atStart => exact ⟨0, rfl, by omega⟩
  case round =>
    obtain ⟨k, rfl, hk⟩ := hrel
    by_cases hlt : k < kb
    case pos =>
      obtain ⟨b, off, x, y, ps, A9, m9, c9, hA, _, _, hg, hc0, hc1, hc2, _, _, _⟩ := HV3_14.out.at hlt
      have hx : decide (x < term) = false := decide_eq_false (by have := HT.out _ (List.mem_of_getElem? hg); dsimp only at this; omega)
      subst hA
      clear hg
      have hkn : (k : Int) < (kb : Int) := by omega
      have hk0 : (0 : Int) ≤ (k : Int) := by omega
      go_wp2
      go_round
      case rel => exact ⟨k + 1, by go_num, by omega⟩
      case measure => simp [intOf]; omega
    obtain rfl : k = kb := by omega
    go_wp2
    go_ret
    exact ⟨rfl, HB_16.out⟩
end Go.Proofs.Ytobjcifoaejonac
