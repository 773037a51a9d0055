/- The law FnIsQuorumStep, walked: it returns true. (Written by a program over gen/lawlib.py.) -/
import Derived.Test.YtobjcifoaejonacDrawG
import Derived.Test.YtobjcifoaejonacVoteI
import Derived.Test.YtobjcifoaejonacVoteS
import Derived.Test.YtobjcifoaejonacLawLists
import Derived.Test.YtobjcifoaejonacLawVoteM
import Derived.BigQuiet
import Derived.Deep.RegionLaw
set_option linter.unusedSimpArgs false
set_option linter.unusedVariables false
namespace Go.Proofs.Ytobjcifoaejonac
open Go.RowKit

set_option maxRecDepth 100000 in
set_option maxHeartbeats 6400000 in
theorem lawIsQuorumStep_any (n c : Nat) (A : Option Addr) (xs : List Int) (w : World) (hr : Rd w 0 w.heap.size 1 A n (bvs xs)) (hby : Bytes xs) (hc : n ≤ c) (hc2 : c ≤ 9223372036854775807) :
    Calls Try.prog 7 #[.slice A n c] w fun e w' => e = .returned (.bool true) ∧ Below w.heap.size w w' := by
  by_cases hbig : (1048576 : Int) < n
  · go_enter Try.func7, Try.ntmps7
    go_wp2
    go_ret
    exact ⟨rfl, Below.refl _ _⟩
  go_enter Try.func7, Try.ntmps7
  go_wp2_with (fail)
  (with_reducible refine (drawOneStep_any n c A xs w hr hby (by omega) hc hc2).mono ?_)
  rintro e w1 ⟨A1, m, c1, ga, A2, m2, c2, gb, rfl, hm, hc1, hrd, hm2, hc2', hrd2, hb1⟩
  clear hbig hr
  have HB_0 := Lib.hid hb1
  have hz_1 := hb1.size
  clear hb1
  have HPL := Lib.hid hrd.len1
  have HQL := Lib.hid hrd2.len1
  have HL_1 := Lib.hid (hrd.wide (Nat.zero_le _) (Nat.le_refl _))
  clear hrd
  have HR_2 := Lib.hid (hrd2.wide (Nat.zero_le _) (Nat.le_refl _))
  clear hrd2
  cases hU : stepOf ga gb with
  | false =>
    have HU := Lib.hid hU
    clear hU
    go_wp2_with (fail)
    (with_reducible refine (OneStepI_any 0 _ m c1 A1 ga 0 _ m2 c2 A2 gb _ HL_1.out (by omega) (by omega) HR_2.out (by omega) (by omega)).mono ?_)
    rintro e w2 ⟨rfl, hbt⟩
    rw [HU.out]
    have HL_3 := Lib.hid (HL_1.out.keep hbt (by omega))
    have HR_4 := Lib.hid (HR_2.out.keep hbt (by omega))
    have HB_5 := Lib.hid (up HB_0.out hbt)
    have hz_2 := hbt.size
    clear HL_1 HR_2 HB_0
    clear hbt
    go_wp2_with (fail)
    (with_reducible refine (OneStepS_any 0 _ m c1 A1 ga 0 _ m2 c2 A2 gb _ HL_3.out (by omega) (by omega) HR_4.out (by omega) (by omega)).mono ?_)
    rintro e w3 ⟨rfl, hbt⟩
    rw [HU.out]
    have HL_6 := Lib.hid (HL_3.out.keep hbt (by omega))
    have HR_7 := Lib.hid (HR_4.out.keep hbt (by omega))
    have HB_8 := Lib.hid (up HB_5.out hbt)
    have hz_3 := hbt.size
    clear HL_3 HR_4 HB_5
    clear hbt
    go_wp2_with (fail)
    (with_reducible refine (OneStepS_any 0 _ m c1 A1 ga 0 _ m2 c2 A2 gb _ HL_6.out (by omega) (by omega) HR_7.out (by omega) (by omega)).mono ?_)
    rintro e w4 ⟨rfl, hbt⟩
    rw [HU.out]
    have HL_9 := Lib.hid (HL_6.out.keep hbt (by omega))
    have HR_10 := Lib.hid (HR_7.out.keep hbt (by omega))
    have HB_11 := Lib.hid (up HB_8.out hbt)
    have hz_4 := hbt.size
    clear HL_6 HR_7 HB_8
    clear hbt
    go_wp2
    go_ret
    exact ⟨rfl, HB_11.out⟩
  | true =>
    have HU := Lib.hid hU
    clear hU
    go_wp2_with (fail)
    (with_reducible refine (OneStepI_any 0 _ m c1 A1 ga 0 _ m2 c2 A2 gb _ HL_1.out (by omega) (by omega) HR_2.out (by omega) (by omega)).mono ?_)
    rintro e w2 ⟨rfl, hbt⟩
    rw [HU.out]
    have HL_12 := Lib.hid (HL_1.out.keep hbt (by omega))
    have HR_13 := Lib.hid (HR_2.out.keep hbt (by omega))
    have HB_14 := Lib.hid (up HB_0.out hbt)
    have hz_2 := hbt.size
    clear HL_1 HR_2 HB_0
    clear hbt
    go_wp2_with (fail)
    (with_reducible refine (OneStepS_any 0 _ m c1 A1 ga 0 _ m2 c2 A2 gb _ HL_12.out (by omega) (by omega) HR_13.out (by omega) (by omega)).mono ?_)
    rintro e w3 ⟨rfl, hbt⟩
    rw [HU.out]
    have HL_15 := Lib.hid (HL_12.out.keep hbt (by omega))
    have HR_16 := Lib.hid (HR_13.out.keep hbt (by omega))
    have HB_17 := Lib.hid (up HB_14.out hbt)
    have hz_3 := hbt.size
    clear HL_12 HR_13 HB_14
    clear hbt
    have HMEET := Lib.hid (fun S R (h : ∀ x ∈ S, x ∉ R) => step_meet (S := S) (R := R) HU.out h)
    obtain ⟨i0, hi0, hq0, hq1, hq2⟩ := info_parts infoIntD
    go_wp2
    go_loopw [6] (fun iv wr => ∃ (k : Nat), iv = .int .i64 k ∧ k ≤ 128 ∧ Hid (Below w3.heap.size w3 wr))
       (fun iv _ => 128 - (intOf iv).toNat)
    case atStart => exact ⟨0, rfl, by omega, Below.refl _ _⟩
    case round =>
      obtain ⟨k, rfl, hk, hB⟩ := hrel
      have hsz := hB.out.size
      by_cases hlt : k < 128
      case neg =>
        have hd : decide ((k : Int) < 128) = false := decide_eq_false (by omega)
        go_wp2
        go_ret
        exact ⟨rfl, up HB_17.out hB.out⟩
      have hk128 : (k : Int) < 128 := by omega
      obtain ⟨wo, hwo⟩ : ∃ wo : World, wo = wr := ⟨_, rfl⟩
      subst hwo
      have HOS := Lib.hid (show ((wo.alloc (.cells #[] 3)).alloc (.cells #[] 3)).ownsRow wo.heap.size 3 1 (.slice (some ⟨wo.heap.size, 0, none⟩) 0 0) 0 (ivs []) from own_keep (World.ownsRow_made wo #[] 0 (Nat.le_refl _) (by unfold maxLen; omega) (by simp [ivs])) (up_alloc (Below.refl _ _) _))
      have HOR := Lib.hid (show ((wo.alloc (.cells #[] 3)).alloc (.cells #[] 3)).ownsRow wo.heap.size 3 1 (.slice (some ⟨wo.heap.size + 1, 0, none⟩) 0 0) 0 (ivs []) from by
        have h := World.ownsRow_made (e := 3) (size := 1) (base := wo.heap.size) (wo.alloc (.cells #[] 3)) #[] 0 (by simp only [World.size_alloc]; omega) (by unfold maxLen; omega) (by simp)
        rw [World.size_alloc] at h
        simpa [ivs] using h)
      have HB0 := Lib.hid (up_alloc (up_alloc (Below.refl _ wo) (.cells #[] 3)) (.cells #[] 3))
      go_wp2
      go_loopw [7, 8, 9] (fun sv rv iv wr => ∃ (vS vR : Value) (s p q : Nat) (S R : List Int), sv = vS ∧ rv = vR ∧ iv = .int .i64 s ∧ s ≤ 7 ∧ p ≤ s ∧ q ≤ s ∧ Hid ((∀ x ∈ S, x < (s : Int)) ∧ (∀ x ∈ R, x < (s : Int)) ∧ ∀ x ∈ S, x ∉ R) ∧ Hid (wr.ownsRow wo.heap.size 3 1 vS p (ivs S)) ∧ Hid (wr.ownsRow wo.heap.size 3 1 vR q (ivs R)) ∧ Hid (vS.ownBlock ≠ vR.ownBlock ∧ vS.ownBlock ≠ none ∧ vR.ownBlock ≠ none) ∧ Hid (Below wo.heap.size wo wr))
         (fun _ _ iv _ => 7 - (intOf iv).toNat)
      case atStart => exact ⟨_, _, 0, 0, 0, [], [], rfl, rfl, rfl, by omega, by omega, by omega, ⟨by simp, by simp, by simp⟩, HOS.out, HOR.out, (by refine ⟨?_, ?_, ?_⟩ <;> simp [Value.ownBlock]), HB0.out⟩
      case round =>
        clear HOS HOR HB0
        obtain ⟨vS, vR, s, p, q, S, R, hvS, hvR, rfl, hs, hps, hqs, hD, hS, hR, hNE, hU⟩ := hrel
        have hvS := hvS.symm
        have hvR := hvR.symm
        subst hvS
        subst hvR
        have hzu := hU.out.size
        by_cases hlt7 : s < 7
        case neg =>
          obtain rfl : s = 7 := by omega
          obtain ⟨AS, cS, rfl, hkS, _⟩ := own_cap hS.out
          obtain ⟨AR, cR, rfl, hkR, _⟩ := own_cap hR.out
          have HXS := Lib.hid ((Rd.of_own hS.out).wide (lo' := 0) (Nat.zero_le _) (Nat.le_refl _))
          have HXR := Lib.hid ((Rd.of_own hR.out).wide (lo' := 0) (Nat.zero_le _) (Nat.le_refl _))
          have HBW := Lib.hid (up hB.out hU.out)
          have HLW := Lib.hid (HL_15.out.keep HBW.out (by omega))
          have HRW := Lib.hid (HR_16.out.keep HBW.out (by omega))
          have hzw := HBW.out.size
          have HM := Lib.hid (HMEET.out S R hD.out.2.2)
          generalize hqa : quorumOf ga S = qa at HM
          generalize hqb : quorumOf gb R = qb at HM
          have HQA := Lib.hid hqa
          have HQB := Lib.hid hqb
          clear hqa hqb
          go_wp2_with (fail)
          (with_reducible refine (IsQuorumI_any 0 _ m c1 A1 ga 0 _ p cS AS S _ HLW.out (by omega) (by omega) HXS.out (by omega) (by omega)).mono ?_)
          rintro e y1 ⟨rfl, hb2⟩
          rw [HQA.out]
          have HR2 := Lib.hid (HRW.out.keep hb2 (by omega))
          have HXR2 := Lib.hid (HXR.out.keep hb2 (by omega))
          have HB2 := Lib.hid (up HBW.out hb2)
          have hz2 := hb2.size
          clear hb2
          cases qa with
          | false =>
            go_wp2
            go_roundw
            case rel => exact ⟨k + 1, by go_num, by omega, HB2⟩
            case measure => simp [intOf]; omega
          | true =>
            have hqf : qb = false := by simpa using HM.out
            subst hqf
            go_wp2_with (fail)
            (with_reducible refine (IsQuorumI_any 0 _ m2 c2 A2 gb 0 _ q cR AR R _ HR2.out (by omega) (by omega) HXR2.out (by omega) (by omega)).mono ?_)
            rintro e y2 ⟨rfl, hb3⟩
            rw [HQB.out]
            have HB3 := Lib.hid (up HB2.out hb3)
            clear hb3
            go_wp2
            go_roundw
            case rel => exact ⟨k + 1, by go_num, by omega, HB3⟩
            case measure => simp [intOf]; omega
        have hs7 : (s : Int) < 7 := by omega
        have hs0 : (0 : Int) ≤ (s : Int) := by omega
        have HSR := Lib.hid (show ∀ x ∈ S ++ [(s : Int)], x ∉ R from fun x hx hr => by
          rcases List.mem_append.1 hx with h | h
          · exact hD.out.2.2 x h hr
          · obtain rfl := List.mem_singleton.1 h; have := hD.out.2.1 _ hr; omega)
        have HRS := Lib.hid (show ∀ x ∈ S, x ∉ R ++ [(s : Int)] from fun x hx hr => by
          rcases List.mem_append.1 hr with h | h
          · exact hD.out.2.2 x hx h
          · obtain rfl := List.mem_singleton.1 h; have := hD.out.1 _ hx; omega)
        have HUP := Lib.hid (show ∀ (T : List Int), (∀ x ∈ T, x < (s : Int)) → ∀ x ∈ T ++ [(s : Int)], x < ((s + 1 : Nat) : Int) from fun T h x hx => by
          rcases List.mem_append.1 hx with h1 | h1
          · have := h x h1; omega
          · obtain rfl := List.mem_singleton.1 h1; omega)
        have HUQ := Lib.hid (show ∀ (T : List Int), (∀ x ∈ T, x < (s : Int)) → ∀ x ∈ T, x < ((s + 1 : Nat) : Int) from fun T h x hx => by have := h x hx; omega)
        have hnn : 0 ≤ (k : Int) / 2 ^ s := Int.ediv_nonneg (by omega) (Int.le_of_lt (Int.pow_pos (by omega)))
        have htm : ((k : Int) / 2 ^ s).tmod 2 = (k : Int) / 2 ^ s % 2 := Int.tmod_eq_emod_of_nonneg hnn
        by_cases hcc : (k : Int) / 2 ^ s % 2 = 1
        · have hb1 : ((k : Int) / 2 ^ s % 2 == 1) = true := by simpa using hcc
          have hb2 : (((k : Int) / 2 ^ s).tmod 2 == 1) = true := by rw [htm]; exact hb1
          clear hcc htm
          go_wp2_with (at_builtin; refine wpList_append_own_at _ rfl _ _ 33 rfl wo.heap.size 3 i0 _ 1 8 Try.underlying33 hi0 hq0 hq1 hq2 rfl (by decide) _ _ _ rfl (hS.out.alloc _) _ 1 1 [.int .i64 (s : Int)] rfl rfl (World.news_of_block (heap_alloc_new _ _)) ?d2 ?d3 ?d4 ?d5 ?_)
          case d2 => first | (intro v hv; simp at hv; subst hv; rfl) | rfl
          case d3 => unfold maxLen; omega
          case d4 => omega
          case d5 => first | omega | (simp; omega)
          intro v9 w9 hown9 hg9 _ hat9
          have HU9 := Lib.hid (up_grown (up_alloc hU.out _) (hS.out.alloc _) hg9 (Nat.le_refl _))
          have HO9 := Lib.hid (show w9.ownsRow wo.heap.size 3 1 v9 (p + 1) (ivs (S ++ [(s : Int)])) by rw [ivs_append]; exact hown9)
          have HY9 := Lib.hid (show w9.ownsRow wo.heap.size 3 1 vR q (ivs R) from (hR.out.alloc _).kept hg9 (.inr (fun h => hNE.out.1 h.symm)))
          clear hown9 hg9
          have HN9 := Lib.hid (show v9.ownBlock ≠ vR.ownBlock ∧ v9.ownBlock ≠ none from by
            have hly := hR.out.lt
            rcases hat9 with h | h
            · rw [h]; exact ⟨hNE.out.1, hNE.out.2.1⟩
            · rw [h]; refine ⟨fun e => ?_, by simp⟩
              have := (hly _ e.symm).2
              first | omega | (simp only [World.size_alloc] at this; omega))
          clear hat9
          go_wp2
          go_roundw
          case rel => exact ⟨_, _, s + 1, p + 1, q, _, R, rfl, rfl, by go_num, by omega, by omega, by omega, ⟨HUP.out S hD.out.1, HUQ.out R hD.out.2.1, HSR.out⟩, HO9, HY9, ⟨HN9.out.1, HN9.out.2, hNE.out.2.2⟩, HU9⟩
          case measure => simp [intOf]; omega
        · have hb1 : ((k : Int) / 2 ^ s % 2 == 1) = false := by rw [beq_eq_false_iff_ne]; exact hcc
          have hb2 : (((k : Int) / 2 ^ s).tmod 2 == 1) = false := by rw [htm]; exact hb1
          clear hcc htm
          go_wp2_with (at_builtin; refine wpList_append_own_at _ rfl _ _ 33 rfl wo.heap.size 3 i0 _ 1 8 Try.underlying33 hi0 hq0 hq1 hq2 rfl (by decide) _ _ _ rfl (hR.out.alloc _) _ 1 1 [.int .i64 (s : Int)] rfl rfl (World.news_of_block (heap_alloc_new _ _)) ?d2 ?d3 ?d4 ?d5 ?_)
          case d2 => first | (intro v hv; simp at hv; subst hv; rfl) | rfl
          case d3 => unfold maxLen; omega
          case d4 => omega
          case d5 => first | omega | (simp; omega)
          intro v9 w9 hown9 hg9 _ hat9
          have HU9 := Lib.hid (up_grown (up_alloc hU.out _) (hR.out.alloc _) hg9 (Nat.le_refl _))
          have HO9 := Lib.hid (show w9.ownsRow wo.heap.size 3 1 v9 (q + 1) (ivs (R ++ [(s : Int)])) by rw [ivs_append]; exact hown9)
          have HY9 := Lib.hid (show w9.ownsRow wo.heap.size 3 1 vS p (ivs S) from (hS.out.alloc _).kept hg9 (.inr (fun h => hNE.out.1 h)))
          clear hown9 hg9
          have HN9 := Lib.hid (show v9.ownBlock ≠ vS.ownBlock ∧ v9.ownBlock ≠ none from by
            have hly := hS.out.lt
            rcases hat9 with h | h
            · rw [h]; exact ⟨fun h => hNE.out.1 h.symm, hNE.out.2.2⟩
            · rw [h]; refine ⟨fun e => ?_, by simp⟩
              have := (hly _ e.symm).2
              first | omega | (simp only [World.size_alloc] at this; omega))
          clear hat9
          go_wp2
          go_roundw
          case rel => exact ⟨_, _, s + 1, p, q + 1, S, _, rfl, rfl, by go_num, by omega, by omega, by omega, ⟨HUQ.out S hD.out.1, HUP.out R hD.out.2.1, HRS.out⟩, HY9, HO9, ⟨fun h => HN9.out.1 h.symm, hNE.out.2.1, HN9.out.2⟩, HU9⟩
          case measure => simp [intOf]; omega
end Go.Proofs.Ytobjcifoaejonac
