/- A condition's value when one of the values is another, in plain mathematics. No program. -/
import Derived.Test.YtakpjhiodmgccaaJoinMath
import Derived.Test.YtakpjhiodmgccaaLawLists
namespace Go.Proofs.Ytakpjhiodmgccaa
open Go.RowKit

theorem used_in {ps : List (Int × Int)} (h : vCond ps = true) {v : Nat} (hv : v < 4) : inL (usedOf ps) (v : Int) = hasV ps (v : Int) := by
  rw [usedOf, if_pos h, Bool.eq_iff_iff]
  simp only [inL, List.contains_iff_mem, usedUp, List.mem_map, List.mem_filter, List.mem_range]
  constructor
  · rintro ⟨a, ⟨_, ha⟩, e⟩
    have : a = v := by omega
    subst this
    exact ha
  · intro hh
    exact ⟨v, ⟨hv, hh⟩, rfl⟩
theorem getD_set_ne (vs : List Int) (i j : Nat) (z : Int) (h : j ≠ i) : (vs.set i z).getD j 0 = vs.getD j 0 := by
  simp [List.getD_eq_getElem?_getD, List.getElem?_set, Ne.symm h]
theorem stepV_set {vs st : List Int} {x y z : Int} {i : Nat} (h : x = 1 → y.toNat ≠ i) : stepV (vs.set i z) (x, y) st = stepV vs (x, y) st := by
  by_cases h1 : x = 1
  · subst h1
    rw [stepV_1, stepV_1, getD_set_ne _ _ _ _ (h rfl)]
  · simp only [stepV, putV, if_neg h1]
theorem evalL_set {vs : List Int} {z : Int} {i : Nat} : ∀ (ps : List (Int × Int)) (st : List Int), (∀ q ∈ ps, q.1 = 1 → q.2.toNat ≠ i) → evalL (vs.set i z) ps st = evalL vs ps st
  | [], _, _ => rfl
  | p :: ps, st, h => by
    rw [evalL, evalL, stepV_set (x := p.1) (y := p.2) (h p (by simp))]
    exact evalL_set ps _ fun q hq => h q (by simp [hq])
theorem vVals_set {vs : List Int} {z : Int} (i : Nat) (h : vVals vs = true) (h0 : -9999 ≤ z) (h1 : z ≤ 9999) : vVals (vs.set i z) = true := by
  have hl := vVals_len h
  have hs := vVals_small h
  simp only [vVals, Bool.and_eq_true, decide_eq_true_eq, List.all_eq_true]
  refine ⟨by simpa using hl, fun x hx => inR_iff.2 ?_⟩
  rcases List.mem_or_eq_of_mem_set hx with hx | rfl
  · exact hs x hx
  · exact ⟨h0, h1⟩
theorem evalOf_set {ps : List (Int × Int)} {vs : List Int} {z : Int} {i : Nat} (hi : i < 4) (hv : vVals vs = true) (h0 : -9999 ≤ z) (h1 : z ≤ 9999) (hu : inL (usedOf ps) (i : Int) = false) : evalOf ps (vs.set i z) = evalOf ps vs := by
  by_cases hc : vCond ps = true
  · rw [used_in hc hi] at hu
    simp only [evalOf, hc, hv, vVals_set i hv h0 h1]
    rw [evalL_set]
    intro q hq h1 h2
    obtain ⟨k, hk⟩ := List.getElem?_of_mem hq
    have hp := vCond_parts hc (x := q.1) (y := q.2) hk
    rw [h1] at hp
    have hy := vPart_var hp
    have : hasV ps (i : Int) = true := by
      simp only [hasV, List.any_eq_true]
      exact ⟨q, hq, by simp [h1]; omega⟩
    rw [this] at hu
    cases hu
  · rw [evalOf_no (by simpa using hc), evalOf_no (by simpa using hc)]
theorem evalOf_var {vs : List Int} {i : Nat} (hi : i < 4) (hv : vVals vs = true) : evalOf [(1, (i : Int))] vs = vs.getD i 0 := by
  have hp : vPart 1 (i : Int) = true := by
    have : inR (i : Int) 0 3 = true := inR_iff.2 ⟨by omega, by omega⟩
    simp [vPart, this]
  have hs : scanD [(1, (i : Int))] 0 = some 1 := by simp [scanD, hp, needs1]
  have hl : inR (([(1, (i : Int))] : List (Int × Int)).length : Int) 1 12 = true := by simp [inR]
  have hc : vCond [(1, (i : Int))] = true := by simp only [vCond, hl, hs]; simp
  have he : evalL vs [(1, (i : Int))] [] = [vs.getD i 0] := by simp [evalL, stepV_1]
  simp [evalOf, hc, hv, he]
end Go.Proofs.Ytakpjhiodmgccaa
