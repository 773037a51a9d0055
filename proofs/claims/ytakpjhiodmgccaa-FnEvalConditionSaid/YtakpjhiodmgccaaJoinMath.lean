/- Joined conditions, in plain mathematics. No program. -/
import Derived.Test.YtakpjhiodmgccaaEvalMath
namespace Go.Proofs.Ytakpjhiodmgccaa
open Go.RowKit

theorem scanD_append : ∀ (ps qs : List (Int × Int)) (d : Int), scanD (ps ++ qs) d = (scanD ps d).bind fun r => scanD qs r
  | [], qs, d => rfl
  | p :: ps, qs, d => by
    simp only [List.cons_append, scanD]
    split
    · exact scanD_append ps qs _
    · rfl
theorem evalL_append (vs : List Int) : ∀ (ps qs : List (Int × Int)) (st : List Int), evalL vs (ps ++ qs) st = evalL vs qs (evalL vs ps st)
  | [], _, _ => rfl
  | p :: ps, qs, st => evalL_append vs ps qs (stepV vs p st)
theorem evalL_length (vs : List Int) : ∀ (ps : List (Int × Int)) (st : List Int) (r : Int), scanD ps st.length = some r → ((evalL vs ps st).length : Int) = r
  | [], st, r, h => by simpa [scanD, evalL] using h
  | p :: ps, st, r, h => by
    rw [scanD] at h
    split at h
    · rename_i hc
      refine evalL_length vs ps (stepV vs p st) r ?_
      rw [stepV_length hc.2]
      exact h
    · cases h
theorem eval_one {ps : List (Int × Int)} (vs : List Int) (h : vCond ps = true) : ∃ n, evalL vs ps [] = [n] := by
  have hl := evalL_length vs ps [] 1 (vCond_scan h)
  match he : evalL vs ps [], hl with
  | [n], _ => exact ⟨n, rfl⟩
  | [], hl => simp at hl
  | _ :: _ :: _, hl => simp at hl; omega
theorem evalOf_eq {ps : List (Int × Int)} {vs : List Int} (h : vCond ps = true) (hv : vVals vs = true) : evalL vs ps [] = [evalOf ps vs] := by
  obtain ⟨n, hn⟩ := eval_one vs h
  simp [evalOf, h, hv, hn]
theorem vCond_join {ps qs : List (Int × Int)} (h : vCond ps = true) (hl : ps.length + qs.length ≤ 12) (hq : scanD qs 1 = some 1) : vCond (ps ++ qs) = true := by
  have h1 := vCond_len h
  have hs : scanD (ps ++ qs) 0 = some 1 := by rw [scanD_append, vCond_scan h]; exact hq
  have hi : inR ((ps ++ qs).length : Int) 1 12 = true := by rw [inR_iff, List.length_append]; omega
  simp only [vCond, hi, hs]; simp
theorem evalOf_join {ps qs : List (Int × Int)} {vs : List Int} (h : vCond ps = true) (hv : vVals vs = true) (hl : ps.length + qs.length ≤ 12) (hq : scanD qs 1 = some 1) :
    evalOf (ps ++ qs) vs = (evalL vs qs [evalOf ps vs]).getD 0 0 := by
  rw [show evalOf (ps ++ qs) vs = (evalL vs (ps ++ qs) []).getD 0 0 by simp [evalOf, vCond_join h hl hq, hv], evalL_append, evalOf_eq h hv]
theorem evalOf_num {m : Int} {vs : List Int} (h0 : -9999 ≤ m) (h1 : m ≤ 9999) : evalOf [(0, m)] vs = if vVals vs then m else 0 := by
  have hp : vPart 0 m = true := by simp [vPart, inR_iff.2 ⟨h0, h1⟩]
  have hs : scanD [(0, m)] 0 = some 1 := by simp [scanD, hp, needs1]
  have hi : inR (([(0, m)] : List (Int × Int)).length : Int) 1 12 = true := by simp [inR]
  have hc : vCond [(0, m)] = true := by simp only [vCond, hi, hs]; simp
  by_cases hv : vVals vs = true
  · have he : evalL vs [(0, m)] [] = [m] := by simp [evalL, stepV_0]
    simp [evalOf, hc, hv, he]
  · simp [evalOf, hv]
theorem evalOf_nil (vs : List Int) : evalOf [] vs = 0 := by
  have : vCond [] = false := by simp [vCond, inR]
  simp [evalOf, this]
theorem evalOf_bad {ps : List (Int × Int)} {vs : List Int} (h : vVals vs = false) : evalOf ps vs = 0 := by simp [evalOf, h]
theorem evalOf_no {ps : List (Int × Int)} {vs : List Int} (h : vCond ps = false) : evalOf ps vs = 0 := by simp [evalOf, h]
theorem evalL_small {vs : List Int} (hv : vVals vs = true) : ∀ (ps : List (Int × Int)) (st : List Int) (r : Int), scanD ps st.length = some r → Small st → Small (evalL vs ps st)
  | [], _, _, _, h => h
  | p :: ps, st, r, h, hs => by
    rw [scanD] at h
    split at h
    · rename_i hc
      refine evalL_small hv ps (stepV vs p st) r ?_ (stepV_small (x := p.1) (y := p.2) hc.1 hv hs)
      rw [stepV_length hc.2]
      exact h
    · cases h
theorem evalOf_small (ps : List (Int × Int)) (vs : List Int) : -9999 ≤ evalOf ps vs ∧ evalOf ps vs ≤ 9999 := by
  by_cases h : vCond ps = true
  · by_cases hv : vVals vs = true
    · have := evalL_small hv ps [] 1 (vCond_scan h) (fun x hx => nomatch hx)
      rw [evalOf_eq h hv] at this
      exact this _ (by simp)
    · rw [evalOf_bad (by simpa using hv)]; omega
  · rw [evalOf_no (by simpa using h)]; omega
/-- The opposite's value. -/
theorem evalOf_not {ps : List (Int × Int)} {vs : List Int} (h : vCond ps = true) (hv : vVals vs = true) (hl : ps.length ≠ 12) : vCond (ps ++ [(2, 0)]) = true ∧ evalOf (ps ++ [(2, 0)]) vs = tr (evalOf ps vs == 0) := by
  have h1 := vCond_len h
  have hq : scanD [(2, 0)] 1 = some 1 := by simp [scanD, vPart, inR, needs1]
  refine ⟨vCond_join h (by simp; omega) hq, ?_⟩
  rw [evalOf_join h hv (by simp; omega) hq]
  have := stepV_2 vs [] 0 (evalOf ps vs)
  simp only [List.nil_append] at this
  simp [evalL, this]
/-- A number and a part that takes two values, behind a condition. -/
theorem evalOf_two {ps : List (Int × Int)} {vs : List Int} {x a : Int} (h : vCond ps = true) (hv : vVals vs = true) (hl : ps.length + 2 ≤ 12) (h0 : -9999 ≤ a) (h1 : a ≤ 9999) (hx3 : 3 ≤ x) (hx8 : x ≤ 8) :
    evalOf (ps ++ [(0, a), (x, 0)]) vs = opv x (evalOf ps vs) a := by
  have hp0 : vPart 0 a = true := by simp [vPart, inR_iff.2 ⟨h0, h1⟩]
  have hx : vPart x 0 = true := by
    have : inR x 2 8 = true := inR_iff.2 ⟨by omega, hx8⟩
    unfold vPart
    rw [if_neg (by omega), if_neg (by omega), this]; rfl
  have hn : needs1 x = 2 := by unfold needs1; rw [if_neg (by omega), if_neg (by omega)]
  have h00 : needs1 0 = 0 := by simp [needs1]
  have hq : scanD [(0, a), (x, 0)] 1 = some 1 := by simp [scanD, hp0, hx, hn, h00]
  rw [evalOf_join h hv (by simpa using hl) hq]
  have e1 : stepV vs (0, a) [evalOf ps vs] = [] ++ [evalOf ps vs, a] := by rw [stepV_0]; rfl
  simp only [evalL, e1, stepV_op vs [] x 0 _ a hx3]
  rfl
end Go.Proofs.Ytakpjhiodmgccaa
