/- What a condition comes to, in plain mathematics. No program. -/
import Derived.Test.YthlcbdjjegageaaCondMath
namespace Go.Proofs.Ythlcbdjjegageaa
open Go.RowKit

def tr (b : Bool) : Int := if b then 1 else 0
def lim (n : Int) : Int := if n < -9999 then -9999 else if 9999 < n then 9999 else n
/-- The result of a part that takes two values. -/
def opv (k a b : Int) : Int :=
  if k = 3 then lim (a + b) else if k = 4 then lim (a - b) else if k = 5 then tr (a != 0 && b != 0) else if k = 6 then tr (a != 0 || b != 0) else if k = 7 then tr (decide (a < b)) else tr (a == b)
/-- What a part puts. -/
def putV (k v : Int) (taken vs : List Int) : Int :=
  if k = 0 then v else if k = 1 then vs.getD v.toNat 0 else if k = 2 then tr (taken.getD 0 0 == 0) else opv k (taken.getD 0 0) (taken.getD 1 0)
/-- The stack behind a part. -/
def stepV (vs : List Int) (p : Int × Int) (st : List Int) : List Int :=
  st.take (st.length - (needs1 p.1).toNat) ++ [putV p.1 p.2 (st.drop (st.length - (needs1 p.1).toNat)) vs]
def evalL (vs : List Int) : List (Int × Int) → List Int → List Int
  | [], st => st
  | p :: ps, st => evalL vs ps (stepV vs p st)
def vVals (vs : List Int) : Bool := decide (vs.length = 4) && vs.all fun x => inR x (-9999) 9999
/-- The value of a condition. -/
def evalOf (ps : List (Int × Int)) (vs : List Int) : Int := if vCond ps && vVals vs then (evalL vs ps []).getD 0 0 else 0
/-- All numbers are in the range of values. -/
def Small (st : List Int) : Prop := ∀ x ∈ st, -9999 ≤ x ∧ x ≤ 9999

theorem tr_small (b : Bool) : -9999 ≤ tr b ∧ tr b ≤ 9999 := by cases b <;> simp [tr]
theorem lim_small (n : Int) : -9999 ≤ lim n ∧ lim n ≤ 9999 := by unfold lim; split <;> (try split) <;> omega
theorem opv_small (k a b : Int) : -9999 ≤ opv k a b ∧ opv k a b ≤ 9999 := by
  unfold opv
  split
  · exact lim_small _
  split
  · exact lim_small _
  split
  · exact tr_small _
  split
  · exact tr_small _
  split <;> exact tr_small _
theorem vVals_len {vs : List Int} (h : vVals vs = true) : vs.length = 4 := by simp [vVals] at h; exact h.1
theorem vVals_small {vs : List Int} (h : vVals vs = true) : Small vs := by
  simp [vVals] at h
  intro x hx
  exact inR_iff.1 (h.2 x hx)
theorem putV_small {k v : Int} {taken vs : List Int} (hv : vPart k v = true) (hvs : vVals vs = true) : -9999 ≤ putV k v taken vs ∧ putV k v taken vs ≤ 9999 := by
  unfold putV
  by_cases h0 : k = 0
  · subst h0
    rw [if_pos rfl]
    have h' : inR v (-9999) 9999 = true := by simpa [vPart] using hv
    exact inR_iff.1 h'
  rw [if_neg h0]
  by_cases h1 : k = 1
  · subst h1
    rw [if_pos rfl]
    have := vPart_var hv
    have hl := vVals_len hvs
    have hlt : v.toNat < vs.length := by omega
    rw [List.getD_eq_getElem?_getD, List.getElem?_eq_getElem hlt]
    exact vVals_small hvs _ (List.getElem_mem _)
  rw [if_neg h1]
  split
  · exact tr_small _
  · exact opv_small _ _ _
theorem stepV_small {vs st : List Int} {x y : Int} (hv : vPart x y = true) (hvs : vVals vs = true) (hs : Small st) : Small (stepV vs (x, y) st) := by
  intro z hz
  simp only [stepV, List.mem_append, List.mem_singleton] at hz
  rcases hz with hz | rfl
  · exact hs z (List.mem_of_mem_take hz)
  · exact putV_small hv hvs
theorem stepV_length {vs st : List Int} {p : Int × Int} (h : needs1 p.1 ≤ st.length) : ((stepV vs p st).length : Int) = st.length - needs1 p.1 + 1 := by
  have := needs1_bd p.1
  simp only [stepV, List.length_append, List.length_take, List.length_singleton]
  omega
theorem stepV_0 (vs st : List Int) (y : Int) : stepV vs (0, y) st = st ++ [y] := by simp [stepV, needs1, putV]
theorem stepV_1 (vs st : List Int) (y : Int) : stepV vs (1, y) st = st ++ [vs.getD y.toNat 0] := by simp [stepV, needs1, putV]
theorem stepV_2 (vs s : List Int) (y a : Int) : stepV vs (2, y) (s ++ [a]) = s ++ [tr (a == 0)] := by simp [stepV, needs1, putV]
theorem stepV_op (vs s : List Int) (x y a b : Int) (h : 3 ≤ x) : stepV vs (x, y) (s ++ [a, b]) = s ++ [opv x a b] := by
  have h0 : ¬ (x = 0 ∨ x = 1) := by omega
  have h2 : ¬ x = 2 := by omega
  have h00 : ¬ x = 0 := by omega
  have h01 : ¬ x = 1 := by omega
  simp [stepV, needs1, putV, h2, h00, h01]
theorem last_one {st : List Int} (h : 1 ≤ st.length) : ∃ s a, st = s ++ [a] := by
  have hn : st ≠ [] := by intro e; subst e; simp at h
  exact ⟨st.dropLast, st.getLast hn, (List.dropLast_concat_getLast hn).symm⟩
theorem last_two {st : List Int} (h : 2 ≤ st.length) : ∃ s a b, st = s ++ [a, b] := by
  obtain ⟨s, b, rfl⟩ := last_one (show 1 ≤ st.length by omega)
  obtain ⟨s', a, rfl⟩ := last_one (st := s) (by simp at h; omega)
  exact ⟨s', a, b, by simp⟩
theorem evalL_step {ps : List (Int × Int)} {vs st : List Int} {k : Nat} {x y : Int} (hg : ps[k]? = some (x, y)) : evalL vs (ps.drop k) st = evalL vs (ps.drop (k + 1)) (stepV vs (x, y) st) := by
  rw [drop_cons2 hg]; rfl
/-- In a valid condition no part takes what is not there. -/
theorem scan_need {ps : List (Int × Int)} {k : Nat} {x y d r : Int} (hg : ps[k]? = some (x, y)) (h : scanD (ps.drop k) d = some r) : needs1 x ≤ d := by
  rw [drop_cons2 hg, scanD] at h
  split at h
  · rename_i hc; exact hc.2
  · cases h
theorem vCond_scan {ps : List (Int × Int)} (h : vCond ps = true) : scanD ps 0 = some 1 := by
  simp [vCond] at h; exact h.2
end Go.Proofs.Ythlcbdjjegageaa
