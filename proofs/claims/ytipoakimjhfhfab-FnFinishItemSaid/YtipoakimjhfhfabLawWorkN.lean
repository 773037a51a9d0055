/- More of what the laws on worklists come to. Plain mathematics; no program. -/
import Derived.Test.YtipoakimjhfhfabLawWorkM
set_option linter.unusedSimpArgs false
set_option linter.unusedVariables false
namespace Go.Proofs.Ytipoakimjhfhfab
open Go.RowKit

theorem next_next {ps l : List Tri} {role : Int} (hl : l = ps ++ [(nextNum ps, role, 0)]) : nextNum l = nextNum ps + 1 := by
  subst hl
  unfold nextNum
  simp
theorem num_at {ps : List Tri} (hv : vWork ps = true) {k i : Nat} {z r o x y u : Int} (hk : ps[k]? = some (z, r, o)) (hi : ps[i]? = some (x, y, u)) : x = z ↔ i = k := by
  constructor
  · rintro rfl
    have ha := vWork_asc hv
    have h1 := ha.inj (List.mem_of_getElem? hi) (List.mem_of_getElem? hk) (show Prod.fst (x, y, u) = Prod.fst (x, r, o) from rfl)
    rcases Nat.lt_trichotomy i k with h | h | h
    · have := List.pairwise_iff_getElem.1 ha i k (List.getElem?_eq_some_iff.1 hi).1 (List.getElem?_eq_some_iff.1 hk).1 h
      rw [(List.getElem?_eq_some_iff.1 hi).2, (List.getElem?_eq_some_iff.1 hk).2] at this
      exact absurd this (by simp)
    · exact h
    · have := List.pairwise_iff_getElem.1 ha k i (List.getElem?_eq_some_iff.1 hk).1 (List.getElem?_eq_some_iff.1 hi).1 h
      rw [(List.getElem?_eq_some_iff.1 hi).2, (List.getElem?_eq_some_iff.1 hk).2] at this
      exact absurd this (by simp)
  · rintro rfl
    rw [hi] at hk
    injection hk with hk
    injection hk
theorem free_step {ps : List Tri} {k : Nat} {p : Tri} (hg : ps[k]? = some p) : ((ps.take (k + 1)).filter fun q => q.2.2 == 0).length = ((ps.take k).filter fun q => q.2.2 == 0).length + (if p.2.2 = 0 then 1 else 0) := by
  rw [filt_more _ hg]
  by_cases h : p.2.2 = 0 <;> simp [h]
theorem role_in {q : Int} (h : 0 ≤ q ∧ q ≤ 5) : [0, 1, 2, 3, 4, 5].contains q = true := by
  have h2 : q = 0 ∨ q = 1 ∨ q = 2 ∨ q = 3 ∨ q = 4 ∨ q = 5 := by omega
  rcases h2 with h2 | h2 | h2 | h2 | h2 | h2 <;> rw [h2] <;> rfl
end Go.Proofs.Ytipoakimjhfhfab
