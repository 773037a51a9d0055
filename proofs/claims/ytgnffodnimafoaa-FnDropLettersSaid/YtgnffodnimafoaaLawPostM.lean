/- What the laws on post offices ask: an answer once it is known. -/
import Derived.Test.YtgnffodnimafoaaSendS
import Derived.Test.YtgnffodnimafoaaDropS
import Derived.Test.YtgnffodnimafoaaDrawR
import Derived.Test.YtgnffodnimafoaaSendMath
set_option linter.unusedSimpArgs false
set_option linter.unusedVariables false
namespace Go.Proofs.Ytgnffodnimafoaa
open Go.RowKit

section
variable {P : Program} {F : FuncId} {args : Array Value} {w : World} {d1 d2 : List Tri} {m1 m2 : Nat} {v : Value} {b : Bool}
/-- A post office, a value and whether all is well, in rows that are known. -/
def Known (d1 d2 : List Tri) (m1 m2 : Nat) (v : Value) (b : Bool) (w : World) (e : Ending) (w' : World) : Prop :=
  ∃ A1 c1 A2 c2, e = .returned (.tuple #[.agg #[.slice A1 m1 c1, .slice A2 m2 c2], v, .bool b]) ∧ m1 ≤ c1 ∧ m2 ≤ c2 ∧ Rd w' w.heap.size w'.heap.size 3 A1 m1 (tvs d1) ∧ Rd w' w.heap.size w'.heap.size 3 A2 m2 (tvs d2) ∧ Below w.heap.size w w'
theorem post_at {X : List Tri × List Tri} {v' : Value} {b' : Bool} (h : Calls P F args w (PostRes X v' b' w)) (h1 : X = (d1, d2)) (h2 : v' = v) (h3 : b' = b) (hl1 : d1.length = m1) (hl2 : d2.length = m2) : Calls P F args w (Known d1 d2 m1 m2 v b w) := by
  subst h1; subst h2; subst h3
  refine h.mono ?_
  rintro e w' ⟨A1, n1, c1, A2, n2, c2, rfl, hcr, hb⟩
  dsimp only at hcr
  have e1 : n1 = m1 := by have := hcr.1.1; rw [tvs_length] at this; omega
  have e2 : n2 = m2 := by have := hcr.2.1.1; rw [tvs_length] at this; omega
  subst e1; subst e2
  exact ⟨A1, c1, A2, c2, rfl, by obtain ⟨_, _, e, hc, _⟩ := own_cap hcr.1; cases e; exact hc, by obtain ⟨_, _, e, hc, _⟩ := own_cap hcr.2.1; cases e; exact hc, Rd.of_own hcr.1, Rd.of_own hcr.2.1, hb⟩
end
end Go.Proofs.Ytgnffodnimafoaa
