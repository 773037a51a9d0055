/- What a call that may answer nothing comes to, once it is known which. Plain theorems over any program. -/
import Derived.Test.YtipoakimjhfhfabWorkMath
set_option linter.unusedSimpArgs false
set_option linter.unusedVariables false
namespace Go.Proofs.Ytipoakimjhfhfab
open Go.RowKit
section
variable {α : Type} {P : Program} {F : FuncId} {args : Array Value} {vs : List α → List Value} {k : Nat} {u : Option (List α)} {l : List α} {w : World}
theorem mayS {N : Nat} (h : Calls P F args w (MayT vs k u w)) (hu : u = some l) (hN : l.length = N) : Calls P F args w fun e w' => ∃ A c, e = .returned (.tuple #[.slice A N c, .bool true]) ∧ N ≤ c ∧ Rd w' w.heap.size w'.heap.size k A N (vs l) ∧ Below w.heap.size w w' := by
  subst hu; subst hN
  exact h.mono fun e w' ⟨A, c, h1, h2, h3, _, h5⟩ => ⟨A, c, h1, h2, h3, h5⟩
theorem mayN (h : Calls P F args w (MayT vs k u w)) (hu : u = none) : Calls P F args w fun e w' => ∃ A c, e = .returned (.tuple #[.slice A 0 c, .bool false]) ∧ Rd w' w.heap.size w'.heap.size k A 0 (vs []) ∧ Below w.heap.size w w' := by
  subst hu
  exact h.mono fun e w' ⟨A, c, h1, _, h3, _, h5⟩ => ⟨A, c, h1, h3, h5⟩
/-- Only whether there is one. -/
theorem mayB {b : Bool} (h : Calls P F args w (MayT vs k u w)) (hu : u.isSome = b) : Calls P F args w fun e w' => ∃ A n c, e = .returned (.tuple #[.slice A n c, .bool b]) ∧ Below w.heap.size w w' := by
  subst hu
  exact h.mono fun e w' ⟨A, c, h1, _, _, _, h5⟩ => ⟨A, _, c, h1, h5⟩
end
end Go.Proofs.Ytipoakimjhfhfab
