/- Maps by number in the program: what the texts on worklists and clients share. (Written by gen/bynum.py.) -/
import Derived.Test.YtipoakimjhfhfabNumMem
import Derived.Test.YtipoakimjhfhfabWorkV
set_option linter.unusedSimpArgs false
set_option linter.unusedVariables false
namespace Go.Proofs.Ytipoakimjhfhfab
open Go.RowKit Go.Maps

theorem keyedIntN : Keyed Try.prog 3 := int_keyed Try.underlying3
/-- What byNumber answers. -/
def BPost {α : Type} (sv : α → Value) (f : α → Int) (ok : α → Bool) (ps : List α) (w : World) (e : Ending) (w' : World) : Prop :=
  (good f ok ps = false ∧ e = .returned (.tuple #[.map none, .bool false]) ∧ Below w.heap.size w w') ∨
  (good f ok ps = true ∧ ∃ b, e = .returned (.tuple #[.map (some b), .bool true]) ∧ NMap Try.prog 3 w' b ps.length f sv ps ∧ w.heap.size ≤ b ∧ Below w.heap.size w w')
theorem in64_small {z : Int} (h0 : -1000000 ≤ z) (h1 : z ≤ 1000000) : in64 z := by unfold in64; omega
end Go.Proofs.Ytipoakimjhfhfab
