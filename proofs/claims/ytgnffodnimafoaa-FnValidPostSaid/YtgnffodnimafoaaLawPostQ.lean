/- What the laws on valid post offices ask, in plain mathematics. -/
import Derived.Test.YtgnffodnimafoaaSendMath
set_option linter.unusedSimpArgs false
set_option linter.unusedVariables false
namespace Go.Proofs.Ytgnffodnimafoaa
open Go.RowKit

theorem vPost_take {ns fs : List Tri} (h : vPost ns fs = true) (j : Nat) : vPost ns (fs.take j) = true := by
  obtain ⟨h1, h2, h3, h4, h5⟩ := vPost_and.1 h
  exact vPost_and.2 ⟨fun s hs l hl => h1 s hs l (List.mem_of_mem_take hl), h2, h3, fun l hl => h4 l (List.mem_of_mem_take hl), by rw [List.length_take]; omega⟩
end Go.Proofs.Ytgnffodnimafoaa
