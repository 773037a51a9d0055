/- A cell of a row of ints. -/
import Derived.Test.YtonlkodenfiljaaBase
set_option linter.unusedSimpArgs false
set_option linter.unusedVariables false
namespace Go.Proofs.Ytonlkodenfiljaa
open Go.RowKit
theorem ivs_atD {ms : List Int} {k : Nat} (h : k < ms.length) : (ivs ms)[k]? = some (.int .i64 (ms.getD k 0)) := by
  rw [ivs, List.getElem?_map, List.getD_eq_getElem?_getD, List.getElem?_eq_getElem h]; rfl
end Go.Proofs.Ytonlkodenfiljaa
