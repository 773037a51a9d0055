/- The program's groups: sets of servers as bits; IsQuorum, OneStep. -/
import Derived.Test.YthoccppfedmcjaaVoteMath
import Derived.Test.YthoccppfedmcjaaExInt
import Derived.BigQuiet
import Derived.Laws.BitsAllLaws
import Derived.Laws.BitsLemmas
import Derived.Shelf.Small.Bits
import Derived.Shelf.SlSorted.IsSorted
import Derived.Shelf.Lay
import Derived.Ground.SlsoProg
import Derived.Ground.NamesProg
set_option linter.unusedSimpArgs false
set_option linter.unusedVariables false
namespace Go.Proofs.Ythoccppfedmcjaa
open Go.RowKit Go.Shelf

theorem maskOf_snoc {xs : List Int} {k : Nat} {x : Int} (hg : xs[k]? = some x) : maskOf (xs.take (k + 1)) = maskStep (maskOf (xs.take k)) x := by
  rw [take_snoc hg, maskOf, List.foldl_append]; rfl
end Go.Proofs.Ythoccppfedmcjaa
