/- The laws' own helpers on lists: equal lists, a number in a list. -/
import Derived.Test.YtknphikoikdcjaaGreatRows
import Derived.Test.YtknphikoikdcjaaGreatBase
import Derived.BigQuiet
import Derived.Deep.QuietTactic
import Derived.WalkLawsBesides
set_option linter.unusedSimpArgs false
set_option linter.unusedVariables false
namespace Go.Proofs.YtknphikoikdcjaaGreat
open Go.RowKit



/-- A number stands in a list. -/
def inL (xs : List Int) (m : Int) : Bool := xs.contains m
theorem inL_hit {xs : List Int} {k : Nat} {m : Int} (hg : xs[k]? = some m) : inL (xs.drop k) m = true := by rw [inL, drop_cons2 hg]; simp
theorem inL_miss {xs : List Int} {k : Nat} {x m : Int} (hg : xs[k]? = some x) (h : ¬ x = m) : inL (xs.drop k) m = inL (xs.drop (k + 1)) m := by
  rw [inL, inL, drop_cons2 hg, List.contains_cons, show (m == x) = false by simpa using fun e => h e.symm]; simp
end Go.Proofs.YtknphikoikdcjaaGreat
