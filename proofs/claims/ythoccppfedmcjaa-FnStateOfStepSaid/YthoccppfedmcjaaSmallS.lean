/- The reference's small functions: toInt, allIn, isIn. (Out of EvalA and WorkS.) -/
import Derived.Test.YthoccppfedmcjaaCondS
import Derived.Test.YthoccppfedmcjaaLawLists
set_option linter.unusedSimpArgs false
set_option linter.unusedVariables false
namespace Go.Proofs.Ythoccppfedmcjaa
open Go.RowKit

theorem all_hit {f : Int → Bool} {xs : List Int} {k : Nat} {x : Int} (hg : xs[k]? = some x) (h : f x = true) : (xs.drop k).all f = (xs.drop (k + 1)).all f := by
  rw [drop_cons2 hg, List.all_cons, h, Bool.true_and]
theorem all_miss {f : Int → Bool} {xs : List Int} {k : Nat} {x : Int} (hg : xs[k]? = some x) (h : f x = false) : (xs.drop k).all f = false := by
  rw [drop_cons2 hg, List.all_cons, h, Bool.false_and]
/-- All numbers lie in a range. -/
def allR (xs : List Int) (lo hi : Int) : Bool := xs.all fun x => inR x lo hi

end Go.Proofs.Ythoccppfedmcjaa
