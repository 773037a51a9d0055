/- Merged: DrawP13, DrawP14. -/
import Derived.Test.YtdjpffmnohnpaaaDrawP12
import Derived.Test.YtdjpffmnohnpaaaDrawVals
import Derived.Deep.RegionLaw
/- The drawing of processes: tokens, values, and what the laws on them draw. -/
set_option linter.unusedSimpArgs false
set_option linter.unusedVariables false
namespace Go.Proofs.Ytdjpffmnohnpaaa
open Go.RowKit


end Go.Proofs.Ytdjpffmnohnpaaa


/- The drawing of a process and tokens. (Written by gen/drawmarks.py.) -/
namespace Go.Proofs.Ytdjpffmnohnpaaa
open Go.RowKit

/-- A drawn process, and drawn tokens. -/
def DrawPrM (w : World) (e : Ending) (w' : World) : Prop :=
  ∃ An nn cn Af lf cf ns fs A2 n2 c2 ms, e = .returned (.tuple #[.agg #[.slice An nn cn, .slice Af lf cf], .slice A2 n2 c2]) ∧ n2 ≤ 22 ∧ Prs w' w.heap.size w'.heap.size An nn cn Af lf cf ns fs ∧ Rd w' w.heap.size w'.heap.size 1 A2 n2 (ivs ms) ∧ Below w.heap.size w w'
end Go.Proofs.Ytdjpffmnohnpaaa

