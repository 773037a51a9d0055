/- The exact laws' helpers on slices of impl.Client: sizes, copies, comparisons, marks. (Written by gen/rec4.py.) -/
import Derived.Test.YtipoakimjhfhfabQuadMem
import Derived.Test.YtipoakimjhfhfabExInt
import Derived.BigQuiet
import Derived.Deep.QuietTactic
import Derived.Deep.RegionHeld3
import Derived.StillTailTactics
import Derived.WalkLawsBesides
set_option linter.unusedSimpArgs false
set_option linter.unusedVariables false
namespace Go.Proofs.Ytipoakimjhfhfab
open Go.RowKit

theorem infoClient : (Try.prog.info? 45).map (fun i => (i.zero, i.size, i.bytes)) = some (some (.agg #[.int .i64 0, .int .i64 0, .int .i64 0, .int .i64 0]), 4, 32) := by kernel_rfl

end Go.Proofs.Ytipoakimjhfhfab
