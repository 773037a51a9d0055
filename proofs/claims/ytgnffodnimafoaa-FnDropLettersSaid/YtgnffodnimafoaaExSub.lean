/- The exact laws' helpers on slices of impl.Sub: sizes, copies, comparisons, marks. (Written by gen/exrec3.py.) -/
import Derived.Test.YtgnffodnimafoaaTripMem
import Derived.Test.YtgnffodnimafoaaExInt
import Derived.BigQuiet
import Derived.Deep.QuietTactic
import Derived.Deep.RegionHeld3
import Derived.StillTailTactics
import Derived.WalkLawsBesides
set_option linter.unusedSimpArgs false
set_option linter.unusedVariables false
namespace Go.Proofs.Ytgnffodnimafoaa
open Go.RowKit

theorem infoSub : (Try.prog.info? 42).map (fun i => (i.zero, i.size, i.bytes)) = some (some (.agg #[.int .i64 0, .int .i64 0, .int .i64 0]), 3, 24) := by kernel_rfl

end Go.Proofs.Ytgnffodnimafoaa
