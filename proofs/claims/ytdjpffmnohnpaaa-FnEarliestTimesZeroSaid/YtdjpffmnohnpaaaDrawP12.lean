/- The drawing of processes: a process and the number of a node. -/
import Derived.Test.YtdjpffmnohnpaaaDrawP11
import Derived.Deep.RegionLaw
set_option linter.unusedSimpArgs false
set_option linter.unusedVariables false
namespace Go.Proofs.Ytdjpffmnohnpaaa
open Go.RowKit


end Go.Proofs.Ytdjpffmnohnpaaa
