/- The drawing of processes: a process and the number of a node. -/
import Derived.Test.YtmhbfdcikdhehaaDrawP11
import Derived.Deep.RegionLaw
set_option linter.unusedSimpArgs false
set_option linter.unusedVariables false
namespace Go.Proofs.Ytmhbfdcikdhehaa
open Go.RowKit


end Go.Proofs.Ytmhbfdcikdhehaa
