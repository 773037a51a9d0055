/- Merged: EvalPuts, EvalI. -/
import Derived.Test.YtknphikoikdcjaaEvalA
import Derived.StillTailTactics
import Derived.Deep.RegionLaw
import Derived.Deep.RegionWith
/- impl.EvalCondition: what the parts put. -/
set_option linter.unusedSimpArgs false
set_option linter.unusedVariables false
namespace Go.Proofs.Ytknphikoikdcjaa
open Go.RowKit

end Go.Proofs.Ytknphikoikdcjaa

