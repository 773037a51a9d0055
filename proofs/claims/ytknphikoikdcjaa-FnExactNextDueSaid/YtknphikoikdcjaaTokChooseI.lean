/- impl.chosen, impl.ChooseFlow. -/
import Derived.Test.YtknphikoikdcjaaTokNet
import Derived.Test.YtknphikoikdcjaaEvalB
set_option linter.unusedSimpArgs false
set_option linter.unusedVariables false
namespace Go.Proofs.Ytknphikoikdcjaa
open Go.RowKit

end Go.Proofs.Ytknphikoikdcjaa
