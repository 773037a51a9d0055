/- Merged: EvalLeaf, EvalVals. -/
import Derived.Test.YtdjpffmnohnpaaaBase
import Derived.Test.YtdjpffmnohnpaaaCondS
import Derived.Test.YtdjpffmnohnpaaaSmallS
import Derived.Test.YtdjpffmnohnpaaaCondI
import Derived.Lib.MinMax
/- The small functions of the evaluation, the specification's and the program's. -/
set_option linter.unusedSimpArgs false
set_option linter.unusedVariables false
namespace Go.Proofs.Ytdjpffmnohnpaaa
open Go.RowKit

end Go.Proofs.Ytdjpffmnohnpaaa


/- Which values are valid; spec.eval and spec.EvalCondition. -/
namespace Go.Proofs.Ytdjpffmnohnpaaa
open Go.RowKit

end Go.Proofs.Ytdjpffmnohnpaaa

