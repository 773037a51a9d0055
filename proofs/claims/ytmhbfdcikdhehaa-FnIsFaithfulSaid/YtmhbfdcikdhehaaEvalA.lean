/- Merged: EvalLeaf, EvalVals. -/
import Derived.Test.YtmhbfdcikdhehaaBase
import Derived.Test.YtmhbfdcikdhehaaCondS
import Derived.Test.YtmhbfdcikdhehaaSmallS
import Derived.Test.YtmhbfdcikdhehaaCondI
import Derived.Lib.MinMax
/- The small functions of the evaluation, the specification's and the program's. -/
set_option linter.unusedSimpArgs false
set_option linter.unusedVariables false
namespace Go.Proofs.Ytmhbfdcikdhehaa
open Go.RowKit

end Go.Proofs.Ytmhbfdcikdhehaa


/- Which values are valid; spec.eval and spec.EvalCondition. -/
namespace Go.Proofs.Ytmhbfdcikdhehaa
open Go.RowKit

end Go.Proofs.Ytmhbfdcikdhehaa

