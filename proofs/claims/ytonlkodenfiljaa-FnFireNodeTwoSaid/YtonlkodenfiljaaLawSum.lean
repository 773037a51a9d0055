/- laws.sum: the sum of small numbers. -/
import Derived.Test.YtonlkodenfiljaaLawLists
set_option linter.unusedSimpArgs false
set_option linter.unusedVariables false
namespace Go.Proofs.Ytonlkodenfiljaa
open Go.RowKit

end Go.Proofs.Ytonlkodenfiljaa
