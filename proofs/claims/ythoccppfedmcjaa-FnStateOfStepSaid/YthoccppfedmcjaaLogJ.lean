/- The program's logs: NewerLog, firstSame, CommonPart. -/
import Derived.Test.YthoccppfedmcjaaLogI
set_option linter.unusedSimpArgs false
set_option linter.unusedVariables false
namespace Go.Proofs.Ythoccppfedmcjaa
open Go.RowKit

end Go.Proofs.Ythoccppfedmcjaa
