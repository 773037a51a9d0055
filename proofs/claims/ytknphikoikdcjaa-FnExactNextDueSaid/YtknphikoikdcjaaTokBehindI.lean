/- impl.behind: the tokens behind a node. -/
import Derived.Test.YtknphikoikdcjaaTokCountA
import Derived.Test.YtknphikoikdcjaaTokFire0
import Derived.Shelf.SlGeneric
import Derived.Ground.SlmcProg
import Derived.Shelf.SlMaps.Clone
set_option linter.unusedSimpArgs false
set_option linter.unusedVariables false
namespace Go.Proofs.Ytknphikoikdcjaa
open Go.RowKit Go.Maps Go.Shelf

end Go.Proofs.Ytknphikoikdcjaa
