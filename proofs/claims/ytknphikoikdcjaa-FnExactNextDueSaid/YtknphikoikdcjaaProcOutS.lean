/- spec.ValidProcess, spec.FlowsOut, spec.FlowsIn. -/
import Derived.Test.YtknphikoikdcjaaProcValidS
set_option linter.unusedSimpArgs false
set_option linter.unusedVariables false
namespace Go.Proofs.Ytknphikoikdcjaa
open Go.RowKit

/-- The flows out of a node of a valid process, or into it. -/
def flowsAt (ns : List (Int × Int)) (fs : List Flw) (out : Bool) (node : Int) : List Int := if vProc ns fs && inR node 0 ((ns.length : Int) - 1) then flOf fs out node else []

end Go.Proofs.Ytknphikoikdcjaa
