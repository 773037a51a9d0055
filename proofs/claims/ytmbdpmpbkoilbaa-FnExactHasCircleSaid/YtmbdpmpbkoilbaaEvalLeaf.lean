/- The small functions of the evaluation, the specification's and the program's. -/
import Derived.Test.YtmbdpmpbkoilbaaEvalMath
import Derived.Test.YtmbdpmpbkoilbaaCondSpec
import Derived.Test.YtmbdpmpbkoilbaaCondParts
import Derived.Lib.MinMax
namespace Go.Proofs.Ytmbdpmpbkoilbaa
open Go.RowKit

theorem toInt_any (b : Bool) (w : World) : Calls Try.prog 73 #[.bool b] w fun e w' => e = .returned (.int .i64 (tr b)) ∧ w = w' := by
  cases b
  · go_enter Try.func73, Try.ntmps73
    go_wp2
    go_ret
    exact ⟨rfl, rfl⟩
  · go_enter Try.func73, Try.ntmps73
    go_wp2
    go_ret
    exact ⟨rfl, rfl⟩
end Go.Proofs.Ytmbdpmpbkoilbaa
