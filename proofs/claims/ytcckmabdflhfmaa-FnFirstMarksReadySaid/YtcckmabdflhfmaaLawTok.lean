/- What the laws on the first tokens of drawn processes need. -/
import Derived.Test.YtcckmabdflhfmaaLawTokA
import Derived.Test.YtcckmabdflhfmaaFirstMath
import Derived.Test.YtcckmabdflhfmaaTokFirstA
import Derived.Test.YtcckmabdflhfmaaTokFirstS
namespace Go.Proofs.Ytcckmabdflhfmaa
open Go.RowKit

section
variable {w w' : World} {lo hi g : Nat} {An : Option Addr} {nn cn : Nat} {Af : Option Addr} {lf cf : Nat} {ns : List (Int × Int)} {fs : List Flw}
theorem Pc.firstI (h : Pc w g An nn cn Af lf cf ns fs) : Calls Try.prog 27 #[.agg #[.slice An nn cn, .slice Af lf cf]] w (Fresh (ivs (firstOf ns fs)) 1 (firstOf ns fs).length w) :=
  FirstMarksI_any 0 g nn cn An ns 0 g lf cf Af fs w h.prs.nodes (Nat.le_of_lt h.lt) (Nat.le_trans h.prs.n21 (by omega)) h.prs.flows (Nat.le_of_lt h.lt) (Nat.le_trans h.prs.f21 (by omega))
theorem Pc.firstS (h : Pc w g An nn cn Af lf cf ns fs) : Calls Try.prog 29 #[.agg #[.slice An nn cn, .slice Af lf cf]] w (Fresh (ivs (firstOf ns fs)) 1 (firstOf ns fs).length w) :=
  FirstMarksS_any 0 g nn cn An ns 0 g lf cf Af fs w h.prs.nodes (Nat.le_of_lt h.lt) (Nat.le_trans h.prs.n21 (by omega)) h.prs.flows (Nat.le_of_lt h.lt) (Nat.le_trans h.prs.f21 (by omega))
end
end Go.Proofs.Ytcckmabdflhfmaa
