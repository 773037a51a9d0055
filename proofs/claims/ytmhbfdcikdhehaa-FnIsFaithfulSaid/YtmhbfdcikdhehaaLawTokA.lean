/- What the laws on tokens of drawn processes need: counting, who is ready, the sum. -/
import Derived.Test.YtmhbfdcikdhehaaLawProc
import Derived.Test.YtmhbfdcikdhehaaLawSum
import Derived.Test.YtmhbfdcikdhehaaTokSumA
import Derived.Test.YtmhbfdcikdhehaaTokReadyI
set_option linter.unusedSimpArgs false
set_option linter.unusedVariables false
namespace Go.Proofs.Ytmhbfdcikdhehaa
open Go.RowKit

section
variable {w w' : World} {lo hi g : Nat} {An : Option Addr} {nn cn : Nat} {Af : Option Addr} {lf cf : Nat} {ns : List (Int × Int)} {fs : List Flw}
theorem Pc.countI (h : Pc w g An nn cn Af lf cf ns fs) (lo' hi' n' c' : Nat) (A' : Option Addr) (ms : List Int) (hv : Rd w lo' hi' 1 A' n' (ivs ms)) (hB' : hi' ≤ w.heap.size) (hn' : n' ≤ 1048576) : Calls Try.prog 13 #[.agg #[.slice An nn cn, .slice Af lf cf], .slice A' n' c'] w fun e w' => e = .returned (.int .i64 (countOf ns fs ms)) ∧ Below w.heap.size w w' :=
  TokenCountI_any 0 g nn cn An ns 0 g lf cf Af fs lo' hi' n' c' A' ms w h.prs.nodes (Nat.le_of_lt h.lt) (Nat.le_trans h.prs.n21 (by omega)) h.prs.flows (Nat.le_of_lt h.lt) (Nat.le_trans h.prs.f21 (by omega)) hv hB' hn'
theorem Pc.readyI (h : Pc w g An nn cn Af lf cf ns fs) (lo' hi' n' c' : Nat) (A' : Option Addr) (ms : List Int) (hv : Rd w lo' hi' 1 A' n' (ivs ms)) (hB' : hi' ≤ w.heap.size) (hn' : n' ≤ 1048576) : Calls Try.prog 15 #[.agg #[.slice An nn cn, .slice Af lf cf], .slice A' n' c'] w (Fresh (ivs (readyOf ns fs ms)) 1 (readyOf ns fs ms).length w) :=
  ReadyNodesI_any 0 g nn cn An ns 0 g lf cf Af fs lo' hi' n' c' A' ms w h.prs.nodes (Nat.le_of_lt h.lt) (Nat.le_trans h.prs.n21 (by omega)) h.prs.flows (Nat.le_of_lt h.lt) (Nat.le_trans h.prs.f21 (by omega)) hv hB' hn'
end

end Go.Proofs.Ytmhbfdcikdhehaa
