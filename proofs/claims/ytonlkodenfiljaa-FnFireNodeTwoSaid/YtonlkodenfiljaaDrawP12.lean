/- The drawing of processes: a process and the number of a node. -/
import Derived.Test.YtonlkodenfiljaaDrawP11
import Derived.Deep.RegionLaw
set_option linter.unusedSimpArgs false
set_option linter.unusedVariables false
namespace Go.Proofs.Ytonlkodenfiljaa
open Go.RowKit

set_option maxHeartbeats 800000 in
theorem anyNode_any (r : Nat) (A : Option Addr) (n c : Nat) (xs : List Int) (p : Int) (An : Option Addr) (nn cn : Nat) (Af : Option Addr) (lf cf : Nat) (w : World) (h : Rdr w r A n c xs p) (hp : p ≤ 900000) (hnn : nn ≤ 21) :
    Calls Try.prog 48 #[.pointer (some ⟨r, 0, none⟩), .agg #[.slice An nn cn, .slice Af lf cf]] w (fun e w' => ∃ z : Int, e = .returned (.int .i64 z) ∧ -1 ≤ z ∧ z ≤ 22 ∧ Rdr w' r A n c xs (p + 1) ∧ But r w w') := by
  have hG0 := but_alloc (but_refl r w) (.cells #[.slice An nn cn, .slice Af lf cf] 26)
  go_enter Try.func48, Try.ntmps48
  go_wp2_with (fail)
  (with_reducible refine (pick_any r A n c xs p (nn + 2) _ (rdr_alloc h _) (by omega) (by omega)).mono ?_)
  rintro e w1 ⟨q, rfl, q0, q1, _, hR, hG⟩
  have q1' := q1 (by omega)
  clear q1
  go_wp2
  go_ret
  exact ⟨q - 1, rfl, by omega, by omega, hR, but_trans hG0 hG⟩

end Go.Proofs.Ytonlkodenfiljaa
