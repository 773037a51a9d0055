/- impl.FlowsOut, impl.FlowsIn. -/
import Derived.Test.YtknphikoikdcjaaGreatProcIA
import Derived.Test.YtknphikoikdcjaaGreatProcOutA
set_option linter.unusedSimpArgs false
set_option linter.unusedVariables false
namespace Go.Proofs.YtknphikoikdcjaaGreat
open Go.RowKit

theorem flowsAt_yes {ns : List (Int × Int)} {fs : List Flw} {out : Bool} {node : Int} (h : vProc ns fs = true) : flowsAt ns fs out node = flOf fs out node := by
  unfold flowsAt
  by_cases hi : inR node 0 ((ns.length : Int) - 1) = true
  · rw [h, hi]; rfl
  · have hi' : inR node 0 ((ns.length : Int) - 1) = false := by simpa using hi
    rw [h, hi', flOf_none (vProc_inside h) (by
      rcases Int.lt_or_le node 0 with h0 | h0
      · exact .inl h0
      · rcases Int.lt_or_le node ns.length with h1 | h1
        · exact absurd (inR_iff.2 ⟨h0, by omega⟩) hi
        · exact .inr h1)]
    rfl
theorem flowsAt_no {ns : List (Int × Int)} {fs : List Flw} {out : Bool} {node : Int} (h : vProc ns fs = false) : flowsAt ns fs out node = [] := by simp [flowsAt, h]
theorem fieldMaps0 (bo bi : Nat) (w : World) : (Instr.field 102 (.agg #[.map (some bo), .map (some bi)]) 0).run Tryz.prog w = .ok (.map (some bo)) w := by kernel_rfl
theorem fieldMaps1 (bo bi : Nat) (w : World) : (Instr.field 102 (.agg #[.map (some bo), .map (some bi)]) 1).run Tryz.prog w = .ok (.map (some bi)) w := by kernel_rfl

end Go.Proofs.YtknphikoikdcjaaGreat
