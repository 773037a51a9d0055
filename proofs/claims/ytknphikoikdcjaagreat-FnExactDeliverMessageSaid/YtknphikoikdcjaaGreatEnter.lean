/- Closed facts of the program, which cost much memory: by themselves. -/
import Derived.Test.YtknphikoikdcjaaGreatRows
import Derived.JoinedOf
set_option linter.unusedSimpArgs false
set_option linter.unusedVariables false
namespace Go.Proofs.YtknphikoikdcjaaGreat

set_option maxRecDepth 100000 in
theorem enter_all : (Tryz.pinned.checked.prog.mayEnter && ((!Tryz.pinned.checked.prog.liftsFinal) && (Tryz.pinned.checked.prog.make == some .cut))) = true := by kernel_rfl
theorem enter_ok : Tryz.pinned.checked.prog.mayEnter = true := by
  have h := enter_all
  simp only [Bool.and_eq_true] at h
  exact h.1
theorem lifts_ok : Tryz.pinned.checked.prog.liftsFinal = false := by
  have h := enter_all
  simp only [Bool.and_eq_true] at h
  have h2 := h.2.1
  cases hl : Tryz.pinned.checked.prog.liftsFinal with
  | false => rfl
  | true => rw [hl] at h2; cases h2
theorem make_ok : Tryz.pinned.checked.prog.make = some .cut := by
  have h := enter_all
  simp only [Bool.and_eq_true] at h
  exact beq_iff_eq.1 h.2.2
end Go.Proofs.YtknphikoikdcjaaGreat
