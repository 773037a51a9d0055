/- spec.TokenCount. -/
import Derived.Test.YtonlkodenfiljaaTokReadyS
import Derived.Test.YtonlkodenfiljaaTokSumA
set_option linter.unusedSimpArgs false
set_option linter.unusedVariables false
namespace Go.Proofs.Ytonlkodenfiljaa
open Go.RowKit

theorem sum_bd : ∀ (ms : List Int), (∀ z ∈ ms, 0 ≤ z ∧ z ≤ 3) → 0 ≤ ms.sum ∧ ms.sum ≤ 3 * (ms.length : Int)
  | [], _ => by simp
  | m :: ms, h => by
    have h1 := sum_bd ms (fun z hz => h z (by simp [hz]))
    have h2 := h m (by simp)
    rw [List.sum_cons]
    simp only [List.length_cons]
    omega
theorem sum_snoc {ms : List Int} {k : Nat} {v : Int} (h : ms[k]? = some v) : (ms.take (k + 1)).sum = (ms.take k).sum + v := by
  rw [take_snoc h, List.sum_append]; simp

end Go.Proofs.Ytonlkodenfiljaa
