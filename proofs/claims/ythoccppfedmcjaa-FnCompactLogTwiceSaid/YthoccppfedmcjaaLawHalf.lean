/- Half of a small number, as the walk meets it. -/
import Derived.Test.YthoccppfedmcjaaSnapMath
set_option linter.unusedSimpArgs false
set_option linter.unusedVariables false
namespace Go.Proofs.Ythoccppfedmcjaa
open Go.RowKit

theorem half_facts (k : Nat) (h : k ≤ 100) : ∃ za zb : Int, za = ((k / 2 : Nat) : Int) ∧ zb = ((k - k / 2 : Nat) : Int) ∧ (k : Int).tdiv 2 = za ∧ IntKind.i64.wrap ((k : Int).tdiv 2) = za ∧ IntKind.i64.wrap ((k : Int) - za) = zb ∧ wrap64 za = za ∧ in64 za ∧ in64 zb := by
  obtain ⟨a, ha⟩ : ∃ a, k / 2 = a := ⟨_, rfl⟩
  have ha1 : a ≤ k := by omega
  have ht : (k : Int).tdiv 2 = (a : Int) := by
    rw [← ha, Int.tdiv_eq_ediv_of_nonneg (by omega)]
    omega
  refine ⟨(a : Int), ((k - a : Nat) : Int), by rw [ha], by rw [ha], ht, ?_, ?_, IntWalk.wrap64_in _ (by omega), ?_, ?_⟩
  · rw [ht]; exact IntWalk.i64_in _ (by omega)
  · rw [IntWalk.i64_in _ (by omega)]; omega
  · unfold in64; omega
  · unfold in64; omega
end Go.Proofs.Ythoccppfedmcjaa
