/- Everything compacted, and nothing. Plain mathematics. -/
import Derived.Test.YthoccppfedmcjaaLawSnapM
set_option linter.unusedSimpArgs false
set_option linter.unusedVariables false
namespace Go.Proofs.Ythoccppfedmcjaa
open Go.RowKit

theorem comp_zero {N T S : Int} {R : List En} {z N2 T2 S2 : Int} {R2 : List En} (h : compOf N T S R z = ((N2, T2, S2, R2), true)) : compOf N T S R 0 = ((N, T, S, R), true) := by
  obtain ⟨k, rfl, hk, hv, _, _, _, _, _, h9⟩ := comp_ok h
  have := compOf_eq hv (Nat.zero_le R.length)
  rw [if_pos (by omega)] at this
  simpa [stAfter] using this
theorem comp_all {N T S : Int} {R : List En} {m : Nat} (hm : R.length = m) {N2 T2 S2 : Int} {R2 : List En} (h : compOf N T S R (m : Int) = ((N2, T2, S2, R2), true)) : R2.length = 0 ∧ stateOf N T S R = S2 := by
  obtain ⟨k, hk0, hk, hv, _, _, _, rfl, rfl, h9⟩ := comp_ok h
  have : k = R.length := by omega
  subst this
  rw [stateOf_yes hv, List.take_length, List.drop_length]
  exact ⟨rfl, rfl⟩
end Go.Proofs.Ythoccppfedmcjaa
