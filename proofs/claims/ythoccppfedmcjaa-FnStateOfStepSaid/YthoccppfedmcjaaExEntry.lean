/- The exact laws' helpers on slices of impl.Entry: sizes, copies, comparisons. (Written by gen/exentry.py.) -/
import Derived.Test.YthoccppfedmcjaaRows
import Derived.Test.YthoccppfedmcjaaBase
import Derived.BigQuiet
import Derived.Deep.QuietTactic
import Derived.Deep.RegionHeld3
import Derived.StillTailTactics
import Derived.WalkLawsBesides
set_option linter.unusedSimpArgs false
set_option linter.unusedVariables false
namespace Go.Proofs.Ythoccppfedmcjaa
open Go.RowKit

theorem infoEntry : (Try.prog.info? 31).map (fun i => (i.zero, i.size, i.bytes)) = some (some (.agg #[.int .i64 0, .int .i64 0]), 2, 16) := by kernel_rfl

def eqP (x y x' y' : Int) : Bool := x == x' && y == y'
theorem eqP_iff {x y x' y' : Int} : eqP x y x' y' = true ↔ x = x' ∧ y = y' := by simp [eqP]
theorem mix_step (ps : List (Int × Int)) (zs : List Value) (n k : Nat) (x y : Int) (hp : ps.length = n) (hz : zs.length = n * 2) (hk : k < n) (hg : ps[k]? = some (x, y)) :
    ((pvs (ps.take k) ++ zs.drop (k * 2)).set (k * 2) (.int .i64 x)).set (k * 2 + 1) (.int .i64 y) = pvs (ps.take (k + 1)) ++ zs.drop ((k + 1) * 2) := by
  have h1 : (pvs (ps.take k)).length = k * 2 := by rw [pvs_length, List.length_take]; omega
  rw [List.drop_eq_getElem_cons (show k * 2 < zs.length by omega), List.drop_eq_getElem_cons (show k * 2 + 1 < zs.length by omega)]
  obtain ⟨hk', e⟩ := List.getElem?_eq_some_iff.1 hg
  rw [List.take_succ_eq_append_getElem hk', e, pvs_append]
  rw [List.set_append_right _ _ (by omega), h1, Nat.sub_self, List.set_cons_zero, List.set_append_right _ _ (by omega), h1, show k * 2 + 1 - k * 2 = 1 by omega, List.set_cons_succ, List.set_cons_zero]
  simp [pvs, pv, show (k + 1) * 2 = k * 2 + 1 + 1 by omega]

end Go.Proofs.Ythoccppfedmcjaa
