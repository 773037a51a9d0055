/- The reference's logs: copyLog, AppendEntries. -/
import Derived.Test.YtobjcifoaejonabLogS1
import Derived.Test.YtobjcifoaejonabExEntry
import Derived.Test.YtobjcifoaejonabWorkMath
import Derived.Deep.RegionHeld3
import Derived.Lib.MinMax
set_option linter.unusedSimpArgs false
set_option linter.unusedVariables false
namespace Go.Proofs.Ytobjcifoaejonab
open Go.RowKit


theorem pvs_take : ∀ (ps : List (Int × Int)) (k : Nat), (pvs ps).take (k * 2) = pvs (ps.take k)
  | [], k => by simp [pvs]
  | p :: ps, 0 => by simp [pvs]
  | p :: ps, k + 1 => by
    rw [show (k + 1) * 2 = k * 2 + 1 + 1 by omega, List.take_succ_cons, show pvs (p :: ps) = .int .i64 p.1 :: .int .i64 p.2 :: pvs ps from rfl, List.take_succ_cons, List.take_succ_cons, pvs_take ps k]
    rfl
theorem Rd.of_blk2 {w : World} {g : Nat} {t : TypeId} {x y : Int} (h : Blk w g t #[.int .i64 x, .int .i64 y]) : Rd w g (g + 1) 2 (some ⟨g, 0, none⟩) 1 (pvs [(x, y)]) :=
  ⟨rfl, fun _ => ⟨g, 0, rfl, Nat.le_refl _, Nat.lt_succ_self _, fun j u hu => by rw [Nat.zero_add, h.cell]; simpa [pvs, pv] using hu⟩⟩
/-- A row of the call's own beside a Bool. -/
def OwnB {α : Type} (T : TypeId) (vs : List α → List Value) (size : Nat) (u : List α × Bool) (w : World) (e : Ending) (w' : World) : Prop :=
  ∃ v n, e = .returned (.tuple #[v, .bool u.2]) ∧ u.1.length = n ∧ w'.ownsRow w.heap.size T size v n (vs u.1) ∧ Below w.heap.size w w'
theorem OwnB.no {α : Type} {T : TypeId} {vs : List α → List Value} {size : Nat} {u : List α × Bool} {w w' : World} (hv : vs [] = []) (hu : u = ([], false)) (hb : Below w.heap.size w w') : OwnB T vs size u w (.returned (.tuple #[.slice none 0 0, .bool false])) w' := by
  subst hu
  exact ⟨_, 0, rfl, rfl, ⟨by simp [hv], .inl ⟨rfl, rfl⟩⟩, hb⟩
theorem OwnB.yes {α : Type} {T : TypeId} {vs : List α → List Value} {size n : Nat} {v : Value} {b : Bool} {u : List α × Bool} {l : List α} {w w' : World} (hu : u = (l, b)) (hn : l.length = n) (ho : w'.ownsRow w.heap.size T size v n (vs l)) (hb : Below w.heap.size w w') : OwnB T vs size u w (.returned (.tuple #[v, .bool b])) w' := by
  subst hu
  exact ⟨v, n, rfl, hn, ho, hb⟩

end Go.Proofs.Ytobjcifoaejonab
