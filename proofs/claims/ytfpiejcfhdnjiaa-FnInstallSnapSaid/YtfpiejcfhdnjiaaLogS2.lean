/- The reference's logs: copyLog, AppendEntries. -/
import Derived.Test.YtfpiejcfhdnjiaaLogS1
import Derived.Test.YtfpiejcfhdnjiaaExEntry
import Derived.Test.YtfpiejcfhdnjiaaWorkMath
import Derived.Deep.RegionHeld3
import Derived.Lib.MinMax
set_option linter.unusedSimpArgs false
set_option linter.unusedVariables false
namespace Go.Proofs.Ytfpiejcfhdnjiaa
open Go.RowKit


theorem pvs_take : ∀ (ps : List (Int × Int)) (k : Nat), (pvs ps).take (k * 2) = pvs (ps.take k)
  | [], k => by simp [pvs]
  | p :: ps, 0 => by simp [pvs]
  | p :: ps, k + 1 => by
    rw [show (k + 1) * 2 = k * 2 + 1 + 1 by omega, List.take_succ_cons, show pvs (p :: ps) = .int .i64 p.1 :: .int .i64 p.2 :: pvs ps from rfl, List.take_succ_cons, List.take_succ_cons, pvs_take ps k]
    rfl
theorem Rd.of_blk2 {w : World} {g : Nat} {t : TypeId} {x y : Int} (h : Blk w g t #[.int .i64 x, .int .i64 y]) : Rd w g (g + 1) 2 (some ⟨g, 0, none⟩) 1 (pvs [(x, y)]) :=
  ⟨rfl, fun _ => ⟨g, 0, rfl, Nat.le_refl _, Nat.lt_succ_self _, fun j u hu => by rw [Nat.zero_add, h.cell]; simpa [pvs, pv] using hu⟩⟩
/-- A row of the call's own beside a Bool. -/
def OwnB {α : Type} (T : TypeId) (vs : List α → List Value) (size : Nat) (u : List α × Bool) (w : World) (e : Ending) (w' : World) : Prop :=
  ∃ v n, e = .returned (.tuple #[v, .bool u.2]) ∧ u.1.length = n ∧ w'.ownsRow w.heap.size T size v n (vs u.1) ∧ Below w.heap.size w w'
theorem OwnB.no {α : Type} {T : TypeId} {vs : List α → List Value} {size : Nat} {u : List α × Bool} {w w' : World} (hv : vs [] = []) (hu : u = ([], false)) (hb : Below w.heap.size w w') : OwnB T vs size u w (.returned (.tuple #[.slice none 0 0, .bool false])) w' := by
  subst hu
  exact ⟨_, 0, rfl, rfl, ⟨by simp [hv], .inl ⟨rfl, rfl⟩⟩, hb⟩
theorem OwnB.yes {α : Type} {T : TypeId} {vs : List α → List Value} {size n : Nat} {v : Value} {b : Bool} {u : List α × Bool} {l : List α} {w w' : World} (hu : u = (l, b)) (hn : l.length = n) (ho : w'.ownsRow w.heap.size T size v n (vs l)) (hb : Below w.heap.size w w') : OwnB T vs size u w (.returned (.tuple #[v, .bool b])) w' := by
  subst hu
  exact ⟨v, n, rfl, hn, ho, hb⟩

set_option maxHeartbeats 400000 in
theorem copyLogS_any (lo hi n c : Nat) (A : Option Addr) (ps : List En) (w : World) (hr : Rd w lo hi 2 A n (pvs ps)) (hB : hi ≤ w.heap.size) (hn : n ≤ 1048576) :
    Calls Try.prog 54 #[.slice A n c] w (OwnR 29 (pvs ps) 2 n w) := by
  obtain ⟨i0, hi0, hz0, hz1, hz2⟩ := info_parts infoEntry
  have hown1 : (w.alloc (.cells #[] 29)).ownsRow w.heap.size 29 2 (.slice (some ⟨w.heap.size, 0, none⟩) 0 0) 0 [] := World.ownsRow_made w #[] 0 (Nat.le_refl _) (by unfold maxLen; omega) (by simp)
  have hbl := up_alloc (Below.refl _ w) (.cells #[] 29)
  have hr1 := hr.keep hbl hB
  go_enter Try.func54, Try.ntmps54
  go_wp2_with (at_builtin; refine wpList_append_rd _ rfl _ _ 23 rfl w.heap.size 29 i0 _ 2 16 Try.underlying23 hi0 hz0 hz1 hz2 rfl (by decide) _ _ _ rfl hown1 lo hi A n c (pvs ps) rfl hr1 (pvs_one ps) ?c3 ?c4 ?c5 ?_)
  case c3 => unfold maxLen; omega
  case c4 => omega
  case c5 => simp
  intro v2 w2 hown2 hg2 _
  have hb2 := up_grown hbl hown1 hg2 (Nat.le_refl _)
  try simp only [Nat.zero_add, List.nil_append] at hown2
  have HO := Lib.hid hown2
  clear hown1 hown2 hg2 hr1 hbl
  go_wp2
  go_ret
  exact ⟨v2, rfl, HO.out, hb2⟩
end Go.Proofs.Ytfpiejcfhdnjiaa
