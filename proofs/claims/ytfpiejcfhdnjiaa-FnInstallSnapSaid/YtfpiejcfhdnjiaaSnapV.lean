/- The program's snapshots: the iterator over entries, and Snap.with. -/
import Derived.RangeFuncNested
import Derived.RangeFuncBound
import Derived.RangeFuncCalls
import Derived.RangeFuncLeaves
import Derived.Shelf.Abstract
import Derived.Shelf.RegionOpen
import Derived.WalkKit
import Derived.OwnWalkIn
import Derived.TacticsInMore
import Derived.LoopNIn
import Derived.LoopIn
import Derived.Test.YtfpiejcfhdnjiaaSnapMath
import Derived.Test.YtfpiejcfhdnjiaaExEntry
set_option linter.unusedSimpArgs false
set_option linter.unusedVariables false
namespace Go.Proofs.Ytfpiejcfhdnjiaa
open Go.RowKit Go.Shelf
attribute [local go_sem] Oper.semAt_some

/-- Entries with operations in their range. -/
abbrev OkE := { p : En // 0 ≤ p.2 ∧ p.2 ≤ 99 }
def encE (x : OkE) : Array Value := #[.agg #[.int .i64 x.1.1, .int .i64 x.1.2]]
theorem up_alloc' {w : World} {n : Nat} (h : n ≤ w.heap.size) (o : Obj) : Below n w (w.alloc o) := (Below.refl n w).alloc h o
theorem okE_of : ∀ {ps : List En}, (∀ p ∈ ps, 0 ≤ p.2 ∧ p.2 ≤ 99) → ∃ qs : List OkE, qs.map Subtype.val = ps
  | [], _ => ⟨[], rfl⟩
  | p :: ps, h => by
    obtain ⟨qs, hq⟩ := okE_of (ps := ps) (fun q hq => h q (List.mem_cons_of_mem _ hq))
    exact ⟨⟨p, h p (List.mem_cons_self ..)⟩ :: qs, by rw [List.map_cons, hq]⟩
/-- The term of the last entry, or what stood ahead of all. -/
def lastT (T : Int) (ps : List En) : Int := (ps.getLast?.map Prod.fst).getD T
theorem lastT_snoc (T : Int) (ps : List En) (p : En) : lastT T (ps ++ [p]) = p.1 := by simp [lastT]
theorem lastT_take {T : Int} {ps : List En} {k : Nat} (hk : k ≤ ps.length) : lastT T (ps.take k) = if k = 0 then T else termOf ps k := by
  rcases Nat.eq_zero_or_pos k with rfl | h
  · simp [lastT]
  · obtain ⟨j, rfl⟩ : ∃ j, k = j + 1 := ⟨k - 1, by omega⟩
    have hg := List.getElem?_eq_getElem (show j < ps.length by omega)
    rw [if_neg (by omega), take_snoc hg, lastT_snoc, termOf_get hg]
end Go.Proofs.Ytfpiejcfhdnjiaa
