/- Merged: ProcBehind, ProcReachI. -/
import Derived.Test.YtmhbfdcikdhehaaProcOutI
import Derived.Test.YtmhbfdcikdhehaaBase
import Derived.Test.YtmhbfdcikdhehaaStartA
import Derived.Deep.LoopGhost
/- impl.nodesBehind: a search with a queue. -/
set_option linter.unusedSimpArgs false
set_option linter.unusedVariables false
namespace Go.Proofs.Ytmhbfdcikdhehaa
open Go.RowKit

theorem zeroBool (w : World) : (zeroValue 4).run Try.prog w = .ok (.bool false) w := by kernel_rfl
/-- What stands in the map of those that are found. -/
def foundAt (bh : Int → Bool) (z : Int) : Option Value := if bh z then some (.bool true) else none
theorem foundAt_get (bh : Int → Bool) (z : Int) : (foundAt bh z).getD (.bool false) = .bool (bh z) := by unfold foundAt; cases bh z <;> rfl
theorem foundAt_put (bh : Int → Bool) (y z : Int) : (if z = y then some (Value.bool true) else foundAt bh z) = foundAt (fun z => z == y || bh z) z := by
  unfold foundAt
  by_cases h : z = y
  · simp [h]
  · simp [h]
/-- What nodesBehind leaves. -/
def Behind (fs : List Flw) (a : Int) (w : World) (e : Ending) (w' : World) : Prop :=
  ∃ b m, e = .returned (.map (some b)) ∧ w.heap.size ≤ b ∧ IMap Try.prog 3 w' b m (foundAt fun z => rch1B fs a z) ∧ Below w.heap.size w w'
/-- The state of the search between two rounds; k bounds what is to come. -/
def BfsRel (fs : List Flw) (a : Int) (N : Nat) (w : World) (B M bo : Nat) (vn vf : Value) (k : Nat) (qv : Value) (wr : World) : Prop :=
  ∃ (bh : Int → Bool) (q : List Int) (m : Nat), QRow wr (M + 1) 3 qv q.length (ivs q) ∧ Bfs fs a bh q ∧ (∀ z ∈ q, 0 ≤ z ∧ z < (N : Int)) ∧ IMap Try.prog 3 wr M m (foundAt bh) ∧ m + unfound bh N ≤ N ∧ 2 * unfound bh N + q.length ≤ k ∧ k ≤ 2 * N + 1 ∧
    RowMap Try.prog 3 wr 0 M bo (fun z => flOf fs true z) ∧ Blk wr B 26 #[vn, vf] ∧ Below w.heap.size w wr
/-- In the midst of a round at x: the first j flows out of it are done. -/
def BfsMid (fs : List Flw) (a : Int) (N : Nat) (w : World) (B M bo : Nat) (vn vf : Value) (k : Nat) (x : Int) (j : Nat) (qv : Value) (wr : World) : Prop :=
  ∃ (bh : Int → Bool) (q : List Int) (m : Nat), QRow wr (M + 1) 3 qv (x :: q).length (ivs (x :: q)) ∧ Bfs fs a bh (x :: q) ∧ (∀ z ∈ x :: q, 0 ≤ z ∧ z < (N : Int)) ∧ IMap Try.prog 3 wr M m (foundAt bh) ∧ m + unfound bh N ≤ N ∧ 2 * unfound bh N + (x :: q).length ≤ k ∧ k ≤ 2 * N + 1 ∧
    (∀ (i : Nat) (f : Int) (g : Flw), i < j → (flOf fs true x)[i]? = some f → fs[f.toNat]? = some g → bh g.2.1 = true) ∧
    RowMap Try.prog 3 wr 0 M bo (fun z => flOf fs true z) ∧ Blk wr B 26 #[vn, vf] ∧ Below w.heap.size w wr
theorem unfound_le (bh : Int → Bool) (N : Nat) : unfound bh N ≤ N := by
  have := List.countP_le_length (p := fun (i : Nat) => !bh (i : Int)) (l := List.range N)
  simpa [unfound] using this
/-- All flows out of x are done: the round is over. -/
theorem BfsMid.done {fs : List Flw} {a : Int} {x : Int} {bh : Int → Bool} {q : List Int} (h : Bfs fs a bh (x :: q))
    (hd : ∀ (i : Nat) (f : Int) (g : Flw), i < (flOf fs true x).length → (flOf fs true x)[i]? = some f → fs[f.toNat]? = some g → bh g.2.1 = true) : Bfs fs a bh q := by
  refine h.pop fun c hs => ?_
  obtain ⟨f, hf, h1, rfl⟩ := hs
  obtain ⟨i, hi, e⟩ := List.getElem_of_mem hf
  have hm : (i : Int) ∈ flOf fs true x := flOf_mem.2 ⟨i, f, rfl, by rw [List.getElem?_eq_getElem hi, e], h1⟩
  obtain ⟨j, hj, e2⟩ := List.getElem_of_mem hm
  exact hd j (i : Int) f hj (by rw [List.getElem?_eq_getElem hj, e2]) (by simp [List.getElem?_eq_getElem hi, e])

theorem below_grown {w w' : World} {row : Option Nat} {M : Nat} (h : w.grownBy w' row) (hM : M ≤ w.heap.size) (hr : ∀ j, row = some j → M ≤ j) : Below M w w' :=
  ⟨h.os, h.tape, h.output, h.size, fun i hi => h.block i (by omega) (fun e => by have := hr i e.symm; omega)⟩
theorem ivs_cons (x : Int) (q : List Int) : ivs (x :: q) = .int .i64 x :: ivs q := rfl

end Go.Proofs.Ytmhbfdcikdhehaa


/- impl.Reachable, impl.HasCircle. -/
namespace Go.Proofs.Ytmhbfdcikdhehaa
open Go.RowKit

theorem startAt_in {ns : List (Int × Int)} {fs : List Flw} (h : vProc ns fs = true) : 0 ≤ startAt ns 0 ∧ startAt ns 0 < (ns.length : Int) := by
  obtain ⟨j, y, e, hs⟩ := startAt_spec ns 0 (by rw [vProc_starts h]; exact Nat.le_refl _)
  have := (List.getElem?_eq_some_iff.1 e).1
  omega
theorem rch_eq (fs : List Flw) (a : Int) (i : Int) : rchB fs a i = (i == a || rch1B fs a i) := by
  rw [Bool.eq_iff_iff]
  simp only [Bool.or_eq_true, beq_iff_eq, rchB_iff, rch1B_iff]
  constructor
  · intro h
    rcases h.cases' with h | h
    · exact .inl h.symm
    · exact .inr h
  · rintro (rfl | h)
    · exact .refl
    · exact h.rch


theorem circUp_no {fs : List Flw} {k : Nat} (h : circUp fs k = false) (hr : rch1B fs (k : Int) (k : Int) = false) : circUp fs (k + 1) = false := by
  unfold circUp at h ⊢
  rw [List.range_succ, List.any_append, h]
  simp [hr]
theorem circUp_yes {fs : List Flw} {k N : Nat} (hr : rch1B fs (k : Int) (k : Int) = true) (hk : k < N) : circUp fs N = true := by
  unfold circUp
  exact List.any_eq_true.2 ⟨k, List.mem_range.2 hk, hr⟩

end Go.Proofs.Ytmhbfdcikdhehaa

