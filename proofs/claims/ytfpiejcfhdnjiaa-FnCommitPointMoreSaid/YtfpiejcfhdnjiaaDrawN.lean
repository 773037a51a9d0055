/- Drawing: bounded numbers out of lists that are written out. -/
import Derived.Test.YtfpiejcfhdnjiaaDrawR
import Derived.Deep.RegionHeld3
set_option linter.unusedSimpArgs false
set_option linter.unusedVariables false
namespace Go.Proofs.Ytfpiejcfhdnjiaa
open Go.RowKit

/-- A drawn number. -/
def IntPost (d : Int) (r : Nat) (A : Option Addr) (n c : Nat) (xs : List Int) (p : Int) (w : World) (e : Ending) (w' : World) : Prop :=
  ∃ q p' : Int, e = .returned (.int .i64 q) ∧ -10000 ≤ q ∧ q ≤ 10000 ∧ Rdr w' r A n c xs p' ∧ p' ≤ p + d ∧ But r w w'
theorem Rd.but {w w' : World} {lo hi size n r : Nat} {A : Option Addr} {xs : List Value} (h : Rd w lo hi size A n xs) (hG : But r w w') (hB : hi ≤ w.heap.size) (hr : r < lo) : Rd w' lo hi size A n xs :=
  h.far hG hB (fun g e => by injection e with e; omega)
theorem one_lits (r : Nat) (A : Option Addr) (n c : Nat) (xs : List Int) (p : Int) (ys : List Int) (k g : Nat) (cs : Array Value) (w : World) (h : Rdr w r A n c xs p) (hp : p ≤ 900000) (hk : ys.length = k) (hk1 : 1 ≤ k) (hk2 : k ≤ 1000) (hs : ∀ y ∈ ys, -10000 ≤ y ∧ y ≤ 10000) (hg : g = w.heap.size) (hcs : cs = (ys.map (Value.int .i64)).toArray) :
    Calls Try.prog 34 #[.pointer (some ⟨r, 0, none⟩), .slice (some ⟨g, 0, none⟩) k k] (w.alloc (.cells cs 3)) (IntPost 1 r A n c xs p w) := by
  subst hg; subst hcs
  have hb := Blk.new w 3 (ys.map (Value.int .i64)).toArray
  refine (one_any r A n c xs p _ _ k k _ ys _ (rdr_alloc h _) (by omega) (show Rd _ w.heap.size (w.heap.size + 1) 1 _ k (ivs ys) from by have := Rd.of_blk hb (n := k) (size := 1) (by simp [hk]); simpa [ivs] using this) (by simp) hk1 (by omega) (.inl h.lt)).mono ?_
  rintro e w1 ⟨q, rfl, hq, hR, hG⟩
  exact ⟨q, p + 1, rfl, (hs q hq).1, (hs q hq).2, hR, by omega, but_trans (but_alloc (but_refl r w) _) hG⟩
/-- The same, with what it may be. -/
theorem one_mem (r : Nat) (A : Option Addr) (n c : Nat) (xs : List Int) (p : Int) (ys : List Int) (k g : Nat) (cs : Array Value) (w : World) (h : Rdr w r A n c xs p) (hp : p ≤ 900000) (hk : ys.length = k) (hk1 : 1 ≤ k) (hk2 : k ≤ 1000) (hg : g = w.heap.size) (hcs : cs = (ys.map (Value.int .i64)).toArray) :
    Calls Try.prog 34 #[.pointer (some ⟨r, 0, none⟩), .slice (some ⟨g, 0, none⟩) k k] (w.alloc (.cells cs 3)) (OnePost r A n c xs p ys w) := by
  subst hg; subst hcs
  have hb := Blk.new w 3 (ys.map (Value.int .i64)).toArray
  refine (one_any r A n c xs p _ _ k k _ ys _ (rdr_alloc h _) (by omega) (show Rd _ w.heap.size (w.heap.size + 1) 1 _ k (ivs ys) from by have := Rd.of_blk hb (n := k) (size := 1) (by simp [hk]); simpa [ivs] using this) (by simp) hk1 (by omega) (.inl h.lt)).mono ?_
  rintro e w1 ⟨q, rfl, hq, hR, hG⟩
  exact ⟨q, rfl, hq, hR, but_trans (but_alloc (but_refl r w) _) hG⟩
/-- Behind a reader of its own, whatever changed below is the reader's. -/
theorem but_mineK {r : Nat} {w w1 w2 : World} (h : Below w.heap.size w w1) (hG : But r w1 w2) (hr : w.heap.size ≤ r) : Below w.heap.size w w2 :=
  h.grown hG h.size (fun j hj => by injection hj with hj; omega)
end Go.Proofs.Ytfpiejcfhdnjiaa
