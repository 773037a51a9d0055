/- Drawing: one of the numbers of a block; whatever they are. -/
import Derived.Test.YtipoakimjhfhfabDrawR
import Derived.Test.YtipoakimjhfhfabPostMath
set_option linter.unusedSimpArgs false
set_option linter.unusedVariables false
namespace Go.Proofs.Ytipoakimjhfhfab
open Go.RowKit

/-- One of a block's numbers. -/
def OneInt (r : Nat) (A : Option Addr) (n c : Nat) (xs : List Int) (p : Int) (w : World) (e : Ending) (w' : World) : Prop :=
  ∃ q : Int, e = .returned (.int .i64 q) ∧ Rdr w' r A n c xs (p + 1) ∧ But r w w'
theorem rdr_drew {w : World} {r : Nat} {A : Option Addr} {n c : Nat} {xs : List Int} {p : Int} (h : Rdr w r A n c xs p) : Rdr w.drew r A n c xs p := h.below (up_drew (Below.refl _ _))
theorem Blk.but {w w' : World} {g r : Nat} {t : TypeId} {cs : Array Value} (h : Blk w g t cs) (hG : But r w w') (hne : g ≠ r) : Blk w' g t cs := h.grown hG (fun e => hne (by injection e))
theorem own_drew {w : World} {base : Nat} {e : TypeId} {size : Nat} {v : Value} {n : Nat} {xs : List Value} (h : w.ownsRow base e size v n xs) : w.drew.ownsRow base e size v n xs := own_keep h (up_drew (Below.refl _ _))
/-- A store above the reader. -/
theorem rdr_set {w : World} {r : Nat} {A : Option Addr} {n c : Nat} {xs : List Int} {p : Int} (h : Rdr w r A n c xs p) {q : Addr} (hq : r < q.block) (u : Value) : Rdr (w.setCell q u) r A n c xs p :=
  ⟨h.1.far (by omega) u, h.2.1.setCell (.inr (by omega)) u, h.2.2⟩
theorem one_blk (r : Nat) (A : Option Addr) (n c : Nat) (xs : List Int) (p : Int) (g k : Nat) (t : TypeId) (cs : Array Value) (w : World) (h : Rdr w r A n c xs p) (hp : p ≤ 1000000) (hb : Blk w g t cs) (hk : cs.size = k) (hk1 : 1 ≤ k) (hk2 : k ≤ 1000000) (hne : g ≠ r)
    (hall : ∀ (i : Nat) (v : Value), cs[i]? = some v → ∃ z, v = Value.int .i64 z) :
    Calls Try.prog 62 #[.pointer (some ⟨r, 0, none⟩), .slice (some ⟨g, 0, none⟩) k k] w (OneInt r A n c xs p w) := by
  go_enter Try.func62, Try.ntmps62
  go_wp2_with (fail)
  (with_reducible refine (pick_any r A n c xs p k w h hp (by omega)).mono ?_)
  rintro e w1 ⟨q, rfl, hq0, hq1, _, hR, hG⟩
  have hq := hq1 (by omega)
  obtain ⟨i, rfl⟩ := Int.eq_ofNat_of_zero_le hq0
  have hi : i < cs.size := by omega
  obtain ⟨z, hz⟩ := hall i _ (Array.getElem?_eq_getElem hi)
  have hc : w1.cell? ⟨g, i, none⟩ = some (.int .i64 z) := by rw [(hb.but hG hne).cell, Array.getElem?_eq_getElem hi, hz]
  clear hq1 hz hall
  go_wp2
  go_ret
  exact ⟨z, rfl, hR, hG⟩
/-- The same, the block's cells to be found. -/
theorem one_some (r : Nat) (A : Option Addr) (n c : Nat) (xs : List Int) (p : Int) (g k : Nat) (t : TypeId) (w : World) (h : Rdr w r A n c xs p) (hp : p ≤ 1000000) (hk1 : 1 ≤ k) (hk2 : k ≤ 1000000) (hne : g ≠ r)
    (hb : ∃ cs, Blk w g t cs ∧ cs.size = k ∧ ∀ (i : Nat) (v : Value), cs[i]? = some v → ∃ z, v = Value.int .i64 z) :
    Calls Try.prog 62 #[.pointer (some ⟨r, 0, none⟩), .slice (some ⟨g, 0, none⟩) k k] w (OneInt r A n c xs p w) := by
  obtain ⟨cs, h1, h2, h3⟩ := hb
  exact one_blk r A n c xs p g k t cs w h hp h1 h2 hk1 hk2 hne h3
/-- A drawn struct of three ints. -/
def TripPost (Q : Tri → Prop) (r : Nat) (A : Option Addr) (n c : Nat) (xs : List Int) (p : Int) (w : World) (e : Ending) (w' : World) : Prop :=
  ∃ a b d : Int, e = .returned (.agg #[.int .i64 a, .int .i64 b, .int .i64 d]) ∧ Q (a, b, d) ∧ Rdr w' r A n c xs (p + 3) ∧ But r w w'
end Go.Proofs.Ytipoakimjhfhfab
