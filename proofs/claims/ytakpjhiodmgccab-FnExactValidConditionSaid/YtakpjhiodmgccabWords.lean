/- Words on memory: what a slice reads as; what a call leaves as it was. Plain theorems; no program. -/
import Derived.WalkKit
import Derived.Lib.Hide
import Derived.Maps.AppendAt
import Derived.Deep.AppendLies
import Derived.Deep.Draws
namespace Go.Proofs.Ytakpjhiodmgccab
open Go.RowKit

/-- A slice of address A and length n reads, between the blocks lo and hi, as the cells xs (size cells an element). -/
def Rd (w : World) (lo hi size : Nat) (A : Option Addr) (n : Nat) (xs : List Value) : Prop :=
  xs.length = n * size ∧ (0 < n → ∃ b off, A = some ⟨b, off, none⟩ ∧ lo ≤ b ∧ b < hi ∧ ∀ j u, xs[j]? = some u → w.cell? ⟨b, off + j, none⟩ = some u)

/-- None of the cells of the slice is frozen. -/
def Soft (w : World) (size : Nat) (A : Option Addr) (n : Nat) : Prop :=
  ∀ b off, A = some ⟨b, off, none⟩ → ∀ j, j < n * size → w.frozen? ⟨b, off + j, none⟩ = false

theorem up {a w w' : World} (h : Below a.heap.size a w) (k : Below w.heap.size w w') : Below a.heap.size a w' := h.trans (k.mono h.size)
theorem up_drew {a w : World} (h : Below a.heap.size a w) : Below a.heap.size a w.drew := ⟨h.os, h.tape, h.output, h.size, h.block⟩
theorem up_drewN {a w : World} (h : Below a.heap.size a w) (n : Nat) : Below a.heap.size a (w.drewN n) := ⟨h.os, h.tape, h.output, h.size, h.block⟩
theorem up_alloc {a w : World} (h : Below a.heap.size a w) (o : Obj) : Below a.heap.size a (w.alloc o) := h.alloc h.size o

theorem own_keep {w w' : World} {base : Nat} {e : TypeId} {size : Nat} {v : Value} {n : Nat} {xs : List Value} (h : w.ownsRow base e size v n xs) (hb : Below w.heap.size w w') : w'.ownsRow base e size v n xs :=
  h.kept (row := none) ⟨hb.os, hb.tape, hb.output, hb.size, fun i hi _ => hb.block i hi⟩ (by cases v.ownBlock <;> simp)
theorem up_grown {a w w' : World} {base : Nat} {e : TypeId} {size : Nat} {v : Value} {n : Nat} {xs : List Value} (h : Below a.heap.size a w) (ho : w.ownsRow base e size v n xs) (hg : w.grownBy w' v.ownBlock) (hb : a.heap.size ≤ base) : Below a.heap.size a w' :=
  h.grown hg h.size fun k hk => by have := (ho.lt k hk).1; omega

section
variable {w w' : World} {lo lo' hi hi' size n : Nat} {A : Option Addr} {xs : List Value}
theorem Rd.nil (w : World) (lo hi size : Nat) (A : Option Addr) : Rd w lo hi size A 0 [] := ⟨by simp, fun h => absurd h (by omega)⟩
theorem Rd.wide (h : Rd w lo hi size A n xs) (hl : lo' ≤ lo) (hh : hi ≤ hi') : Rd w lo' hi' size A n xs :=
  ⟨h.1, fun hn => by
    obtain ⟨b, off, e, h1, h2, hc⟩ := h.2 hn
    exact ⟨b, off, e, by omega, by omega, hc⟩⟩
theorem Rd.keep (h : Rd w lo hi size A n xs) {B : Nat} (hb : Below B w w') (hB : hi ≤ B) : Rd w' lo hi size A n xs :=
  ⟨h.1, fun hn => by
    obtain ⟨b, off, e, h1, h2, hc⟩ := h.2 hn
    exact ⟨b, off, e, h1, h2, fun j u hu => (hb.cell (p := ⟨b, off + j, none⟩) (by show b < B; omega)).trans (hc j u hu)⟩⟩
theorem Rd.far (h : Rd w lo hi size A n xs) {row : Option Nat} (hg : w.grownBy w' row) (hw : hi ≤ w.heap.size) (hr : ∀ g, row = some g → g < lo ∨ hi ≤ g) : Rd w' lo hi size A n xs :=
  ⟨h.1, fun hn => by
    obtain ⟨b, off, e, h1, h2, hc⟩ := h.2 hn
    refine ⟨b, off, e, h1, h2, fun j u hu => (World.cell?_of_block (w := w) (hg.block b (by omega) (fun e => ?_))).trans (hc j u hu)⟩
    have := hr b e.symm
    omega⟩
theorem Rd.setCell (h : Rd w lo hi size A n xs) {p : Addr} (hp : p.block < lo ∨ hi ≤ p.block) (u : Value) : Rd (w.setCell p u) lo hi size A n xs :=
  ⟨h.1, fun hn => by
    obtain ⟨b, off, e, h1, h2, hc⟩ := h.2 hn
    exact ⟨b, off, e, h1, h2, fun j v hv => (World.cell?_setCell_other w p ⟨b, off + j, none⟩ u (fun e => by subst e; simp at hp; omega)).trans (hc j v hv)⟩⟩
theorem Soft.keep (h : Soft w size A n) {B : Nat} (hb : Below B w w') (hB : ∀ b off, A = some ⟨b, off, none⟩ → b < B) : Soft w' size A n :=
  fun b off e j hj => (hb.frozen (p := ⟨b, off + j, none⟩) (hB b off e)).trans (h b off e j hj)
end

/-- What the call owns reads so. -/
theorem Rd.of_own {w : World} {base : Nat} {e : TypeId} {size : Nat} {A : Option Addr} {n c : Nat} {xs : List Value} (h : w.ownsRow base e size (.slice A n c) n xs) : Rd w base w.heap.size size A n xs := by
  refine ⟨h.1, fun hn => ?_⟩
  obtain ⟨g, cap, hv, hlo, hlt⟩ := h.form hn
  have hA : A = some ⟨g, 0, none⟩ := by injection hv
  subst hA
  refine ⟨g, 0, rfl, hlo, hlt, fun j u hu => ?_⟩
  have := h.cells (g := g) rfl j u hu
  rwa [show (⟨g, 0, none⟩ : Addr).add j = ⟨g, 0 + j, none⟩ from by unfold Addr.add; split <;> simp_all] at this
theorem Soft.of_own {w : World} {base : Nat} {e : TypeId} {size : Nat} {A : Option Addr} {n c : Nat} {xs : List Value} (h : w.ownsRow base e size (.slice A n c) n xs) : Soft w size A n := by
  intro b off e j hj
  rcases h.2 with ⟨hv, _⟩ | ⟨g, cap, cur, hv, _, hh, _⟩
  · injection hv with hv; subst hv; cases e
  · injection hv with hv; subst hv
    injection e with e; injection e with e1 e2
    subst e1
    simp [World.frozen?, hh]

theorem own_form {w : World} {base : Nat} {e : TypeId} {size : Nat} {v : Value} {n : Nat} {xs : List Value} (h : w.ownsRow base e size v n xs) :
    ∃ A c, v = .slice A n c ∧ n ≤ c ∧ Rd w base w.heap.size size A n xs ∧ Soft w size A n := by
  rcases h.2 with ⟨rfl, rfl⟩ | ⟨g, cap, cur, rfl, _, _, hc, _⟩
  · exact ⟨none, 0, rfl, Nat.le_refl _, Rd.of_own h, Soft.of_own h⟩
  · exact ⟨_, cap, rfl, hc, Rd.of_own h, Soft.of_own h⟩

/-! ### Slices of ints and of pairs of ints -/
def ivs (xs : List Int) : List Value := xs.map (.int .i64)
def pv (p : Int × Int) : List Value := [.int .i64 p.1, .int .i64 p.2]
def pvs (ps : List (Int × Int)) : List Value := ps.flatMap pv

theorem ivs_length (xs : List Int) : (ivs xs).length = xs.length := by simp [ivs]
theorem pvs_length (ps : List (Int × Int)) : (pvs ps).length = ps.length * 2 := by
  induction ps with
  | nil => rfl
  | cons p ps ih => simp [pvs, pv] at *; omega
theorem pvs_append (ps qs : List (Int × Int)) : pvs (ps ++ qs) = pvs ps ++ pvs qs := by simp [pvs]
theorem ivs_append (ps qs : List Int) : ivs (ps ++ qs) = ivs ps ++ ivs qs := by simp [ivs]
theorem pvs_get (ps : List (Int × Int)) (k : Nat) (hk : k < ps.length) : (pvs ps)[k * 2]? = some (.int .i64 ps[k].1) ∧ (pvs ps)[k * 2 + 1]? = some (.int .i64 ps[k].2) := by
  induction ps generalizing k with
  | nil => simp at hk
  | cons p ps ih =>
    cases k with
    | zero => simp [pvs, pv]
    | succ k =>
      have := ih k (by simpa using hk)
      have e : (k + 1) * 2 = k * 2 + 2 := by omega
      rw [e]
      simpa [pvs, pv] using this

theorem Rd.len2 {w : World} {lo hi : Nat} {A : Option Addr} {n : Nat} {ps : List (Int × Int)} (h : Rd w lo hi 2 A n (pvs ps)) : ps.length = n := by
  have := h.1; rw [pvs_length] at this; omega
theorem Rd.len1 {w : World} {lo hi : Nat} {A : Option Addr} {n : Nat} {xs : List Int} (h : Rd w lo hi 1 A n (ivs xs)) : xs.length = n := by
  have := h.1; rw [ivs_length] at this; omega

/-- The two cells of element k of a slice of pairs. -/
theorem Rd.pair {w : World} {lo hi : Nat} {A : Option Addr} {n : Nat} {ps : List (Int × Int)} (h : Rd w lo hi 2 A n (pvs ps)) {k : Nat} (hk : k < n) :
    ∃ b off x y, A = some ⟨b, off, none⟩ ∧ b < hi ∧ lo ≤ b ∧ ps[k]? = some (x, y) ∧ w.cell? ⟨b, off + k * 2, none⟩ = some (.int .i64 x) ∧ w.cell? ⟨b, off + k * 2 + 1, none⟩ = some (.int .i64 y) := by
  obtain ⟨b, off, e, hl, hlt, hc⟩ := h.2 (by omega)
  have hk' : k < ps.length := by rw [h.len2]; exact hk
  have g := pvs_get ps k hk'
  exact ⟨b, off, ps[k].1, ps[k].2, e, hlt, hl, by simp [hk'], hc _ _ g.1, by have := hc _ _ g.2; rwa [← Nat.add_assoc] at this⟩
/-- The cell of element k of a slice of ints. -/
theorem Rd.one {w : World} {lo hi : Nat} {A : Option Addr} {n : Nat} {xs : List Int} (h : Rd w lo hi 1 A n (ivs xs)) {k : Nat} (hk : k < n) :
    ∃ b off x, A = some ⟨b, off, none⟩ ∧ b < hi ∧ lo ≤ b ∧ xs[k]? = some x ∧ w.cell? ⟨b, off + k, none⟩ = some (.int .i64 x) := by
  obtain ⟨b, off, e, hl, hlt, hc⟩ := h.2 (by omega)
  have hk' : k < xs.length := by rw [h.len1]; exact hk
  exact ⟨b, off, xs[k], e, hlt, hl, by simp [hk'], hc _ _ (by simp [ivs, hk'])⟩
/-- The cell of element k of a slice of one-cell values. -/
theorem Rd.val {w : World} {lo hi : Nat} {A : Option Addr} {n : Nat} {xs : List Value} (h : Rd w lo hi 1 A n xs) {k : Nat} (hk : k < n) :
    ∃ b off x, A = some ⟨b, off, none⟩ ∧ b < hi ∧ lo ≤ b ∧ xs[k]? = some x ∧ w.cell? ⟨b, off + k, none⟩ = some x := by
  obtain ⟨b, off, e, hl, hlt, hc⟩ := h.2 (by omega)
  have hk' : k < xs.length := by have := h.1; omega
  exact ⟨b, off, xs[k], e, hlt, hl, by simp [hk'], hc _ _ (by simp [hk'])⟩
theorem ret_int {k : IntKind} {a b : Int} (h : a = b) : Ending.returned (.int k a) = .returned (.int k b) := by rw [h]
theorem ret_bool {a b : Bool} (h : a = b) : Ending.returned (.bool a) = .returned (.bool b) := by rw [h]
end Go.Proofs.Ytakpjhiodmgccab
