/- Words on memory: what a slice reads as; what a call leaves as it was. Plain theorems; no program. -/
import Derived.WalkKit
import Derived.Lib.Hide
import Derived.Maps.AppendAt
import Derived.Deep.AppendLies
import Derived.Deep.Draws
namespace Go.Proofs.Ythlcbdjjegageaa
open Go.RowKit

/-- A slice of address A and length n reads, between the blocks lo and hi, as the cells xs (size cells an element). -/
def Rd (w : World) (lo hi size : Nat) (A : Option Addr) (n : Nat) (xs : List Value) : Prop :=
  xs.length = n * size ∧ (0 < n → ∃ b off, A = some ⟨b, off, none⟩ ∧ lo ≤ b ∧ b < hi ∧ ∀ j u, xs[j]? = some u → w.cell? ⟨b, off + j, none⟩ = some u)

/-- None of the cells of the slice is frozen. -/
def Soft (w : World) (size : Nat) (A : Option Addr) (n : Nat) : Prop :=
  ∀ b off, A = some ⟨b, off, none⟩ → ∀ j, j < n * size → w.frozen? ⟨b, off + j, none⟩ = false

theorem up {a w w' : World} (h : Below a.heap.size a w) (k : Below w.heap.size w w') : Below a.heap.size a w' := h.trans (k.mono h.size)
theorem up_drew {a w : World} (h : Below a.heap.size a w) : Below a.heap.size a w.drew := ⟨h.os, h.tape, h.output, h.size, h.block⟩
theorem up_drewN {a w : World} (h : Below a.heap.size a w) (n : Nat) : Below a.heap.size a (w.drewN n) := ⟨h.os, h.tape, h.output, h.size, h.block⟩
theorem up_alloc {a w : World} (h : Below a.heap.size a w) (o : Obj) : Below a.heap.size a (w.alloc o) := h.alloc h.size o

theorem own_keep {w w' : World} {base : Nat} {e : TypeId} {size : Nat} {v : Value} {n : Nat} {xs : List Value} (h : w.ownsRow base e size v n xs) (hb : Below w.heap.size w w') : w'.ownsRow base e size v n xs :=
  h.kept (row := none) ⟨hb.os, hb.tape, hb.output, hb.size, fun i hi _ => hb.block i hi⟩ (by cases v.ownBlock <;> simp)
theorem up_grown {a w w' : World} {base : Nat} {e : TypeId} {size : Nat} {v : Value} {n : Nat} {xs : List Value} (h : Below a.heap.size a w) (ho : w.ownsRow base e size v n xs) (hg : w.grownBy w' v.ownBlock) (hb : a.heap.size ≤ base) : Below a.heap.size a w' :=
  h.grown hg h.size fun k hk => by have := (ho.lt k hk).1; omega

section
variable {w w' : World} {lo lo' hi hi' size n : Nat} {A : Option Addr} {xs : List Value}
theorem Rd.nil (w : World) (lo hi size : Nat) (A : Option Addr) : Rd w lo hi size A 0 [] := ⟨by simp, fun h => absurd h (by omega)⟩
theorem Rd.wide (h : Rd w lo hi size A n xs) (hl : lo' ≤ lo) (hh : hi ≤ hi') : Rd w lo' hi' size A n xs :=
  ⟨h.1, fun hn => by
    obtain ⟨b, off, e, h1, h2, hc⟩ := h.2 hn
    exact ⟨b, off, e, by omega, by omega, hc⟩⟩
theorem Rd.cut (h : Rd w lo hi size A n xs) {m : Nat} (hm : m ≤ n) : Rd w lo hi size A m (xs.take (m * size)) :=
  ⟨by rw [List.length_take, h.1]; exact Nat.min_eq_left (Nat.mul_le_mul_right _ hm), fun hn => by
    obtain ⟨b, off, e, h1, h2, hc⟩ := h.2 (by omega)
    refine ⟨b, off, e, h1, h2, fun j u hu => hc j u ?_⟩
    rw [List.getElem?_take] at hu
    split at hu
    · exact hu
    · cases hu⟩
theorem Rd.keep (h : Rd w lo hi size A n xs) {B : Nat} (hb : Below B w w') (hB : hi ≤ B) : Rd w' lo hi size A n xs :=
  ⟨h.1, fun hn => by
    obtain ⟨b, off, e, h1, h2, hc⟩ := h.2 hn
    exact ⟨b, off, e, h1, h2, fun j u hu => (hb.cell (p := ⟨b, off + j, none⟩) (by show b < B; omega)).trans (hc j u hu)⟩⟩
theorem Rd.far (h : Rd w lo hi size A n xs) {row : Option Nat} (hg : w.grownBy w' row) (hw : hi ≤ w.heap.size) (hr : ∀ g, row = some g → g < lo ∨ hi ≤ g) : Rd w' lo hi size A n xs :=
  ⟨h.1, fun hn => by
    obtain ⟨b, off, e, h1, h2, hc⟩ := h.2 hn
    refine ⟨b, off, e, h1, h2, fun j u hu => (World.cell?_of_block (w := w) (hg.block b (by omega) (fun e => ?_))).trans (hc j u hu)⟩
    have := hr b e.symm
    omega⟩
theorem Rd.setCell (h : Rd w lo hi size A n xs) {p : Addr} (hp : p.block < lo ∨ hi ≤ p.block) (u : Value) : Rd (w.setCell p u) lo hi size A n xs :=
  ⟨h.1, fun hn => by
    obtain ⟨b, off, e, h1, h2, hc⟩ := h.2 hn
    exact ⟨b, off, e, h1, h2, fun j v hv => (World.cell?_setCell_other w p ⟨b, off + j, none⟩ u (fun e => by subst e; simp at hp; omega)).trans (hc j v hv)⟩⟩
theorem Soft.keep (h : Soft w size A n) {B : Nat} (hb : Below B w w') (hB : ∀ b off, A = some ⟨b, off, none⟩ → b < B) : Soft w' size A n :=
  fun b off e j hj => (hb.frozen (p := ⟨b, off + j, none⟩) (hB b off e)).trans (h b off e j hj)
end

/-- What the call owns reads so. -/
theorem Rd.of_own {w : World} {base : Nat} {e : TypeId} {size : Nat} {A : Option Addr} {n c : Nat} {xs : List Value} (h : w.ownsRow base e size (.slice A n c) n xs) : Rd w base w.heap.size size A n xs := by
  refine ⟨h.1, fun hn => ?_⟩
  obtain ⟨g, cap, hv, hlo, hlt⟩ := h.form hn
  have hA : A = some ⟨g, 0, none⟩ := by injection hv
  subst hA
  refine ⟨g, 0, rfl, hlo, hlt, fun j u hu => ?_⟩
  have := h.cells (g := g) rfl j u hu
  rwa [show (⟨g, 0, none⟩ : Addr).add j = ⟨g, 0 + j, none⟩ from by unfold Addr.add; split <;> simp_all] at this
theorem Soft.of_own {w : World} {base : Nat} {e : TypeId} {size : Nat} {A : Option Addr} {n c : Nat} {xs : List Value} (h : w.ownsRow base e size (.slice A n c) n xs) : Soft w size A n := by
  intro b off e j hj
  rcases h.2 with ⟨hv, _⟩ | ⟨g, cap, cur, hv, _, hh, _⟩
  · injection hv with hv; subst hv; cases e
  · injection hv with hv; subst hv
    injection e with e; injection e with e1 e2
    subst e1
    simp [World.frozen?, hh]

theorem own_form {w : World} {base : Nat} {e : TypeId} {size : Nat} {v : Value} {n : Nat} {xs : List Value} (h : w.ownsRow base e size v n xs) :
    ∃ A c, v = .slice A n c ∧ n ≤ c ∧ Rd w base w.heap.size size A n xs ∧ Soft w size A n := by
  rcases h.2 with ⟨rfl, rfl⟩ | ⟨g, cap, cur, rfl, _, _, hc, _⟩
  · exact ⟨none, 0, rfl, Nat.le_refl _, Rd.of_own h, Soft.of_own h⟩
  · exact ⟨_, cap, rfl, hc, Rd.of_own h, Soft.of_own h⟩

/-- A slice of the call's own, cut at m. -/
theorem own_cut {w : World} {base : Nat} {e : TypeId} {size : Nat} {g n c : Nat} {xs : List Value} (h : w.ownsRow base e size (.slice (some ⟨g, 0, none⟩) n c) n xs) {m : Nat} (hm : m ≤ n) : w.ownsRow base e size (.slice (some ⟨g, 0, none⟩) m c) m (xs.take (m * size)) := by
  have h1 := h.1
  have hle : m * size ≤ n * size := Nat.mul_le_mul_right _ hm
  refine ⟨by rw [List.length_take]; omega, ?_⟩
  rcases h.2 with ⟨hv, _⟩ | ⟨g', cap, cur, hv, hb, hh, hc, hcm, hcs, ht⟩
  · injection hv with hv; cases hv
  · injection hv with hv1 hv2 hv3
    injection hv1 with hv1; injection hv1 with hv1
    subst hv1; subst hv3
    refine .inr ⟨g, c, cur, rfl, hb, hh, by omega, hcm, hcs, ?_⟩
    rw [← ht, List.take_take, Nat.min_eq_left hle]
theorem own_first {w : World} {base : Nat} {e : TypeId} {size : Nat} {v : Value} {n : Nat} {xs : List Value} (h : w.ownsRow base e size v n xs) (hn : 1 ≤ n) : ∃ g c, v = .slice (some ⟨g, 0, none⟩) n c ∧ base ≤ g ∧ g < w.heap.size ∧ n ≤ c := by
  rcases h.2 with ⟨_, h0⟩ | ⟨g, cap, cur, rfl, hb, hh, hc, _⟩
  · omega
  · exact ⟨g, cap, rfl, hb, (Array.getElem?_eq_some_iff.1 hh).1, hc⟩

/-! ### Slices of ints and of pairs of ints -/
def ivs (xs : List Int) : List Value := xs.map (.int .i64)
def pv (p : Int × Int) : List Value := [.int .i64 p.1, .int .i64 p.2]
def pvs (ps : List (Int × Int)) : List Value := ps.flatMap pv

theorem ivs_length (xs : List Int) : (ivs xs).length = xs.length := by simp [ivs]
theorem pvs_length (ps : List (Int × Int)) : (pvs ps).length = ps.length * 2 := by
  induction ps with
  | nil => rfl
  | cons p ps ih => simp [pvs, pv] at *; omega
theorem pvs_append (ps qs : List (Int × Int)) : pvs (ps ++ qs) = pvs ps ++ pvs qs := by simp [pvs]
theorem ivs_append (ps qs : List Int) : ivs (ps ++ qs) = ivs ps ++ ivs qs := by simp [ivs]
theorem pvs_get (ps : List (Int × Int)) (k : Nat) (hk : k < ps.length) : (pvs ps)[k * 2]? = some (.int .i64 ps[k].1) ∧ (pvs ps)[k * 2 + 1]? = some (.int .i64 ps[k].2) := by
  induction ps generalizing k with
  | nil => simp at hk
  | cons p ps ih =>
    cases k with
    | zero => simp [pvs, pv]
    | succ k =>
      have := ih k (by simpa using hk)
      have e : (k + 1) * 2 = k * 2 + 2 := by omega
      rw [e]
      simpa [pvs, pv] using this

theorem Rd.len2 {w : World} {lo hi : Nat} {A : Option Addr} {n : Nat} {ps : List (Int × Int)} (h : Rd w lo hi 2 A n (pvs ps)) : ps.length = n := by
  have := h.1; rw [pvs_length] at this; omega
theorem Rd.len1 {w : World} {lo hi : Nat} {A : Option Addr} {n : Nat} {xs : List Int} (h : Rd w lo hi 1 A n (ivs xs)) : xs.length = n := by
  have := h.1; rw [ivs_length] at this; omega

/-- The two cells of element k of a slice of pairs. -/
theorem Rd.pair {w : World} {lo hi : Nat} {A : Option Addr} {n : Nat} {ps : List (Int × Int)} (h : Rd w lo hi 2 A n (pvs ps)) {k : Nat} (hk : k < n) :
    ∃ b off x y, A = some ⟨b, off, none⟩ ∧ b < hi ∧ lo ≤ b ∧ ps[k]? = some (x, y) ∧ w.cell? ⟨b, off + k * 2, none⟩ = some (.int .i64 x) ∧ w.cell? ⟨b, off + k * 2 + 1, none⟩ = some (.int .i64 y) := by
  obtain ⟨b, off, e, hl, hlt, hc⟩ := h.2 (by omega)
  have hk' : k < ps.length := by rw [h.len2]; exact hk
  have g := pvs_get ps k hk'
  exact ⟨b, off, ps[k].1, ps[k].2, e, hlt, hl, by simp [hk'], hc _ _ g.1, by have := hc _ _ g.2; rwa [← Nat.add_assoc] at this⟩
/-- The cell of element k of a slice of ints. -/
theorem Rd.one {w : World} {lo hi : Nat} {A : Option Addr} {n : Nat} {xs : List Int} (h : Rd w lo hi 1 A n (ivs xs)) {k : Nat} (hk : k < n) :
    ∃ b off x, A = some ⟨b, off, none⟩ ∧ b < hi ∧ lo ≤ b ∧ xs[k]? = some x ∧ w.cell? ⟨b, off + k, none⟩ = some (.int .i64 x) := by
  obtain ⟨b, off, e, hl, hlt, hc⟩ := h.2 (by omega)
  have hk' : k < xs.length := by rw [h.len1]; exact hk
  exact ⟨b, off, xs[k], e, hlt, hl, by simp [hk'], hc _ _ (by simp [ivs, hk'])⟩
/-- The cell of element k of a slice of one-cell values. -/
theorem Rd.val {w : World} {lo hi : Nat} {A : Option Addr} {n : Nat} {xs : List Value} (h : Rd w lo hi 1 A n xs) {k : Nat} (hk : k < n) :
    ∃ b off x, A = some ⟨b, off, none⟩ ∧ b < hi ∧ lo ≤ b ∧ xs[k]? = some x ∧ w.cell? ⟨b, off + k, none⟩ = some x := by
  obtain ⟨b, off, e, hl, hlt, hc⟩ := h.2 (by omega)
  have hk' : k < xs.length := by have := h.1; omega
  exact ⟨b, off, xs[k], e, hlt, hl, by simp [hk'], hc _ _ (by simp [hk'])⟩
theorem pvs_one (ps : List (Int × Int)) : ∀ u ∈ pvs ps, u.oneCell' = true := by
  intro u hu
  simp [pvs, pv] at hu
  obtain ⟨a, b, _, h⟩ := hu
  rcases h with rfl | rfl <;> rfl
theorem ivs_one (ps : List Int) : ∀ u ∈ ivs ps, u.oneCell' = true := by
  intro u hu
  simp [ivs] at hu
  obtain ⟨a, _, rfl⟩ := hu
  rfl
/-- The source of an append. -/
theorem Rd.src {w : World} {lo hi size n : Nat} {b off : Nat} {xs : List Value} (h : Rd w lo hi size (some ⟨b, off, none⟩) n xs) : ∀ j u, xs[j]? = some u → w.cell? ((⟨b, off, none⟩ : Addr).add j) = some u := by
  intro j u hu
  rcases Nat.eq_zero_or_pos n with h0 | h0
  · subst h0
    have := h.1
    have hx : xs = [] := List.eq_nil_of_length_eq_zero (by omega)
    subst hx
    simp at hu
  · obtain ⟨b', off', e, _, _, hc⟩ := h.2 h0
    injection e with e; injection e with e1 e2
    subst e1; subst e2
    rw [show (⟨b, off, none⟩ : Addr).add j = ⟨b, off + j, none⟩ from by unfold Addr.add; split <;> simp_all]
    exact hc j u hu
theorem Rd.form {w : World} {lo hi size n : Nat} {A : Option Addr} {xs : List Value} (h : Rd w lo hi size A n xs) (hn : 0 < n) : ∃ b off, A = some ⟨b, off, none⟩ ∧ lo ≤ b ∧ b < hi := by
  obtain ⟨b, off, e, h1, h2, _⟩ := h.2 hn
  exact ⟨b, off, e, h1, h2⟩

/-! ### A block that is known whole -/
def Blk (w : World) (g : Nat) (t : TypeId) (cs : Array Value) : Prop := w.heap[g]? = some (.cells cs t (0, 0))
section
variable {w w' : World} {g : Nat} {t : TypeId} {cs : Array Value}
theorem Blk.lt (h : Blk w g t cs) : g < w.heap.size := by
  rcases Nat.lt_or_ge g w.heap.size with hlt | hge
  · exact hlt
  · unfold Blk at h; rw [Array.getElem?_eq_none hge] at h; cases h
theorem Blk.cell (h : Blk w g t cs) (i : Nat) : w.cell? ⟨g, i, none⟩ = cs[i]? := cell_of_row w g i cs t (0, 0) h
theorem Blk.soft (h : Blk w g t cs) (i : Nat) : w.frozen? ⟨g, i, none⟩ = false := frozen_of_row w g i cs t h
theorem Blk.new (w : World) (t : TypeId) (cs : Array Value) : Blk (w.alloc (.cells cs t)) w.heap.size t cs := heap_alloc_new w _
theorem Blk.drew (h : Blk w g t cs) : Blk w.drew g t cs := h
theorem Blk.drewN (h : Blk w g t cs) (n : Nat) : Blk (w.drewN n) g t cs := h
theorem Blk.alloc (h : Blk w g t cs) (o : Obj) : Blk (w.alloc o) g t cs := (Below.heap_alloc w o g h.lt).trans h
theorem Blk.put (h : Blk w g t cs) (i : Nat) (u : Value) : Blk (w.setCell ⟨g, i, none⟩ u) g t (cs.setIfInBounds i u) := by
  unfold Blk at h ⊢
  simp [World.setCell, Array.getElem?_modify, h]
theorem Blk.far (h : Blk w g t cs) {p : Addr} (hp : g ≠ p.block) (u : Value) : Blk (w.setCell p u) g t cs := (Below.heap_setCell w p u g hp).trans h
theorem Blk.below {B : Nat} (h : Blk w g t cs) (hb : Below B w w') (hg : g < B) : Blk w' g t cs := (hb.block g hg).trans h
theorem Blk.grown {row : Option Nat} (h : Blk w g t cs) (hb : w.grownBy w' row) (hg : some g ≠ row) : Blk w' g t cs := (hb.block g h.lt hg).trans h
end

/-- A slice in memory of the call's own, that reads so; what was there is as it was. -/
def Fresh (xs : List Value) (size n : Nat) (w : World) (e : Ending) (w' : World) : Prop :=
  ∃ A c, e = .returned (.slice A n c) ∧ n ≤ c ∧ Rd w' w.heap.size w'.heap.size size A n xs ∧ Soft w' size A n ∧ Below w.heap.size w w'
theorem Fresh.of_own {w w' : World} {ty : TypeId} {size : Nat} {v : Value} {n : Nat} {xs : List Value} (h : w'.ownsRow w.heap.size ty size v n xs) (hb : Below w.heap.size w w') : Fresh xs size n w (.returned v) w' := by
  obtain ⟨A, c, rfl, hc, hr, hs⟩ := own_form h
  exact ⟨A, c, rfl, hc, hr, hs, hb⟩
theorem Fresh.nil {w w' : World} (size : Nat) (hb : Below w.heap.size w w') : Fresh [] size 0 w (.returned (.slice none 0 0)) w' :=
  ⟨none, 0, rfl, Nat.le_refl _, Rd.nil _ _ _ _ _, (fun _ _ e => nomatch e), hb⟩
theorem take_snoc {α : Type} {l : List α} {k : Nat} {x : α} (h : l[k]? = some x) : l.take (k + 1) = l.take k ++ [x] := by
  obtain ⟨hk, e⟩ := List.getElem?_eq_some_iff.1 h
  rw [List.take_succ_eq_append_getElem hk, e]
theorem drop_cons2 {α : Type} {l : List α} {k : Nat} {x : α} (h : l[k]? = some x) : l.drop k = x :: l.drop (k + 1) := by
  obtain ⟨hk, e⟩ := List.getElem?_eq_some_iff.1 h
  rw [List.drop_eq_getElem_cons hk, e]
theorem ret_int {k : IntKind} {a b : Int} (h : a = b) : Ending.returned (.int k a) = .returned (.int k b) := by rw [h]
theorem ret_bool {a b : Bool} (h : a = b) : Ending.returned (.bool a) = .returned (.bool b) := by rw [h]
end Go.Proofs.Ythlcbdjjegageaa
