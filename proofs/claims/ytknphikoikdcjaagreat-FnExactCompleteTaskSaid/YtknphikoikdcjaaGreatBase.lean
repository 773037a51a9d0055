/- Merged: Words, CondMath, ProcMath, EvalMath, RchMath, FlowMath, ProcMem, AppRd, IMap, RowMaps, QMem, TokMath. -/
import Derived.WalkKit
import Derived.Lib.Hide
import Derived.Maps.AppendAt
import Derived.Deep.AppendLies
import Derived.Deep.Draws
import Derived.OwnWalk
import Derived.RegionTactic
import Derived.Maps.OwnSet
import Derived.Maps.Views
import Derived.ArgAppend
/- Words on memory: what a slice reads as; what a call leaves as it was. Plain theorems; no program. -/
set_option linter.unusedSimpArgs false
set_option linter.unusedVariables false
namespace Go.Proofs.YtknphikoikdcjaaGreat
open Go.RowKit

/-- A slice of address A and length n reads, between the blocks lo and hi, as the cells xs (size cells an element). -/
def Rd (w : World) (lo hi size : Nat) (A : Option Addr) (n : Nat) (xs : List Value) : Prop :=
  xs.length = n * size ∧ (0 < n → ∃ b off, A = some ⟨b, off, none⟩ ∧ lo ≤ b ∧ b < hi ∧ ∀ j u, xs[j]? = some u → w.cell? ⟨b, off + j, none⟩ = some u)

/-- None of the cells of the slice is frozen. -/
def Soft (w : World) (size : Nat) (A : Option Addr) (n : Nat) : Prop :=
  ∀ b off, A = some ⟨b, off, none⟩ → ∀ j, j < n * size → w.frozen? ⟨b, off + j, none⟩ = false

theorem up {a w w' : World} (h : Below a.heap.size a w) (k : Below w.heap.size w w') : Below a.heap.size a w' := h.trans (k.mono h.size)
theorem up_drew {a w : World} (h : Below a.heap.size a w) : Below a.heap.size a w.drew := ⟨h.os, h.tape, h.output, h.size, h.block⟩
theorem up_drewN {a w : World} (h : Below a.heap.size a w) (n : Nat) : Below a.heap.size a (w.drewN n) := ⟨h.os, h.tape, h.output, h.size, h.block⟩
theorem up_alloc {a w : World} (h : Below a.heap.size a w) (o : Obj) : Below a.heap.size a (w.alloc o) := h.alloc h.size o

theorem own_keep {w w' : World} {base : Nat} {e : TypeId} {size : Nat} {v : Value} {n : Nat} {xs : List Value} (h : w.ownsRow base e size v n xs) (hb : Below w.heap.size w w') : w'.ownsRow base e size v n xs :=
  h.kept (row := none) ⟨hb.os, hb.tape, hb.output, hb.size, fun i hi _ => hb.block i hi⟩ (by cases v.ownBlock <;> simp)
theorem up_grown {a w w' : World} {base : Nat} {e : TypeId} {size : Nat} {v : Value} {n : Nat} {xs : List Value} (h : Below a.heap.size a w) (ho : w.ownsRow base e size v n xs) (hg : w.grownBy w' v.ownBlock) (hb : a.heap.size ≤ base) : Below a.heap.size a w' :=
  h.grown hg h.size fun k hk => by have := (ho.lt k hk).1; omega

section
variable {w w' : World} {lo lo' hi hi' size n : Nat} {A : Option Addr} {xs : List Value}
theorem Rd.nil (w : World) (lo hi size : Nat) (A : Option Addr) : Rd w lo hi size A 0 [] := ⟨by simp, fun h => absurd h (by omega)⟩
theorem Rd.wide (h : Rd w lo hi size A n xs) (hl : lo' ≤ lo) (hh : hi ≤ hi') : Rd w lo' hi' size A n xs :=
  ⟨h.1, fun hn => by
    obtain ⟨b, off, e, h1, h2, hc⟩ := h.2 hn
    exact ⟨b, off, e, by omega, by omega, hc⟩⟩
theorem Rd.cut (h : Rd w lo hi size A n xs) {m : Nat} (hm : m ≤ n) : Rd w lo hi size A m (xs.take (m * size)) :=
  ⟨by rw [List.length_take, h.1]; exact Nat.min_eq_left (Nat.mul_le_mul_right _ hm), fun hn => by
    obtain ⟨b, off, e, h1, h2, hc⟩ := h.2 (by omega)
    refine ⟨b, off, e, h1, h2, fun j u hu => hc j u ?_⟩
    rw [List.getElem?_take] at hu
    split at hu
    · exact hu
    · cases hu⟩
theorem Rd.keep (h : Rd w lo hi size A n xs) {B : Nat} (hb : Below B w w') (hB : hi ≤ B) : Rd w' lo hi size A n xs :=
  ⟨h.1, fun hn => by
    obtain ⟨b, off, e, h1, h2, hc⟩ := h.2 hn
    exact ⟨b, off, e, h1, h2, fun j u hu => (hb.cell (p := ⟨b, off + j, none⟩) (by show b < B; omega)).trans (hc j u hu)⟩⟩
theorem Rd.far (h : Rd w lo hi size A n xs) {row : Option Nat} (hg : w.grownBy w' row) (hw : hi ≤ w.heap.size) (hr : ∀ g, row = some g → g < lo ∨ hi ≤ g) : Rd w' lo hi size A n xs :=
  ⟨h.1, fun hn => by
    obtain ⟨b, off, e, h1, h2, hc⟩ := h.2 hn
    refine ⟨b, off, e, h1, h2, fun j u hu => (World.cell?_of_block (w := w) (hg.block b (by omega) (fun e => ?_))).trans (hc j u hu)⟩
    have := hr b e.symm
    omega⟩
theorem Rd.setCell (h : Rd w lo hi size A n xs) {p : Addr} (hp : p.block < lo ∨ hi ≤ p.block) (u : Value) : Rd (w.setCell p u) lo hi size A n xs :=
  ⟨h.1, fun hn => by
    obtain ⟨b, off, e, h1, h2, hc⟩ := h.2 hn
    exact ⟨b, off, e, h1, h2, fun j v hv => (World.cell?_setCell_other w p ⟨b, off + j, none⟩ u (fun e => by subst e; simp at hp; omega)).trans (hc j v hv)⟩⟩
theorem Soft.keep (h : Soft w size A n) {B : Nat} (hb : Below B w w') (hB : ∀ b off, A = some ⟨b, off, none⟩ → b < B) : Soft w' size A n :=
  fun b off e j hj => (hb.frozen (p := ⟨b, off + j, none⟩) (hB b off e)).trans (h b off e j hj)
end

/-- What the call owns reads so. -/
theorem Rd.of_own {w : World} {base : Nat} {e : TypeId} {size : Nat} {A : Option Addr} {n c : Nat} {xs : List Value} (h : w.ownsRow base e size (.slice A n c) n xs) : Rd w base w.heap.size size A n xs := by
  refine ⟨h.1, fun hn => ?_⟩
  obtain ⟨g, cap, hv, hlo, hlt⟩ := h.form hn
  have hA : A = some ⟨g, 0, none⟩ := by injection hv
  subst hA
  refine ⟨g, 0, rfl, hlo, hlt, fun j u hu => ?_⟩
  have := h.cells (g := g) rfl j u hu
  rwa [show (⟨g, 0, none⟩ : Addr).add j = ⟨g, 0 + j, none⟩ from by unfold Addr.add; split <;> simp_all] at this
theorem Soft.of_own {w : World} {base : Nat} {e : TypeId} {size : Nat} {A : Option Addr} {n c : Nat} {xs : List Value} (h : w.ownsRow base e size (.slice A n c) n xs) : Soft w size A n := by
  intro b off e j hj
  rcases h.2 with ⟨hv, _⟩ | ⟨g, cap, cur, hv, _, hh, _⟩
  · injection hv with hv; subst hv; cases e
  · injection hv with hv; subst hv
    injection e with e; injection e with e1 e2
    subst e1
    simp [World.frozen?, hh]

theorem own_form {w : World} {base : Nat} {e : TypeId} {size : Nat} {v : Value} {n : Nat} {xs : List Value} (h : w.ownsRow base e size v n xs) :
    ∃ A c, v = .slice A n c ∧ n ≤ c ∧ Rd w base w.heap.size size A n xs ∧ Soft w size A n := by
  rcases h.2 with ⟨rfl, rfl⟩ | ⟨g, cap, cur, rfl, _, _, hc, _⟩
  · exact ⟨none, 0, rfl, Nat.le_refl _, Rd.of_own h, Soft.of_own h⟩
  · exact ⟨_, cap, rfl, hc, Rd.of_own h, Soft.of_own h⟩

/-- A slice of the call's own, cut at m. -/
theorem own_cut {w : World} {base : Nat} {e : TypeId} {size : Nat} {g n c : Nat} {xs : List Value} (h : w.ownsRow base e size (.slice (some ⟨g, 0, none⟩) n c) n xs) {m : Nat} (hm : m ≤ n) : w.ownsRow base e size (.slice (some ⟨g, 0, none⟩) m c) m (xs.take (m * size)) := by
  have h1 := h.1
  have hle : m * size ≤ n * size := Nat.mul_le_mul_right _ hm
  refine ⟨by rw [List.length_take]; omega, ?_⟩
  rcases h.2 with ⟨hv, _⟩ | ⟨g', cap, cur, hv, hb, hh, hc, hcm, hcs, ht⟩
  · injection hv with hv; cases hv
  · injection hv with hv1 hv2 hv3
    injection hv1 with hv1; injection hv1 with hv1
    subst hv1; subst hv3
    refine .inr ⟨g, c, cur, rfl, hb, hh, by omega, hcm, hcs, ?_⟩
    rw [← ht, List.take_take, Nat.min_eq_left hle]
theorem own_first {w : World} {base : Nat} {e : TypeId} {size : Nat} {v : Value} {n : Nat} {xs : List Value} (h : w.ownsRow base e size v n xs) (hn : 1 ≤ n) : ∃ g c, v = .slice (some ⟨g, 0, none⟩) n c ∧ base ≤ g ∧ g < w.heap.size ∧ n ≤ c := by
  rcases h.2 with ⟨_, h0⟩ | ⟨g, cap, cur, rfl, hb, hh, hc, _⟩
  · omega
  · exact ⟨g, cap, rfl, hb, (Array.getElem?_eq_some_iff.1 hh).1, hc⟩

/-! ### Slices of ints and of pairs of ints -/
def ivs (xs : List Int) : List Value := xs.map (.int .i64)
def pv (p : Int × Int) : List Value := [.int .i64 p.1, .int .i64 p.2]
def pvs (ps : List (Int × Int)) : List Value := ps.flatMap pv

theorem ivs_length (xs : List Int) : (ivs xs).length = xs.length := by simp [ivs]
theorem pvs_length (ps : List (Int × Int)) : (pvs ps).length = ps.length * 2 := by
  induction ps with
  | nil => rfl
  | cons p ps ih => simp [pvs, pv] at *; omega
theorem pvs_append (ps qs : List (Int × Int)) : pvs (ps ++ qs) = pvs ps ++ pvs qs := by simp [pvs]
theorem ivs_append (ps qs : List Int) : ivs (ps ++ qs) = ivs ps ++ ivs qs := by simp [ivs]
theorem pvs_get (ps : List (Int × Int)) (k : Nat) (hk : k < ps.length) : (pvs ps)[k * 2]? = some (.int .i64 ps[k].1) ∧ (pvs ps)[k * 2 + 1]? = some (.int .i64 ps[k].2) := by
  induction ps generalizing k with
  | nil => simp at hk
  | cons p ps ih =>
    cases k with
    | zero => simp [pvs, pv]
    | succ k =>
      have := ih k (by simpa using hk)
      have e : (k + 1) * 2 = k * 2 + 2 := by omega
      rw [e]
      simpa [pvs, pv] using this

theorem Rd.len2 {w : World} {lo hi : Nat} {A : Option Addr} {n : Nat} {ps : List (Int × Int)} (h : Rd w lo hi 2 A n (pvs ps)) : ps.length = n := by
  have := h.1; rw [pvs_length] at this; omega
theorem Rd.len1 {w : World} {lo hi : Nat} {A : Option Addr} {n : Nat} {xs : List Int} (h : Rd w lo hi 1 A n (ivs xs)) : xs.length = n := by
  have := h.1; rw [ivs_length] at this; omega

/-- The two cells of element k of a slice of pairs. -/
theorem Rd.pair {w : World} {lo hi : Nat} {A : Option Addr} {n : Nat} {ps : List (Int × Int)} (h : Rd w lo hi 2 A n (pvs ps)) {k : Nat} (hk : k < n) :
    ∃ b off x y, A = some ⟨b, off, none⟩ ∧ b < hi ∧ lo ≤ b ∧ ps[k]? = some (x, y) ∧ w.cell? ⟨b, off + k * 2, none⟩ = some (.int .i64 x) ∧ w.cell? ⟨b, off + k * 2 + 1, none⟩ = some (.int .i64 y) := by
  obtain ⟨b, off, e, hl, hlt, hc⟩ := h.2 (by omega)
  have hk' : k < ps.length := by rw [h.len2]; exact hk
  have g := pvs_get ps k hk'
  exact ⟨b, off, ps[k].1, ps[k].2, e, hlt, hl, by simp [hk'], hc _ _ g.1, by have := hc _ _ g.2; rwa [← Nat.add_assoc] at this⟩
/-- The cell of element k of a slice of ints. -/
theorem Rd.one {w : World} {lo hi : Nat} {A : Option Addr} {n : Nat} {xs : List Int} (h : Rd w lo hi 1 A n (ivs xs)) {k : Nat} (hk : k < n) :
    ∃ b off x, A = some ⟨b, off, none⟩ ∧ b < hi ∧ lo ≤ b ∧ xs[k]? = some x ∧ w.cell? ⟨b, off + k, none⟩ = some (.int .i64 x) := by
  obtain ⟨b, off, e, hl, hlt, hc⟩ := h.2 (by omega)
  have hk' : k < xs.length := by rw [h.len1]; exact hk
  exact ⟨b, off, xs[k], e, hlt, hl, by simp [hk'], hc _ _ (by simp [ivs, hk'])⟩
/-- The cell of element k of a slice of one-cell values. -/
theorem Rd.val {w : World} {lo hi : Nat} {A : Option Addr} {n : Nat} {xs : List Value} (h : Rd w lo hi 1 A n xs) {k : Nat} (hk : k < n) :
    ∃ b off x, A = some ⟨b, off, none⟩ ∧ b < hi ∧ lo ≤ b ∧ xs[k]? = some x ∧ w.cell? ⟨b, off + k, none⟩ = some x := by
  obtain ⟨b, off, e, hl, hlt, hc⟩ := h.2 (by omega)
  have hk' : k < xs.length := by have := h.1; omega
  exact ⟨b, off, xs[k], e, hlt, hl, by simp [hk'], hc _ _ (by simp [hk'])⟩
theorem pvs_one (ps : List (Int × Int)) : ∀ u ∈ pvs ps, u.oneCell' = true := by
  intro u hu
  simp [pvs, pv] at hu
  obtain ⟨a, b, _, h⟩ := hu
  rcases h with rfl | rfl <;> rfl
theorem ivs_one (ps : List Int) : ∀ u ∈ ivs ps, u.oneCell' = true := by
  intro u hu
  simp [ivs] at hu
  obtain ⟨a, _, rfl⟩ := hu
  rfl
/-- The source of an append. -/
theorem Rd.src {w : World} {lo hi size n : Nat} {b off : Nat} {xs : List Value} (h : Rd w lo hi size (some ⟨b, off, none⟩) n xs) : ∀ j u, xs[j]? = some u → w.cell? ((⟨b, off, none⟩ : Addr).add j) = some u := by
  intro j u hu
  rcases Nat.eq_zero_or_pos n with h0 | h0
  · subst h0
    have := h.1
    have hx : xs = [] := List.eq_nil_of_length_eq_zero (by omega)
    subst hx
    simp at hu
  · obtain ⟨b', off', e, _, _, hc⟩ := h.2 h0
    injection e with e; injection e with e1 e2
    subst e1; subst e2
    rw [show (⟨b, off, none⟩ : Addr).add j = ⟨b, off + j, none⟩ from by unfold Addr.add; split <;> simp_all]
    exact hc j u hu
theorem Rd.form {w : World} {lo hi size n : Nat} {A : Option Addr} {xs : List Value} (h : Rd w lo hi size A n xs) (hn : 0 < n) : ∃ b off, A = some ⟨b, off, none⟩ ∧ lo ≤ b ∧ b < hi := by
  obtain ⟨b, off, e, h1, h2, _⟩ := h.2 hn
  exact ⟨b, off, e, h1, h2⟩

/-! ### A block that is known whole -/
def Blk (w : World) (g : Nat) (t : TypeId) (cs : Array Value) : Prop := w.heap[g]? = some (.cells cs t (0, 0))
section
variable {w w' : World} {g : Nat} {t : TypeId} {cs : Array Value}
theorem Blk.lt (h : Blk w g t cs) : g < w.heap.size := by
  rcases Nat.lt_or_ge g w.heap.size with hlt | hge
  · exact hlt
  · unfold Blk at h; rw [Array.getElem?_eq_none hge] at h; cases h
theorem Blk.cell (h : Blk w g t cs) (i : Nat) : w.cell? ⟨g, i, none⟩ = cs[i]? := cell_of_row w g i cs t (0, 0) h
theorem Blk.soft (h : Blk w g t cs) (i : Nat) : w.frozen? ⟨g, i, none⟩ = false := frozen_of_row w g i cs t h
theorem Blk.new (w : World) (t : TypeId) (cs : Array Value) : Blk (w.alloc (.cells cs t)) w.heap.size t cs := heap_alloc_new w _
theorem Blk.drew (h : Blk w g t cs) : Blk w.drew g t cs := h
theorem Blk.drewN (h : Blk w g t cs) (n : Nat) : Blk (w.drewN n) g t cs := h
theorem Blk.alloc (h : Blk w g t cs) (o : Obj) : Blk (w.alloc o) g t cs := (Below.heap_alloc w o g h.lt).trans h
theorem Blk.put (h : Blk w g t cs) (i : Nat) (u : Value) : Blk (w.setCell ⟨g, i, none⟩ u) g t (cs.setIfInBounds i u) := by
  unfold Blk at h ⊢
  simp [World.setCell, Array.getElem?_modify, h]
theorem Blk.far (h : Blk w g t cs) {p : Addr} (hp : g ≠ p.block) (u : Value) : Blk (w.setCell p u) g t cs := (Below.heap_setCell w p u g hp).trans h
theorem Blk.below {B : Nat} (h : Blk w g t cs) (hb : Below B w w') (hg : g < B) : Blk w' g t cs := (hb.block g hg).trans h
theorem Blk.grown {row : Option Nat} (h : Blk w g t cs) (hb : w.grownBy w' row) (hg : some g ≠ row) : Blk w' g t cs := (hb.block g h.lt hg).trans h
end

/-- A slice in memory of the call's own, that reads so; what was there is as it was. -/
def Fresh (xs : List Value) (size n : Nat) (w : World) (e : Ending) (w' : World) : Prop :=
  ∃ A c, e = .returned (.slice A n c) ∧ n ≤ c ∧ Rd w' w.heap.size w'.heap.size size A n xs ∧ Soft w' size A n ∧ Below w.heap.size w w'
theorem Fresh.of_own {w w' : World} {ty : TypeId} {size : Nat} {v : Value} {n : Nat} {xs : List Value} (h : w'.ownsRow w.heap.size ty size v n xs) (hb : Below w.heap.size w w') : Fresh xs size n w (.returned v) w' := by
  obtain ⟨A, c, rfl, hc, hr, hs⟩ := own_form h
  exact ⟨A, c, rfl, hc, hr, hs, hb⟩
theorem Fresh.nil {w w' : World} (size : Nat) (hb : Below w.heap.size w w') : Fresh [] size 0 w (.returned (.slice none 0 0)) w' :=
  ⟨none, 0, rfl, Nat.le_refl _, Rd.nil _ _ _ _ _, (fun _ _ e => nomatch e), hb⟩
theorem take_snoc {α : Type} {l : List α} {k : Nat} {x : α} (h : l[k]? = some x) : l.take (k + 1) = l.take k ++ [x] := by
  obtain ⟨hk, e⟩ := List.getElem?_eq_some_iff.1 h
  rw [List.take_succ_eq_append_getElem hk, e]
theorem drop_cons2 {α : Type} {l : List α} {k : Nat} {x : α} (h : l[k]? = some x) : l.drop k = x :: l.drop (k + 1) := by
  obtain ⟨hk, e⟩ := List.getElem?_eq_some_iff.1 h
  rw [List.drop_eq_getElem_cons hk, e]
theorem ret_int {k : IntKind} {a b : Int} (h : a = b) : Ending.returned (.int k a) = .returned (.int k b) := by rw [h]
theorem ret_bool {a b : Bool} (h : a = b) : Ending.returned (.bool a) = .returned (.bool b) := by rw [h]
end Go.Proofs.YtknphikoikdcjaaGreat


/- Conditions in plain mathematics: which are valid. No program. -/
namespace Go.Proofs.YtknphikoikdcjaaGreat
open Go.RowKit

def inR (n lo hi : Int) : Bool := decide (lo ≤ n) && decide (n ≤ hi)
theorem inR_iff {n lo hi : Int} : inR n lo hi = true ↔ lo ≤ n ∧ n ≤ hi := by simp [inR]
/-- A part of a condition is valid. -/
def vPart (k v : Int) : Bool :=
  if k = 0 then inR v (-9999) 9999 else if k = 1 then inR v 0 3 else inR k 2 8 && decide (v = 0)
/-- How many values a part takes. -/
def needs1 (k : Int) : Int := if k = 0 ∨ k = 1 then 0 else if k = 2 then 1 else 2
/-- The height of the stack behind the parts, none if a part is not valid or takes what is not there. -/
def scanD : List (Int × Int) → Int → Option Int
  | [], d => some d
  | p :: ps, d => if vPart p.1 p.2 = true ∧ needs1 p.1 ≤ d then scanD ps (d - needs1 p.1 + 1) else none
/-- A condition is valid. -/
def vCond (ps : List (Int × Int)) : Bool := inR ps.length 1 12 && decide (scanD ps 0 = some 1)

theorem needs1_bd (k : Int) : 0 ≤ needs1 k ∧ needs1 k ≤ 2 := by unfold needs1; split <;> (try split) <;> omega
theorem scanD_step {ps : List (Int × Int)} {k : Nat} {x y d : Int} (hg : ps[k]? = some (x, y)) (hv : vPart x y = true) (hn : needs1 x ≤ d) : scanD (ps.drop k) d = scanD (ps.drop (k + 1)) (d - needs1 x + 1) := by
  obtain ⟨hk, e⟩ := List.getElem?_eq_some_iff.1 hg
  rw [List.drop_eq_getElem_cons hk, e, scanD, if_pos ⟨hv, hn⟩]
theorem scanD_bad {ps : List (Int × Int)} {k : Nat} {x y d : Int} (hg : ps[k]? = some (x, y)) (hv : ¬ (vPart x y = true ∧ needs1 x ≤ d)) : scanD (ps.drop k) d = none := by
  obtain ⟨hk, e⟩ := List.getElem?_eq_some_iff.1 hg
  rw [List.drop_eq_getElem_cons hk, e, scanD, if_neg hv]
theorem vCond_none {ps : List (Int × Int)} (h : scanD ps 0 = none) : vCond ps = false := by simp [vCond, h]
theorem vCond_some {ps : List (Int × Int)} {d : Int} (h : scanD ps 0 = some d) : vCond ps = (inR ps.length 1 12 && (d == 1)) := by
  simp [vCond, h]; rfl

/-- A variable stands in the condition. -/
def hasV (ps : List (Int × Int)) (v : Int) : Bool := ps.any fun p => p.1 == 1 && p.2 == v
/-- The variables below k that stand in it. -/
def usedUp (ps : List (Int × Int)) (k : Nat) : List Int := ((List.range k).filter fun (v : Nat) => hasV ps (v : Int)).map fun (v : Nat) => (v : Int)
/-- The variables of a condition. -/
def usedOf (ps : List (Int × Int)) : List Int := if vCond ps then usedUp ps 4 else []
theorem usedUp_yes {ps : List (Int × Int)} {k : Nat} (h : hasV ps k = true) : usedUp ps (k + 1) = usedUp ps k ++ [(k : Int)] := by
  simp [usedUp, List.range_succ, h]
theorem usedUp_no {ps : List (Int × Int)} {k : Nat} (h : hasV ps k = false) : usedUp ps (k + 1) = usedUp ps k := by
  simp [usedUp, List.range_succ, h]
theorem usedUp_le (ps : List (Int × Int)) (k : Nat) : (usedUp ps k).length ≤ k := by
  have := List.length_filter_le (fun (v : Nat) => hasV ps (v : Int)) (List.range k)
  simp [usedUp] at *; omega
theorem hasV_step {ps : List (Int × Int)} {k : Nat} {x y v : Int} {b : Bool} (hg : ps[k]? = some (x, y)) (h : hasV ps v = (b || hasV (ps.drop k) v)) : hasV ps v = ((b || (x == 1 && y == v)) || hasV (ps.drop (k + 1)) v) := by
  rw [h, drop_cons2 hg]
  simp [hasV, Bool.or_assoc]

theorem scanD_parts : ∀ {ps : List (Int × Int)} {d r : Int}, scanD ps d = some r → ∀ q ∈ ps, vPart q.1 q.2 = true
  | [], _, _, _, q, h => by cases h
  | p :: ps, d, r, h, q, hq => by
    rw [scanD] at h
    split at h
    · rename_i hc
      rcases List.mem_cons.1 hq with rfl | hq
      · exact hc.1
      · exact scanD_parts h q hq
    · cases h
theorem vCond_parts {ps : List (Int × Int)} (h : vCond ps = true) {k : Nat} {x y : Int} (hg : ps[k]? = some (x, y)) : vPart x y = true := by
  simp [vCond] at h
  exact scanD_parts h.2 (x, y) (List.mem_of_getElem? hg)
theorem vPart_var {y : Int} (h : vPart 1 y = true) : y = 0 ∨ y = 1 ∨ y = 2 ∨ y = 3 := by
  have h' : inR y 0 3 = true := by simpa [vPart] using h
  have := inR_iff.1 h'; omega
theorem vCond_len {ps : List (Int × Int)} (h : vCond ps = true) : 1 ≤ ps.length ∧ ps.length ≤ 12 := by
  simp [vCond] at h
  have := inR_iff.1 h.1; omega
/-- The condition has a variable. -/
def anyVar (ps : List (Int × Int)) : Bool := ps.any fun p => p.1 == 1
theorem anyVar_step {ps : List (Int × Int)} {k : Nat} {x y : Int} {b : Bool} (hg : ps[k]? = some (x, y)) (h : anyVar ps = (b || anyVar (ps.drop k))) : anyVar ps = ((b || x == 1) || anyVar (ps.drop (k + 1))) := by
  rw [h, drop_cons2 hg]
  simp [anyVar, Bool.or_assoc]
theorem used_mem {ps : List (Int × Int)} {x : Int} (h : x ∈ usedOf ps) : 0 ≤ x ∧ x < 4 := by
  unfold usedOf at h
  split at h
  · simp [usedUp] at h
    obtain ⟨a, ⟨ha, _⟩, rfl⟩ := h
    omega
  · cases h
theorem used_sorted (ps : List (Int × Int)) : (usedOf ps).Pairwise (· < ·) := by
  unfold usedOf
  split
  · unfold usedUp
    rw [List.pairwise_map]
    refine List.Pairwise.imp (R := (· < ·)) (fun h => by omega) ?_
    exact List.Pairwise.filter _ List.pairwise_lt_range
  · exact List.Pairwise.nil
theorem used_up {ps : List (Int × Int)} {i : Nat} {x y : Int} (hx : (usedOf ps)[i]? = some x) (hy : (usedOf ps)[i + 1]? = some y) : x < y := by
  obtain ⟨h1, e1⟩ := List.getElem?_eq_some_iff.1 hx
  obtain ⟨h2, e2⟩ := List.getElem?_eq_some_iff.1 hy
  have := List.pairwise_iff_getElem.1 (used_sorted ps) i (i + 1) h1 h2 (by omega)
  rw [e1, e2] at this
  exact this
theorem used_some {ps : List (Int × Int)} (h : vCond ps = true) : anyVar ps = decide (0 < (usedOf ps).length) := by
  rw [Bool.eq_iff_iff, decide_eq_true_iff, usedOf, if_pos h]
  constructor
  · intro ha
    simp only [anyVar, List.any_eq_true] at ha
    obtain ⟨⟨x, y⟩, hm, hx⟩ := ha
    simp at hx
    subst hx
    obtain ⟨k, hk, e⟩ := List.getElem_of_mem hm
    have hv := vPart_var (vCond_parts h (k := k) (x := 1) (y := y) (by rw [List.getElem?_eq_getElem hk, e]))
    have hin : y ∈ usedUp ps 4 := by
      have hh : hasV ps y = true := by
        simp only [hasV, List.any_eq_true]
        exact ⟨_, hm, by simp⟩
      simp only [usedUp, List.mem_map, List.mem_filter, List.mem_range]
      refine ⟨y.toNat, ⟨by omega, ?_⟩, by omega⟩
      rwa [Int.toNat_of_nonneg (by omega)]
    exact List.length_pos_of_mem hin
  · intro hl
    obtain ⟨y, hy⟩ := List.exists_mem_of_length_pos hl
    simp only [usedUp, List.mem_map, List.mem_filter] at hy
    obtain ⟨a, ⟨_, ha⟩, _⟩ := hy
    simp only [hasV, List.any_eq_true] at ha
    obtain ⟨q, hq, h1⟩ := ha
    simp at h1
    simp only [anyVar, List.any_eq_true]
    exact ⟨q, hq, by simp [h1.1]⟩
theorem used_le (ps : List (Int × Int)) : (usedOf ps).length ≤ 4 := by
  unfold usedOf
  split
  · exact usedUp_le ps 4
  · simp
theorem hasV_take {ps : List (Int × Int)} {k : Nat} {x y v : Int} (hg : ps[k]? = some (x, y)) : hasV (ps.take (k + 1)) v = (hasV (ps.take k) v || (x == 1 && y == v)) := by
  rw [take_snoc hg]
  simp [hasV]
end Go.Proofs.YtknphikoikdcjaaGreat


/- Flows of a process, in plain mathematics. No program. -/
namespace Go.Proofs.YtknphikoikdcjaaGreat
open Go.RowKit

theorem drop_flw {α : Type} {l : List α} {k : Nat} {x : α} (h : l[k]? = some x) : l.drop k = x :: l.drop (k + 1) := by
  obtain ⟨hk, e⟩ := List.getElem?_eq_some_iff.1 h
  rw [List.drop_eq_getElem_cons hk, e]
/-- A flow: from, to, its condition. -/
abbrev Flw := Int × Int × List (Int × Int)
/-- The end of a flow. -/
def endOf (out : Bool) (f : Flw) : Int := if out then f.1 else f.2.1
/-- The numbers below k of the flows with that end. -/
def flUp (fs : List Flw) (out : Bool) (node : Int) (k : Nat) : List Int :=
  ((List.range k).filter fun i => match fs[i]? with | some f => endOf out f == node | none => false).map fun (i : Nat) => (i : Int)
def flOf (fs : List Flw) (out : Bool) (node : Int) : List Int := flUp fs out node fs.length
theorem flUp_yes {fs : List Flw} {out : Bool} {node : Int} {k : Nat} {f : Flw} (hg : fs[k]? = some f) (h : endOf out f = node) : flUp fs out node (k + 1) = flUp fs out node k ++ [(k : Int)] := by
  simp [flUp, List.range_succ, hg, h]
theorem flUp_no {fs : List Flw} {out : Bool} {node : Int} {k : Nat} {f : Flw} (hg : fs[k]? = some f) (h : ¬ endOf out f = node) : flUp fs out node (k + 1) = flUp fs out node k := by
  simp [flUp, List.range_succ, hg, h]
theorem flUp_le (fs : List Flw) (out : Bool) (node : Int) (k : Nat) : (flUp fs out node k).length ≤ k := by
  have := List.length_filter_le (fun i => match fs[i]? with | some f => endOf out f == node | none => false) (List.range k)
  simpa [flUp] using this

/-- A node has a value that goes with its kind. -/
def vVal (kind value : Int) : Bool := if kind = 3 then inR value 1 100 else if kind = 4 then inR value 0 9 else decide (value = 0)
/-- A node of the kind may have i flows into it and o out of it. -/
def vKind (kind : Int) (i o : Int) : Bool :=
  if kind = 0 then decide (i = 0) && decide (o = 1) else if kind = 1 then decide (i = 1) && decide (o = 0)
  else if kind = 2 ∨ kind = 3 ∨ kind = 4 then decide (i = 1) && decide (o = 1) else if kind = 5 ∨ kind = 6 then decide (i = 1) && decide (2 ≤ o)
  else if kind = 7 ∨ kind = 8 then decide (2 ≤ i) && decide (o = 1) else false
def vNode (kind value : Int) (i o : Nat) : Bool := vVal kind value && vKind kind i o
/-- A flow lies between nodes, and has a valid condition or an empty one; only behind a choice has it one. -/
def vFlow (ns : List (Int × Int)) (f : Flw) : Bool :=
  inR f.1 0 (ns.length - 1) && inR f.2.1 0 (ns.length - 1) && (f.2.2.isEmpty || ((ns[f.1.toNat]?.map Prod.fst) == some 5 && vCond f.2.2))
def nStarts (ns : List (Int × Int)) : Nat := ns.countP fun n => n.1 == 0
/-- These nodes, the first of them number k, have the flows of their kinds. -/
def vNodesR (fs : List Flw) : List (Int × Int) → Nat → Bool
  | [], _ => true
  | p :: ps, k => vNode p.1 p.2 (flOf fs false k).length (flOf fs true k).length && vNodesR fs ps (k + 1)
/-- A process is valid. -/
def vProc (ns : List (Int × Int)) (fs : List Flw) : Bool :=
  inR ns.length 2 10 && decide (fs.length ≤ 14) && fs.all (vFlow ns) && vNodesR fs ns 0 && decide (nStarts ns = 1)
theorem flw_hit {g : Flw → Bool} {fs : List Flw} {k : Nat} {f : Flw} (hg : fs[k]? = some f) (h : g f = true) : (fs.drop k).all g = (fs.drop (k + 1)).all g := by
  rw [drop_flw hg, List.all_cons, h, Bool.true_and]
theorem flw_miss {g : Flw → Bool} {fs : List Flw} {k : Nat} {f : Flw} (hg : fs[k]? = some f) (h : g f = false) : (fs.drop k).all g = false := by
  rw [drop_flw hg, List.all_cons, h, Bool.false_and]
theorem node_hit {fs : List Flw} {ns : List (Int × Int)} {k : Nat} {x y : Int} (hg : ns[k]? = some (x, y)) (h : vNode x y (flOf fs false k).length (flOf fs true k).length = true) : vNodesR fs (ns.drop k) k = vNodesR fs (ns.drop (k + 1)) (k + 1) := by
  rw [drop_flw hg, vNodesR, h, Bool.true_and]
theorem node_miss {fs : List Flw} {ns : List (Int × Int)} {k : Nat} {x y : Int} (hg : ns[k]? = some (x, y)) (h : vNode x y (flOf fs false k).length (flOf fs true k).length = false) : vNodesR fs (ns.drop k) k = false := by
  rw [drop_flw hg, vNodesR, h, Bool.false_and]
theorem start_hit {ns : List (Int × Int)} {k : Nat} {y : Int} (hg : ns[k]? = some (0, y)) : nStarts (ns.drop k) = 1 + nStarts (ns.drop (k + 1)) := by
  rw [drop_flw hg]; simp [nStarts]; omega
theorem start_miss {ns : List (Int × Int)} {k : Nat} {x y : Int} (hg : ns[k]? = some (x, y)) (h : ¬ x = 0) : nStarts (ns.drop k) = nStarts (ns.drop (k + 1)) := by
  rw [drop_flw hg]; simp [nStarts, h]
end Go.Proofs.YtknphikoikdcjaaGreat


/- What a condition comes to, in plain mathematics. No program. -/
namespace Go.Proofs.YtknphikoikdcjaaGreat
open Go.RowKit

def tr (b : Bool) : Int := if b then 1 else 0
def lim (n : Int) : Int := if n < -9999 then -9999 else if 9999 < n then 9999 else n
/-- The result of a part that takes two values. -/
def opv (k a b : Int) : Int :=
  if k = 3 then lim (a + b) else if k = 4 then lim (a - b) else if k = 5 then tr (a != 0 && b != 0) else if k = 6 then tr (a != 0 || b != 0) else if k = 7 then tr (decide (a < b)) else tr (a == b)
/-- What a part puts. -/
def putV (k v : Int) (taken vs : List Int) : Int :=
  if k = 0 then v else if k = 1 then vs.getD v.toNat 0 else if k = 2 then tr (taken.getD 0 0 == 0) else opv k (taken.getD 0 0) (taken.getD 1 0)
/-- The stack behind a part. -/
def stepV (vs : List Int) (p : Int × Int) (st : List Int) : List Int :=
  st.take (st.length - (needs1 p.1).toNat) ++ [putV p.1 p.2 (st.drop (st.length - (needs1 p.1).toNat)) vs]
def evalL (vs : List Int) : List (Int × Int) → List Int → List Int
  | [], st => st
  | p :: ps, st => evalL vs ps (stepV vs p st)
def vVals (vs : List Int) : Bool := decide (vs.length = 4) && vs.all fun x => inR x (-9999) 9999
/-- The value of a condition. -/
def evalOf (ps : List (Int × Int)) (vs : List Int) : Int := if vCond ps && vVals vs then (evalL vs ps []).getD 0 0 else 0
/-- All numbers are in the range of values. -/
def Small (st : List Int) : Prop := ∀ x ∈ st, -9999 ≤ x ∧ x ≤ 9999

theorem tr_small (b : Bool) : -9999 ≤ tr b ∧ tr b ≤ 9999 := by cases b <;> simp [tr]
theorem lim_small (n : Int) : -9999 ≤ lim n ∧ lim n ≤ 9999 := by unfold lim; split <;> (try split) <;> omega
theorem opv_small (k a b : Int) : -9999 ≤ opv k a b ∧ opv k a b ≤ 9999 := by
  unfold opv
  split
  · exact lim_small _
  split
  · exact lim_small _
  split
  · exact tr_small _
  split
  · exact tr_small _
  split <;> exact tr_small _
theorem vVals_len {vs : List Int} (h : vVals vs = true) : vs.length = 4 := by simp [vVals] at h; exact h.1
theorem vVals_small {vs : List Int} (h : vVals vs = true) : Small vs := by
  simp [vVals] at h
  intro x hx
  exact inR_iff.1 (h.2 x hx)
theorem putV_small {k v : Int} {taken vs : List Int} (hv : vPart k v = true) (hvs : vVals vs = true) : -9999 ≤ putV k v taken vs ∧ putV k v taken vs ≤ 9999 := by
  unfold putV
  by_cases h0 : k = 0
  · subst h0
    rw [if_pos rfl]
    have h' : inR v (-9999) 9999 = true := by simpa [vPart] using hv
    exact inR_iff.1 h'
  rw [if_neg h0]
  by_cases h1 : k = 1
  · subst h1
    rw [if_pos rfl]
    have := vPart_var hv
    have hl := vVals_len hvs
    have hlt : v.toNat < vs.length := by omega
    rw [List.getD_eq_getElem?_getD, List.getElem?_eq_getElem hlt]
    exact vVals_small hvs _ (List.getElem_mem _)
  rw [if_neg h1]
  split
  · exact tr_small _
  · exact opv_small _ _ _
theorem stepV_small {vs st : List Int} {x y : Int} (hv : vPart x y = true) (hvs : vVals vs = true) (hs : Small st) : Small (stepV vs (x, y) st) := by
  intro z hz
  simp only [stepV, List.mem_append, List.mem_singleton] at hz
  rcases hz with hz | rfl
  · exact hs z (List.mem_of_mem_take hz)
  · exact putV_small hv hvs
theorem stepV_length {vs st : List Int} {p : Int × Int} (h : needs1 p.1 ≤ st.length) : ((stepV vs p st).length : Int) = st.length - needs1 p.1 + 1 := by
  have := needs1_bd p.1
  simp only [stepV, List.length_append, List.length_take, List.length_singleton]
  omega
theorem stepV_0 (vs st : List Int) (y : Int) : stepV vs (0, y) st = st ++ [y] := by simp [stepV, needs1, putV]
theorem stepV_1 (vs st : List Int) (y : Int) : stepV vs (1, y) st = st ++ [vs.getD y.toNat 0] := by simp [stepV, needs1, putV]
theorem stepV_2 (vs s : List Int) (y a : Int) : stepV vs (2, y) (s ++ [a]) = s ++ [tr (a == 0)] := by simp [stepV, needs1, putV]
theorem stepV_op (vs s : List Int) (x y a b : Int) (h : 3 ≤ x) : stepV vs (x, y) (s ++ [a, b]) = s ++ [opv x a b] := by
  have h0 : ¬ (x = 0 ∨ x = 1) := by omega
  have h2 : ¬ x = 2 := by omega
  have h00 : ¬ x = 0 := by omega
  have h01 : ¬ x = 1 := by omega
  simp [stepV, needs1, putV, h2, h00, h01]
theorem last_one {st : List Int} (h : 1 ≤ st.length) : ∃ s a, st = s ++ [a] := by
  have hn : st ≠ [] := by intro e; subst e; simp at h
  exact ⟨st.dropLast, st.getLast hn, (List.dropLast_concat_getLast hn).symm⟩
theorem last_two {st : List Int} (h : 2 ≤ st.length) : ∃ s a b, st = s ++ [a, b] := by
  obtain ⟨s, b, rfl⟩ := last_one (show 1 ≤ st.length by omega)
  obtain ⟨s', a, rfl⟩ := last_one (st := s) (by simp at h; omega)
  exact ⟨s', a, b, by simp⟩
theorem evalL_step {ps : List (Int × Int)} {vs st : List Int} {k : Nat} {x y : Int} (hg : ps[k]? = some (x, y)) : evalL vs (ps.drop k) st = evalL vs (ps.drop (k + 1)) (stepV vs (x, y) st) := by
  rw [drop_cons2 hg]; rfl
/-- In a valid condition no part takes what is not there. -/
theorem scan_need {ps : List (Int × Int)} {k : Nat} {x y d r : Int} (hg : ps[k]? = some (x, y)) (h : scanD (ps.drop k) d = some r) : needs1 x ≤ d := by
  rw [drop_cons2 hg, scanD] at h
  split at h
  · rename_i hc; exact hc.2
  · cases h
theorem vCond_scan {ps : List (Int × Int)} (h : vCond ps = true) : scanD ps 0 = some 1 := by
  simp [vCond] at h; exact h.2
end Go.Proofs.YtknphikoikdcjaaGreat


/- Which nodes flows lead to, in plain mathematics. No program. -/
namespace Go.Proofs.YtknphikoikdcjaaGreat
open Go.RowKit

/-- A flow leads from a to b. -/
def Stp (fs : List Flw) (a b : Int) : Prop := ∃ f ∈ fs, f.1 = a ∧ f.2.1 = b
/-- Flows lead from a to c, none or more. -/
inductive Rch (fs : List Flw) (a : Int) : Int → Prop
  | refl : Rch fs a a
  | step {b c : Int} (h : Rch fs a b) (s : Stp fs b c) : Rch fs a c
/-- One or more. -/
def Rch1 (fs : List Flw) (a c : Int) : Prop := ∃ b, Stp fs a b ∧ Rch fs b c
theorem Rch.trans {fs : List Flw} {a b c : Int} (h : Rch fs a b) (k : Rch fs b c) : Rch fs a c := by
  induction k with
  | refl => exact h
  | step _ s ih => exact ih.step s
theorem Rch1.of_step {fs : List Flw} {a b c : Int} (h : Rch fs a b) (s : Stp fs b c) : Rch1 fs a c := by
  induction h generalizing c with
  | refl => exact ⟨c, s, .refl⟩
  | step _ s' ih =>
    obtain ⟨d, h1, h2⟩ := ih s'
    exact ⟨d, h1, h2.step s⟩
theorem Rch1.rch {fs : List Flw} {a c : Int} (h : Rch1 fs a c) : Rch fs a c := by
  obtain ⟨b, s, k⟩ := h
  exact (Rch.refl.step s).trans k
theorem Rch.cases' {fs : List Flw} {a c : Int} (h : Rch fs a c) : a = c ∨ Rch1 fs a c := by
  cases h with
  | refl => exact .inl rfl
  | step h s => exact .inr (Rch1.of_step h s)
theorem Rch1.last {fs : List Flw} {a c : Int} (h : Rch1 fs a c) : ∃ b, Rch fs a b ∧ Stp fs b c := by
  obtain ⟨b, s, k⟩ := h
  cases k with
  | refl => exact ⟨a, .refl, s⟩
  | step k s' => exact ⟨_, (Rch.refl.step s).trans k, s'⟩
open Classical in
noncomputable def rchB (fs : List Flw) (a c : Int) : Bool := decide (Rch fs a c)
open Classical in
noncomputable def rch1B (fs : List Flw) (a c : Int) : Bool := decide (Rch1 fs a c)
theorem rchB_iff {fs : List Flw} {a c : Int} : rchB fs a c = true ↔ Rch fs a c := by simp [rchB]
theorem rch1B_iff {fs : List Flw} {a c : Int} : rch1B fs a c = true ↔ Rch1 fs a c := by simp [rch1B]

/-- All ends of the flows are numbers of N nodes. -/
def Inside (fs : List Flw) (N : Nat) : Prop := ∀ f ∈ fs, 0 ≤ f.1 ∧ f.1 < (N : Int) ∧ 0 ≤ f.2.1 ∧ f.2.1 < (N : Int)
theorem Inside.rch {fs : List Flw} {N : Nat} (h : Inside fs N) {a c : Int} (ha : 0 ≤ a ∧ a < (N : Int)) (k : Rch fs a c) : 0 ≤ c ∧ c < (N : Int) := by
  cases k with
  | refl => exact ha
  | step _ s =>
    obtain ⟨f, hf, rfl, rfl⟩ := s
    have := h f hf
    exact ⟨this.2.2.1, this.2.2.2⟩

/-! ### Sweeps over all flows -/
def relax (s : List Bool) (f : Flw) : List Bool := if s[f.1.toNat]? = some true then s.set f.2.1.toNat true else s
def Sound (fs : List Flw) (a : Int) (s : List Bool) : Prop := ∀ i : Nat, s[i]? = some true → Rch fs a (i : Int)
def ClosedB (s : List Bool) (fs : List Flw) : Prop := ∀ f ∈ fs, s[f.1.toNat]? = some true → s[f.2.1.toNat]? = some true
def cnt (s : List Bool) : Nat := s.countP id
theorem cnt_le (s : List Bool) : cnt s ≤ s.length := List.countP_le_length
theorem cnt_set : ∀ (s : List Bool) (i : Nat), s[i]? = some false → cnt (s.set i true) = cnt s + 1
  | [], i, h => by simp at h
  | b :: s, 0, h => by
    simp at h
    subst h
    simp [cnt]
  | b :: s, i + 1, h => by
    have := cnt_set s i (by simpa using h)
    simp only [List.set_cons_succ, cnt, List.countP_cons] at this ⊢
    omega
theorem set_same : ∀ (s : List Bool) (i : Nat), s[i]? = some true → s.set i true = s
  | [], i, h => by simp at h
  | b :: s, 0, h => by simp at h; simp [h]
  | b :: s, i + 1, h => by simp [set_same s i (by simpa using h)]
structure Sweep (fs : List Flw) (a : Int) (N k j : Nat) (s : List Bool) : Prop where
  len : s.length = N
  sound : Sound fs a s
  at_a : s[a.toNat]? = some true
  prog : ClosedB s fs ∨ k + 2 ≤ cnt s ∨ (ClosedB s (fs.take j) ∧ k + 1 ≤ cnt s)
theorem Sweep.start {fs : List Flw} {a : Int} {N : Nat} (ha : 0 ≤ a ∧ a < (N : Int)) : Sweep fs a N 0 0 ((List.replicate N false).set a.toNat true) := by
  have hl : a.toNat < N := by omega
  refine ⟨by simp, fun i hi => ?_, by simp [hl], .inr (.inr ⟨fun f hf => by simp at hf, ?_⟩)⟩
  · by_cases hia : i = a.toNat
    · subst hia
      rw [Int.toNat_of_nonneg ha.1]; exact .refl
    · rw [List.getElem?_set_ne (fun e => hia e.symm)] at hi
      rw [List.getElem?_replicate] at hi
      split at hi <;> simp at hi
  · rw [cnt_set _ _ (by rw [List.getElem?_replicate, if_pos hl])]
    omega
theorem Sweep.step {fs : List Flw} {a : Int} {N k j : Nat} {s : List Bool} {f : Flw} (hin : Inside fs N) (h : Sweep fs a N k j s) (hf : fs[j]? = some f) : Sweep fs a N k (j + 1) (relax s f) := by
  have hm : f ∈ fs := List.mem_of_getElem? hf
  have hi := hin f hm
  unfold relax
  by_cases h1 : s[f.1.toNat]? = some true
  · rw [if_pos h1]
    have hto : f.2.1.toNat < s.length := by rw [h.len]; omega
    rcases hb : s[f.2.1.toNat]? with _ | b
    · rw [List.getElem?_eq_none_iff] at hb; omega
    cases b with
    | true =>
      rw [set_same s _ hb]
      refine ⟨h.len, h.sound, h.at_a, ?_⟩
      rcases h.prog with h2 | h2 | ⟨h2, h3⟩
      · exact .inl h2
      · exact .inr (.inl h2)
      · refine .inr (.inr ⟨fun g hg hg1 => ?_, h3⟩)
        rw [take_snoc hf] at hg
        rcases List.mem_append.1 hg with hg | hg
        · exact h2 g hg hg1
        · simp at hg; subst hg; exact hb
    | false =>
      refine ⟨by simp [h.len], fun i hi' => ?_, ?_, ?_⟩
      · by_cases hif : i = f.2.1.toNat
        · subst hif
          have hr := h.sound _ h1
          rw [Int.toNat_of_nonneg hi.1] at hr
          rw [Int.toNat_of_nonneg hi.2.2.1]
          exact hr.step ⟨f, hm, rfl, rfl⟩
        · rw [List.getElem?_set_ne (fun e => hif e.symm)] at hi'
          exact h.sound i hi'
      · by_cases hat : f.2.1.toNat = a.toNat
        · rw [hat] at hto ⊢
          rw [List.getElem?_set_self hto]
        · rw [List.getElem?_set_ne hat]; exact h.at_a
      · have hc := cnt_set s _ hb
        rcases h.prog with h2 | h2 | ⟨h2, h3⟩
        · have := h2 f hm h1
          rw [hb] at this; cases this
        · exact .inr (.inl (by omega))
        · exact .inr (.inl (by omega))
  · rw [if_neg h1]
    refine ⟨h.len, h.sound, h.at_a, ?_⟩
    rcases h.prog with h2 | h2 | ⟨h2, h3⟩
    · exact .inl h2
    · exact .inr (.inl h2)
    · refine .inr (.inr ⟨fun g hg hg1 => ?_, h3⟩)
      rw [take_snoc hf] at hg
      rcases List.mem_append.1 hg with hg | hg
      · exact h2 g hg hg1
      · simp at hg; subst hg; exact absurd hg1 h1
theorem Sweep.round {fs : List Flw} {a : Int} {N k : Nat} {s : List Bool} (h : Sweep fs a N k fs.length s) : Sweep fs a N (k + 1) 0 s := by
  refine ⟨h.len, h.sound, h.at_a, ?_⟩
  rcases h.prog with h2 | h2 | ⟨h2, h3⟩
  · exact .inl h2
  · exact .inr (.inr ⟨fun f hf => by simp at hf, by omega⟩)
  · rw [List.take_length] at h2
    exact .inl h2
theorem Sweep.done {fs : List Flw} {a : Int} {N : Nat} {s : List Bool} (_hin : Inside fs N) (_ha : 0 ≤ a ∧ a < (N : Int)) (h : Sweep fs a N N 0 s) {i : Nat} (hi : i < N) : s[i]? = some (rchB fs a (i : Int)) := by
  have hc : ClosedB s fs := by
    have hl := cnt_le s
    rw [h.len] at hl
    rcases h.prog with h2 | h2 | ⟨_, h3⟩
    · exact h2
    · omega
    · omega
  have hall : ∀ c, Rch fs a c → s[c.toNat]? = some true := by
    intro c hr
    induction hr with
    | refl => exact h.at_a
    | step _ st ih =>
      obtain ⟨f, hf, rfl, rfl⟩ := st
      exact hc f hf ih
  rcases hb : s[i]? with _ | b
  · rw [List.getElem?_eq_none_iff, h.len] at hb; omega
  congr 1
  cases b with
  | true => exact (rchB_iff.2 (h.sound i hb)).symm
  | false =>
    symm
    rw [Bool.eq_false_iff]
    intro hr
    have := hall _ (rchB_iff.1 hr)
    simp [hb] at this

/-! ### A search with a queue -/
/-- What stands in the middle of a search from a: bh: found; q: the queue. -/
structure Bfs (fs : List Flw) (a : Int) (bh : Int → Bool) (q : List Int) : Prop where
  sound : ∀ z, bh z = true → Rch1 fs a z
  queue : ∀ z ∈ q, z = a ∨ bh z = true
  open_ : ∀ z, z = a ∨ bh z = true → z ∈ q ∨ ∀ c, Stp fs z c → bh c = true
theorem Bfs.start (fs : List Flw) (a : Int) : Bfs fs a (fun _ => false) [a] :=
  ⟨(fun _ h => by cases h), fun z h => Or.inl (by simpa using h), fun z h => Or.inl (by
    rcases h with rfl | h
    · simp
    · cases h)⟩
theorem Bfs.push {fs : List Flw} {a : Int} {bh : Int → Bool} {x c : Int} {q : List Int} (h : Bfs fs a bh (x :: q)) (hs : Stp fs x c) : Bfs fs a (fun z => z == c || bh z) (x :: q ++ [c]) := by
  refine ⟨fun z hz => ?_, fun z hz => ?_, fun z hz => ?_⟩
  · simp at hz
    rcases hz with rfl | hz
    · rcases h.queue x (by simp) with rfl | hx
      · exact ⟨_, hs, .refl⟩
      · exact Rch1.of_step (h.sound x hx).rch hs
    · exact h.sound z hz
  · rw [List.mem_append] at hz
    rcases hz with hz | hz
    · rcases h.queue z hz with h1 | h1
      · exact .inl h1
      · exact .inr (by simp [h1])
    · simp at hz
      exact .inr (by simp [hz])
  · by_cases hc : z = c
    · exact .inl (by simp [hc])
    · have hz' : z = a ∨ bh z = true := by simpa [hc] using hz
      rcases h.open_ z hz' with h1 | h1
      · exact .inl (List.mem_append_left _ h1)
      · exact .inr fun d hd => by simp [h1 d hd]
theorem Bfs.pop {fs : List Flw} {a : Int} {bh : Int → Bool} {x : Int} {q : List Int} (h : Bfs fs a bh (x :: q)) (hx : ∀ c, Stp fs x c → bh c = true) : Bfs fs a bh q := by
  refine ⟨h.sound, fun z hz => h.queue z (List.mem_cons_of_mem _ hz), fun z hz => ?_⟩
  rcases h.open_ z hz with h1 | h1
  · rcases List.mem_cons.1 h1 with rfl | h1
    · exact .inr hx
    · exact .inl h1
  · exact .inr h1
theorem Bfs.done {fs : List Flw} {a : Int} {bh : Int → Bool} (h : Bfs fs a bh []) (z : Int) : bh z = rch1B fs a z := by
  have hcl : ∀ z, z = a ∨ bh z = true → ∀ c, Stp fs z c → bh c = true := by
    intro z hz
    rcases h.open_ z hz with h1 | h1
    · simp at h1
    · exact h1
  have hall : ∀ c, Rch1 fs a c → bh c = true := by
    intro c hr
    obtain ⟨b, hs, hr⟩ := hr
    induction hr with
    | refl => exact hcl a (.inl rfl) _ hs
    | step _ st ih => exact hcl _ (.inr ih) _ st
  cases hb : bh z with
  | true => exact (rch1B_iff.2 (h.sound z hb)).symm
  | false =>
    symm
    rw [Bool.eq_false_iff]
    intro hr
    have := hall z (rch1B_iff.1 hr)
    rw [hb] at this
    cases this
/-- How many of the nodes are not found yet. -/
def unfound (bh : Int → Bool) (N : Nat) : Nat := (List.range N).countP fun (i : Nat) => !bh (i : Int)
theorem unfound_push {bh : Int → Bool} {c : Int} : ∀ {N : Nat}, bh c = false → 0 ≤ c → c < (N : Int) → unfound (fun z => z == c || bh z) N + 1 = unfound bh N
  | 0, _, h0, h1 => by omega
  | N + 1, hb, h0, h1 => by
    unfold unfound
    rw [List.range_succ, List.countP_append, List.countP_append]
    by_cases hc : c = (N : Int)
    · subst hc
      have e : (List.range N).countP (fun (i : Nat) => !(((i : Int) == (N : Int)) || bh (i : Int))) = (List.range N).countP (fun (i : Nat) => !bh (i : Int)) := by
        refine List.countP_congr fun i hi => ?_
        have : i < N := List.mem_range.1 hi
        have : ((i : Int) == (N : Int)) = false := by simp; omega
        simp [this]
      rw [e]
      simp [hb]
    · have ih := unfound_push (N := N) hb h0 (by omega)
      unfold unfound at ih
      dsimp only at ih
      have hne : ((N : Int) == c) = false := by simp; omega
      simp only [List.countP_cons, List.countP_nil, hne, Bool.false_or]
      omega
end Go.Proofs.YtknphikoikdcjaaGreat


/- The flows of nodes, in plain mathematics: who is among them, how many they are, that they ascend. No program. -/
namespace Go.Proofs.YtknphikoikdcjaaGreat
open Go.RowKit

theorem flOf_mem {fs : List Flw} {out : Bool} {node z : Int} : z ∈ flOf fs out node ↔ ∃ (k : Nat) (f : Flw), z = (k : Int) ∧ fs[k]? = some f ∧ endOf out f = node := by
  unfold flOf flUp
  simp only [List.mem_map, List.mem_filter, List.mem_range]
  constructor
  · rintro ⟨k, ⟨hk, hf⟩, rfl⟩
    rw [List.getElem?_eq_getElem hk] at hf
    exact ⟨k, fs[k], rfl, List.getElem?_eq_getElem hk, by simpa using hf⟩
  · rintro ⟨k, f, rfl, hf, he⟩
    exact ⟨k, ⟨(List.getElem?_eq_some_iff.1 hf).1, by rw [hf]; simpa using he⟩, rfl⟩
theorem flUp_count (fs : List Flw) (out : Bool) (node : Int) : ∀ k, k ≤ fs.length → (flUp fs out node k).length = (fs.take k).countP fun f => endOf out f == node
  | 0, _ => by simp [flUp]
  | k + 1, h => by
    have ih := flUp_count fs out node k (by omega)
    have hk : k < fs.length := by omega
    have hg : fs[k]? = some fs[k] := List.getElem?_eq_getElem hk
    rw [take_snoc hg, List.countP_append]
    by_cases he : endOf out fs[k] = node
    · rw [flUp_yes hg he, List.length_append, ih]; simp [he]
    · rw [flUp_no hg he, ih]; simp [he]
theorem flOf_count (fs : List Flw) (out : Bool) (node : Int) : (flOf fs out node).length = fs.countP fun f => endOf out f == node := by
  rw [flOf, flUp_count fs out node fs.length (Nat.le_refl _), List.take_length]
/-- How many flows the nodes below m have together. -/
def flSum (fs : List Flw) (out : Bool) : Nat → Nat
  | 0 => 0
  | m + 1 => flSum fs out m + (flOf fs out (m : Int)).length
theorem flSum_cons (f : Flw) (fs : List Flw) (out : Bool) : ∀ m : Nat, 0 ≤ endOf out f → flSum (f :: fs) out m = flSum fs out m + if endOf out f < (m : Int) then 1 else 0
  | 0, h => by simp [flSum]; omega
  | m + 1, h => by
    have ih := flSum_cons f fs out m h
    simp only [flSum, ih, flOf_count, List.countP_cons]
    by_cases h1 : endOf out f = (m : Int)
    · rw [if_neg (show ¬ endOf out f < (m : Int) by omega), if_pos (show endOf out f < ((m + 1 : Nat) : Int) by omega), if_pos (show (endOf out f == (m : Int)) = true by simpa using h1)]
      omega
    · rw [if_neg (show ¬ (endOf out f == (m : Int)) = true by simpa using h1)]
      by_cases h2 : endOf out f < (m : Int)
      · rw [if_pos h2, if_pos (show endOf out f < ((m + 1 : Nat) : Int) by omega)]
        omega
      · rw [if_neg h2, if_neg (show ¬ endOf out f < ((m + 1 : Nat) : Int) by omega)]
        omega
theorem flSum_all : ∀ {fs : List Flw} {out : Bool} {N : Nat}, Inside fs N → flSum fs out N = fs.length
  | [], out, N, _ => by
    have : ∀ m, flSum [] out m = 0 := by
      intro m
      induction m with
      | zero => rfl
      | succ m ih => simp [flSum, ih, flOf, flUp]
    exact this N
  | f :: fs, out, N, h => by
    have hf := h f (by simp)
    have he : 0 ≤ endOf out f ∧ endOf out f < (N : Int) := by cases out <;> simp [endOf] <;> omega
    rw [flSum_cons f fs out N he.1, if_pos he.2, flSum_all (fun g hg => h g (by simp [hg]))]
    simp
theorem flSum_le (fs : List Flw) (out : Bool) : ∀ m, flSum fs out m ≤ m * fs.length
  | 0 => by simp [flSum]
  | m + 1 => by
    have := flSum_le fs out m
    have h2 := flUp_le fs out (m : Int) fs.length
    simp only [flSum, flOf] at *
    rw [Nat.add_mul]; omega
theorem flOf_sorted (fs : List Flw) (out : Bool) (node : Int) : (flOf fs out node).Pairwise (· < ·) := by
  unfold flOf flUp
  rw [List.pairwise_map]
  exact (List.Pairwise.filter _ List.pairwise_lt_range).imp (fun h => by omega)
theorem flOf_none {fs : List Flw} {N : Nat} (h : Inside fs N) {out : Bool} {node : Int} (hn : node < 0 ∨ (N : Int) ≤ node) : flOf fs out node = [] := by
  refine List.eq_nil_iff_forall_not_mem.2 fun z hz => ?_
  obtain ⟨k, f, rfl, hf, he⟩ := flOf_mem.1 hz
  have := h f (List.mem_of_getElem? hf)
  cases out <;> simp [endOf] at he <;> omega

/-- What a valid process is. -/
theorem vProc_inside {ns : List (Int × Int)} {fs : List Flw} (h : vProc ns fs = true) : Inside fs ns.length := by
  simp only [vProc, Bool.and_eq_true] at h
  intro f hf
  have h1 := List.all_eq_true.1 h.1.1.2 f hf
  simp only [vFlow, Bool.and_eq_true] at h1
  have a := inR_iff.1 h1.1.1
  have b := inR_iff.1 h1.1.2
  omega
theorem vProc_len {ns : List (Int × Int)} {fs : List Flw} (h : vProc ns fs = true) : 2 ≤ ns.length ∧ ns.length ≤ 10 ∧ fs.length ≤ 14 := by
  simp only [vProc, Bool.and_eq_true] at h
  have a := inR_iff.1 h.1.1.1.1
  have b : fs.length ≤ 14 := by simpa using h.1.1.1.2
  omega
theorem vNodesR_at {fs : List Flw} : ∀ {ns : List (Int × Int)} {k j : Nat} {x y : Int}, vNodesR fs ns k = true → ns[j]? = some (x, y) → vNode x y (flOf fs false ((k + j : Nat) : Int)).length (flOf fs true ((k + j : Nat) : Int)).length = true
  | [], _, _, _, _, _, e => by simp at e
  | p :: ns, k, 0, x, y, h, e => by
    simp at e
    subst e
    simp only [vNodesR, Bool.and_eq_true] at h
    exact h.1
  | p :: ns, k, j + 1, x, y, h, e => by
    simp only [vNodesR, Bool.and_eq_true] at h
    have := vNodesR_at h.2 (j := j) (by simpa using e)
    rwa [show k + 1 + j = k + (j + 1) by omega] at this
theorem vProc_node {ns : List (Int × Int)} {fs : List Flw} (h : vProc ns fs = true) {j : Nat} {x y : Int} (e : ns[j]? = some (x, y)) : vVal x y = true ∧ vKind x (flOf fs false (j : Int)).length (flOf fs true (j : Int)).length = true := by
  simp only [vProc, Bool.and_eq_true] at h
  have := vNodesR_at h.1.2 e
  rw [Nat.zero_add] at this
  simpa [vNode] using this
theorem vProc_starts {ns : List (Int × Int)} {fs : List Flw} (h : vProc ns fs = true) : nStarts ns = 1 := by
  simp only [vProc, Bool.and_eq_true] at h
  simpa using h.2
/-- Only ends have no flow out, and only the start has no flow in. -/
theorem vKind_out {x i o : Int} (h : vKind x i o = true) (_ho : 0 ≤ o) : o = 0 ↔ x = 1 := by
  unfold vKind at h
  split at h
  · simp at h; omega
  split at h
  · simp at h; omega
  split at h
  · simp at h; omega
  split at h
  · simp at h; omega
  split at h
  · simp at h; omega
  · cases h
theorem vKind_in {x i o : Int} (h : vKind x i o = true) (_hi : 0 ≤ i) : i = 0 ↔ x = 0 := by
  unfold vKind at h
  split at h
  · simp at h; omega
  split at h
  · simp at h; omega
  split at h
  · simp at h; omega
  split at h
  · simp at h; omega
  split at h
  · simp at h; omega
  · cases h
theorem vProc_two {ns : List (Int × Int)} {fs : List Flw} (h : vProc ns fs = true) : vProc (ns ++ [(0, 0)]) fs = false := by
  have h1 := vProc_starts h
  have h2 : nStarts (ns ++ [(0, 0)]) = 2 := by simp [nStarts] at h1 ⊢; omega
  simp [vProc, h2]
end Go.Proofs.YtknphikoikdcjaaGreat


/- A process in memory: a slice of nodes is a slice of pairs (Rd .. 2 .. pvs); a slice of flows holds a slice in each element. No program. -/
namespace Go.Proofs.YtknphikoikdcjaaGreat
open Go.RowKit

/-- Where the condition of a flow lies. -/
abbrev Hd := Option Addr × Nat × Nat
def hdv (h : Hd) : Value := .slice h.1 h.2.1 h.2.2
def fvs : List Flw → List Hd → List Value
  | f :: fs, h :: hs => .int .i64 f.1 :: .int .i64 f.2.1 :: hdv h :: fvs fs hs
  | _, _ => []
theorem fvs_get : ∀ (fs : List Flw) (hs : List Hd) (k : Nat) (f : Flw) (h : Hd), fs[k]? = some f → hs[k]? = some h → (fvs fs hs)[k * 3]? = some (.int .i64 f.1) ∧ (fvs fs hs)[k * 3 + 1]? = some (.int .i64 f.2.1) ∧ (fvs fs hs)[k * 3 + 2]? = some (hdv h)
  | [], _, _, _, _, e, _ => by simp at e
  | _ :: _, [], _, _, _, _, e => by simp at e
  | f :: fs, h :: hs, 0, f', h', e, e' => by
    simp at e e'
    subst e; subst e'
    simp [fvs]
  | f :: fs, h :: hs, k + 1, f', h', e, e' => by
    have := fvs_get fs hs k f' h' (by simpa using e) (by simpa using e')
    rw [show (k + 1) * 3 = k * 3 + 3 by omega]
    simpa [fvs] using this
theorem fvs_length : ∀ (fs : List Flw) (hs : List Hd), hs.length = fs.length → (fvs fs hs).length = fs.length * 3
  | [], [], _ => rfl
  | f :: fs, h :: hs, e => by
    have := fvs_length fs hs (by simpa using e)
    simp [fvs, this]; omega
  | f :: fs, [], e => by simp at e
  | [], h :: hs, e => by simp at e
theorem fvs_snoc : ∀ (fs : List Flw) (hs : List Hd) (f : Flw) (h : Hd), hs.length = fs.length → fvs (fs ++ [f]) (hs ++ [h]) = fvs fs hs ++ [.int .i64 f.1, .int .i64 f.2.1, hdv h]
  | [], [], _, _, _ => rfl
  | f0 :: fs, h0 :: hs, f, h, e => by
    have := fvs_snoc fs hs f h (by simpa using e)
    simp [fvs, this]
  | f :: fs, [], _, _, e => by simp at e
  | [], h :: hs, _, _, e => by simp at e
theorem fvs_one : ∀ (fs : List Flw) (hs : List Hd), ∀ u ∈ fvs fs hs, u.oneCell' = true
  | [], _, u, h => by simp [fvs] at h
  | _ :: _, [], u, h => by simp [fvs] at h
  | f :: fs, h0 :: hs, u, h => by
    simp [fvs] at h
    rcases h with rfl | rfl | rfl | h
    · rfl
    · rfl
    · rfl
    · exact fvs_one fs hs u h
/-- The slice reads as these flows, with their conditions, all between the blocks lo and hi. -/
def Fls (w : World) (lo hi : Nat) (A : Option Addr) (n : Nat) (fs : List Flw) : Prop :=
  fs.length = n ∧ ∃ hs : List Hd, hs.length = n ∧ Rd w lo hi 3 A n (fvs fs hs) ∧ ∀ (k : Nat) (f : Flw) (h : Hd), fs[k]? = some f → hs[k]? = some h → Rd w lo hi 2 h.1 h.2.1 (pvs f.2.2) ∧ h.2.1 ≤ 1048576
theorem Fls.keep {w w' : World} {lo hi B : Nat} {A : Option Addr} {n : Nat} {fs : List Flw} (h : Fls w lo hi A n fs) (hb : Below B w w') (hB : hi ≤ B) : Fls w' lo hi A n fs := by
  obtain ⟨hl, hs, hl', hr, hc⟩ := h
  exact ⟨hl, hs, hl', hr.keep hb hB, fun k f x e e' => ⟨(hc k f x e e').1.keep hb hB, (hc k f x e e').2⟩⟩
theorem Fls.wide {w : World} {lo hi lo' hi' : Nat} {A : Option Addr} {n : Nat} {fs : List Flw} (h : Fls w lo hi A n fs) (h1 : lo' ≤ lo) (h2 : hi ≤ hi') : Fls w lo' hi' A n fs := by
  obtain ⟨hl, hs, hl', hr, hc⟩ := h
  exact ⟨hl, hs, hl', hr.wide h1 h2, fun k f x e e' => ⟨(hc k f x e e').1.wide h1 h2, (hc k f x e e').2⟩⟩
/-- The cells of flow k. -/
theorem Fls.at {w : World} {lo hi : Nat} {A : Option Addr} {n : Nat} {fs : List Flw} (h : Fls w lo hi A n fs) {k : Nat} (hk : k < n) :
    ∃ b off x y ps A' m c', A = some ⟨b, off, none⟩ ∧ b < hi ∧ lo ≤ b ∧ fs[k]? = some (x, y, ps) ∧ w.cell? ⟨b, off + k * 3, none⟩ = some (.int .i64 x) ∧ w.cell? ⟨b, off + k * 3 + 1, none⟩ = some (.int .i64 y) ∧
      w.cell? ⟨b, off + k * 3 + 2, none⟩ = some (.slice A' m c') ∧ Rd w lo hi 2 A' m (pvs ps) ∧ m ≤ 1048576 := by
  obtain ⟨hl, hs, hl', hr, hc⟩ := h
  obtain ⟨b, off, e, h1, h2, hcl⟩ := hr.2 (by omega)
  have e1 : fs[k]? = some fs[k] := List.getElem?_eq_getElem (by omega)
  have e2 : hs[k]? = some hs[k] := List.getElem?_eq_getElem (by omega)
  have g := fvs_get fs hs k _ _ e1 e2
  have hr2 := hc k _ _ e1 e2
  refine ⟨b, off, fs[k].1, fs[k].2.1, fs[k].2.2, hs[k].1, hs[k].2.1, hs[k].2.2, e, h2, h1, e1, hcl _ _ g.1, ?_, ?_, hr2.1, hr2.2⟩
  · have := hcl _ _ g.2.1; rwa [← Nat.add_assoc] at this
  · have := hcl _ _ g.2.2; rwa [← Nat.add_assoc] at this
end Go.Proofs.YtknphikoikdcjaaGreat


/- append of a slice that reads so, nil or not, onto a row of the call's own. Plain theorems over any program. -/
namespace Go.Proofs.YtknphikoikdcjaaGreat
open Go.RowKit

theorem Rd.app {w : World} {lo hi size m : Nat} {A : Option Addr} {news : List Value} (hr : Rd w lo hi size A m news) : (A = none ∧ m = 0 ∧ news = []) ∨ ∃ a, A = some a ∧ ∀ j u, news[j]? = some u → w.cell? (a.add j) = some u := by
  cases A with
  | none =>
    have hm : m = 0 := by
      rcases Nat.eq_zero_or_pos m with h | h
      · exact h
      · obtain ⟨_, _, e, _⟩ := hr.form h; cases e
    subst hm
    exact .inl ⟨rfl, rfl, List.eq_nil_of_length_eq_zero (by rw [hr.1]; omega)⟩
  | some a =>
    refine .inr ⟨a, rfl, ?_⟩
    rcases Nat.eq_zero_or_pos m with h | h
    · intro j u hu
      rw [List.eq_nil_of_length_eq_zero (l := news) (by rw [hr.1, h]; omega)] at hu
      simp at hu
    · obtain ⟨b, off, e, _⟩ := hr.form h
      injection e with e
      subst e
      exact hr.src
theorem append_rd {P : Program} (w : World) (base : Nat) (t ty e : TypeId) (i : TypeInfo) (z : Value) (size bytes : Nat) (ht : P.underlying t = some (.slice e)) (hi : P.info? e = some i) (hz : i.zero = some z) (hsize : i.size = size) (hby : i.bytes = bytes) (hzs : z.cells.size = size) (hsz : 0 < size)
    (v : Value) (n : Nat) (xs : List Value) (hown : w.ownsRow base e size v n xs) (lo hi' : Nat) (A : Option Addr) (m c : Nat) (news : List Value) (hr : Rd w lo hi' size A m news) (h1 : ∀ u ∈ news, u.oneCell' = true) (h63 : n + m ≤ maxLen) (hbytes : (n + m) * bytes ≤ 140737488355328) (hbase : base ≤ w.heap.size) :
    ∃ v' w', (Builtin.append_ #[t, t] ty #[v, .slice A m c]).run P w = .ok v' w' ∧ w'.ownsRow base e size v' (n + m) (xs ++ news) ∧ w.grownBy w' v.ownBlock ∧ (v'.ownBlock = v.ownBlock ∨ v'.ownBlock = some w.heap.size) := by
  rcases hr.app with ⟨rfl, rfl, rfl⟩ | ⟨a, rfl, hc⟩
  · refine ⟨v, w, ?_, by simpa using hown, World.grownBy.refl w _, .inl rfl⟩
    rcases hown.2 with ⟨rfl, rfl⟩ | ⟨g, cap, cur, rfl, _, _, hcap, _⟩ <;> simp [Builtin.append_, run_underlying ht, sizeOf, typeInfo, hi, Builtin.lenOf, Builtin.firstCells, storeCells, *]
  · obtain ⟨v', w', h, ho, hg, _, hl⟩ := run_append_own_at (P := P) w base t ty e i z size bytes ht hi hz hsize hby hzs hsz v n xs hown a m c news hr.1 hc h1 h63 hbytes hbase
    exact ⟨v', w', h, ho, hg, hl⟩
/-- At an operation. -/
theorem wp_append_rd {P : Program} (w : World) {o : Oper} {a : Act} {K : Act → World → Prop} {Q : Exit → Act → World → Prop} (s x : Operand) (t : TypeId) (ho : o.op = .call { callee := .builtin .append, args := #[s, x], argTypes := #[t, t] })
    (base : Nat) (e : TypeId) (i : TypeInfo) (z : Value) (size bytes : Nat) (ht : P.underlying t = some (.slice e)) (hi : P.info? e = some i) (hz : i.zero = some z) (hsize : i.size = size) (hby : i.bytes = bytes) (hzs : z.cells.size = size) (hsz : 0 < size)
    (v : Value) (n : Nat) (xs : List Value) (hs : a.eval s = v) (hown : w.ownsRow base e size v n xs) (lo hi' : Nat) (A : Option Addr) (m c : Nat) (news : List Value) (hx : a.eval x = .slice A m c) (hr : Rd w lo hi' size A m news) (h1 : ∀ u ∈ news, u.oneCell' = true) (h63 : n + m ≤ maxLen) (hbytes : (n + m) * bytes ≤ 140737488355328) (hbase : base ≤ w.heap.size)
    (h : ∀ v' w', w'.ownsRow base e size v' (n + m) (xs ++ news) → w.grownBy w' v.ownBlock → (v'.ownBlock = v.ownBlock ∨ v'.ownBlock = some w.heap.size) → K (a.put o.dst v') w') : o.wp P a w K Q := by
  obtain ⟨v', w', hrun, h2, h3, h4⟩ := append_rd (P := P) w base t o.type e i z size bytes ht hi hz hsize hby hzs hsz v n xs hown lo hi' A m c news hr h1 h63 hbytes hbase
  unfold Oper.wp execOp
  simp only [ho, resolve, invoke, builtin, Sem.run_bind, Sem.run_pure, Result.andThen_ok, List.map_toArray, List.map_cons, List.map_nil, hs, hx, hrun]
  exact h v' w' h2 h3 h4
/-- At a step of a region that draws its order. -/
theorem step_append_rd {P : Program} (w : World) {ops : Array Oper} {o : Oper} {a : Act} {K : Act → World → Prop} {Q : Exit → Act → World → Prop} {E : Prop} (hgd : o.guard = none) (s x : Operand) (t : TypeId) (ho : o.op = .call { callee := .builtin .append, args := #[s, x], argTypes := #[t, t] })
    (base : Nat) (e : TypeId) (i : TypeInfo) (z : Value) (size bytes : Nat) (ht : P.underlying t = some (.slice e)) (hi : P.info? e = some i) (hz : i.zero = some z) (hsize : i.size = size) (hby : i.bytes = bytes) (hzs : z.cells.size = size) (hsz : 0 < size)
    (v : Value) (n : Nat) (xs : List Value) (hs : a.eval s = v) (hown : w.ownsRow base e size v n xs) (lo hi' : Nat) (A : Option Addr) (m c : Nat) (news : List Value) (hx : a.eval x = .slice A m c) (hr : Rd w lo hi' size A m news) (h1 : ∀ u ∈ news, u.oneCell' = true) (h63 : n + m ≤ maxLen) (hbytes : (n + m) * bytes ≤ 140737488355328) (hbase : base ≤ w.heap.size)
    (h : ∀ v' w', w'.ownsRow base e size v' (n + m) (xs ++ news) → w.grownBy w' v.ownBlock → (v'.ownBlock = v.ownBlock ∨ v'.ownBlock = some w.heap.size) → K (a.put o.dst v') w') :
    if Region.wanted o (yielded ops a.tmps) = true then Oper.wp P o a w K Q else E := by
  have hw : Region.wanted o (yielded ops a.tmps) = true := by simp [Region.wanted, hgd]
  rw [if_pos hw]
  exact wp_append_rd w s x t ho base e i z size bytes ht hi hz hsize hby hzs hsz v n xs hs hown lo hi' A m c news hx hr h1 h63 hbytes hbase h
/-- At a plain region's list. -/
theorem wpList_append_rd {P : Program} (w : World) {ops : Array Oper} {rest : List Oper} {o : Oper} {a : Act} {Q : Exit → Act → World → Prop} (hgd : o.guard = none) (s x : Operand) (t : TypeId) (ho : o.op = .call { callee := .builtin .append, args := #[s, x], argTypes := #[t, t] })
    (base : Nat) (e : TypeId) (i : TypeInfo) (z : Value) (size bytes : Nat) (ht : P.underlying t = some (.slice e)) (hi : P.info? e = some i) (hz : i.zero = some z) (hsize : i.size = size) (hby : i.bytes = bytes) (hzs : z.cells.size = size) (hsz : 0 < size)
    (v : Value) (n : Nat) (xs : List Value) (hs : a.eval s = v) (hown : w.ownsRow base e size v n xs) (lo hi' : Nat) (A : Option Addr) (m c : Nat) (news : List Value) (hx : a.eval x = .slice A m c) (hr : Rd w lo hi' size A m news) (h1 : ∀ u ∈ news, u.oneCell' = true) (h63 : n + m ≤ maxLen) (hbytes : (n + m) * bytes ≤ 140737488355328) (hbase : base ≤ w.heap.size)
    (h : ∀ v' w', w'.ownsRow base e size v' (n + m) (xs ++ news) → w.grownBy w' v.ownBlock → (v'.ownBlock = v.ownBlock ∨ v'.ownBlock = some w.heap.size) → wpList P ops Q rest (a.put o.dst v') w') : wpList P ops Q (o :: rest) a w :=
  wpList_plain hgd fun _ hK => wp_append_rd w s x t ho base e i z size bytes ht hi hz hsize hby hzs hsz v n xs hs hown lo hi' A m c news hx hr h1 h63 hbytes hbase fun v' w' h2 h3 h4 => hK _ _ (h v' w' h2 h3 h4)
theorem own_base {w : World} {base base' : Nat} {e : TypeId} {size : Nat} {v : Value} {n : Nat} {xs : List Value} (h : w.ownsRow base e size v n xs) (hb : base' ≤ base) : w.ownsRow base' e size v n xs := by
  rcases h with ⟨h1, h2 | ⟨g, cap, cur, hv, hg, r⟩⟩
  · exact ⟨h1, .inl h2⟩
  · exact ⟨h1, .inr ⟨g, cap, cur, hv, by omega, r⟩⟩
theorem own_grown {w w' : World} {base : Nat} {e : TypeId} {size : Nat} {v : Value} {n : Nat} {xs : List Value} (h : w.ownsRow base e size v n xs) {row : Option Nat} (hg : w.grownBy w' row) (hr : ∀ j, row = some j → j < base) : w'.ownsRow base e size v n xs :=
  h.kept hg (by
    cases hv : v.ownBlock with
    | none => exact .inl rfl
    | some k => exact .inr fun e => by have := (h.lt k hv).1; have := hr k e.symm; omega)
end Go.Proofs.YtknphikoikdcjaaGreat


/- Maps that the call itself makes, keyed by int: what stands at each key. Plain theorems over any program. -/
namespace Go.Proofs.YtknphikoikdcjaaGreat
open Go.RowKit Go.Maps

def heldR : Value → Option (DataW Value × List MemPlace) := fun v => some (.held v, [])
def asHeld : Option Value → DataW Value
  | none => .nil
  | some v => .held v
theorem asHeld_inj : ∀ {a b : Option Value}, asHeld a = asHeld b → a = b
  | none, none, _ => rfl
  | some _, some _, h => by simp [asHeld] at h; rw [h]
  | none, some _, h => by simp [asHeld] at h
  | some _, none, h => by simp [asHeld] at h
/-- An int in its kind's range. -/
def in64 (z : Int) : Prop := -9223372036854775808 ≤ z ∧ z ≤ 9223372036854775807
theorem in64_wf {z : Int} (h : in64 z) : (Lit.int .i64 z).wf = true := WalkArith.wf_i64 h
/-- Block b is a map of at most n entries; at the key z stands g z. -/
def IMap (P : Program) (kt : TypeId) (w : World) (b n : Nat) (g : Int → Option Value) : Prop :=
  ∃ D, w.ownsMap P kt heldR b n D ∧ ∀ z, D.atKey (.int .i64 z) .nil = asHeld (g z)

section
variable {P : Program} {kt t et : TypeId} {w w1 : World} {b n : Nat} {g : Int → Option Value}

theorem IMap.made (P : Program) (kt : TypeId) (w : World) : IMap P kt (w.alloc (.map #[] 0)) w.heap.size 0 (fun _ => none) :=
  ⟨_, World.ownsMap_made _ _ _ _, fun _ => rfl⟩
theorem IMap.lt (h : IMap P kt w b n g) : b < w.heap.size := h.choose_spec.1.lt
theorem IMap.mono (h : IMap P kt w b n g) {n' : Nat} (hn : n ≤ n') : IMap P kt w b n' g := by
  obtain ⟨D, h1, h2⟩ := h
  exact ⟨D, h1.mono hn, h2⟩
theorem IMap.same (h : IMap P kt w b n g) (he : w1.heap[b]? = w.heap[b]?) : IMap P kt w1 b n g := by
  obtain ⟨D, ⟨es, clock, hb, r⟩, h2⟩ := h
  exact ⟨D, ⟨es, clock, he.trans hb, r⟩, h2⟩
theorem IMap.kept (h : IMap P kt w b n g) {row : Option Nat} (hg : w.grownBy w1 row) (hne : some b ≠ row) : IMap P kt w1 b n g := by
  obtain ⟨D, h1, h2⟩ := h
  exact ⟨D, h1.kept hg hne, h2⟩
theorem IMap.keep (h : IMap P kt w b n g) {B : Nat} (hb : Below B w w1) (hB : b < B) : IMap P kt w1 b n g := h.same (hb.block b hB)
theorem IMap.alloc (h : IMap P kt w b n g) (o : Obj) : IMap P kt (w.alloc o) b n g := by
  obtain ⟨D, h1, h2⟩ := h
  exact ⟨D, h1.alloc o, h2⟩
theorem IMap.congr (h : IMap P kt w b n g) {g' : Int → Option Value} (he : ∀ z, g z = g' z) : IMap P kt w b n g' := by
  obtain ⟨D, h1, h2⟩ := h
  exact ⟨D, h1, fun z => by rw [← he z]; exact h2 z⟩

/-- The reading of the map at a key, in any world where the block is the same. -/
theorem IMap.look (h : IMap P kt w b n g) (K : Keyed P kt) (hk : P.underlying kt = some (.int .i64)) (ht : P.underlying t = some (.map kt et)) {zv : Value} (hz : (zeroValue et).run P w1 = .ok zv w1) {z : Int} (hr : in64 z) (he : w1.heap[b]? = w.heap[b]?) :
    (Instr.lookup t (.map (some b)) (.int .i64 z) false).run P w1 = .ok ((g z).getD zv) w1 := by
  obtain ⟨D, ⟨es, clock, hb, F, hs, hD⟩, h2⟩ := h
  have hb1 := he.trans hb
  have hkey := keyOf_int_mk hk (in64_wf hr)
  have hx := h2 z
  rcases Maps.fit_look false K ht hz hb1 F hkey with ⟨hrun, _, hat⟩ | ⟨e0, y, _, _, hrun, hR, hat, _⟩
  · rw [hD, hat] at hx
    cases hg : g z with
    | none => simpa using hrun
    | some v => rw [hg] at hx; simp [asHeld] at hx
  · rw [hD, hat] at hx
    simp [heldR] at hR
    subst hR
    cases hg : g z with
    | none => rw [hg] at hx; simp [asHeld] at hx
    | some v => rw [hg] at hx; simp [asHeld] at hx; subst hx; simpa using hrun
theorem IMap.lookOk (h : IMap P kt w b n g) (K : Keyed P kt) (hk : P.underlying kt = some (.int .i64)) (ht : P.underlying t = some (.map kt et)) {zv : Value} (hz : (zeroValue et).run P w1 = .ok zv w1) {z : Int} (hr : in64 z) (he : w1.heap[b]? = w.heap[b]?) :
    (Instr.lookup t (.map (some b)) (.int .i64 z) true).run P w1 = .ok (.tuple #[(g z).getD zv, .bool (g z).isSome]) w1 := by
  obtain ⟨D, ⟨es, clock, hb, F, hs, hD⟩, h2⟩ := h
  have hb1 := he.trans hb
  have hkey := keyOf_int_mk hk (in64_wf hr)
  have hx := h2 z
  rcases Maps.fit_look true K ht hz hb1 F hkey with ⟨hrun, _, hat⟩ | ⟨e0, y, _, _, hrun, hR, hat, _⟩
  · rw [hD, hat] at hx
    cases hg : g z with
    | none => simpa using hrun
    | some v => rw [hg] at hx; simp [asHeld] at hx
  · rw [hD, hat] at hx
    simp [heldR] at hR
    subst hR
    cases hg : g z with
    | none => rw [hg] at hx; simp [asHeld] at hx
    | some v => rw [hg] at hx; simp [asHeld] at hx; subst hx; simpa using hrun
/-- A store at a key. -/
theorem IMap.put (h : IMap P kt w b n g) (K : Keyed P kt) (hk : P.underlying kt = some (.int .i64)) (ht : P.underlying t = some (.map kt et)) (hn : n < maxLen) {z : Int} (hr : in64 z) (v : Value) :
    ∃ w1, (Instr.mapUpdate t (.map (some b)) (.int .i64 z) v).run P w = .ok () w1 ∧ IMap P kt w1 b (n + 1) (fun y => if y = z then some v else g y) ∧ w.grownBy w1 (some b) := by
  obtain ⟨D, h1, h2⟩ := h
  have hkey := keyOf_int_mk hk (in64_wf hr)
  obtain ⟨w1, hrun, ho, hg⟩ := h1.update (val := v) (d := .held v) (ps := []) K ht hn hkey rfl
  refine ⟨w1, hrun, ⟨_, ho, fun y => ?_⟩, hg⟩
  by_cases hy : y = z
  · subst hy
    rw [atKey_put_same h1.isMap (K.key hkey)]
    simp [asHeld]
  · rw [atKey_put_other (fun e => hy (by injection e)), h2 y]
    simp only [if_neg hy]
end
end Go.Proofs.YtknphikoikdcjaaGreat


/- Two maps of slices that the call itself makes, each entry a row of the call's own, no two in one block. Plain theorems over any program. -/
namespace Go.Proofs.YtknphikoikdcjaaGreat
open Go.RowKit

/-- A slice that is not there is nil. -/
def rowAt (o : Option Value) : Value := o.getD (.slice none 0 0)
/-- The entries of the maps, told by d, at each key: nothing, or a row that reads so; no two rows in one block. -/
def Rows (w : World) (base : Nat) (e : TypeId) (sel : Bool → Int → Option Value) (G : Bool → Int → List Int) : Prop :=
  (∀ d z, w.ownsRow base e 1 (rowAt (sel d z)) (G d z).length (ivs (G d z))) ∧
  ∀ d z d' z', ¬ (d = d' ∧ z = z') → (rowAt (sel d z)).ownBlock = none ∨ (rowAt (sel d z)).ownBlock ≠ (rowAt (sel d' z')).ownBlock
def updSel (sel : Bool → Int → Option Value) (d : Bool) (z : Int) (v : Value) : Bool → Int → Option Value := fun d' z' => if d' = d ∧ z' = z then some v else sel d' z'
def updG (G : Bool → Int → List Int) (d : Bool) (z : Int) (x : Int) : Bool → Int → List Int := fun d' z' => if d' = d ∧ z' = z then G d' z' ++ [x] else G d' z'

section
variable {w w1 : World} {base : Nat} {e : TypeId} {sel : Bool → Int → Option Value} {G G' : Bool → Int → List Int}
theorem Rows.start (w : World) (base : Nat) (e : TypeId) : Rows w base e (fun _ _ => none) (fun _ _ => []) :=
  ⟨fun _ _ => World.ownsRow_nil _ _ _ _, fun _ _ _ _ _ => .inl rfl⟩
theorem Rows.congr (h : Rows w base e sel G) (he : ∀ d z, G d z = G' d z) : Rows w base e sel G' := by
  obtain rfl : G = G' := funext fun d => funext fun z => he d z
  exact h
theorem Rows.kept (h : Rows w base e sel G) {row : Option Nat} (hg : w.grownBy w1 row) (hr : ∀ j, row = some j → j < base) : Rows w1 base e sel G :=
  ⟨fun d z => (h.1 d z).kept hg (by
    cases hx : (rowAt (sel d z)).ownBlock with
    | none => exact .inl rfl
    | some g =>
      refine .inr fun e1 => ?_
      have := ((h.1 d z).lt g hx).1
      have := hr g e1.symm
      omega), h.2⟩
/-- Behind an append to one of the rows, and its store. -/
theorem Rows.appended (h : Rows w base e sel G) {d : Bool} {z x : Int} {v : Value} (hg : w.grownBy w1 (rowAt (sel d z)).ownBlock) (ho : w1.ownsRow base e 1 v ((G d z).length + 1) (ivs (G d z) ++ [.int .i64 x]))
    (hl : v.ownBlock = (rowAt (sel d z)).ownBlock ∨ ∃ g, v.ownBlock = some g ∧ w.heap.size ≤ g) : Rows w1 base e (updSel sel d z v) (updG G d z x) := by
  have apart : ∀ d' z', ¬ (d' = d ∧ z' = z) → (rowAt (sel d' z')).ownBlock = none ∨ (rowAt (sel d' z')).ownBlock ≠ v.ownBlock := by
    intro d' z' hne
    rcases hl with h1 | ⟨g, h1, h2⟩
    · rw [h1]; exact h.2 d' z' d z hne
    · cases hx : (rowAt (sel d' z')).ownBlock with
      | none => exact .inl rfl
      | some g' =>
        refine .inr fun e1 => ?_
        rw [h1] at e1
        cases e1
        have := ((h.1 d' z').lt g hx).2
        omega
  refine ⟨fun d' z' => ?_, fun d1 z1 d2 z2 hne => ?_⟩
  · by_cases hc : d' = d ∧ z' = z
    · obtain ⟨rfl, rfl⟩ := hc
      simp only [updSel, updG, and_self, if_true, rowAt, Option.getD]
      rw [ivs_append, List.length_append]
      exact ho
    · simp only [updSel, updG, if_neg hc]
      exact (h.1 d' z').kept hg (h.2 d' z' d z hc)
  · by_cases h1 : d1 = d ∧ z1 = z <;> by_cases h2 : d2 = d ∧ z2 = z
    · exact absurd ⟨h1.1.trans h2.1.symm, h1.2.trans h2.2.symm⟩ hne
    · simp only [updSel, if_pos h1, if_neg h2]
      show v.ownBlock = none ∨ v.ownBlock ≠ (rowAt (sel d2 z2)).ownBlock
      rcases apart d2 z2 h2 with h3 | h3
      · cases hv : v.ownBlock with
        | none => exact .inl rfl
        | some g => exact .inr (by rw [h3]; simp)
      · exact .inr fun e1 => h3 e1.symm
    · simp only [updSel, if_neg h1, if_pos h2]
      exact apart d1 z1 h1
    · simp only [updSel, if_neg h1, if_neg h2]
      exact h.2 d1 z1 d2 z2 hne
end

theorem grown_set (w : World) (p : Addr) (u : Value) : w.grownBy (w.setCell p u) (some p.block) :=
  ⟨rfl, rfl, rfl, by simp [World.setCell], fun i _ hne => Below.heap_setCell w p u i (fun e => hne (by rw [e]))⟩
theorem grown_of_alloc {w0 w1 : World} {o : Obj} {row : Option Nat} (h : ((w0.alloc o).drew).grownBy w1 row) : w0.grownBy w1 row := by
  have h1 := World.grownBy_alloc w0 o row
  have h2 : w0.grownBy ((w0.alloc o).drew) row := ⟨h1.os, h1.tape, h1.output, h1.size, h1.block⟩
  exact h2.trans h
/-- What stands behind an append to one of the rows and its store into the map: in one go. -/
theorem map_step {P : Program} {kt : TypeId} {a w0 w1 w2 : World} {o : Obj} {e t1 t2 : TypeId} {cs1 cs2 : Array Value} {mB F b bi ni base : Nat} {gi : Int → Option Value} {sel : Bool → Int → Option Value} {G : Bool → Int → List Int} {d : Bool} {z x : Int} {v' : Value}
    (hbl : Below a.heap.size a w0) (hm : Blk w0 mB t1 cs1) (hf : Blk w0 F t2 cs2) (hi : IMap P kt w0 bi ni gi) (hrows : Rows w0 base e sel G) (hF : ∀ d z g, (rowAt (sel d z)).ownBlock = some g → g ≠ F)
    (hgrow : ((w0.alloc o).drew).grownBy w1 (rowAt (sel d z)).ownBlock) (hown : w1.ownsRow base e 1 v' ((G d z).length + 1) (ivs (G d z) ++ [.int .i64 x]))
    (hloc : v'.ownBlock = (rowAt (sel d z)).ownBlock ∨ ∃ g, v'.ownBlock = some g ∧ w0.heap.size < g) (hgrow2 : w1.grownBy w2 (some b)) (hb : b < base) (hmb : mB ≠ b) (hmlt : mB < base) (hFb : F ≠ b) (hbi : bi ≠ b) (hbib : bi < base) (hab : a.heap.size ≤ b) :
    Below a.heap.size a w2 ∧ Blk w2 mB t1 cs1 ∧ Blk w2 F t2 cs2 ∧ IMap P kt w2 bi ni gi ∧ Rows w2 base e (updSel sel d z v') (updG G d z x) ∧ (∀ d' z' g, (rowAt (updSel sel d z v' d' z')).ownBlock = some g → g ≠ F) ∧ w0.heap.size ≤ w2.heap.size ∧ (∀ j, j < base → j ≠ b → j < w0.heap.size → w2.heap[j]? = w0.heap[j]?) := by
  have hall := grown_of_alloc hgrow
  have hlt := (hrows.1 d z).lt
  have hFl := hf.lt
  have ne : ∀ j, j < base → some j ≠ (rowAt (sel d z)).ownBlock := fun j hj e => by have := (hlt j e.symm).1; omega
  have neF : some F ≠ (rowAt (sel d z)).ownBlock := fun e => hF d z F e.symm rfl
  refine ⟨?_, (hm.grown hall (ne _ hmlt)).grown hgrow2 (by simp [hmb]), (hf.grown hall neF).grown hgrow2 (by simp [hFb]), (hi.kept hall (ne _ hbib)).kept hgrow2 (by simp [hbi]), ?_, ?_, Nat.le_trans hall.size hgrow2.size, fun j hj hjb hjl => (hgrow2.block j (Nat.lt_of_lt_of_le hjl hall.size) (by simp [hjb])).trans (hall.block j hjl (ne j hj))⟩
  · refine (hbl.grown hall hbl.size fun k hk => ?_).grown hgrow2 (Nat.le_trans hbl.size hall.size) fun k hk => by injection hk with hk; omega
    have := (hlt k hk).1
    omega
  · refine (hrows.appended hall hown (hloc.imp id fun ⟨g, h1, h2⟩ => ⟨g, h1, by omega⟩)).kept hgrow2 fun j hj => by injection hj with hj; omega
  · intro d' z' g hg
    by_cases hc : d' = d ∧ z' = z
    · simp only [updSel, if_pos hc, rowAt, Option.getD] at hg
      rcases hloc with h1 | ⟨g', h1, h2⟩
      · rw [h1] at hg; exact hF d z g hg
      · rw [h1] at hg
        injection hg with hg
        omega
    · simp only [updSel, if_neg hc] at hg
      exact hF d' z' g hg
theorem updSel_at (sel : Bool → Int → Option Value) (d : Bool) (x : Int) (v : Value) (z : Int) : (if z = x then some v else sel d z) = updSel sel d x v d z := by
  simp [updSel]
theorem updSel_other (sel : Bool → Int → Option Value) (d d' : Bool) (x : Int) (v : Value) (h : d' ≠ d) (z : Int) : sel d' z = updSel sel d x v d' z := by
  simp [updSel, h]
/-- A map of slices, made: at each key a slice that reads so, all between the blocks lo and hi. -/
def RowMap (P : Program) (kt : TypeId) (w : World) (lo hi b : Nat) (G : Int → List Int) : Prop :=
  ∃ n g, IMap P kt w b n g ∧ lo ≤ b ∧ b < hi ∧ ∀ z, ∃ A c, rowAt (g z) = .slice A (G z).length c ∧ (G z).length ≤ c ∧ Rd w lo hi 1 A (G z).length (ivs (G z)) ∧ Soft w 1 A (G z).length
section
variable {P : Program} {kt t et : TypeId} {w w1 : World} {lo hi b : Nat} {G : Int → List Int}
theorem RowMap.keep (h : RowMap P kt w lo hi b G) {B : Nat} (hb : Below B w w1) (hB : hi ≤ B) : RowMap P kt w1 lo hi b G := by
  obtain ⟨n, g, h1, h2, h3, h4⟩ := h
  refine ⟨n, g, h1.keep hb (by omega), h2, h3, fun z => ?_⟩
  obtain ⟨A, c, e, hc, hr, hs⟩ := h4 z
  refine ⟨A, c, e, hc, hr.keep hb hB, ?_⟩
  rcases Nat.eq_zero_or_pos (G z).length with h0 | h0
  · intro b off e j hj
    rw [h0] at hj
    omega
  · exact hs.keep hb fun b off e => by
      obtain ⟨b', off', e', _, hlt⟩ := hr.form h0
      rw [e] at e'
      injection e' with e'
      injection e' with e' _
      omega
theorem RowMap.wide (h : RowMap P kt w lo hi b G) {lo' hi' : Nat} (hl : lo' ≤ lo) (hh : hi ≤ hi') : RowMap P kt w lo' hi' b G := by
  obtain ⟨n, g, h1, h2, h3, h4⟩ := h
  refine ⟨n, g, h1, by omega, by omega, fun z => ?_⟩
  obtain ⟨A, c, e, hc, hr, hs⟩ := h4 z
  exact ⟨A, c, e, hc, hr.wide hl hh, hs⟩
/-- The reading at a key. -/
theorem RowMap.look (h : RowMap P kt w lo hi b G) (K : Maps.Keyed P kt) (hk : P.underlying kt = some (.int .i64)) (ht : P.underlying t = some (.map kt et)) (hz : ∀ w, (zeroValue et).run P w = .ok (.slice none 0 0) w) {z : Int} (hr : in64 z) :
    ∃ A c, (Instr.lookup t (.map (some b)) (.int .i64 z) false).run P w = .ok (.slice A (G z).length c) w ∧ (G z).length ≤ c ∧ Rd w lo hi 1 A (G z).length (ivs (G z)) ∧ Soft w 1 A (G z).length := by
  obtain ⟨n, g, h1, h2, h3, h4⟩ := h
  obtain ⟨A, c, e, hc, hrd, hs⟩ := h4 z
  exact ⟨A, c, by rw [← e]; exact h1.look K hk ht (hz _) hr rfl, hc, hrd, hs⟩
theorem RowMap.of_rows {base n : Nat} {e : TypeId} {sel : Bool → Int → Option Value} {GG : Bool → Int → List Int} {d : Bool} (h : Rows w base e sel GG) (hm : IMap P kt w b n (sel d)) (hl : lo ≤ base) (hb : lo ≤ b) : RowMap P kt w lo w.heap.size b (GG d) := by
  refine ⟨n, sel d, hm, hb, hm.lt, fun z => ?_⟩
  have ho := h.1 d z
  obtain ⟨A, c, e1, hc, hr, hs⟩ := own_form ho
  exact ⟨A, c, e1, hc, hr.wide hl (Nat.le_refl _), hs⟩
end
end Go.Proofs.YtknphikoikdcjaaGreat


/- A queue in memory of the call's own: a slice of one-cell values that may begin inside its row. Plain theorems over any program. -/
namespace Go.Proofs.YtknphikoikdcjaaGreat
open Go.RowKit

/-- A slice that may begin inside a row of the call's own. -/
def QRow (w : World) (base : Nat) (e : TypeId) (v : Value) (n : Nat) (xs : List Value) : Prop :=
  ∃ g off cap cur, v = .slice (some ⟨g, off, none⟩) n cap ∧ base ≤ g ∧ w.heap[g]? = some (.cells cur e (0, 0)) ∧ n ≤ cap ∧ off + cap ≤ cur.size ∧ cap ≤ maxLen ∧ xs.length = n ∧ ∀ j u, xs[j]? = some u → cur[off + j]? = some u

theorem addr_add (b off j : Nat) : (⟨b, off, none⟩ : Addr).add j = ⟨b, off + j, none⟩ := by unfold Addr.add; split <;> simp_all
theorem QRow.of_blk {w : World} {base g : Nat} {e : TypeId} {cs : Array Value} (h : Blk w g e cs) (hb : base ≤ g) (hm : cs.size ≤ maxLen) : QRow w base e (.slice (some ⟨g, 0, none⟩) cs.size cs.size) cs.size cs.toList :=
  ⟨g, 0, cs.size, cs, rfl, hb, h, Nat.le_refl _, by omega, hm, by simp, fun j u hu => by simpa using hu⟩
theorem QRow.form {w : World} {base : Nat} {e : TypeId} {v : Value} {n : Nat} {xs : List Value} (h : QRow w base e v n xs) :
    ∃ g off cap, v = .slice (some ⟨g, off, none⟩) n cap ∧ base ≤ g ∧ g < w.heap.size ∧ n ≤ cap ∧ cap ≤ 9223372036854775807 ∧ ∀ j u, xs[j]? = some u → w.cell? ⟨g, off + j, none⟩ = some u := by
  obtain ⟨g, off, cap, cur, h1, h2, h3, h4, h5, h6, h7, h8⟩ := h
  unfold maxLen at h6
  exact ⟨g, off, cap, h1, h2, (Array.getElem?_eq_some_iff.1 h3).1, h4, by omega, fun j u hu => (cell_of_row w g _ cur e (0, 0) h3).trans (h8 j u hu)⟩
theorem QRow.grown {w w' : World} {base : Nat} {e : TypeId} {v : Value} {n : Nat} {xs : List Value} (h : QRow w base e v n xs) {row : Option Nat} (hg : w.grownBy w' row) (hr : ∀ j, row = some j → j < base) : QRow w' base e v n xs := by
  obtain ⟨g, off, cap, cur, h1, h2, h3, h4⟩ := h
  exact ⟨g, off, cap, cur, h1, h2, (hg.block g (Array.getElem?_eq_some_iff.1 h3).1 (fun e => by have := hr g e.symm; omega)).trans h3, h4⟩
theorem QRow.keep {w w' : World} {base : Nat} {e : TypeId} {v : Value} {n : Nat} {xs : List Value} (h : QRow w base e v n xs) (hb : Below w.heap.size w w') : QRow w' base e v n xs := by
  obtain ⟨g, off, cap, cur, h1, h2, h3, h4⟩ := h
  exact ⟨g, off, cap, cur, h1, h2, (hb.block g (Array.getElem?_eq_some_iff.1 h3).1).trans h3, h4⟩
/-- Without its first element. -/
theorem QRow.tail {w : World} {base : Nat} {e : TypeId} {g off n cap : Nat} {xs : List Value} (h : QRow w base e (.slice (some ⟨g, off, none⟩) (n + 1) cap) (n + 1) xs) :
    (2 ≤ cap → QRow w base e (.slice (some ⟨g, off + 1, none⟩) n (cap - 1)) n (xs.drop 1)) ∧ (cap = 1 → n = 0 ∧ QRow w base e (.slice (some ⟨g, off, none⟩) 0 0) 0 (xs.drop 1)) := by
  obtain ⟨g', off', cap', cur, h1, h2, h3, h4, h5, h6, h7, h8⟩ := h
  injection h1 with h1 _ hc
  injection h1 with h1
  injection h1 with hg ho
  subst hg; subst ho; subst hc
  refine ⟨fun hc2 => ⟨g, off + 1, cap - 1, cur, rfl, h2, h3, by omega, by omega, by omega, by simp [h7], fun j u hu => ?_⟩, fun hc1 => ?_⟩
  · rw [List.getElem?_drop] at hu
    have := h8 _ u hu
    rwa [show off + (1 + j) = off + 1 + j by omega] at this
  · subst hc1
    obtain rfl : n = 0 := by omega
    refine ⟨rfl, g, off, 0, cur, rfl, h2, h3, Nat.le_refl _, by omega, by omega, by simp [h7], fun j u hu => ?_⟩
    rw [List.getElem?_drop] at hu
    rw [List.getElem?_eq_none (by omega)] at hu
    cases hu
/-- With one value behind. -/
theorem QRow.app {P : Program} {w : World} {base : Nat} {t ty e : TypeId} {i : TypeInfo} {z : Value} {bytes : Nat} (ht : P.underlying t = some (.slice e)) (hi : P.info? e = some i) (hz : i.zero = some z) (hsize : i.size = 1) (hby : i.bytes = bytes) (hzs : z.cells.size = 1)
    {v : Value} {n : Nat} {xs : List Value} (h : QRow w base e v n xs) (ad : Addr) (c : Nat) (u : Value) (hu : w.cell? ad = some u) (h1 : u.oneCell' = true) (h63 : n + 1 ≤ maxLen) (hbytes : (n + 1) * bytes ≤ 140737488355328) (hbase : base ≤ w.heap.size) :
    ∃ v' w', (Builtin.append_ #[t, t] ty #[v, .slice (some ad) 1 c]).run P w = .ok v' w' ∧ QRow w' base e v' (n + 1) (xs ++ [u]) ∧ ∃ g, base ≤ g ∧ w.grownBy w' (some g) := by
  obtain ⟨g, off, cap, cur, rfl, h2, h3, h4, h5, h6, h7, h8⟩ := h
  have hc : ∀ j u', [u][j]? = some u' → w.cell? (ad.add j) = some u' := by
    intro j u' hj
    cases j with
    | zero =>
      simp at hj
      subst hj
      rw [show ad.add 0 = ad from by cases ad; unfold Addr.add; split <;> simp_all]
      exact hu
    | succ j => simp at hj
  by_cases hr : n + 1 ≤ cap
  · have hlt : off + n < cur.size := by omega
    have hcell : w.cell? ⟨g, off + n, none⟩ = cur[off + n]? := cell_of_row w g _ cur e (0, 0) h3
    have hrun := run_append_room_cells (P := P) w t ty e i ht hi g off n cap ad 1 c [u] (by simp [hsize]) hc (by simpa using h1) hr
      (fun j hj => by
        obtain rfl : j = 0 := by simp at hj; omega
        rw [hsize, Nat.mul_one, Nat.add_zero, hcell]; simp [hlt])
      (fun j hj => frozen_of_row w g _ cur e h3)
    rw [hsize, Nat.mul_one] at hrun
    refine ⟨_, _, hrun, ⟨g, off, cap, cur.setIfInBounds (off + n) u, rfl, h2, ?_, hr, by simpa using h5, h6, by simp [h7], fun j u' hj => ?_⟩, g, h2, ?_⟩
    · show (w.setCell ⟨g, off + n, none⟩ u).heap[g]? = _
      simp [World.setCell, Array.getElem?_modify, h3]
    · rcases Nat.lt_or_ge j n with hjn | hjn
      · rw [List.getElem?_append_left (by omega)] at hj
        rw [Array.getElem?_setIfInBounds_ne (by omega)]
        exact h8 j u' hj
      · rw [List.getElem?_append_right (by omega)] at hj
        obtain rfl : j = n := by
          rcases Nat.eq_zero_or_pos (j - xs.length) with h0 | h0
          · omega
          · rw [List.getElem?_eq_none (by simp; omega)] at hj; cases hj
        simp [h7] at hj
        subst hj
        simp [hlt]
    · exact ⟨rfl, rfl, rfl, by simp [World.setCells, World.setCell], fun k hk hne => Below.heap_setCell w _ u k (fun e => hne (by rw [e]))⟩
  · obtain ⟨v', w', hrun, ho, hg⟩ := run_append_arg_grows (P := P) w t ty e i z 1 bytes ht hi hz hsize hby hzs (by omega) ⟨g, off, none⟩ n cap xs (by omega) (fun j u hj => by rw [addr_add]; exact (cell_of_row w g _ cur e (0, 0) h3).trans (h8 j u hj)) ad 1 c [u] (by simp) hc (by omega) h63 hbytes
    refine ⟨v', w', hrun, ?_, w.heap.size, hbase, ⟨hg.os, hg.tape, hg.output, hg.size, fun k hk _ => hg.block k hk (by simp)⟩⟩
    rcases ho.2 with ⟨_, h0⟩ | ⟨g', cap', cur', hv, hb', hh, q1, q2, q3, q4⟩
    · omega
    · refine ⟨g', 0, cap', cur', hv, by omega, hh, q1, by omega, q2, by simp [h7], fun j u' hj => ?_⟩
      rw [Nat.zero_add, ← Array.getElem?_toList]
      have e1 : (cur'.toList.take ((n + 1) * 1))[j]? = some u' := by rw [q4]; exact hj
      rw [List.getElem?_take] at e1
      split at e1
      · exact e1
      · cases e1
/-- At a plain region's list. -/
theorem wpList_append_q {P : Program} {w : World} {ops : Array Oper} {rest : List Oper} {o : Oper} {a : Act} {Q : Exit → Act → World → Prop} (hgd : o.guard = none) (s x : Operand) (t : TypeId) (ho : o.op = .call { callee := .builtin .append, args := #[s, x], argTypes := #[t, t] })
    {base : Nat} {e : TypeId} {i : TypeInfo} {z : Value} {bytes : Nat} (ht : P.underlying t = some (.slice e)) (hi : P.info? e = some i) (hz : i.zero = some z) (hsize : i.size = 1) (hby : i.bytes = bytes) (hzs : z.cells.size = 1)
    {v : Value} {n : Nat} {xs : List Value} (hs : a.eval s = v) (h : QRow w base e v n xs) (ad : Addr) (c : Nat) (u : Value) (hx : a.eval x = .slice (some ad) 1 c) (hu : w.cell? ad = some u) (h1 : u.oneCell' = true) (h63 : n + 1 ≤ maxLen) (hbytes : (n + 1) * bytes ≤ 140737488355328) (hbase : base ≤ w.heap.size)
    (hK : ∀ v' w' g, QRow w' base e v' (n + 1) (xs ++ [u]) → base ≤ g → w.grownBy w' (some g) → wpList P ops Q rest (a.put o.dst v') w') : wpList P ops Q (o :: rest) a w := by
  obtain ⟨v', w', hrun, h2, g, h3, h4⟩ := h.app (P := P) (ty := o.type) ht hi hz hsize hby hzs ad c u hu h1 h63 hbytes hbase
  refine wpList_plain hgd fun K hKK => ?_
  unfold Oper.wp execOp
  simp only [ho, resolve, invoke, builtin, Sem.run_bind, Sem.run_pure, Result.andThen_ok, List.map_toArray, List.map_cons, List.map_nil, hs, hx, hrun]
  exact hKK _ _ (hK v' w' g h2 h3 h4)
end Go.Proofs.YtknphikoikdcjaaGreat


/- Tokens, in plain mathematics: the flow that a choice takes. No program. -/
namespace Go.Proofs.YtknphikoikdcjaaGreat
open Go.RowKit

/-- The flow that is taken of some flows: the first one whose condition holds, else the first one without a condition. -/
def chooseR (fs : List Flw) (vs : List Int) : List Int → Int → Int
  | [], rest => rest
  | i :: is, rest => if (fs.getD i.toNat (0, 0, [])).2.2 ≠ [] ∧ evalOf (fs.getD i.toNat (0, 0, [])).2.2 vs ≠ 0 then i else chooseR fs vs is (if (fs.getD i.toNat (0, 0, [])).2.2 = [] ∧ rest < 0 then i else rest)
/-- What ChooseFlow answers. -/
def chooseAt (ns : List (Int × Int)) (fs : List Flw) (node : Int) (vs : List Int) : Int :=
  if vProc ns fs && inR node 0 ((ns.length : Int) - 1) && ((ns[node.toNat]?.map Prod.fst) == some 5) && vVals vs then chooseR fs vs (flOf fs true node) (-1) else -1
theorem chooseR_at {fs : List Flw} {vs is : List Int} {k q : Nat} {x y : Int} {ps : List (Int × Int)} (hk : is[k]? = some (q : Int)) (hq : fs[q]? = some (x, y, ps)) (rest : Int) :
    chooseR fs vs (is.drop k) rest = if ps ≠ [] ∧ evalOf ps vs ≠ 0 then (q : Int) else chooseR fs vs (is.drop (k + 1)) (if ps = [] ∧ rest < 0 then (q : Int) else rest) := by
  rw [drop_flw hk, chooseR]
  have : fs.getD (q : Int).toNat (0, 0, []) = (x, y, ps) := by rw [Int.toNat_natCast, List.getD_eq_getElem?_getD, hq]; rfl
  rw [this]
/-- The condition of a flow of a valid process is valid, if there is one. -/
theorem vProc_when {ns : List (Int × Int)} {fs : List Flw} (h : vProc ns fs = true) {q : Nat} {x y : Int} {ps : List (Int × Int)} (hq : fs[q]? = some (x, y, ps)) : ps = [] ∨ vCond ps = true := by
  simp only [vProc, Bool.and_eq_true] at h
  have h1 := List.all_eq_true.1 h.1.1.2 _ (List.mem_of_getElem? hq)
  simp only [vFlow, Bool.and_eq_true, Bool.or_eq_true] at h1
  rcases h1.2 with h2 | h2
  · exact .inl (List.isEmpty_iff.1 h2)
  · exact .inr h2.2
theorem chooseAt_no1 {ns : List (Int × Int)} {fs : List Flw} {node : Int} {vs : List Int} (h : vProc ns fs = false) : chooseAt ns fs node vs = -1 := by simp [chooseAt, h]
theorem chooseAt_no2 {ns : List (Int × Int)} {fs : List Flw} {node : Int} {vs : List Int} (h : inR node 0 ((ns.length : Int) - 1) = false) : chooseAt ns fs node vs = -1 := by simp [chooseAt, h]
theorem chooseAt_no3 {ns : List (Int × Int)} {fs : List Flw} {k : Nat} {x y : Int} {vs : List Int} (hk : ns[k]? = some (x, y)) (h : ¬ x = 5) : chooseAt ns fs (k : Int) vs = -1 := by
  have : (ns[((k : Int)).toNat]?.map Prod.fst == some 5) = false := by rw [Int.toNat_natCast, hk]; simpa using h
  simp only [chooseAt, this]; simp
theorem chooseAt_no4 {ns : List (Int × Int)} {fs : List Flw} {node : Int} {vs : List Int} (h : vVals vs = false) : chooseAt ns fs node vs = -1 := by simp [chooseAt, h]
theorem chooseAt_yes {ns : List (Int × Int)} {fs : List Flw} {k : Nat} {y : Int} {vs : List Int} (h1 : vProc ns fs = true) (h2 : inR (k : Int) 0 ((ns.length : Int) - 1) = true) (hk : ns[k]? = some (5, y)) (h4 : vVals vs = true) : chooseAt ns fs (k : Int) vs = chooseR fs vs (flOf fs true (k : Int)) (-1) := by
  have : (ns[((k : Int)).toNat]?.map Prod.fst == some 5) = true := by rw [Int.toNat_natCast, hk]; rfl
  simp only [chooseAt, h1, h2, this, h4]; simp
end Go.Proofs.YtknphikoikdcjaaGreat

