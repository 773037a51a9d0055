/- What lies between two blocks may have changed. Plain theorems; no program. -/
import Derived.Test.YtknphikoikdcjaaGreatBase
set_option linter.unusedSimpArgs false
set_option linter.unusedVariables false
namespace Go.Proofs.YtknphikoikdcjaaGreat
open Go.RowKit

/-- Only what lies between the blocks may have changed. -/
structure Within (lo hi : Nat) (w w' : World) : Prop where
  os : w'.os = w.os
  tape : w'.tape = w.tape
  output : w'.output = w.output
  size : w.heap.size ≤ w'.heap.size
  block : ∀ i, i < w.heap.size → i < lo ∨ hi ≤ i → w'.heap[i]? = w.heap[i]?
theorem Within.refl (lo hi : Nat) (w : World) : Within lo hi w w := ⟨rfl, rfl, rfl, Nat.le_refl _, fun _ _ _ => rfl⟩
theorem Within.trans {lo hi : Nat} {a b c : World} (h : Within lo hi a b) (k : Within lo hi b c) : Within lo hi a c :=
  ⟨k.os.trans h.os, k.tape.trans h.tape, k.output.trans h.output, Nat.le_trans h.size k.size, fun i hi' ho => (k.block i (Nat.lt_of_lt_of_le hi' h.size) ho).trans (h.block i hi' ho)⟩
theorem Within.grown {lo hi : Nat} {w w' : World} {row : Option Nat} (h : w.grownBy w' row) (hr : ∀ g, row = some g → lo ≤ g ∧ g < hi) : Within lo hi w w' :=
  ⟨h.os, h.tape, h.output, h.size, fun i hi' ho => h.block i hi' (fun e => by have := hr i e.symm; omega)⟩
theorem Within.set {lo hi : Nat} (w : World) (p : Addr) (u : Value) (h1 : lo ≤ p.block) (h2 : p.block < hi) : Within lo hi w (w.setCell p u) :=
  ⟨rfl, rfl, rfl, by simp [World.setCell], fun i _ ho => Below.heap_setCell w p u i (by rintro rfl; omega)⟩
theorem Within.below {lo hi : Nat} {w w' : World} {w0 : World} (h : Below w0.heap.size w0 w) (k : Within lo hi w w') (hl : w0.heap.size ≤ lo) : Below w0.heap.size w0 w' :=
  ⟨k.os.trans h.os, k.tape.trans h.tape, k.output.trans h.output, Nat.le_trans h.size k.size, fun i hi' => (k.block i (Nat.lt_of_lt_of_le hi' h.size) (.inl (by omega))).trans (h.block i hi')⟩
theorem Rd.within {w w' : World} {lo hi l u size n : Nat} {A : Option Addr} {xs : List Value} (h : Rd w l u size A n xs) (k : Within lo hi w w') (hu : u ≤ w.heap.size) (hd : u ≤ lo ∨ hi ≤ l) : Rd w' l u size A n xs :=
  ⟨h.1, fun hn => by
    obtain ⟨b, off, e, h1, h2, hc⟩ := h.2 hn
    exact ⟨b, off, e, h1, h2, fun j v hv => (World.cell?_of_block (w := w) (a := ⟨b, off + j, none⟩) (k.block b (by omega) (by omega))).trans (hc j v hv)⟩⟩
theorem Soft.within {w w' : World} {lo hi l u size n : Nat} {A : Option Addr} {xs : List Value} (h : Soft w size A n) (hr : Rd w l u size A n xs) (k : Within lo hi w w') (hu : u ≤ w.heap.size) (hd : u ≤ lo ∨ hi ≤ l) : Soft w' size A n := fun b off e j hj => by
  have hn : 0 < n := by
    rcases Nat.eq_zero_or_pos n with h0 | h0
    · subst h0; simp at hj
    · exact h0
  obtain ⟨b', off', e', h1, h2⟩ := hr.form hn
  rw [e] at e'; injection e' with e'; injection e' with e1 _
  exact (World.frozen?_of_block (w := w) (a := ⟨b, off + j, none⟩) (k.block b (by omega) (by omega))).trans (h b off e j hj)
/-- A slice in another block reads as it did. -/
theorem Rd.apart {w w' : World} {l u size n : Nat} {A : Option Addr} {xs : List Value} (h : Rd w l u size A n xs) {row : Option Nat} (hg : w.grownBy w' row) (hu : u ≤ w.heap.size) (hne : ∀ b off, A = some ⟨b, off, none⟩ → 0 < n → row ≠ some b) : Rd w' l u size A n xs :=
  ⟨h.1, fun hn => by
    obtain ⟨b, off, e, h1, h2, hc⟩ := h.2 hn
    exact ⟨b, off, e, h1, h2, fun j v hv => (World.cell?_of_block (w := w) (a := ⟨b, off + j, none⟩) (hg.block b (by omega) (fun e1 => hne b off e hn e1.symm))).trans (hc j v hv)⟩⟩
theorem Soft.apart {w w' : World} {l u size n : Nat} {A : Option Addr} {xs : List Value} (h : Soft w size A n) (hr : Rd w l u size A n xs) {row : Option Nat} (hg : w.grownBy w' row) (hu : u ≤ w.heap.size) (hne : ∀ b off, A = some ⟨b, off, none⟩ → 0 < n → row ≠ some b) : Soft w' size A n := fun b off e j hj => by
  have hn : 0 < n := by
    rcases Nat.eq_zero_or_pos n with h0 | h0
    · subst h0; simp at hj
    · exact h0
  obtain ⟨b', off', e', h1, h2⟩ := hr.form hn
  have e2 := e'
  rw [e] at e2; injection e2 with e2; injection e2 with e1 _
  exact (World.frozen?_of_block (w := w) (a := ⟨b, off + j, none⟩) (hg.block b (by omega) (fun q => hne b off e hn q.symm))).trans (h b off e j hj)
end Go.Proofs.YtknphikoikdcjaaGreat
