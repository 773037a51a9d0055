/- The exact laws' helpers: marks and what is held; ints. -/
import Derived.Test.YtonlkodenfiljaaRows
import Derived.Test.YtonlkodenfiljaaBase
import Derived.BigQuiet
import Derived.Deep.QuietTactic
import Derived.WalkLawsBesides
set_option linter.unusedSimpArgs false
set_option linter.unusedVariables false
namespace Go.Proofs.Ytonlkodenfiljaa
open Go.RowKit

theorem infoIntX : (Try.prog.info? 3).map (fun i => (i.zero, i.size, i.bytes)) = some (some (.int .i64 0), 1, 8) := by kernel_rfl

theorem Rd.store {w : World} {lo hi size n : Nat} {b off : Nat} {xs : List Value} (h : Rd w lo hi size (some ⟨b, off, none⟩) n xs) (j : Nat) (hj : j < n * size) (u : Value) : Rd (w.setCell ⟨b, off + j, none⟩ u) lo hi size (some ⟨b, off, none⟩) n (xs.set j u) := by
  refine ⟨by rw [List.length_set]; exact h.1, fun hn => ?_⟩
  obtain ⟨b', off', e, h1, h2, hc⟩ := h.2 hn
  injection e with e; injection e with e1 e2
  subst e1; subst e2
  refine ⟨b, off, rfl, h1, h2, fun i v hv => ?_⟩
  have hjl : j < xs.length := by rw [h.1]; exact hj
  by_cases hij : i = j
  · subst hij
    rw [List.getElem?_set_self hjl] at hv
    rw [← Option.some.inj hv]
    exact World.cell?_setCell_same w _ _ (hc i _ (List.getElem?_eq_getElem hjl))
  · rw [List.getElem?_set_ne (fun e => hij e.symm)] at hv
    rw [World.cell?_setCell_other w _ _ _ (fun e => hij (by injection e with _ e; omega))]
    exact hc i v hv
theorem Soft.store {w : World} {size n : Nat} {A : Option Addr} (h : Soft w size A n) (p : Addr) (u : Value) : Soft (w.setCell p u) size A n := fun b off e j hj => by
  rw [World.frozen?_setCell]; exact h b off e j hj
/-- Of what was there only the block of the slice may have changed, and nothing if the slice is empty. -/
abbrev In (A : Option Addr) (n : Nat) (w w' : World) : Prop := w.grownBy w' (if n = 0 then none else A.map (·.block))
theorem in_refl (A : Option Addr) (n : Nat) (w : World) : In A n w w := World.grownBy.refl w _
theorem in_store {b off n : Nat} {a w : World} (h : In (some ⟨b, off, none⟩) n a w) (hn : 0 < n) (i : Nat) (u : Value) : In (some ⟨b, off, none⟩) n a (w.setCell ⟨b, i, none⟩ u) := by
  have hne0 : ¬ n = 0 := by omega
  unfold In at *
  rw [if_neg hne0] at *
  exact ⟨h.os, h.tape, h.output, by simpa [World.setCell] using h.size, fun k hk hne => (Below.heap_setCell w _ u k (fun e => hne (by rw [e]; rfl))).trans (h.block k hk hne)⟩
theorem in_row {w : World} {lo hi size n : Nat} {A : Option Addr} {xs : List Value} (hA : Rd w lo hi size A n xs) : ∀ g, (if n = 0 then none else A.map (·.block)) = some g → lo ≤ g ∧ g < hi := by
  intro g e
  rcases Nat.eq_zero_or_pos n with h0 | h0
  · rw [if_pos h0] at e; cases e
  · rw [if_neg (by omega)] at e
    obtain ⟨b, off, rfl, h1, h2⟩ := hA.form h0
    simp at e
    omega
/-- Another slice reads as it did. -/
theorem Rd.other {w w' : World} {lo hi size n lo' hi' size' m : Nat} {A B : Option Addr} {xs ys : List Value} (h : Rd w lo hi size A n xs) (hw : hi ≤ w.heap.size) (hin : In B m w w') (hB : Rd w lo' hi' size' B m ys) (hd : hi ≤ lo' ∨ hi' ≤ lo) : Rd w' lo hi size A n xs :=
  h.far hin hw (fun g e => by have := in_row hB g e; omega)
theorem in_below {A : Option Addr} {a w w' : World} {lo hi size n : Nat} {xs : List Value} (h : Below a.heap.size a w) (hin : In A n w w') (hA : Rd w lo hi size A n xs) (hlo : a.heap.size ≤ lo) : Below a.heap.size a w' :=
  h.grown hin h.size (fun k e => by have := in_row hA k e; omega)
theorem Soft.kept {w w' : World} {lo hi size n B : Nat} {A : Option Addr} {xs : List Value} (h : Soft w size A n) (hr : Rd w lo hi size A n xs) (hb : Below B w w') (hB : hi ≤ B) : Soft w' size A n := fun b off e j hj => by
  have hn : 0 < n := by
    rcases Nat.eq_zero_or_pos n with h0 | h0
    · subst h0; simp at hj
    · exact h0
  obtain ⟨b', off', e', _, h2⟩ := hr.form hn
  rw [e] at e'; injection e' with e'; injection e' with e1 _
  exact (hb.frozen (p := ⟨b, off + j, none⟩) (by show b < B; omega)).trans (h b off e j hj)
theorem Soft.other {w w' : World} {lo hi size n lo' hi' size' m : Nat} {A B : Option Addr} {xs ys : List Value} (h : Soft w size A n) (hr : Rd w lo hi size A n xs) (hw : hi ≤ w.heap.size) (hin : In B m w w') (hB : Rd w lo' hi' size' B m ys) (hd : hi ≤ lo' ∨ hi' ≤ lo) : Soft w' size A n := fun b off e j hj => by
  have hn : 0 < n := by
    rcases Nat.eq_zero_or_pos n with h0 | h0
    · subst h0; simp at hj
    · exact h0
  obtain ⟨b', off', e', h1, h2⟩ := hr.form hn
  rw [e] at e'; injection e' with e'; injection e' with e1 _
  exact (World.frozen?_of_block (w := w) (a := ⟨b, off + j, none⟩) (hin.block b (by omega) (fun e => by have := in_row hB b e.symm; omega))).trans (h b off e j hj)

def seqI (k : Int) (n : Nat) : List Int := (List.range n).map fun (i : Nat) => k + (i : Int)
def seqP (k : Int) (n : Nat) : List (Int × Int) := (List.range n).map fun (i : Nat) => (k + 2 * (i : Int), k + 2 * (i : Int) + 1)
theorem seqI_snoc (k : Int) (n : Nat) : seqI k (n + 1) = seqI k n ++ [k + (n : Int)] := by simp [seqI, List.range_succ]
theorem seqP_snoc (k : Int) (n : Nat) : seqP k (n + 1) = seqP k n ++ [(k + 2 * (n : Int), k + 2 * (n : Int) + 1)] := by simp [seqP, List.range_succ]
theorem seqI_length (k : Int) (n : Nat) : (seqI k n).length = n := by simp [seqI]
theorem seqP_length (k : Int) (n : Nat) : (seqP k n).length = n := by simp [seqP]
theorem seqI_get {k : Int} {n i : Nat} (hi : i < n) : (seqI k n)[i]? = some (k + (i : Int)) := by simp [seqI, hi]
theorem seqP_get {k : Int} {n i : Nat} (hi : i < n) : (seqP k n)[i]? = some (k + 2 * (i : Int), k + 2 * (i : Int) + 1) := by simp [seqP, hi]
theorem mixI_step (k : Int) (zs : List Value) (n i : Nat) (hz : zs.length = n * 1) (hi : i < n) : (ivs (seqI k i) ++ zs.drop i).set i (.int .i64 (k + (i : Int))) = ivs (seqI k (i + 1)) ++ zs.drop (i + 1) := by
  have h1 : (ivs (seqI k i)).length = i := by rw [ivs_length, seqI_length]
  rw [List.drop_eq_getElem_cons (show i < zs.length by omega), List.set_append_right _ _ (by omega), h1, Nat.sub_self, List.set_cons_zero, seqI_snoc, ivs_append]
  simp [ivs]
theorem mixP_step (k : Int) (zs : List Value) (n i : Nat) (hz : zs.length = n * 2) (hi : i < n) : ((pvs (seqP k i) ++ zs.drop (i * 2)).set (i * 2) (.int .i64 (k + 2 * (i : Int)))).set (i * 2 + 1) (.int .i64 (k + 2 * (i : Int) + 1)) = pvs (seqP k (i + 1)) ++ zs.drop ((i + 1) * 2) := by
  have h1 : (pvs (seqP k i)).length = i * 2 := by rw [pvs_length, seqP_length]
  rw [List.drop_eq_getElem_cons (show i * 2 < zs.length by omega), List.drop_eq_getElem_cons (show i * 2 + 1 < zs.length by omega)]
  rw [List.set_append_right _ _ (by omega), h1, Nat.sub_self, List.set_cons_zero, List.set_append_right _ _ (by omega), h1, show i * 2 + 1 - i * 2 = 1 by omega, List.set_cons_succ, List.set_cons_zero, seqP_snoc, pvs_append]
  simp [pvs, pv, show (i + 1) * 2 = i * 2 + 1 + 1 by omega]

/-- The slice's cells have been written: the numbers from k on. -/
def Marked (vs : List Value) (lo hi size : Nat) (A : Option Addr) (n : Nat) (r : Int) (w : World) (e : Ending) (w' : World) : Prop :=
  e = .returned (.int .i64 r) ∧ Rd w' lo hi size A n vs ∧ Soft w' size A n ∧ In A n w w'






end Go.Proofs.Ytonlkodenfiljaa
