/- Heaps of timers, in plain mathematics: a swap, going up, going down. No program. -/
import Derived.Test.YtknphikoikdcjaaInstMath
set_option linter.unusedSimpArgs false
set_option linter.unusedVariables false
namespace Go.Proofs.Ytknphikoikdcjaa
open Go.RowKit

def tmv (l : List Tm) (i : Nat) : Tm := l.getD i (0, 0)
theorem tmv_lt {l : List Tm} {i : Nat} (h : i < l.length) : tmv l i = l[i] := by
  rw [tmv, List.getD_eq_getElem?_getD, List.getElem?_eq_getElem h]; rfl
theorem tmv_is {l : List Tm} {i : Nat} {t : Tm} (h : l[i]? = some t) : tmv l i = t := by
  rw [tmv, List.getD_eq_getElem?_getD, h]; rfl
theorem tmv_set {l : List Tm} {i : Nat} (h : i < l.length) (t : Tm) (k : Nat) : tmv (l.set i t) k = if k = i then t else tmv l k := by
  unfold tmv
  rw [List.getD_eq_getElem?_getD, List.getElem?_set]
  by_cases e : i = k
  · subst e; simp [h]
  · rw [if_neg e, if_neg (fun h => e h.symm), List.getD_eq_getElem?_getD]
/-- Two elements have changed places. -/
def swapL (l : List Tm) (i j : Nat) : List Tm := (l.set i (tmv l j)).set j (tmv l i)
theorem swapL_len (l : List Tm) (i j : Nat) : (swapL l i j).length = l.length := by simp [swapL]
theorem swapL_at {l : List Tm} {i j : Nat} (hi : i < l.length) (hj : j < l.length) (k : Nat) : tmv (swapL l i j) k = if k = j then tmv l i else if k = i then tmv l j else tmv l k := by
  unfold swapL
  rw [tmv_set (by simpa using hj), tmv_set hi]
theorem swapL_perm {l : List Tm} {i j : Nat} (hi : i < l.length) (hj : j < l.length) : (swapL l i j).Perm l := by
  rw [List.perm_iff_count]
  intro a
  unfold swapL
  rw [List.count_set (by simpa using hj), List.count_set hi, List.getElem_set, tmv_lt hi, tmv_lt hj]
  have h1 : (if (l[i] == a) = true then 1 else 0) ≤ l.count a := by
    split
    · rename_i h; rw [beq_iff_eq] at h; subst h; exact List.count_pos_iff.2 (List.getElem_mem hi)
    · omega
  by_cases e : i = j
  · subst e
    simp only [if_true]
    omega
  · rw [if_neg e]
    have h2 : (if (l[j] == a) = true then 1 else 0) ≤ l.count a - (if (l[i] == a) = true then 1 else 0) + (if (l[j] == a) = true then 1 else 0) := by omega
    omega
/-- The first n are a heap. -/
def HeapN (l : List Tm) (n : Nat) : Prop := ∀ k, 0 < k → k < n → tlt (tmv l k) (tmv l ((k - 1) / 2)) = false
theorem HeapN.min {l : List Tm} {n : Nat} (h : HeapN l n) : ∀ k, k < n → tlt (tmv l k) (tmv l 0) = false := by
  intro k
  induction k using Nat.strongRecOn with
  | _ k ih =>
    intro hk
    by_cases h0 : k = 0
    · subst h0; rw [tlt_not]; simp
    · exact tlt_trans (ih ((k - 1) / 2) (by omega) (by omega)) (h k (by omega) hk)
theorem TSort.heap {l : List Tm} (h : TSort l) : HeapN l l.length := by
  intro k h0 hk
  rw [tmv_lt hk, tmv_lt (show (k - 1) / 2 < l.length by omega)]
  exact List.pairwise_iff_getElem.1 h _ _ (by omega) hk (by omega)
/-- The first of a heap is the first in order. -/
theorem heap_first {l m : List Tm} (h : HeapN l l.length) (hs : TSort m) (hp : l.Perm m) (h0 : 0 < l.length) : tmv l 0 = tmv m 0 := by
  have hl := hp.length_eq
  have h0' : 0 < m.length := by omega
  apply tlt_anti
  · have : tmv l 0 ∈ m := hp.mem_iff.1 (by rw [tmv_lt h0]; exact List.getElem_mem _)
    obtain ⟨j, hj, e⟩ := List.getElem_of_mem this
    rw [← e, ← tmv_lt hj]
    exact hs.heap.min j hj
  · have : tmv m 0 ∈ l := hp.mem_iff.2 (by rw [tmv_lt h0']; exact List.getElem_mem _)
    obtain ⟨j, hj, e⟩ := List.getElem_of_mem this
    rw [← e, ← tmv_lt hj]
    exact h.min j hj
/-- A heap but for the one at j, which may go up. -/
def UpInv (l : List Tm) (j : Nat) : Prop := j < l.length ∧ (∀ i, 0 < i → i < l.length → i ≠ j → tlt (tmv l i) (tmv l ((i - 1) / 2)) = false) ∧ (∀ i, 0 < i → i < l.length → (i - 1) / 2 = j → 0 < j → tlt (tmv l i) (tmv l ((j - 1) / 2)) = false)
theorem UpInv.start {l : List Tm} (h : HeapN l l.length) (t : Tm) : UpInv (l ++ [t]) l.length := by
  have old : ∀ i, i < l.length → tmv (l ++ [t]) i = tmv l i := fun i hi => by
    unfold tmv; rw [List.getD_eq_getElem?_getD, List.getElem?_append_left hi, List.getD_eq_getElem?_getD]
  refine ⟨by simp, fun i h0 hi hn => ?_, fun i h0 hi hp hj => ?_⟩
  · rw [List.length_append, List.length_singleton] at hi
    rw [old i (by omega), old _ (by omega)]
    exact h i h0 (by omega)
  · rw [List.length_append, List.length_singleton] at hi; omega
theorem UpInv.swap {l : List Tm} {j : Nat} (h : UpInv l j) (hj : 0 < j) (hlt : tlt (tmv l j) (tmv l ((j - 1) / 2)) = true) : UpInv (swapL l ((j - 1) / 2) j) ((j - 1) / 2) := by
  obtain ⟨h1, h2, h3⟩ := h
  have hp : (j - 1) / 2 < l.length := by omega
  have at' := swapL_at hp h1
  rw [tlt_iff] at hlt
  refine ⟨by rw [swapL_len]; exact hp, fun i h0 hi hn => ?_, fun i h0 hi hpi hpp => ?_⟩
  · rw [swapL_len] at hi
    rw [at', at']
    by_cases e1 : i = j
    · subst e1
      simp only [if_true]
      rw [if_neg (by omega), tlt_not]; omega
    · rw [if_neg e1, if_neg hn]
      by_cases e2 : (i - 1) / 2 = j
      · rw [if_pos e2]; exact h3 i h0 hi e2 hj
      · rw [if_neg e2]
        have h4 := h2 i h0 hi e1
        by_cases e3 : (i - 1) / 2 = (j - 1) / 2
        · rw [if_pos e3]
          rw [e3, tlt_not] at h4
          rw [tlt_not]; omega
        · rw [if_neg e3]; exact h4
  · rw [swapL_len] at hi
    rw [at', at']
    rw [if_neg (show ¬ ((j - 1) / 2 - 1) / 2 = j by omega), if_neg (show ¬ ((j - 1) / 2 - 1) / 2 = (j - 1) / 2 by omega)]
    have h5 := h2 ((j - 1) / 2) hpp hp (by omega)
    by_cases e1 : i = j
    · rw [if_pos e1]; exact h5
    · rw [if_neg e1, if_neg (by omega)]
      have h4 := h2 i h0 hi e1
      rw [hpi] at h4
      exact tlt_trans h5 h4
theorem UpInv.done {l : List Tm} {j : Nat} (h : UpInv l j) (he : j = 0 ∨ tlt (tmv l j) (tmv l ((j - 1) / 2)) = false) : HeapN l l.length := by
  intro i h0 hi
  by_cases e : i = j
  · subst e
    rcases he with he | he
    · omega
    · exact he
  · exact h.2.1 i h0 hi e
/-- The first n are a heap but for the one at i, which may go down. -/
def DownInv (l : List Tm) (i n : Nat) : Prop := n ≤ l.length ∧ (∀ k, 0 < k → k < n → (k - 1) / 2 ≠ i → tlt (tmv l k) (tmv l ((k - 1) / 2)) = false) ∧ (∀ k, 0 < k → k < n → (k - 1) / 2 = i → 0 < i → tlt (tmv l k) (tmv l ((i - 1) / 2)) = false)
theorem DownInv.start {l : List Tm} {n : Nat} (h : HeapN l l.length) (hn : l.length = n + 1) : DownInv (swapL l 0 n) 0 n := by
  have at' := swapL_at (l := l) (i := 0) (j := n) (by omega) (by omega)
  refine ⟨by rw [swapL_len]; omega, fun k h0 hk hp => ?_, fun k h0 hk hp hi => by omega⟩
  rw [at', at', if_neg (by omega), if_neg (by omega), if_neg (by omega), if_neg hp]
  exact h k h0 (by omega)
theorem DownInv.swap {l : List Tm} {i j n : Nat} (h : DownInv l i n) (hji : (j - 1) / 2 = i) (h0j : 0 < j) (hj : j < n) (hlt : tlt (tmv l j) (tmv l i) = true) (hs : ∀ s, 0 < s → s < n → (s - 1) / 2 = i → tlt (tmv l s) (tmv l j) = false) : DownInv (swapL l i j) j n := by
  obtain ⟨h1, h2, h3⟩ := h
  have at' := swapL_at (l := l) (i := i) (j := j) (by omega) (by omega)
  rw [tlt_iff] at hlt
  refine ⟨by rw [swapL_len]; exact h1, fun k h0 hk hp => ?_, fun k h0 hk hp hj0 => ?_⟩
  · rw [at', at', if_neg hp]
    by_cases e1 : (k - 1) / 2 = i
    · rw [if_pos e1]
      by_cases e2 : k = j
      · rw [if_pos e2, tlt_not]; omega
      · rw [if_neg e2, if_neg (by omega)]
        exact hs k h0 hk e1
    · rw [if_neg e1]
      have e2 : ¬ k = j := fun e => e1 (by rw [e]; exact hji)
      rw [if_neg e2]
      by_cases e3 : k = i
      · subst e3
        rw [if_pos rfl]
        exact h3 j h0j hj hji h0
      · rw [if_neg e3]
        exact h2 k h0 hk e1
  · rw [at', at', if_neg (by omega), if_neg (by omega), hji, if_neg (by omega), if_pos rfl]
    have := h2 k h0 hk (by omega)
    rw [hp] at this
    exact this
theorem DownInv.done {l : List Tm} {i n : Nat} (h : DownInv l i n) (he : ∀ k, 0 < k → k < n → (k - 1) / 2 = i → tlt (tmv l k) (tmv l i) = false) : HeapN l n := by
  intro k h0 hk
  by_cases e : (k - 1) / 2 = i
  · rw [e]; exact he k h0 hk e
  · exact h.2.1 k h0 hk e
theorem HeapN.take {l : List Tm} {n : Nat} (h : HeapN l n) (hn : n ≤ l.length) : HeapN (l.take n) (l.take n).length := by
  intro k h0 hk
  rw [List.length_take] at hk
  have old : ∀ i, i < n → tmv (l.take n) i = tmv l i := fun i hi => by
    unfold tmv; rw [List.getD_eq_getElem?_getD, List.getElem?_take, if_pos hi, List.getD_eq_getElem?_getD]
  rw [old k (by omega), old _ (by omega)]
  exact h k h0 (by omega)
theorem take_last {l : List Tm} {n : Nat} (hn : l.length = n + 1) : l = l.take n ++ [tmv l n] := by
  have h1 : l[n]? = some (tmv l n) := by rw [tmv_lt (by omega)]; exact List.getElem?_eq_getElem (by omega)
  have h2 := take_snoc h1
  rw [List.take_of_length_le (by omega)] at h2
  exact h2
theorem pop_perm {l m : List Tm} {n : Nat} (hn : l.length = n + 1) (hp : m.Perm l) (hl : tmv m n = tmv l 0) : (tmv l 0 :: m.take n).Perm l := by
  have hm : m.length = n + 1 := by rw [hp.length_eq]; exact hn
  have h1 : m.Perm (tmv m n :: m.take n) := by
    have e := take_last hm
    exact (List.Perm.of_eq e).trans (List.perm_append_singleton _ _)
  rw [← hl]
  exact h1.symm.trans hp
end Go.Proofs.Ytknphikoikdcjaa
