/- The flows of nodes, in plain mathematics: who is among them, how many they are, that they ascend. No program. -/
import Derived.Test.YthlcbdjjegageaaRchMath
namespace Go.Proofs.Ythlcbdjjegageaa
open Go.RowKit

theorem flOf_mem {fs : List Flw} {out : Bool} {node z : Int} : z ∈ flOf fs out node ↔ ∃ (k : Nat) (f : Flw), z = (k : Int) ∧ fs[k]? = some f ∧ endOf out f = node := by
  unfold flOf flUp
  simp only [List.mem_map, List.mem_filter, List.mem_range]
  constructor
  · rintro ⟨k, ⟨hk, hf⟩, rfl⟩
    rw [List.getElem?_eq_getElem hk] at hf
    exact ⟨k, fs[k], rfl, List.getElem?_eq_getElem hk, by simpa using hf⟩
  · rintro ⟨k, f, rfl, hf, he⟩
    exact ⟨k, ⟨(List.getElem?_eq_some_iff.1 hf).1, by rw [hf]; simpa using he⟩, rfl⟩
theorem flUp_count (fs : List Flw) (out : Bool) (node : Int) : ∀ k, k ≤ fs.length → (flUp fs out node k).length = (fs.take k).countP fun f => endOf out f == node
  | 0, _ => by simp [flUp]
  | k + 1, h => by
    have ih := flUp_count fs out node k (by omega)
    have hk : k < fs.length := by omega
    have hg : fs[k]? = some fs[k] := List.getElem?_eq_getElem hk
    rw [take_snoc hg, List.countP_append]
    by_cases he : endOf out fs[k] = node
    · rw [flUp_yes hg he, List.length_append, ih]; simp [he]
    · rw [flUp_no hg he, ih]; simp [he]
theorem flOf_count (fs : List Flw) (out : Bool) (node : Int) : (flOf fs out node).length = fs.countP fun f => endOf out f == node := by
  rw [flOf, flUp_count fs out node fs.length (Nat.le_refl _), List.take_length]
/-- How many flows the nodes below m have together. -/
def flSum (fs : List Flw) (out : Bool) : Nat → Nat
  | 0 => 0
  | m + 1 => flSum fs out m + (flOf fs out (m : Int)).length
theorem flSum_cons (f : Flw) (fs : List Flw) (out : Bool) : ∀ m : Nat, 0 ≤ endOf out f → flSum (f :: fs) out m = flSum fs out m + if endOf out f < (m : Int) then 1 else 0
  | 0, h => by simp [flSum]; omega
  | m + 1, h => by
    have ih := flSum_cons f fs out m h
    simp only [flSum, ih, flOf_count, List.countP_cons]
    by_cases h1 : endOf out f = (m : Int)
    · rw [if_neg (show ¬ endOf out f < (m : Int) by omega), if_pos (show endOf out f < ((m + 1 : Nat) : Int) by omega), if_pos (show (endOf out f == (m : Int)) = true by simpa using h1)]
      omega
    · rw [if_neg (show ¬ (endOf out f == (m : Int)) = true by simpa using h1)]
      by_cases h2 : endOf out f < (m : Int)
      · rw [if_pos h2, if_pos (show endOf out f < ((m + 1 : Nat) : Int) by omega)]
        omega
      · rw [if_neg h2, if_neg (show ¬ endOf out f < ((m + 1 : Nat) : Int) by omega)]
        omega
theorem flSum_all : ∀ {fs : List Flw} {out : Bool} {N : Nat}, Inside fs N → flSum fs out N = fs.length
  | [], out, N, _ => by
    have : ∀ m, flSum [] out m = 0 := by
      intro m
      induction m with
      | zero => rfl
      | succ m ih => simp [flSum, ih, flOf, flUp]
    exact this N
  | f :: fs, out, N, h => by
    have hf := h f (by simp)
    have he : 0 ≤ endOf out f ∧ endOf out f < (N : Int) := by cases out <;> simp [endOf] <;> omega
    rw [flSum_cons f fs out N he.1, if_pos he.2, flSum_all (fun g hg => h g (by simp [hg]))]
    simp
theorem flSum_le (fs : List Flw) (out : Bool) : ∀ m, flSum fs out m ≤ m * fs.length
  | 0 => by simp [flSum]
  | m + 1 => by
    have := flSum_le fs out m
    have h2 := flUp_le fs out (m : Int) fs.length
    simp only [flSum, flOf] at *
    rw [Nat.add_mul]; omega
theorem flOf_sorted (fs : List Flw) (out : Bool) (node : Int) : (flOf fs out node).Pairwise (· < ·) := by
  unfold flOf flUp
  rw [List.pairwise_map]
  exact (List.Pairwise.filter _ List.pairwise_lt_range).imp (fun h => by omega)
theorem flOf_none {fs : List Flw} {N : Nat} (h : Inside fs N) {out : Bool} {node : Int} (hn : node < 0 ∨ (N : Int) ≤ node) : flOf fs out node = [] := by
  refine List.eq_nil_iff_forall_not_mem.2 fun z hz => ?_
  obtain ⟨k, f, rfl, hf, he⟩ := flOf_mem.1 hz
  have := h f (List.mem_of_getElem? hf)
  cases out <;> simp [endOf] at he <;> omega

/-- What a valid process is. -/
theorem vProc_inside {ns : List (Int × Int)} {fs : List Flw} (h : vProc ns fs = true) : Inside fs ns.length := by
  simp only [vProc, Bool.and_eq_true] at h
  intro f hf
  have h1 := List.all_eq_true.1 h.1.1.2 f hf
  simp only [vFlow, Bool.and_eq_true] at h1
  have a := inR_iff.1 h1.1.1
  have b := inR_iff.1 h1.1.2
  omega
theorem vProc_len {ns : List (Int × Int)} {fs : List Flw} (h : vProc ns fs = true) : 2 ≤ ns.length ∧ ns.length ≤ 10 ∧ fs.length ≤ 14 := by
  simp only [vProc, Bool.and_eq_true] at h
  have a := inR_iff.1 h.1.1.1.1
  have b : fs.length ≤ 14 := by simpa using h.1.1.1.2
  omega
theorem vNodesR_at {fs : List Flw} : ∀ {ns : List (Int × Int)} {k j : Nat} {x y : Int}, vNodesR fs ns k = true → ns[j]? = some (x, y) → vNode x y (flOf fs false ((k + j : Nat) : Int)).length (flOf fs true ((k + j : Nat) : Int)).length = true
  | [], _, _, _, _, _, e => by simp at e
  | p :: ns, k, 0, x, y, h, e => by
    simp at e
    subst e
    simp only [vNodesR, Bool.and_eq_true] at h
    exact h.1
  | p :: ns, k, j + 1, x, y, h, e => by
    simp only [vNodesR, Bool.and_eq_true] at h
    have := vNodesR_at h.2 (j := j) (by simpa using e)
    rwa [show k + 1 + j = k + (j + 1) by omega] at this
theorem vProc_node {ns : List (Int × Int)} {fs : List Flw} (h : vProc ns fs = true) {j : Nat} {x y : Int} (e : ns[j]? = some (x, y)) : vVal x y = true ∧ vKind x (flOf fs false (j : Int)).length (flOf fs true (j : Int)).length = true := by
  simp only [vProc, Bool.and_eq_true] at h
  have := vNodesR_at h.1.2 e
  rw [Nat.zero_add] at this
  simpa [vNode] using this
theorem vProc_starts {ns : List (Int × Int)} {fs : List Flw} (h : vProc ns fs = true) : nStarts ns = 1 := by
  simp only [vProc, Bool.and_eq_true] at h
  simpa using h.2
/-- Only ends have no flow out, and only the start has no flow in. -/
theorem vKind_out {x i o : Int} (h : vKind x i o = true) (_ho : 0 ≤ o) : o = 0 ↔ x = 1 := by
  unfold vKind at h
  split at h
  · simp at h; omega
  split at h
  · simp at h; omega
  split at h
  · simp at h; omega
  split at h
  · simp at h; omega
  split at h
  · simp at h; omega
  · cases h
theorem vKind_in {x i o : Int} (h : vKind x i o = true) (_hi : 0 ≤ i) : i = 0 ↔ x = 0 := by
  unfold vKind at h
  split at h
  · simp at h; omega
  split at h
  · simp at h; omega
  split at h
  · simp at h; omega
  split at h
  · simp at h; omega
  split at h
  · simp at h; omega
  · cases h
theorem vProc_two {ns : List (Int × Int)} {fs : List Flw} (h : vProc ns fs = true) : vProc (ns ++ [(0, 0)]) fs = false := by
  have h1 := vProc_starts h
  have h2 : nStarts (ns ++ [(0, 0)]) = 2 := by simp [nStarts] at h1 ⊢; omega
  simp [vProc, h2]
end Go.Proofs.Ythlcbdjjegageaa
