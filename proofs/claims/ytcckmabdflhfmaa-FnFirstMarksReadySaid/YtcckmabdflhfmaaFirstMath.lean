/- What FirstMarks answers, and which node is ready then; the sum of a list. -/
import Derived.Test.YtcckmabdflhfmaaTokList
import Derived.Test.YtcckmabdflhfmaaTokSumA
namespace Go.Proofs.Ytcckmabdflhfmaa
open Go.RowKit

theorem repl_sum : ∀ n : Nat, (List.replicate n (0 : Int)).sum = 0
  | 0 => rfl
  | n + 1 => by rw [List.replicate_succ, List.sum_cons, repl_sum n]; rfl
theorem setone_sum : ∀ (n q : Nat), q < n → ((List.replicate n (0 : Int)).set q 1).sum = 1
  | 0, q, h => by omega
  | n + 1, 0, _ => by rw [List.replicate_succ, List.set_cons_zero, List.sum_cons, repl_sum]; rfl
  | n + 1, q + 1, h => by rw [List.replicate_succ, List.set_cons_succ, List.sum_cons, setone_sum n q (by omega)]; rfl
theorem setone_get {n q i : Nat} {m : Int} (h : ((List.replicate n (0 : Int)).set q 1)[i]? = some m) : (i = q ∧ m = 1) ∨ (i ≠ q ∧ m = 0) := by
  have hl := (List.getElem?_eq_some_iff.1 h).1
  by_cases e : i = q
  · subst e
    rw [List.getElem?_set_self (by simpa using hl)] at h
    injection h with h
    exact .inl ⟨rfl, h.symm⟩
  · rw [List.getElem?_set_ne (fun e' => e e'.symm), List.getElem?_eq_getElem (by simpa using hl), List.getElem_replicate] at h
    injection h with h
    exact .inr ⟨e, h.symm⟩
theorem setone_pos {n q k : Nat} (hk : k < n) : pos ((List.replicate n (0 : Int)).set q 1) (k : Int) = decide (k = q) := by
  have hl : k < ((List.replicate n (0 : Int)).set q 1).length := by simpa using hk
  have hg := List.getElem?_eq_getElem hl
  rw [pos, Int.toNat_natCast, List.getD_eq_getElem?_getD, hg]
  rcases setone_get hg with ⟨h1, h2⟩ | ⟨h1, h2⟩
  · rw [h2]; simp [h1]
  · rw [h2]; simp [h1]
theorem first_at {ns : List (Int × Int)} {fs : List Flw} (h : vProc ns fs = true) : ∃ (q j t : Nat) (y : Int) (ps : List (Int × Int)), q < fs.length ∧ firstOf ns fs = (List.replicate fs.length (0 : Int)).set q 1 ∧ fs[q]? = some ((j : Int), (t : Int), ps) ∧ ns[j]? = some (0, y) ∧ t < ns.length := by
  obtain ⟨q, hq, hlt, _, _⟩ := start_flow h
  obtain ⟨j, y, hj, hs⟩ := startAt_spec ns 0 (by have := vProc_starts h; omega)
  rw [Nat.zero_add] at hs
  obtain ⟨k, f, hk, hf, he⟩ := flOf_mem.1 (show (q : Int) ∈ flOf fs true (startAt ns 0) by rw [hq]; simp)
  obtain rfl : q = k := by omega
  obtain ⟨x, t, ps⟩ := f
  have hx : x = (j : Int) := by rw [← hs, ← he]; rfl
  subst hx
  obtain ⟨_, _, h1, h2⟩ := vProc_inside h _ (List.mem_of_getElem? hf)
  obtain ⟨t, rfl⟩ := Int.eq_ofNat_of_zero_le h1
  exact ⟨q, j, t, y, ps, hlt, firstOf_yes h hq, hf, hj, by have : ((t : Nat) : Int) < (ns.length : Int) := h2; omega⟩
theorem first_range {ns : List (Int × Int)} {fs : List Flw} : ∀ z ∈ firstOf ns fs, 0 ≤ z ∧ z ≤ 1 := by
  intro z hz
  unfold firstOf at hz
  split at hz
  · rcases List.mem_or_eq_of_mem_set hz with h | h
    · rw [(List.mem_replicate.1 h).2]; omega
    · omega
  · cases hz
theorem first_len {ns : List (Int × Int)} {fs : List Flw} : (firstOf ns fs).length ≤ fs.length := by
  unfold firstOf
  split
  · simp
  · simp
theorem first_valid {ns : List (Int × Int)} {fs : List Flw} (h : (firstOf ns fs).length ≠ 0) : vProc ns fs = true := by
  cases hv : vProc ns fs with
  | true => rfl
  | false => rw [firstOf, hv] at h; exact absurd rfl h
theorem first_marks {ns : List (Int × Int)} {fs : List Flw} (h : vProc ns fs = true) : vMarks fs (firstOf ns fs) = true := by
  obtain ⟨q, j, t, y, ps, hlt, hfo, _, _, _⟩ := first_at h
  rw [vMarks, Bool.and_eq_true]
  refine ⟨by rw [hfo]; simp, List.all_eq_true.2 fun z hz => inR_iff.2 ?_⟩
  have := first_range z hz
  omega
theorem first_count {ns : List (Int × Int)} {fs : List Flw} (h : vProc ns fs = true) : countOf ns fs (firstOf ns fs) = 1 := by
  obtain ⟨q, j, t, y, ps, hlt, hfo, _, _, _⟩ := first_at h
  have hm := first_marks h
  rw [countOf, h, hm, hfo]
  exact setone_sum _ _ hlt
theorem one_range (t : Nat) : ∀ n : Nat, (List.range n).filter (fun i => decide (i = t)) = if t < n then [t] else []
  | 0 => by simp
  | n + 1 => by
    rw [List.range_succ, List.filter_append, one_range t n]
    by_cases h1 : n = t
    · subst h1
      simp
    · by_cases h2 : t < n
      · rw [if_pos h2, if_pos (by omega)]; simp [h1]
      · rw [if_neg h2, if_neg (by omega)]; simp [h1]
/-- With the first tokens the node behind the start is ready, unless it waits for all its ways. -/
theorem first_ready {ns : List (Int × Int)} {fs : List Flw} (h : vProc ns fs = true) {q t : Nat} {j : Int} {ps : List (Int × Int)} (hlt : q < fs.length) (hfo : firstOf ns fs = (List.replicate fs.length (0 : Int)).set q 1) (hfq : fs[q]? = some (j, (t : Int), ps)) (ht : t < ns.length) :
    readyOf ns fs (firstOf ns fs) = if kindAt ns t = 8 then [] else [(t : Int)] := by
  have hm := first_marks h
  have hposq : pos (firstOf ns fs) (q : Int) = true := by rw [hfo, setone_pos hlt]; simp
  have hmem : (q : Int) ∈ flOf fs false (t : Int) := flOf_mem.2 ⟨q, _, rfl, hfq, rfl⟩
  have hpos : ∀ i : Nat, ∀ z ∈ flOf fs false (i : Int), pos (firstOf ns fs) z = true → z = (q : Int) ∧ i = t := by
    intro i z hz hp
    obtain ⟨k, f, rfl, hf, he⟩ := flOf_mem.1 hz
    rw [hfo, setone_pos (List.getElem?_eq_some_iff.1 hf).1, decide_eq_true_eq] at hp
    subst hp
    rw [hfq] at hf
    injection hf with hf
    subst hf
    have : (t : Int) = (i : Int) := he
    exact ⟨rfl, by omega⟩
  have key : ∀ i : Nat, i < ns.length → readyB (kindAt ns i) (firstOf ns fs) (flOf fs false (i : Int)) = decide (i = t ∧ kindAt ns t ≠ 8) := by
    intro i hi
    by_cases e : i = t
    · subst e
      by_cases h8 : kindAt ns i = 8
      · have hr : decide (i = i ∧ kindAt ns i ≠ 8) = false := by simp [h8]
        rw [hr, readyB, if_pos h8]
        obtain ⟨⟨x, y⟩, hxy⟩ : ∃ p, ns[i]? = some p := ⟨_, List.getElem?_eq_getElem hi⟩
        have hk := (vProc_node h hxy).2
        rw [kindAt_is hxy] at h8
        subst h8
        have hl2 : 2 ≤ (flOf fs false (i : Int)).length := by
          simp [vKind] at hk
          omega
        have hs := flOf_sorted fs false (i : Int)
        have hp := hpos i
        generalize flOf fs false (i : Int) = l at *
        match l, hl2 with
        | a :: b :: l, _ =>
          have hab : a < b := (List.pairwise_cons.1 hs).1 b (by simp)
          cases hall : (a :: b :: l).all (pos (firstOf ns fs)) with
          | false => simp
          | true =>
            have h1 := (hp a (by simp) (List.all_eq_true.1 hall a (by simp))).1
            have h2 := (hp b (by simp) (List.all_eq_true.1 hall b (by simp))).1
            omega
      · have hr : decide (i = i ∧ kindAt ns i ≠ 8) = true := by simp [h8]
        rw [hr, readyB, if_neg h8]
        exact List.any_eq_true.2 ⟨_, hmem, hposq⟩
    · have hr : decide (i = t ∧ kindAt ns t ≠ 8) = false := by simp [e]
      rw [hr, readyB]
      have hp := hpos i
      generalize flOf fs false (i : Int) = l at *
      have hn : ∀ z ∈ l, pos (firstOf ns fs) z = false := fun z hz => by
        cases hc : pos (firstOf ns fs) z with
        | false => rfl
        | true => exact absurd (hp z hz hc).2 e
      split
      · match l, hn with
        | [], _ => rfl
        | a :: l, hn => rw [List.all_cons, hn a (by simp)]; simp
      · exact List.any_eq_false.2 fun z hz => by rw [hn z hz]; simp
  rw [readyOf, h, hm]
  show readyUp ns fs (firstOf ns fs) ns.length = _
  rw [readyUp, List.filter_congr (fun i hi => key i (List.mem_range.1 hi))]
  by_cases h8 : kindAt ns t = 8
  · rw [if_pos h8]; simp [h8]
  · rw [if_neg h8]
    have : (fun i => decide (i = t ∧ kindAt ns t ≠ 8)) = (fun i => decide (i = t)) := by funext i; simp [h8]
    rw [this, one_range, if_pos ht]
    rfl
end Go.Proofs.Ytcckmabdflhfmaa
