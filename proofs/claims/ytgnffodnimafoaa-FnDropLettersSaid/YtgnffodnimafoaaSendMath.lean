/- Sending a letter and waiting for one, in plain mathematics. No program. -/
import Derived.Test.YtgnffodnimafoaaPostMath
set_option linter.unusedSimpArgs false
set_option linter.unusedVariables false
namespace Go.Proofs.Ytgnffodnimafoaa
open Go.RowKit

/-- The place of the first one with an address; the length if there is none. -/
def firstAt (f : Tri → Int × Int) (l : List Tri) (a : Int × Int) : Nat := l.findIdx fun t => f t == a
theorem firstAt_le (f : Tri → Int × Int) (l : List Tri) (a : Int × Int) : firstAt f l a ≤ l.length := List.findIdx_le_length
theorem firstAt_hit {f : Tri → Int × Int} {l : List Tri} {a : Int × Int} {k : Nat} {t : Tri} (hg : l[k]? = some t) (h : f t = a) (hle : k ≤ firstAt f l a) : firstAt f l a = k := by
  obtain ⟨hk, he⟩ := List.getElem?_eq_some_iff.1 hg
  refine Nat.le_antisymm (Nat.le_of_not_lt fun hlt => ?_) hle
  have := List.not_of_lt_findIdx hlt
  rw [he] at this
  simp [h] at this
theorem firstAt_miss {f : Tri → Int × Int} {l : List Tri} {a : Int × Int} {k : Nat} {t : Tri} (hg : l[k]? = some t) (h : ¬ f t = a) (hle : k ≤ firstAt f l a) : k + 1 ≤ firstAt f l a := by
  obtain ⟨hk, he⟩ := List.getElem?_eq_some_iff.1 hg
  rcases Nat.lt_or_eq_of_le hle with hlt | heq
  · exact hlt
  · have hlt : firstAt f l a < l.length := by omega
    have := List.findIdx_getElem (w := hlt)
    have e : l[firstAt f l a]'hlt = t := by rw [← he]; congr 1; exact heq.symm
    rw [show l[List.findIdx (fun t => f t == a) l]'hlt = t from e] at this
    exact absurd (by simpa using this) h
theorem firstAt_get {f : Tri → Int × Int} {l : List Tri} {a : Int × Int} (h : firstAt f l a < l.length) : ∃ t, l[firstAt f l a]? = some t ∧ f t = a := by
  have := List.findIdx_getElem (w := h)
  exact ⟨_, List.getElem?_eq_getElem h, eq_of_beq this⟩
theorem range_head {p : Nat → Bool} : ∀ {n k : Nat}, k < n → p k = true → (∀ j, j < k → p j = false) → ((List.range n).filter p).head? = some k := by
  intro n
  induction n with
  | zero => intro k h; omega
  | succ n ih =>
    intro k hk hp hb
    rw [List.range_succ, List.filter_append]
    rcases Nat.lt_or_ge k n with h | h
    · rw [List.head?_append, ih h hp hb]; rfl
    · obtain rfl : k = n := by omega
      have e : (List.range k).filter p = [] := List.filter_eq_nil_iff.2 fun j hj => by rw [hb j (List.mem_range.1 hj)]; simp
      rw [e]
      simp [hp]
/-- The head of the indices with an address is the first place. -/
theorem idx_head {f : Tri → Int × Int} {l : List Tri} {a : Int × Int} (h : firstAt f l a < l.length) : (idxOf f l a).headD 0 = (firstAt f l a : Int) ∧ (idxOf f l a).isEmpty = false := by
  have hh : (idxOf f l a).head? = some (firstAt f l a : Int) := by
    unfold idxOf idxUp
    rw [List.head?_map, range_head h]
    · rfl
    · obtain ⟨t, hg, ht⟩ := firstAt_get h
      rw [hg]; simp [ht]
    · intro j hj
      have hjl : j < l.length := by omega
      have := List.not_of_lt_findIdx hj
      rw [List.getElem?_eq_getElem hjl]
      simpa using this
  cases hx : idxOf f l a with
  | nil => rw [hx] at hh; cases hh
  | cons q qs => rw [hx] at hh; injection hh with hh; exact ⟨hh, rfl⟩
theorem idx_none {f : Tri → Int × Int} {l : List Tri} {a : Int × Int} (h : ¬ firstAt f l a < l.length) : (idxOf f l a).isEmpty = true := by
  rw [List.isEmpty_iff]
  refine Classical.byContradiction fun hne => ?_
  obtain ⟨t, ht, hf⟩ := idx_some.1 hne
  exact h (List.findIdx_lt_length_of_exists ⟨t, ht, by simpa using hf⟩)

/-- What SendLetter answers: the post office, who gets the letter, whether it was sent. -/
def sendOf (ss ls : List Tri) (l : Tri) : (List Tri × List Tri) × Int × Bool :=
  if vPost ss ls && vLet l then
    if firstAt adS ss (adL l) < ss.length then ((ss.eraseIdx (firstAt adS ss (adL l)), ls), (ss[firstAt adS ss (adL l)]?.getD (0, 0, 0)).1, true)
    else if vPost ss (ls ++ [l]) then ((ss, ls ++ [l]), -1, true) else (([], []), -1, false)
  else (([], []), -1, false)
/-- What WaitLetter answers. -/
def waitOf (ss ls : List Tri) (s : Tri) : (List Tri × List Tri) × Bool × Bool :=
  if vPost ss ls && vSub s then
    if firstAt adL ls (adS s) < ls.length then ((ss, ls.eraseIdx (firstAt adL ls (adS s))), true, true)
    else if vPost (ss ++ [s]) ls then ((ss ++ [s], ls), false, true) else (([], []), false, false)
  else (([], []), false, false)
theorem send_no {ss ls : List Tri} {l : Tri} (h : (vPost ss ls && vLet l) = false) : sendOf ss ls l = (([], []), -1, false) := by rw [sendOf, h]; rfl
theorem send_hit {ss ls : List Tri} {l t : Tri} (h : (vPost ss ls && vLet l) = true) {k : Nat} (hk : firstAt adS ss (adL l) = k) (hg : ss[k]? = some t) : sendOf ss ls l = ((ss.eraseIdx k, ls), t.1, true) := by
  have hlt : k < ss.length := (List.getElem?_eq_some_iff.1 hg).1
  rw [sendOf, if_pos h, hk, if_pos hlt, hg]; rfl
theorem send_put {ss ls : List Tri} {l : Tri} (h : (vPost ss ls && vLet l) = true) (hk : ¬ firstAt adS ss (adL l) < ss.length) (hv : vPost ss (ls ++ [l]) = true) : sendOf ss ls l = ((ss, ls ++ [l]), -1, true) := by
  rw [sendOf, if_pos h, if_neg hk, if_pos hv]
theorem send_full {ss ls : List Tri} {l : Tri} (h : (vPost ss ls && vLet l) = true) (hk : ¬ firstAt adS ss (adL l) < ss.length) (hv : vPost ss (ls ++ [l]) = false) : sendOf ss ls l = (([], []), -1, false) := by
  rw [sendOf, if_pos h, if_neg hk, hv]; rfl
theorem wait_no {ss ls : List Tri} {s : Tri} (h : (vPost ss ls && vSub s) = false) : waitOf ss ls s = (([], []), false, false) := by rw [waitOf, h]; rfl
theorem wait_hit {ss ls : List Tri} {s t : Tri} (h : (vPost ss ls && vSub s) = true) {k : Nat} (hk : firstAt adL ls (adS s) = k) (hg : ls[k]? = some t) : waitOf ss ls s = ((ss, ls.eraseIdx k), true, true) := by
  have hlt : k < ls.length := (List.getElem?_eq_some_iff.1 hg).1
  rw [waitOf, if_pos h, hk, if_pos hlt]
theorem wait_put {ss ls : List Tri} {s : Tri} (h : (vPost ss ls && vSub s) = true) (hk : ¬ firstAt adL ls (adS s) < ls.length) (hv : vPost (ss ++ [s]) ls = true) : waitOf ss ls s = ((ss ++ [s], ls), false, true) := by
  rw [waitOf, if_pos h, if_neg hk, if_pos hv]
theorem wait_full {ss ls : List Tri} {s : Tri} (h : (vPost ss ls && vSub s) = true) (hk : ¬ firstAt adL ls (adS s) < ls.length) (hv : vPost (ss ++ [s]) ls = false) : waitOf ss ls s = (([], []), false, false) := by
  rw [waitOf, if_pos h, if_neg hk, hv]; rfl
/-- Validity, piece by piece. -/
theorem vPost_and {ss ls : List Tri} : vPost ss ls = true ↔ (∀ s ∈ ss, ∀ l ∈ ls, adS s ≠ adL l) ∧ (∀ s ∈ ss, vSub s = true) ∧ ss.length ≤ 10 ∧ (∀ l ∈ ls, vLet l = true) ∧ ls.length ≤ 10 := by
  simp only [vPost, vSubs, vLets, Bool.and_eq_true, decide_eq_true_eq, List.all_eq_true, Bool.not_eq_true']
  constructor
  · rintro ⟨⟨h1, h2, h3⟩, h4, h5⟩
    exact ⟨fun s hs l hl e => (by have := h1 s hs l hl; rw [meets_iff.2 e] at this; cases this), h2, h3, h4, h5⟩
  · rintro ⟨h1, h2, h3, h4, h5⟩
    exact ⟨⟨fun s hs l hl => (by rw [Bool.eq_false_iff]; exact fun e => h1 s hs l hl (meets_iff.1 e)), h2, h3⟩, h4, h5⟩
/-- What is sent is valid. -/
theorem send_valid {ss ls : List Tri} {l : Tri} (h : (sendOf ss ls l).2.2 = true) : vPost (sendOf ss ls l).1.1 (sendOf ss ls l).1.2 = true := by
  cases hv : (vPost ss ls && vLet l) with
  | false => rw [send_no hv] at h; cases h
  | true =>
    by_cases hk : firstAt adS ss (adL l) < ss.length
    · obtain ⟨t, hg, _⟩ := firstAt_get hk
      rw [send_hit hv rfl hg]
      rw [Bool.and_eq_true] at hv
      obtain ⟨h1, h2, h3, h4, h5⟩ := vPost_and.1 hv.1
      refine vPost_and.2 ⟨fun s hs => h1 s (List.mem_of_mem_eraseIdx hs), fun s hs => h2 s (List.mem_of_mem_eraseIdx hs), ?_, h4, h5⟩
      have := List.length_eraseIdx_le (l := ss) (i := firstAt adS ss (adL l))
      show (ss.eraseIdx _).length ≤ 10
      omega
    · cases hx : vPost ss (ls ++ [l]) with
      | true => rw [send_put hv hk hx]; exact hx
      | false => rw [send_full hv hk hx] at h; cases h
theorem wait_valid {ss ls : List Tri} {s : Tri} (h : (waitOf ss ls s).2.2 = true) : vPost (waitOf ss ls s).1.1 (waitOf ss ls s).1.2 = true := by
  cases hv : (vPost ss ls && vSub s) with
  | false => rw [wait_no hv] at h; cases h
  | true =>
    by_cases hk : firstAt adL ls (adS s) < ls.length
    · obtain ⟨t, hg, _⟩ := firstAt_get hk
      rw [wait_hit hv rfl hg]
      rw [Bool.and_eq_true] at hv
      obtain ⟨h1, h2, h3, h4, h5⟩ := vPost_and.1 hv.1
      refine vPost_and.2 ⟨fun s' hs l hl => h1 s' hs l (List.mem_of_mem_eraseIdx hl), h2, h3, fun l hl => h4 l (List.mem_of_mem_eraseIdx hl), ?_⟩
      have := List.length_eraseIdx_le (l := ls) (i := firstAt adL ls (adS s))
      show (ls.eraseIdx _).length ≤ 10
      omega
    · cases hx : vPost (ss ++ [s]) ls with
      | true => rw [wait_put hv hk hx]; exact hx
      | false => rw [wait_full hv hk hx] at h; cases h
theorem send_lens (ss ls : List Tri) (l : Tri) : (sendOf ss ls l).1.1.length ≤ 10 ∧ (sendOf ss ls l).1.2.length ≤ 10 := by
  cases h : (sendOf ss ls l).2.2 with
  | true => have := vPost_and.1 (send_valid h); exact ⟨this.2.2.1, this.2.2.2.2⟩
  | false =>
    unfold sendOf at h ⊢
    split
    · rename_i hv
      rw [if_pos hv] at h
      split
      · rename_i hk; rw [if_pos hk] at h; cases h
      · rename_i hk
        rw [if_neg hk] at h
        split
        · rename_i hx; rw [if_pos hx] at h; cases h
        · exact ⟨Nat.zero_le _, Nat.zero_le _⟩
    · exact ⟨Nat.zero_le _, Nat.zero_le _⟩
theorem wait_lens (ss ls : List Tri) (s : Tri) : (waitOf ss ls s).1.1.length ≤ 10 ∧ (waitOf ss ls s).1.2.length ≤ 10 := by
  cases h : (waitOf ss ls s).2.2 with
  | true => have := vPost_and.1 (wait_valid h); exact ⟨this.2.2.1, this.2.2.2.2⟩
  | false =>
    unfold waitOf at h ⊢
    split
    · rename_i hv
      rw [if_pos hv] at h
      split
      · rename_i hk; rw [if_pos hk] at h; cases h
      · rename_i hk
        rw [if_neg hk] at h
        split
        · rename_i hx; rw [if_pos hx] at h; cases h
        · exact ⟨Nat.zero_le _, Nat.zero_le _⟩
    · exact ⟨Nat.zero_le _, Nat.zero_le _⟩
end Go.Proofs.Ytgnffodnimafoaa
