/- What the laws on logs ask, in plain mathematics. -/
import Derived.Test.YtobjcifoaejonabLogMath
set_option linter.unusedSimpArgs false
set_option linter.unusedVariables false
namespace Go.Proofs.Ytobjcifoaejonab
open Go.RowKit

theorem newerOf_valid {a b : List En} (ha : vLog a = true) (hb : vLog b = true) {m n : Nat} (hm : a.length = m) (hn : b.length = n) : newerOf a b = (decide (termOf b n < termOf a m) || (termOf a m == termOf b n && decide (n ≤ m))) := by
  subst hm; subst hn
  rw [newerOf, ha, hb]; rfl
theorem newer_lt {a b : List En} (ha : vLog a = true) (hb : vLog b = true) {m n : Nat} (hm : a.length = m) (hn : b.length = n) (h : termOf a m < termOf b n) : newerOf a b = false ∧ newerOf b a = true ∧ (termOf a m == termOf b n) = false := by
  rw [newerOf_valid ha hb hm hn, newerOf_valid hb ha hn hm]
  have e : (termOf a m == termOf b n) = false := by rw [beq_eq_false_iff_ne]; omega
  exact ⟨by rw [e, decide_eq_false (by omega)]; rfl, by rw [decide_eq_true h]; rfl, e⟩
theorem newer_eq {a b : List En} (ha : vLog a = true) (hb : vLog b = true) {m n : Nat} (hm : a.length = m) (hn : b.length = n) (h : termOf a m = termOf b n) : newerOf a b = decide (n ≤ m) ∧ newerOf b a = decide (m ≤ n) ∧ (termOf a m == termOf b n) = true := by
  rw [newerOf_valid ha hb hm hn, newerOf_valid hb ha hn hm]
  have e : (termOf a m == termOf b n) = true := by rw [beq_iff_eq]; exact h
  have e2 : (termOf b n == termOf a m) = true := by rw [beq_iff_eq]; exact h.symm
  exact ⟨by rw [e, decide_eq_false (by omega)]; simp, by rw [e2, decide_eq_false (by omega)]; simp, e⟩
theorem newer_no {a b : List En} (h : vLog a = false ∨ vLog b = false) : newerOf a b = false := by
  unfold newerOf
  rcases h with h | h <;> simp [h]
theorem termOf_le_last {ps : List En} (hv : vLog ps = true) {k m : Nat} (hm : ps.length = m) (hk : k ≤ m) : termOf ps k ≤ termOf ps m := by
  subst hm
  rcases Nat.eq_zero_or_pos k with h0 | h0
  · subst h0
    rcases Nat.eq_zero_or_pos ps.length with h1 | h1
    · rw [h1]; exact Int.le_refl _
    · obtain ⟨j, hj⟩ : ∃ j, ps.length = j + 1 := ⟨ps.length - 1, by omega⟩
      have hl : j < ps.length := by omega
      rw [hj, termOf_get (List.getElem?_eq_getElem hl)]
      have := (vLog_ok hv (List.getElem_mem hl)).1.1
      show (0 : Int) ≤ _
      omega
  · obtain ⟨i, rfl⟩ : ∃ i, k = i + 1 := ⟨k - 1, by omega⟩
    obtain ⟨j, hj⟩ : ∃ j, ps.length = j + 1 := ⟨ps.length - 1, by omega⟩
    have hl : j < ps.length := by omega
    have hi : i < ps.length := by omega
    rw [hj, termOf_get (List.getElem?_eq_getElem hl), termOf_get (List.getElem?_eq_getElem hi)]
    rcases Nat.eq_or_lt_of_le (show i ≤ j by omega) with e | h
    · subst e; exact Int.le_refl _
    · exact List.pairwise_iff_getElem.1 (vLog_iff.1 hv).2.1 i j hi hl h
theorem termOf_takeM (ps : List En) {m k : Nat} (hm : m ≤ k) : termOf (ps.take k) m = termOf ps m := by
  cases m with
  | zero => rfl
  | succ m => simp only [termOf]; rw [List.getElem?_take, if_pos (by omega)]
theorem newer_prefix {ps : List En} (hv : vLog ps = true) {k m : Nat} (hm : ps.length = m) (hk : k ≤ m) : newerOf ps (ps.take k) = true := by
  rw [newerOf_valid hv (vLog_take hv k) hm (show (ps.take k).length = k by rw [List.length_take]; omega), termOf_takeM ps (Nat.le_refl k)]
  have := termOf_le_last hv hm hk
  by_cases h : termOf ps k < termOf ps m
  · rw [decide_eq_true h]; rfl
  · have e : (termOf ps m == termOf ps k) = true := by rw [beq_iff_eq]; omega
    rw [e, decide_eq_true hk]; simp
theorem newer_self {ps : List En} (hv : vLog ps = true) : newerOf ps ps = true := by
  have := newer_prefix hv rfl (Nat.le_refl ps.length)
  rwa [List.take_length] at this
/-- One more entry like the last one. -/
theorem log_more {ps : List En} (hv : vLog ps = true) {j : Nat} (hl : ps.length = j + 1) (h16 : j + 1 < 16) {x y : Int} (hg : ps[j]? = some (x, y)) : vLog (ps ++ [(x, y)]) = true ∧ newerOf (ps ++ [(x, y)]) ps = true ∧ newerOf ps (ps ++ [(x, y)]) = false := by
  have hvm : vLog (ps ++ [(x, y)]) = true := by
    rw [vLog_iff] at hv ⊢
    refine ⟨fun p hp => ?_, ?_, by rw [List.length_append, hl]; simp; omega⟩
    · rcases List.mem_append.1 hp with h | h
      · exact hv.1 p h
      · obtain rfl := List.mem_singleton.1 h; exact hv.1 _ (List.mem_of_getElem? hg)
    · refine List.pairwise_append.2 ⟨hv.2.1, List.pairwise_singleton _ _, fun p hp q hq => ?_⟩
      obtain rfl := List.mem_singleton.1 hq
      obtain ⟨i, hi, rfl⟩ := List.mem_iff_getElem.1 hp
      have hjl : j < ps.length := by omega
      have ej : ps[j] = (x, y) := (List.getElem?_eq_some_iff.1 hg).2
      show ps[i].1 ≤ x
      have : ps[i].1 ≤ ps[j].1 := by
        rcases Nat.eq_or_lt_of_le (show i ≤ j by omega) with e | h
        · subst e; exact Int.le_refl _
        · exact List.pairwise_iff_getElem.1 hv.2.1 i j hi hjl h
      rw [ej] at this
      exact this
  have hlm : (ps ++ [(x, y)]).length = j + 1 + 1 := by rw [List.length_append, hl]; rfl
  have ht : termOf (ps ++ [(x, y)]) (j + 1 + 1) = termOf ps (j + 1) := by
    rw [termOf_get hg, termOf_get (show (ps ++ [(x, y)])[j + 1]? = some (x, y) by rw [List.getElem?_append_right (by omega), hl]; simp)]
  obtain ⟨h1, h2, _⟩ := newer_eq hvm hv hlm hl ht
  exact ⟨hvm, by rw [h1]; simp, by rw [h2]; simp⟩
theorem comLen_comm : ∀ (a b : List En), comLen a b = comLen b a
  | [], [] => rfl
  | [], _ :: _ => rfl
  | _ :: _, [] => rfl
  | p :: ps, q :: qs => by
    rw [comLen, comLen, comLen_comm ps qs]
    by_cases h : p = q
    · rw [if_pos h, if_pos h.symm]
    · rw [if_neg h, if_neg (fun e => h e.symm)]
theorem comLen_self : ∀ a : List En, comLen a a = a.length
  | [] => rfl
  | p :: ps => by rw [comLen, if_pos rfl, comLen_self ps, List.length_cons]
theorem comLen_take : ∀ (a b : List En), a.take (comLen a b) = b.take (comLen a b)
  | [], b => by simp [comLen]
  | p :: ps, [] => by simp [comLen]
  | p :: ps, q :: qs => by
    rw [comLen]
    split
    · rename_i h; subst h
      rw [List.take_succ_cons, List.take_succ_cons, comLen_take ps qs]
    · simp
theorem comLen_part : ∀ (a b : List En) {p q : En}, a[comLen a b]? = some p → b[comLen a b]? = some q → p ≠ q
  | [], _, _, _, h, _ => by simp [comLen] at h
  | _ :: _, [], _, _, _, h => by simp [comLen] at h
  | x :: a, y :: b, p, q, hp, hq => by
    rw [comLen] at hp hq
    split at hp
    · rename_i h
      rw [if_pos h] at hq
      exact comLen_part a b (by simpa using hp) (by simpa using hq)
    · rename_i h
      rw [if_neg h] at hq
      simp at hp hq
      subst hp; subst hq
      exact h
end Go.Proofs.Ytobjcifoaejonab
