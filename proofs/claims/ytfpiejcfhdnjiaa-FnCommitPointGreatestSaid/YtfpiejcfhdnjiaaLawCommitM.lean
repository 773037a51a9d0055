/- What the laws on commit points ask: plain mathematics. -/
import Derived.Test.YtfpiejcfhdnjiaaVoteMath
import Derived.Test.YtfpiejcfhdnjiaaCommitS
set_option linter.unusedSimpArgs false
set_option linter.unusedVariables false
namespace Go.Proofs.Ytfpiejcfhdnjiaa
open Go.RowKit

/-- How a commit point stands. -/
structure Cmt (ps : List En) (has : List Int) (t : Int) (k : Nat) : Prop where
  log : vLog ps = true
  has' : vHas has = true
  le : k ≤ ps.length
  hit : k = 0 ∨ (termOf ps k = t ∧ has.length < 2 * haveN has k)
  max : ∀ n, k < n → n ≤ ps.length → ¬ (termOf ps n = t ∧ has.length < 2 * haveN has n)
theorem commit_cases (ps : List En) (has : List Int) (t : Int) : commitOf ps has t = -1 ∨ ∃ k : Nat, commitOf ps has t = (k : Int) ∧ Cmt ps has t k := by
  cases h1 : vLog ps with
  | false => exact .inl (commit_no (.inl h1))
  | true =>
    cases h2 : vHas has with
    | false => exact .inl (commit_no (.inr h2))
    | true =>
      obtain ⟨a, b, c⟩ := topFrom_fact ps has t ps.length
      exact .inr ⟨_, commit_yes h1 h2, h1, h2, a, b, c⟩
theorem Cmt.eq {ps : List En} {has : List Int} {t : Int} {k : Nat} (h : Cmt ps has t k) : commitOf ps has t = (k : Int) := by
  rw [commit_yes h.log h.has', topFrom_at ps has t h.le h.max h.hit]
theorem vHas_iff {has : List Int} : vHas has = true ↔ (1 ≤ has.length ∧ has.length ≤ 7) ∧ ∀ x ∈ has, 0 ≤ x ∧ x ≤ 16 := by
  unfold vHas
  rw [Bool.and_eq_true, inR_iff, List.all_eq_true]
  constructor
  · rintro ⟨a, b⟩
    exact ⟨by omega, fun x hx => inR_iff.1 (b x hx)⟩
  · rintro ⟨a, b⟩
    exact ⟨by omega, fun x hx => inR_iff.2 (b x hx)⟩
theorem haveN_set {z : Int} : ∀ (has : List Int) (j : Nat) (x y : Int), has[j]? = some x → x ≤ y → haveN has z ≤ haveN (has.set j y) z
  | [], j, x, y, h, _ => by cases h
  | a :: rs, 0, x, y, h, hxy => by
    simp at h
    subst h
    simp only [List.set_cons_zero, haveN, List.countP_cons]
    by_cases h1 : z ≤ a
    · have h2 : z ≤ y := by omega
      simp [h1, h2]
    · simp [h1]
  | a :: rs, j + 1, x, y, h, hxy => by
    have := haveN_set (z := z) rs j x y (by simpa using h) hxy
    unfold haveN at this ⊢
    simp only [List.set_cons_succ, List.countP_cons]
    omega
/-- One more of the counts: the commit point does not go back. -/
theorem Cmt.more {ps : List En} {has : List Int} {t : Int} {k : Nat} (h : Cmt ps has t k) {j : Nat} {x : Int} (hj : has[j]? = some x) : ∃ k2 : Nat, commitOf ps (has.set j (min (x + 1) 16)) t = (k2 : Int) ∧ k ≤ k2 := by
  obtain ⟨h7, hr⟩ := vHas_iff.1 h.has'
  have hx := hr x (List.mem_of_getElem? hj)
  have hv : vHas (has.set j (min (x + 1) 16)) = true := by
    refine vHas_iff.2 ⟨by simpa using h7, fun y hy => ?_⟩
    rcases List.mem_or_eq_of_mem_set hy with h | rfl
    · exact hr y h
    · omega
  obtain ⟨a, b, c⟩ := topFrom_fact ps (has.set j (min (x + 1) 16)) t ps.length
  refine ⟨_, commit_yes h.log hv, ?_⟩
  rcases h.hit with h0 | ⟨h1, h2⟩
  · omega
  · by_cases hle : k ≤ topFrom ps (has.set j (min (x + 1) 16)) t ps.length
    · exact hle
    · exfalso
      have := haveN_set (z := (k : Int)) has j x (min (x + 1) 16) hj (by omega)
      exact c k (by omega) h.le ⟨h1, by rw [List.length_set]; omega⟩
theorem haveN_same {m : Int} {z : Int} (h : z ≤ m) : ∀ n : Nat, haveN (List.replicate n m) z = n
  | 0 => rfl
  | n + 1 => by have := haveN_same h n; unfold haveN at this ⊢; rw [List.replicate_succ, List.countP_cons, this]; simp [h]
theorem haveN_none {m : Int} {z : Int} (h : m < z) : ∀ n : Nat, haveN (List.replicate n m) z = 0
  | 0 => rfl
  | n + 1 => by have := haveN_none h n; unfold haveN at this ⊢; rw [List.replicate_succ, List.countP_cons, this]; simp; omega
/-- All have everything: the last entry is committed. -/
theorem commit_all {ps : List En} {n2 : Nat} (h : vLog ps = true) (h1 : 1 ≤ n2) (h7 : n2 ≤ 7) (hm : 0 < ps.length) : commitOf ps (List.replicate n2 (ps.length : Int)) (termOf ps ps.length) = (ps.length : Int) := by
  have hl := vLog_len h
  refine Cmt.eq ⟨h, vHas_iff.2 ⟨by simp; omega, fun x hx => ?_⟩, Nat.le_refl _, .inr ⟨rfl, ?_⟩, fun n h1 h2 => by omega⟩
  · rw [List.mem_replicate] at hx; omega
  · rw [haveN_same (Int.le_refl _)]; simp; omega
/-- Nobody has anything: nothing is committed. -/
theorem commit_zero {ps : List En} {n2 : Nat} (h : vLog ps = true) (h1 : 1 ≤ n2) (h7 : n2 ≤ 7) (t : Int) : commitOf ps (List.replicate n2 0) t = 0 := by
  refine (Cmt.eq (k := 0) ⟨h, vHas_iff.2 ⟨by simp; omega, fun x hx => ?_⟩, Nat.zero_le _, .inl rfl, fun n h1 h2 => ?_⟩)
  · rw [List.mem_replicate] at hx; omega
  · rintro ⟨_, h3⟩
    rw [haveN_none (by omega)] at h3
    omega
theorem haveUp_full {has : List Int} {z : Int} {n : Nat} (h : has.length = n) : haveUp has z n = haveN has z := by unfold haveUp; rw [List.take_of_length_le (by omega)]
theorem haveUp_le (has : List Int) (z : Int) (k : Nat) : haveUp has z k ≤ k := by
  unfold haveUp haveN
  exact Nat.le_trans List.countP_le_length (by rw [List.length_take]; omega)
end Go.Proofs.Ytfpiejcfhdnjiaa
