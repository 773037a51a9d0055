/- What the laws on groups ask, in plain mathematics. -/
import Derived.Test.YtobjcifoaejonacVoteMath
set_option linter.unusedSimpArgs false
set_option linter.unusedVariables false
namespace Go.Proofs.Ytobjcifoaejonac
open Go.RowKit

theorem quorum_v {g s : List Int} (h : quorumOf g s = true) : vGroup g = true ∧ g.length < 2 * g.countP fun x => s.contains x := by
  unfold quorumOf at h
  simp only [Bool.and_eq_true, decide_eq_true_eq] at h
  exact h
theorem quorum_self {g : List Int} (h : vGroup g = true) : quorumOf g g = true := by
  unfold quorumOf
  rw [h, show (g.countP fun x => g.contains x) = g.length from List.countP_eq_length.2 fun x hx => by simpa using hx]
  have := (vGroup_iff.1 h).2.1.1
  simp; omega
theorem quorum_nil (g : List Int) : quorumOf g [] = false := by
  unfold quorumOf
  rw [show (g.countP fun x => ([] : List Int).contains x) = 0 from List.countP_eq_zero.2 fun x _ => by simp]
  simp
theorem quorum_rest {g s rest : List Int} (h : quorumOf g s = true) (hr : rest = g.filter fun x => !s.contains x) : quorumOf g rest = false := by
  obtain ⟨hv, hc⟩ := quorum_v h
  have h1 : (g.countP fun x => rest.contains x) = g.countP fun x => !s.contains x := by
    apply countP_same
    intro x hx
    rw [hr, Bool.eq_iff_iff]
    simp [hx]
  have h2 : (g.countP fun x => s.contains x) + (g.countP fun x => !s.contains x) = g.length := by
    have := @List.length_eq_countP_add_countP _ (fun x => s.contains x) g
    rw [this]
    congr 1
    apply countP_same
    intro x _
    simp
  unfold quorumOf
  rw [hv, h1]
  simp
  simp at h1 h2 hc
  omega
theorem quorum_more {g s : List Int} (h : quorumOf g s = true) (x : Int) : quorumOf g (s ++ [x]) = true := by
  obtain ⟨hv, hc⟩ := quorum_v h
  have h1 : (g.countP fun y => s.contains y) ≤ g.countP fun y => (s ++ [x]).contains y := List.countP_mono_left fun y _ hy => by
    simp at hy ⊢; exact .inl hy
  unfold quorumOf
  rw [hv]
  simp only [Bool.true_and, decide_eq_true_eq]
  omega
/-- If two predicates part at one place of a list, one of them holds once more. -/
theorem one_apart {α : Type} (p q : α → Bool) : ∀ {l : List α}, l.countP (fun s => p s != q s) = 1 → (l.countP p = l.countP q + 1 ∧ ∀ s ∈ l, q s = true → p s = true) ∨ (l.countP q = l.countP p + 1 ∧ ∀ s ∈ l, p s = true → q s = true)
  | [], h => by simp at h
  | x :: l, h => by
    rw [List.countP_cons] at h
    by_cases hx : p x = q x
    · have h0 : (p x != q x) = false := by simp [hx]
      rw [h0] at h
      rw [List.countP_cons, List.countP_cons, hx]
      rcases one_apart p q (l := l) (by simpa using h) with ⟨h1, h2⟩ | ⟨h1, h2⟩
      · refine .inl ⟨by omega, fun s hs => ?_⟩
        rcases List.mem_cons.1 hs with rfl | hs
        · rw [hx]; exact id
        · exact h2 s hs
      · refine .inr ⟨by omega, fun s hs => ?_⟩
        rcases List.mem_cons.1 hs with rfl | hs
        · rw [hx]; exact id
        · exact h2 s hs
    · have h0 : (p x != q x) = true := by simpa using hx
      rw [h0] at h
      simp only [if_true] at h
      have hz : l.countP (fun s => p s != q s) = 0 := by omega
      have hall : ∀ s ∈ l, p s = q s := fun s hs => by
        have := List.countP_eq_zero.1 hz s hs
        simpa using this
      have he : l.countP p = l.countP q := countP_same hall
      rw [List.countP_cons, List.countP_cons]
      cases hp : p x with
      | true =>
        have hq : q x = false := by cases h : q x with | false => rfl | true => rw [hp, h] at hx; exact absurd rfl hx
        refine .inl ⟨by rw [hq]; simp; omega, fun s hs hqs => ?_⟩
        rcases List.mem_cons.1 hs with rfl | hs
        · exact hp
        · rw [hall s hs]; exact hqs
      | false =>
        have hq : q x = true := by cases h : q x with | true => rfl | false => rw [hp, h] at hx; exact absurd rfl hx
        refine .inr ⟨by rw [hq]; simp; omega, fun s hs hps => ?_⟩
        rcases List.mem_cons.1 hs with rfl | hs
        · exact hq
        · rw [← hall s hs]; exact hps
theorem grp_len {a : List Int} (h : vGroup a = true) : ([0, 1, 2, 3, 4, 5, 6] : List Int).countP (fun s => a.contains s) = a.length := by
  have h1 := (vGroup_mask.1 h).2.1
  rw [popc_mask] at h1
  rw [← h1]
  have e : ([0, 1, 2, 3, 4, 5, 6] : List Int) = (List.range 7).map fun i : Nat => (i : Int) := by decide
  rw [e, List.countP_map]
  unfold inBoth
  apply countP_same
  intro i _
  simp
theorem grp_mem {a : List Int} (h : vGroup a = true) {x : Int} (hx : x ∈ a) : x ∈ ([0, 1, 2, 3, 4, 5, 6] : List Int) := by
  have := (vGroup_iff.1 h).2.2 x hx
  rw [inR_iff] at this
  simp; omega
/-- What one step means. -/
theorem step_cases {a b : List Int} (h : stepOf a b = true) : vGroup a = true ∧ vGroup b = true ∧ ((a.length = b.length + 1 ∧ ∀ x ∈ b, a.contains x = true) ∨ (b.length = a.length + 1 ∧ ∀ x ∈ a, b.contains x = true)) := by
  unfold stepOf at h
  simp only [Bool.and_eq_true, decide_eq_true_eq] at h
  obtain ⟨⟨ha, hb⟩, hc⟩ := h
  refine ⟨ha, hb, ?_⟩
  rcases one_apart (fun s => a.contains s) (fun s => b.contains s) hc with ⟨h1, h2⟩ | ⟨h1, h2⟩
  · rw [grp_len ha, grp_len hb] at h1
    exact .inl ⟨h1, fun x hx => h2 x (grp_mem hb hx) (by simpa using hx)⟩
  · rw [grp_len ha, grp_len hb] at h1
    exact .inr ⟨h1, fun x hx => h2 x (grp_mem ha hx) (by simpa using hx)⟩
theorem step_comm (a b : List Int) : stepOf b a = stepOf a b := by
  unfold stepOf
  rw [Bool.and_comm (vGroup b)]
  congr 3
  apply countP_same
  intro s _
  cases a.contains s <;> cases b.contains s <;> rfl
theorem step_self (a : List Int) : stepOf a a = false := by
  unfold stepOf
  rw [show ([0, 1, 2, 3, 4, 5, 6] : List Int).countP (fun s => a.contains s != a.contains s) = 0 from List.countP_eq_zero.2 fun s _ => by simp]
  simp
theorem count_two {b S R : List Int} (hd : ∀ x ∈ S, x ∉ R) : (b.countP fun x => S.contains x) + (b.countP fun x => R.contains x) ≤ b.length := by
  induction b with
  | nil => simp
  | cons x b ih =>
    rw [List.countP_cons, List.countP_cons, List.length_cons]
    have : ¬ (S.contains x = true ∧ R.contains x = true) := by
      rintro ⟨h1, h2⟩
      exact hd x (by simpa using h1) (by simpa using h2)
    split <;> split
    · rename_i h1 h2; exact absurd ⟨h1, h2⟩ this
    all_goals omega
theorem count_sub : ∀ {a b S : List Int}, a.Nodup → (∀ x ∈ a, x ∈ b) → (a.countP fun x => S.contains x) ≤ b.countP fun x => S.contains x
  | [], _, _, _, _ => by simp
  | x :: a, b, S, hn, hs => by
    have hx := hs x (List.mem_cons_self ..)
    obtain ⟨l1, l2, rfl⟩ := List.append_of_mem hx
    have hn' := List.nodup_cons.1 hn
    have ih := count_sub (a := a) (b := l1 ++ l2) (S := S) hn'.2 (fun y hy => by
      have := hs y (List.mem_cons_of_mem _ hy)
      simp only [List.mem_append, List.mem_cons] at this ⊢
      rcases this with h | rfl | h
      · exact .inl h
      · exact absurd hy hn'.1
      · exact .inr h)
    rw [List.countP_append] at ih
    rw [List.countP_cons, List.countP_append, List.countP_cons]
    omega
/-- Quorums of groups one step apart meet. -/
theorem step_meet {a b S R : List Int} (h : stepOf a b = true) (hd : ∀ x ∈ S, x ∉ R) : (quorumOf a S && quorumOf b R) = false := by
  obtain ⟨ha, hb, hc⟩ := step_cases h
  cases h1 : quorumOf a S with
  | false => rfl
  | true =>
    cases h2 : quorumOf b R with
    | false => rfl
    | true =>
      obtain ⟨_, c1⟩ := quorum_v h1
      obtain ⟨_, c2⟩ := quorum_v h2
      rcases hc with ⟨hl, hs⟩ | ⟨hl, hs⟩
      · have e1 := count_two (b := a) hd
        have e2 := count_sub (S := R) (vGroup_grp hb).1 (fun x hx => by simpa using hs x hx)
        omega
      · have e1 := count_two (b := b) hd
        have e2 := count_sub (S := S) (vGroup_grp ha).1 (fun x hx => by simpa using hs x hx)
        omega
end Go.Proofs.Ytobjcifoaejonac
