/- What the laws on worklists come to. Plain mathematics; no program. -/
import Derived.Test.YtipoakimjhfhfabWorkMath
import Derived.Test.YtipoakimjhfhfabLawLists
set_option linter.unusedSimpArgs false
set_option linter.unusedVariables false
namespace Go.Proofs.Ytipoakimjhfhfab
open Go.RowKit

section
variable {α : Type} {f : α → Int}
theorem ins_ins {ps : List α} (h : Asc f ps) {a b : α} (e : f a = f b) : insNum f (insNum f ps a) b = insNum f ps b := by
  refine asc_ext ((h.ins a).ins b) (h.ins b) fun p => ?_
  rw [mem_insNum, mem_insNum, mem_insNum]
  constructor
  · rintro (h1 | ⟨h1 | h1, h2⟩)
    · exact .inl h1
    · subst h1; exact absurd e h2
    · exact .inr ⟨h1.1, h2⟩
  · rintro (h1 | ⟨h1, h2⟩)
    · exact .inl h1
    · exact .inr ⟨.inr ⟨h1, by rw [e]; exact h2⟩, h2⟩
theorem ins_self {ps : List α} (h : Asc f ps) {q : α} (hq : q ∈ ps) : insNum f ps q = ps := by
  refine asc_ext (h.ins q) h fun p => ?_
  rw [mem_insNum]
  constructor
  · rintro (rfl | ⟨h1, _⟩)
    · exact hq
    · exact h1
  · intro hp
    by_cases e : f p = f q
    · exact .inl (h.inj hp hq e)
    · exact .inr ⟨hp, e⟩
/-- Where an element that is kept stands among those that are. -/
theorem kept_get {ps : List α} {k : Nat} {p : α} (q : α → Bool) (hg : ps[k]? = some p) (hp : q p = true) : (ps.filter q)[((ps.take k).filter q).length]? = some p := by
  have e : ps = ps.take k ++ p :: ps.drop (k + 1) := by rw [← drop_cons2 hg, List.take_append_drop]
  conv => lhs; rw [e]
  have e2 : (ps.take k ++ p :: ps.drop (k + 1)).take k = ps.take k := by
    rw [List.take_append_of_le_length (by have := (List.getElem?_eq_some_iff.1 hg).1; rw [List.length_take]; omega), List.take_take, Nat.min_self]
  rw [e2, List.filter_append, List.getElem?_append_right (Nat.le_refl _), Nat.sub_self, List.filter_cons, if_pos hp]
  rfl
theorem filt_more {ps : List α} {k : Nat} {p : α} (q : α → Bool) (hg : ps[k]? = some p) : ((ps.take (k + 1)).filter q).length = ((ps.take k).filter q).length + (if q p then 1 else 0) := by
  rw [take_snoc hg, List.filter_append, List.length_append, List.filter_cons]
  split <;> rfl
theorem filt_part (ps : List α) (q : α → Bool) (k : Nat) : ((ps.take k).filter q).length ≤ (ps.filter q).length :=
  ((List.take_sublist k ps).filter q).length_le
theorem atNum_at {ps : List α} (h : Asc f ps) {k : Nat} {p : α} (hg : ps[k]? = some p) : atNum f ps (f p) = some p := atNum_mem h (List.mem_of_getElem? hg)
end

theorem mayBe_eval {ps : List Tri} {z o : Int} {q : Tri} (p : Tri → Bool) (hv : vWork ps = true) (ho : 1 ≤ o ∧ o ≤ 9) (hat : atNum Prod.fst ps z = some q) : mayBe ps z o p = p q := by
  simp [mayBe, hv, inR_iff.2 ho, hat]
theorem vWork_iff {ps : List Tri} : vWork ps = true ↔ (∀ p ∈ ps, okItem p = true) ∧ Asc Prod.fst ps ∧ ps.length ≤ 12 := by
  simp only [vWork, goodWork, Bool.and_eq_true, decide_eq_true_eq, good_iff, and_assoc]
theorem vWork_filter {ps : List Tri} (h : vWork ps = true) (q : Tri → Bool) : vWork (ps.filter q) = true := by
  rw [vWork_iff] at *
  exact ⟨fun p hp => h.1 p (List.mem_filter.1 hp).1, h.2.1.filter q, Nat.le_trans (List.length_filter_le _ _) h.2.2⟩
theorem vWork_set {ps : List Tri} (h : vWork ps = true) {k : Nat} {z r o o' : Int} (hk : ps[k]? = some (z, r, o)) (ho : 0 ≤ o' ∧ o' ≤ 9) : vWork (ps.set k (z, r, o')) = true := by
  have hz := vWork_ok h (List.mem_of_getElem? hk)
  rw [vWork_iff] at *
  refine ⟨fun p hp => ?_, h.2.1.set hk rfl, by rw [List.length_set]; exact h.2.2⟩
  rcases List.mem_or_eq_of_mem_set hp with h1 | rfl
  · exact h.1 p h1
  · simp only [okItem, Bool.and_eq_true, inR_iff]
    exact ⟨⟨hz.1, hz.2.1⟩, ho⟩
/-- Without one of them. -/
theorem vWork_cut {ps : List Tri} (h : vWork ps = true) (k : Nat) : vWork (ps.take k ++ ps.drop (k + 1)) = true := by
  have hs : List.Sublist (ps.take k ++ ps.drop (k + 1)) ps := by
    have e : ps.take k ++ ps.drop k = ps := List.take_append_drop k ps
    conv => rhs; rw [← e]
    refine List.Sublist.append_left ?_ _
    rw [← List.drop_drop]
    exact List.drop_sublist 1 _
  rw [vWork_iff] at *
  exact ⟨fun p hp => h.1 p (hs.subset hp), List.Pairwise.sublist hs h.2.1, Nat.le_trans hs.length_le h.2.2⟩

/-- An item was offered. -/
theorem offer_facts {ps l : List Tri} {role : Int} (h : offerOf ps role = some l) : vWork ps = true ∧ vWork l = true ∧ l = ps ++ [(nextNum ps, role, 0)] ∧ (0 ≤ role ∧ role ≤ 5) := by
  unfold offerOf at h
  split at h
  · rename_i hc
    rw [Bool.and_eq_true] at hc
    injection h with h
    subst h
    exact ⟨hc.1, hc.2, rfl, offered_ok hc.2⟩
  · cases h
theorem given_facts {ps : List Tri} {z o : Int} {q : Tri} {k : Nat} (hv : vWork ps = true) (hk : ps[k]? = some q) (hz : q.1 = z) : givenOf ps z o = ps.set k (z, q.2.1, o) := by
  subst hz
  rw [givenOf, atNum_at (vWork_asc hv) hk]
  exact insNum_set (vWork_asc hv) hk rfl
/-- An item was claimed. -/
theorem claim_facts {ps l : List Tri} {z o : Int} {roles : List Int} (h : claimOf ps z o roles = some l) : ∃ (k : Nat) (r : Int), vWork ps = true ∧ ps[k]? = some (z, r, 0) ∧ roles.contains r = true ∧ (1 ≤ o ∧ o ≤ 9) ∧ l = ps.set k (z, r, o) ∧ vWork l = true := by
  unfold claimOf at h
  split at h
  · rename_i hc
    have hv := mayBe_v hc
    have ho := mayBe_o hc
    obtain ⟨q, hq, hp⟩ := mayBe_at hc
    obtain ⟨hm, hz⟩ := atNum_some hq
    obtain ⟨k, hk⟩ := List.getElem?_of_mem hm
    obtain ⟨q1, q2, q3⟩ := q
    obtain rfl : q1 = z := hz
    simp only [canClaim, Bool.and_eq_true, beq_iff_eq] at hp
    obtain ⟨rfl, hr⟩ := hp
    injection h with h
    rw [given_facts hv hk rfl] at h
    subst h
    exact ⟨k, q2, hv, hk, hr, ho, rfl, vWork_set hv hk (by omega)⟩
  · cases h
theorem free_facts {ps l : List Tri} {z o : Int} (h : freeOf ps z o = some l) : ∃ (k : Nat) (r : Int), vWork ps = true ∧ ps[k]? = some (z, r, o) ∧ (1 ≤ o ∧ o ≤ 9) ∧ l = ps.set k (z, r, 0) ∧ vWork l = true := by
  unfold freeOf at h
  split at h
  · rename_i hc
    have hv := mayBe_v hc
    have ho := mayBe_o hc
    obtain ⟨q, hq, hp⟩ := mayBe_at hc
    obtain ⟨hm, hz⟩ := atNum_some hq
    obtain ⟨k, hk⟩ := List.getElem?_of_mem hm
    obtain ⟨q1, q2, q3⟩ := q
    obtain rfl : q1 = z := hz
    obtain rfl : q3 = o := by simpa using hp
    injection h with h
    rw [given_facts hv hk rfl] at h
    subst h
    exact ⟨k, q2, hv, hk, ho, rfl, vWork_set hv hk (by omega)⟩
  · cases h
theorem done_facts {ps l : List Tri} {z o : Int} (h : doneOf ps z o = some l) : ∃ (k : Nat) (r : Int), vWork ps = true ∧ ps[k]? = some (z, r, o) ∧ (1 ≤ o ∧ o ≤ 9) ∧ l = ps.filter (fun q => !(q.1 == z)) ∧ vWork l = true := by
  unfold doneOf at h
  split at h
  · rename_i hc
    have hv := mayBe_v hc
    have ho := mayBe_o hc
    obtain ⟨q, hq, hp⟩ := mayBe_at hc
    obtain ⟨hm, hz⟩ := atNum_some hq
    obtain ⟨k, hk⟩ := List.getElem?_of_mem hm
    obtain ⟨q1, q2, q3⟩ := q
    obtain rfl : q1 = z := hz
    obtain rfl : q3 = o := by simpa using hp
    injection h with h
    subst h
    exact ⟨k, q2, hv, hk, ho, rfl, vWork_filter hv _⟩
  · cases h
theorem set_at {ps : List Tri} {k : Nat} {p q : Tri} (hk : ps[k]? = some p) : (ps.set k q)[k]? = some q := by
  have := (List.getElem?_eq_some_iff.1 hk).1
  rw [List.getElem?_set_self this]
theorem set_back {ps : List Tri} {k : Nat} {p q : Tri} (hk : ps[k]? = some p) : (ps.set k q).set k p = ps := by
  rw [List.set_set]
  refine List.ext_getElem? fun i => ?_
  by_cases h : k = i
  · subst h; rw [set_at hk, hk]
  · rw [List.getElem?_set_ne h]
/-- What can be seen. -/
theorem mine_in {ps : List Tri} (hv : vWork ps = true) {k : Nat} {p : Tri} (hk : ps[k]? = some p) (o : Int) (roles : List Int) : inL (forOf ps o roles) p.1 = mineOf o roles p := by
  have e : forOf ps o roles = minesOf ps o roles := by simp [forOf, hv]
  rw [e, inL, Bool.eq_iff_iff, List.contains_iff_mem]
  simp only [minesOf, List.mem_map, List.mem_filter]
  constructor
  · rintro ⟨q, ⟨hq, hm⟩, hz⟩
    have := (vWork_asc hv).inj hq (List.mem_of_getElem? hk) hz
    subst this
    exact hm
  · intro h
    exact ⟨p, ⟨List.mem_of_getElem? hk, h⟩, rfl⟩
theorem forOf_le (ps : List Tri) (o : Int) (roles : List Int) : (forOf ps o roles).length ≤ ps.length := by
  unfold forOf
  split
  · exact minesOf_le ps o roles
  · simp
theorem mines_more {ps : List Tri} {o : Int} {roles roles' : List Int} (h : ∀ r, roles.contains r = true → roles'.contains r = true) {z : Int} (hz : inL (forOf ps o roles) z = true) : inL (forOf ps o roles') z = true := by
  unfold forOf inL at *
  split at hz
  · rename_i hv
    rw [if_pos hv]
    rw [List.contains_iff_mem] at *
    simp only [minesOf, List.mem_map, List.mem_filter] at *
    obtain ⟨q, ⟨hq, hm⟩, rfl⟩ := hz
    refine ⟨q, ⟨hq, ?_⟩, rfl⟩
    unfold mineOf at *
    split at hm
    · rename_i h0; rw [if_pos h0]; exact h _ hm
    · rename_i h0; rw [if_neg h0]; exact hm
  · simp at hz
theorem mines_none (ps : List Tri) : forOf ps 0 [] = [] := by
  unfold forOf
  split
  · unfold minesOf
    have : ps.filter (mineOf 0 []) = [] := List.filter_eq_nil_iff.2 fun q _ => by
      unfold mineOf
      split
      · simp
      · rename_i h; simpa using h
    rw [this]; rfl
  · rfl
theorem mines_all {ps : List Tri} (hv : vWork ps = true) : (forOf ps 0 [0, 1, 2, 3, 4, 5]).length = (ps.filter fun q => q.2.2 == 0).length := by
  have e : forOf ps 0 [0, 1, 2, 3, 4, 5] = minesOf ps 0 [0, 1, 2, 3, 4, 5] := by simp [forOf, hv]
  rw [e, minesOf, List.length_map]
  congr 1
  refine List.filter_congr fun q hq => ?_
  have hr := (vWork_ok hv hq).2.1
  unfold mineOf
  split
  · rename_i h
    rw [h]
    have h2 : q.2.1 = 0 ∨ q.2.1 = 1 ∨ q.2.1 = 2 ∨ q.2.1 = 3 ∨ q.2.1 = 4 ∨ q.2.1 = 5 := by omega
    rcases h2 with h2 | h2 | h2 | h2 | h2 | h2 <;> rw [h2] <;> rfl
  · rfl
theorem claim_taken {ps : List Tri} {k : Nat} {z r o o' : Int} {roles : List Int} (hv : vWork ps = true) (hk : ps[k]? = some (z, r, o)) (ho : o ≠ 0) : claimOf ps z o' roles = none := by
  unfold claimOf
  rw [if_neg]
  intro h
  obtain ⟨q, hq, hp⟩ := mayBe_at h
  rw [show z = (z, r, o).1 from rfl, atNum_at (vWork_asc hv) hk] at hq
  injection hq with hq
  subst hq
  simp [canClaim, ho] at hp
theorem claim_free {ps : List Tri} {k : Nat} {z r o' : Int} {roles : List Int} (hv : vWork ps = true) (hk : ps[k]? = some (z, r, 0)) (hr : roles.contains r = true) (ho : 1 ≤ o' ∧ o' ≤ 9) : claimOf ps z o' roles = some (ps.set k (z, r, o')) := by
  unfold claimOf
  have h1 : mayBe ps z o' (canClaim roles) = true := by
    rw [mayBe_eval _ hv ho (atNum_at (vWork_asc hv) hk)]
    simp only [canClaim, hr]; rfl
  rw [if_pos h1, given_facts hv hk rfl]
theorem claim_roles {ps : List Tri} {z o : Int} : claimOf ps z o [] = none := by
  unfold claimOf
  rw [if_neg]
  intro h
  obtain ⟨q, _, hp⟩ := mayBe_at h
  simp [canClaim] at hp
theorem free_not {ps : List Tri} {k : Nat} {z r o o' : Int} (hv : vWork ps = true) (hk : ps[k]? = some (z, r, o)) (ho : o ≠ o') : freeOf ps z o' = none := by
  unfold freeOf
  rw [if_neg]
  intro h
  obtain ⟨q, hq, hp⟩ := mayBe_at h
  rw [show z = (z, r, o).1 from rfl, atNum_at (vWork_asc hv) hk] at hq
  injection hq with hq
  subst hq
  exact ho (by simpa using hp)
theorem free_yes {ps : List Tri} {k : Nat} {z r o : Int} (hv : vWork ps = true) (hk : ps[k]? = some (z, r, o)) (ho : 1 ≤ o ∧ o ≤ 9) : freeOf ps z o = some (ps.set k (z, r, 0)) := by
  unfold freeOf
  have h1 : mayBe ps z o (fun q => q.2.2 == o) = true := by
    rw [mayBe_eval _ hv ho (atNum_at (vWork_asc hv) hk)]
    simp
  rw [if_pos h1, given_facts hv hk rfl]
theorem done_free (ps : List Tri) (z o : Int) : (freeOf ps z o).isSome = (doneOf ps z o).isSome := by
  unfold freeOf doneOf
  split <;> rfl
theorem done_not {ps : List Tri} {z o : Int} (h : ∀ q ∈ ps, q.1 ≠ z) : doneOf ps z o = none := by
  unfold doneOf
  rw [if_neg]
  intro hc
  obtain ⟨q, hq, _⟩ := mayBe_at hc
  obtain ⟨hm, hz⟩ := atNum_some hq
  exact h q hm hz
end Go.Proofs.Ytipoakimjhfhfab
