/- Lists of records in the order of a number, and what stands at a number. Plain mathematics; no program. -/
import Derived.Test.YtfpiejcfhdnjiaaBase
set_option linter.unusedSimpArgs false
set_option linter.unusedVariables false
namespace Go.Proofs.Ytfpiejcfhdnjiaa

section
variable {α : Type} (f : α → Int)
def Asc (qs : List α) : Prop := qs.Pairwise fun a b => f a < f b
def atNum (qs : List α) (z : Int) : Option α := qs.find? fun p => f p == z
/-- q in its place: instead of what has its number, or between those that are less and those that are greater. -/
def insNum (qs : List α) (q : α) : List α := qs.filter (fun p => decide (f p < f q)) ++ q :: qs.filter (fun p => decide (f q < f p))
variable {f}
theorem Asc.take {qs : List α} (h : Asc f qs) (k : Nat) : Asc f (qs.take k) := List.Pairwise.sublist (List.take_sublist k qs) h
theorem Asc.filter {qs : List α} (h : Asc f qs) (p : α → Bool) : Asc f (qs.filter p) := List.Pairwise.filter p h
theorem asc_nil : Asc f [] := List.Pairwise.nil
theorem Asc.inj {qs : List α} (h : Asc f qs) : ∀ {p q : α}, p ∈ qs → q ∈ qs → f p = f q → p = q := by
  induction qs with
  | nil => intro p q hp; simp at hp
  | cons a qs ih =>
    obtain ⟨h1, h2⟩ := List.pairwise_cons.1 h
    intro p q hp hq e
    rcases List.mem_cons.1 hp with e1 | hp <;> rcases List.mem_cons.1 hq with e2 | hq
    · rw [e1, e2]
    · rw [e1] at e; have := h1 q hq; omega
    · rw [e2] at e; have := h1 p hp; omega
    · exact ih h2 hp hq e
theorem atNum_some {qs : List α} {z : Int} {p : α} (h : atNum f qs z = some p) : p ∈ qs ∧ f p = z := by
  unfold atNum at h
  exact ⟨List.mem_of_find?_eq_some h, by have := List.find?_some h; simpa using this⟩
theorem atNum_none {qs : List α} {z : Int} : atNum f qs z = none ↔ ∀ p ∈ qs, f p ≠ z := by
  unfold atNum
  simp
theorem atNum_mem {qs : List α} (h : Asc f qs) {p : α} (hp : p ∈ qs) : atNum f qs (f p) = some p := by
  cases e : atNum f qs (f p) with
  | none => exact absurd rfl (atNum_none.1 e p hp)
  | some q =>
    obtain ⟨h1, h2⟩ := atNum_some e
    rw [h.inj h1 hp h2]
theorem atNum_iff {qs : List α} (h : Asc f qs) {z : Int} {p : α} : atNum f qs z = some p ↔ p ∈ qs ∧ f p = z :=
  ⟨atNum_some, fun ⟨h1, h2⟩ => by rw [← h2]; exact atNum_mem h h1⟩
theorem atNum_eq {qs rs : List α} (h : Asc f qs) (h' : Asc f rs) {z : Int} (he : ∀ p, f p = z → (p ∈ qs ↔ p ∈ rs)) : atNum f qs z = atNum f rs z := by
  cases e : atNum f qs z with
  | none =>
    symm
    rw [atNum_none]
    intro p hp e1
    exact atNum_none.1 e p ((he p e1).2 hp) e1
  | some p =>
    obtain ⟨h1, h2⟩ := atNum_some e
    symm
    exact (atNum_iff h').2 ⟨(he p h2).1 h1, h2⟩
theorem mem_insNum {qs : List α} {q p : α} : p ∈ insNum f qs q ↔ p = q ∨ (p ∈ qs ∧ f p ≠ f q) := by
  unfold insNum
  simp only [List.mem_append, List.mem_filter, List.mem_cons, decide_eq_true_eq]
  constructor
  · rintro (⟨h1, h2⟩ | rfl | ⟨h1, h2⟩)
    · exact .inr ⟨h1, by omega⟩
    · exact .inl rfl
    · exact .inr ⟨h1, by omega⟩
  · rintro (rfl | ⟨h1, h2⟩)
    · exact .inr (.inl rfl)
    · rcases Int.lt_or_gt_of_ne h2 with h | h
      · exact .inl ⟨h1, h⟩
      · exact .inr (.inr ⟨h1, h⟩)
theorem Asc.ins {qs : List α} (h : Asc f qs) (q : α) : Asc f (insNum f qs q) := by
  unfold insNum Asc
  rw [List.pairwise_append, List.pairwise_cons]
  refine ⟨h.filter _, ⟨fun p hp => ?_, h.filter _⟩, fun a ha b hb => ?_⟩
  · simpa using (List.mem_filter.1 hp).2
  · have h1 : f a < f q := by simpa using (List.mem_filter.1 ha).2
    rcases List.mem_cons.1 hb with rfl | hb
    · exact h1
    · have h2 : f q < f b := by simpa using (List.mem_filter.1 hb).2
      omega
theorem atNum_ins {qs : List α} (h : Asc f qs) (q : α) (z : Int) : atNum f (insNum f qs q) z = if z = f q then some q else atNum f qs z := by
  by_cases e : z = f q
  · subst e
    rw [if_pos rfl]
    exact atNum_mem (h.ins q) (mem_insNum.2 (.inl rfl))
  · rw [if_neg e]
    refine atNum_eq (h.ins q) h fun p hp => ?_
    rw [mem_insNum]
    constructor
    · rintro (rfl | ⟨h1, _⟩)
      · exact absurd hp.symm e
      · exact h1
    · intro h1; exact .inr ⟨h1, by omega⟩
theorem insNum_last {qs : List α} {q : α} (h : ∀ p ∈ qs, f p < f q) : insNum f qs q = qs ++ [q] := by
  unfold insNum
  rw [List.filter_eq_self.2 (fun p hp => by simpa using h p hp), List.filter_eq_nil_iff.2 (fun p hp => by have := h p hp; simp; omega)]
theorem asc_ext {qs rs : List α} (h : Asc f qs) (h' : Asc f rs) (he : ∀ p, p ∈ qs ↔ p ∈ rs) : qs = rs := by
  have nd : ∀ {l : List α}, Asc f l → l.Nodup := fun hl => hl.imp fun h e => by subst e; omega
  refine List.Perm.eq_of_pairwise (le := fun a b => f a < f b) (fun a b _ _ h1 h2 => by omega) h h' ((List.perm_ext_iff_of_nodup (nd h) (nd h')).2 he)
/-- One of the list gets another record of its number. -/
theorem Asc.set {qs : List α} (h : Asc f qs) {k : Nat} {p q : α} (hk : qs[k]? = some p) (e : f q = f p) : Asc f (qs.set k q) := by
  have e1 : (qs.set k q).map f = qs.map f := by
    rw [List.map_set, e]
    refine List.ext_getElem? fun i => ?_
    rw [List.getElem?_set]
    split
    · rename_i h1
      subst h1
      have := (List.getElem?_eq_some_iff.1 hk).1
      rw [List.length_map, if_pos this, List.getElem?_map, hk]
      rfl
    · rfl
  have h1 : ((qs.set k q).map f).Pairwise (· < ·) := by rw [e1]; exact List.pairwise_map.2 h
  exact List.pairwise_map.1 h1
theorem insNum_set {qs : List α} (h : Asc f qs) {k : Nat} {p q : α} (hk : qs[k]? = some p) (e : f q = f p) : insNum f qs q = qs.set k q := by
  obtain ⟨hk', e1⟩ := List.getElem?_eq_some_iff.1 hk
  refine asc_ext (h.ins q) (h.set hk e) fun x => ?_
  rw [mem_insNum]
  constructor
  · rintro (rfl | ⟨h1, h2⟩)
    · exact List.mem_iff_getElem?.2 ⟨k, by rw [List.getElem?_set, if_pos rfl, if_pos hk']⟩
    · obtain ⟨i, hi⟩ := List.mem_iff_getElem?.1 h1
      refine List.mem_iff_getElem?.2 ⟨i, ?_⟩
      rw [List.getElem?_set, if_neg (fun e2 => ?_), hi]
      subst e2
      rw [hk] at hi
      injection hi with hi
      subst hi
      exact h2 e.symm
  · intro hx
    obtain ⟨i, hi⟩ := List.mem_iff_getElem?.1 hx
    rw [List.getElem?_set] at hi
    split at hi
    · exact .inl (by injection hi with hi; exact hi.symm)
    · rename_i hne
      have hx2 := List.mem_iff_getElem?.2 ⟨i, hi⟩
      refine .inr ⟨hx2, fun e2 => hne ?_⟩
      obtain ⟨hi', e3⟩ := List.getElem?_eq_some_iff.1 hi
      have hpx : x = p := h.inj hx2 (List.mem_of_getElem? hk) (by omega)
      rcases Nat.lt_trichotomy k i with hlt | he | hgt
      · have := List.pairwise_iff_getElem.1 h k i hk' hi' hlt
        rw [e1, e3, hpx] at this; omega
      · exact he
      · have := List.pairwise_iff_getElem.1 h i k hi' hk' hgt
        rw [e1, e3, hpx] at this; omega
theorem insNum_len {qs : List α} (h : Asc f qs) (q : α) : (insNum f qs q).length ≤ qs.length + 1 := by
  unfold insNum
  rw [List.length_append, List.length_cons]
  have : (qs.filter (fun p => decide (f p < f q))).length + (qs.filter (fun p => decide (f q < f p))).length ≤ qs.length := by
    clear h
    induction qs with
    | nil => simp
    | cons a qs ih =>
      simp only [List.filter_cons, List.length_cons]
      by_cases h1 : f a < f q <;> by_cases h2 : f q < f a <;> simp [h1, h2] <;> omega
  omega
/-- The numbers in order: sorting them anew gives the same. -/
theorem keys_sorted {qs : List α} (h : Asc f qs) : (qs.map f).mergeSort (fun x y => decide (x ≤ y)) = qs.map f := by
  refine List.mergeSort_of_pairwise ?_
  exact List.pairwise_map.2 (h.imp fun h => by simpa using Int.le_of_lt h)
theorem keys_nodup {qs : List α} (h : Asc f qs) : (qs.map f).Nodup := List.pairwise_map.2 (h.imp fun h => by omega)
theorem asc_snoc {qs : List α} {q : α} : Asc f (qs ++ [q]) ↔ Asc f qs ∧ ∀ p ∈ qs, f p < f q := by
  unfold Asc
  rw [List.pairwise_append]
  simp
/-- The last one is the greatest. -/
theorem asc_last {qs : List α} (h : Asc f qs) {q : α} (hq : qs.getLast? = some q) : ∀ p ∈ qs, f p ≤ f q := by
  intro p hp
  obtain ⟨ys, rfl⟩ := List.getLast?_eq_some_iff.1 hq
  rcases List.mem_append.1 hp with h1 | h1
  · exact Int.le_of_lt ((asc_snoc.1 h).2 p h1)
  · simp at h1; subst h1; exact Int.le_refl _
end

/-- As the program sees it, one after the other: each is good, and its number is greater than the one ahead of it. -/
def overOf (z : Option Int) (x : Int) : Bool := match z with | none => true | some y => decide (y < x)
def goodFrom {α : Type} (f : α → Int) (ok : α → Bool) : Option Int → List α → Bool
  | _, [] => true
  | z, p :: ps => ok p && overOf z (f p) && goodFrom f ok (some (f p)) ps
def good {α : Type} (f : α → Int) (ok : α → Bool) (ps : List α) : Bool := goodFrom f ok none ps
section
variable {α : Type} {f : α → Int} {ok : α → Bool}
theorem goodFrom_iff : ∀ {ps : List α} {z : Option Int}, goodFrom f ok z ps = true ↔ (∀ p ∈ ps, ok p = true) ∧ Asc f ps ∧ ∀ y, z = some y → ∀ p ∈ ps, y < f p
  | [], z => by simp [goodFrom, Asc]
  | p :: ps, z => by
    rw [goodFrom, Bool.and_eq_true, Bool.and_eq_true, goodFrom_iff]
    simp only [List.mem_cons, Asc, List.pairwise_cons]
    constructor
    · rintro ⟨⟨h1, h2⟩, h3, h4, h5⟩
      refine ⟨?_, ⟨h5 _ rfl, h4⟩, ?_⟩
      · rintro q (rfl | hq)
        · exact h1
        · exact h3 q hq
      · rintro y rfl q (rfl | hq)
        · simpa [overOf] using h2
        · have := h5 _ rfl q hq
          have h2 : y < f p := by simpa [overOf] using h2
          omega
    · rintro ⟨h1, ⟨h2, h3⟩, h4⟩
      refine ⟨⟨h1 p (.inl rfl), ?_⟩, fun q hq => h1 q (.inr hq), h3, fun y hy q hq => by injection hy with hy; rw [← hy]; exact h2 q hq⟩
      cases z with
      | none => rfl
      | some y => simpa [overOf] using h4 y rfl p (.inl rfl)
theorem good_iff {ps : List α} : good f ok ps = true ↔ (∀ p ∈ ps, ok p = true) ∧ Asc f ps := by
  unfold good
  rw [goodFrom_iff]
  simp
/-- The number ahead of place k. -/
def ahead (f : α → Int) (ps : List α) : Nat → Option Int
  | 0 => none
  | k + 1 => ps[k]?.map f
theorem good_step {ps : List α} {k : Nat} {p : α} (hg : ps[k]? = some p) (h : ok p = true) (h2 : ∀ y, ahead f ps k = some y → y < f p) : goodFrom f ok (ahead f ps k) (ps.drop k) = goodFrom f ok (ahead f ps (k + 1)) (ps.drop (k + 1)) := by
  rw [drop_cons2 hg, goodFrom, h, Bool.true_and]
  have e : ahead f ps (k + 1) = some (f p) := by simp [ahead, hg]
  rw [e]
  cases hz : ahead f ps k with
  | none => rfl
  | some y =>
    have := h2 y hz
    simp [overOf, this]
theorem good_bad {ps : List α} {k : Nat} {p : α} (hg : ps[k]? = some p) (h : ok p = false ∨ ∃ y, ahead f ps k = some y ∧ f p ≤ y) : goodFrom f ok (ahead f ps k) (ps.drop k) = false := by
  rw [drop_cons2 hg, goodFrom]
  rcases h with h | ⟨y, h1, h2⟩
  · rw [h]; rfl
  · rw [h1]
    have : decide (y < f p) = false := decide_eq_false (by omega)
    simp [overOf, this]
theorem ins_take {ps : List α} {k : Nat} {q : α} (ha : Asc f (ps.take k)) (hg : ps[k]? = some q) (h : ∀ y, ahead f ps k = some y → y < f q) : insNum f (ps.take k) q = ps.take (k + 1) := by
  rw [take_snoc hg]
  refine insNum_last fun p hp => ?_
  cases k with
  | zero => simp at hp
  | succ k =>
    have hk : k < ps.length := by have := (List.getElem?_eq_some_iff.1 hg).1; omega
    have hl : (ps.take (k + 1)).getLast? = some ps[k] := by
      rw [List.take_succ_eq_append_getElem hk]
      exact List.getLast?_concat
    have h1 := asc_last ha hl p hp
    have h2 := h (f ps[k]) (by simp [ahead, hk])
    omega
theorem ahead_get {ps : List α} {k : Nat} {p : α} (hg : ps[k]? = some p) : ahead f ps (k + 1) = some (f p) := by simp [ahead, hg]
end
end Go.Proofs.Ytfpiejcfhdnjiaa
