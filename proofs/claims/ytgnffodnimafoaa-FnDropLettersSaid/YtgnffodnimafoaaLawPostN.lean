/- What the laws on post offices ask, in plain mathematics. -/
import Derived.Test.YtgnffodnimafoaaSendMath
set_option linter.unusedSimpArgs false
set_option linter.unusedVariables false
namespace Go.Proofs.Ytgnffodnimafoaa
open Go.RowKit

/-- What SendLetter may come to. -/
theorem send_cases {ns fs d1 d2 : List Tri} {l : Tri} {k : Int} {b : Bool} (h : sendOf ns fs l = ((d1, d2), k, b)) :
    (b = false) ∨
    (b = true ∧ k = -1 ∧ d1 = ns ∧ d2 = fs ++ [l] ∧ vPost d1 d2 = true ∧ vLet l = true ∧ (∀ t ∈ ns, adS t ≠ adL l)) ∨
    (b = true ∧ ∃ i t, ns[i]? = some t ∧ firstAt adS ns (adL l) = i ∧ k = t.1 ∧ 0 ≤ k ∧ d1 = ns.eraseIdx i ∧ d2 = fs ∧ vPost d1 d2 = true ∧ adS t = adL l) := by
  cases hv : (vPost ns fs && vLet l) with
  | false => rw [send_no hv] at h; injection h with _ h; injection h with _ h; exact .inl h.symm
  | true =>
  by_cases hk : firstAt adS ns (adL l) < ns.length
  · obtain ⟨t, hg, ha⟩ := firstAt_get hk
    have e := send_hit hv rfl hg
    have hval := send_valid (ss := ns) (ls := fs) (l := l) (by rw [e])
    rw [h] at e hval
    injection e with e1 e2; injection e1 with e1 e3; injection e2 with e2 e4
    refine .inr (.inr ⟨e4, _, t, hg, rfl, e2, ?_, e1, e3, hval, ha⟩)
    have h1 : vPost ns fs = true := by rw [Bool.and_eq_true] at hv; exact hv.1
    have := (vPost_and.1 h1).2.1 t (List.mem_of_getElem? hg)
    simp only [vSub, inR, Bool.and_eq_true, decide_eq_true_eq] at this
    omega
  · cases hp : vPost ns (fs ++ [l]) with
    | false => rw [send_full hv hk hp] at h; injection h with _ h; injection h with _ h; exact .inl h.symm
    | true =>
      have e := send_put hv hk hp
      rw [h] at e
      injection e with e1 e2; injection e1 with e1 e3; injection e2 with e2 e4
      refine .inr (.inl ⟨e4, e2, e1, e3, by rw [e1, e3]; exact hp, by rw [Bool.and_eq_true] at hv; exact hv.2, fun t ht hat => ?_⟩)
      obtain ⟨i, hi, rfl⟩ := List.mem_iff_getElem.1 ht
      exact hk (Nat.lt_of_le_of_lt (List.findIdx_le_findIdx (p := fun t => adS t == adL l) (q := fun t => adS t == adL l) (fun _ _ h => h)) (List.findIdx_lt_length_of_exists ⟨_, ht, by simpa using hat⟩))
/-- What WaitLetter may come to. -/
theorem wait_cases {ns fs d1 d2 : List Tri} {s : Tri} {k b : Bool} (h : waitOf ns fs s = ((d1, d2), k, b)) :
    (b = false) ∨
    (b = true ∧ k = false ∧ d1 = ns ++ [s] ∧ d2 = fs ∧ vPost d1 d2 = true ∧ vSub s = true ∧ (∀ t ∈ fs, adL t ≠ adS s)) ∨
    (b = true ∧ k = true ∧ ∃ i t, fs[i]? = some t ∧ firstAt adL fs (adS s) = i ∧ d1 = ns ∧ d2 = fs.eraseIdx i ∧ vPost d1 d2 = true ∧ vSub s = true ∧ adL t = adS s) := by
  cases hv : (vPost ns fs && vSub s) with
  | false => rw [wait_no hv] at h; injection h with _ h; injection h with _ h; exact .inl h.symm
  | true =>
  have hsv : vSub s = true := by rw [Bool.and_eq_true] at hv; exact hv.2
  by_cases hk : firstAt adL fs (adS s) < fs.length
  · obtain ⟨t, hg, ha⟩ := firstAt_get hk
    have e := wait_hit hv rfl hg
    have hval := wait_valid (ss := ns) (ls := fs) (s := s) (by rw [e])
    rw [h] at e hval
    injection e with e1 e2; injection e1 with e1 e3; injection e2 with e2 e4
    exact .inr (.inr ⟨e4, e2, _, t, hg, rfl, e1, e3, hval, hsv, ha⟩)
  · cases hp : vPost (ns ++ [s]) fs with
    | false => rw [wait_full hv hk hp] at h; injection h with _ h; injection h with _ h; exact .inl h.symm
    | true =>
      have e := wait_put hv hk hp
      rw [h] at e
      injection e with e1 e2; injection e1 with e1 e3; injection e2 with e2 e4
      refine .inr (.inl ⟨e4, e2, e1, e3, by rw [e1, e3]; exact hp, hsv, fun t ht hat => ?_⟩)
      exact hk (List.findIdx_lt_length_of_exists ⟨_, ht, by simpa using hat⟩)
/-- Who waits behind a letter that nobody got takes one. -/
theorem wait_behind {ns fs : List Tri} {x y z o : Int} (hv : vPost ns (fs ++ [(x, y, z)]) = true) (ho : 0 ≤ o ∧ o ≤ 9) : ∃ d1 d2, waitOf ns (fs ++ [(x, y, z)]) (o, x, y) = ((d1, d2), true, true) ∧ d1.length = ns.length ∧ d2.length = fs.length := by
  have hl := (vPost_and.1 hv).2.2.2.1 (x, y, z) (by simp)
  have hs : vSub (o, x, y) = true := by
    simp only [vLet, vSub, inR, Bool.and_eq_true, decide_eq_true_eq] at hl ⊢; omega
  have hk : firstAt adL (fs ++ [(x, y, z)]) (adS (o, x, y)) < (fs ++ [(x, y, z)]).length :=
    List.findIdx_lt_length_of_exists ⟨(x, y, z), by simp, by simp [adL, adS]⟩
  obtain ⟨t, hg, _⟩ := firstAt_get hk
  refine ⟨_, _, wait_hit (by rw [hv, hs]; rfl) rfl hg, rfl, ?_⟩
  rw [List.length_eraseIdx_of_lt hk, List.length_append]; simp
/-- How many have an address. -/
def hits (f : Tri → Int × Int) (l : List Tri) (a : Int × Int) : Nat := (l.filter fun t => f t == a).length
theorem hits_le (f : Tri → Int × Int) (l : List Tri) (a : Int × Int) : hits f l a ≤ l.length := List.length_filter_le _ _
theorem hits_yes {f : Tri → Int × Int} {l : List Tri} {a : Int × Int} {k : Nat} {t : Tri} (hg : l[k]? = some t) (h : f t = a) : hits f (l.take (k + 1)) a = hits f (l.take k) a + 1 := by
  unfold hits; rw [List.take_add_one, hg, List.filter_append, List.length_append]; simp [h]
theorem hits_no {f : Tri → Int × Int} {l : List Tri} {a : Int × Int} {k : Nat} {t : Tri} (hg : l[k]? = some t) (h : ¬ f t = a) : hits f (l.take (k + 1)) a = hits f (l.take k) a := by
  unfold hits; rw [List.take_add_one, hg, List.filter_append, List.length_append]; simp [h]
theorem hits_erase {f : Tri → Int × Int} {a : Int × Int} : ∀ {l : List Tri} {i : Nat} {t : Tri}, l[i]? = some t → f t = a → hits f (l.eraseIdx i) a + 1 = hits f l a
  | [], i, t, hg, _ => by simp at hg
  | p :: l, 0, t, hg, h => by simp at hg; subst hg; simp [hits, h]
  | p :: l, i + 1, t, hg, h => by
    have e := hits_erase (l := l) (i := i) (t := t) (by simpa using hg) h
    unfold hits at e ⊢
    rw [List.eraseIdx_cons_succ, List.filter_cons, List.filter_cons]
    cases f p == a <;> simp only [Bool.false_eq_true, if_false, if_true, List.length_cons] <;> omega
theorem hits_zero {f : Tri → Int × Int} {l : List Tri} {a : Int × Int} (h : ∀ t ∈ l, f t ≠ a) : hits f l a = 0 := by
  unfold hits; rw [List.length_eq_zero_iff, List.filter_eq_nil_iff]; intro t ht; simpa using h t ht
theorem hits_pos {f : Tri → Int × Int} {l : List Tri} {a : Int × Int} {i : Nat} {t : Tri} (hg : l[i]? = some t) (h : f t = a) : 0 < hits f l a := by
  unfold hits; exact List.length_pos_of_mem (List.mem_filter.2 ⟨List.mem_of_getElem? hg, by simpa using h⟩)
/-- The second time. -/
theorem wait_twice {ns fs q1 q2 : List Tri} {s t : Tri} {i : Nat} {kk b : Bool} (hg : fs[i]? = some t) (ha : adL t = adS s) (hW : waitOf ns (fs.eraseIdx i) s = ((q1, q2), kk, b)) : b = false ∨ b = true ∧ kk = decide (1 < hits adL fs (adS s)) := by
  have e := hits_erase hg ha
  rcases wait_cases hW with h | ⟨h, hk, _, _, _, _, hno⟩ | ⟨h, hk, j, u, hgj, _, _, _, _, _, hau⟩
  · exact .inl h
  · refine .inr ⟨h, ?_⟩
    rw [hits_zero hno] at e
    rw [hk, ← e]; rfl
  · refine .inr ⟨h, ?_⟩
    have := hits_pos hgj hau
    rw [hk]; symm; exact decide_eq_true (by omega)
/-- The owner of the first one with an address. -/
def frontO (l : List Tri) (s : Tri) : Int := ((l.find? fun t => adS t == adS s).getD s).1
theorem frontO_cons {l : List Tri} {t s : Tri} : frontO (t :: l) s = if adS t = adS s then t.1 else frontO l s := by
  unfold frontO
  rw [List.find?_cons]
  by_cases h : adS t = adS s
  · have e : (adS t == adS s) = true := by simpa using h
    rw [if_pos h, e]; rfl
  · have e : (adS t == adS s) = false := by simpa using h
    rw [if_neg h, e]
theorem firstAt_front : ∀ {l : List Tri} {s t : Tri}, l[firstAt adS l (adS s)]? = some t → frontO l s = t.1
  | [], s, t, h => by simp at h
  | p :: l, s, t, h => by
    rw [frontO_cons]
    unfold firstAt at h
    rw [List.findIdx_cons] at h
    by_cases hp : adS p = adS s
    · have e : (adS p == adS s) = true := by simpa using hp
      rw [e] at h
      rw [if_pos hp]
      injection h with h; rw [h]
    · have e : (adS p == adS s) = false := by simpa using hp
      rw [e] at h
      rw [if_neg hp]
      exact firstAt_front (l := l) (by simpa [firstAt] using h)
/-- A letter for who waits last: it goes to the first one. -/
theorem send_behind {ns fs : List Tri} {x y z u : Int} (hv : vPost (ns ++ [(x, y, z)]) fs = true) (hu : 0 ≤ u ∧ u ≤ 9999) : ∃ d1 d2, sendOf (ns ++ [(x, y, z)]) fs (y, z, u) = ((d1, d2), frontO (ns ++ [(x, y, z)]) (x, y, z), true) := by
  have hs := (vPost_and.1 hv).2.1 (x, y, z) (by simp)
  have hl : vLet (y, z, u) = true := by
    simp only [vLet, vSub, inR, Bool.and_eq_true, decide_eq_true_eq] at hs ⊢; omega
  have hk : firstAt adS (ns ++ [(x, y, z)]) (adL (y, z, u)) < (ns ++ [(x, y, z)]).length :=
    List.findIdx_lt_length_of_exists ⟨(x, y, z), by simp, by simp [adL, adS]⟩
  obtain ⟨t, hg, _⟩ := firstAt_get hk
  have e := send_hit (ss := ns ++ [(x, y, z)]) (ls := fs) (l := (y, z, u)) (by rw [hv, hl]; rfl) rfl hg
  rw [← firstAt_front (s := (x, y, z)) hg] at e
  exact ⟨_, _, e⟩
theorem front_start (s : Tri) (ns : List Tri) {n : Nat} (hk : ns.length = n) : frontO (ns.drop n ++ [s]) s = s.1 := by
  rw [List.drop_of_length_le (by omega), List.nil_append, frontO_cons, if_pos rfl]
theorem front_step {ns : List Tri} {k : Nat} {t s : Tri} (hg : ns[k]? = some t) : frontO (ns.drop k ++ [s]) s = if adS t = adS s then t.1 else frontO (ns.drop (k + 1) ++ [s]) s := by
  have hl := (List.getElem?_eq_some_iff.1 hg).1
  rw [List.drop_eq_getElem_cons hl, (List.getElem?_eq_some_iff.1 hg).2, List.cons_append, frontO_cons]
end Go.Proofs.Ytgnffodnimafoaa
