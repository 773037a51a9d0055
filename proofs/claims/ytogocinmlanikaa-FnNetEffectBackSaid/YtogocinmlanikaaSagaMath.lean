/- What sagas come to: steps are pairs of Do and Undo. Plain mathematics; no program. -/
import Derived.Test.YtogocinmlanikaaBase
set_option linter.unusedSimpArgs false
set_option linter.unusedVariables false
namespace Go.Proofs.Ytogocinmlanikaa
open Go.RowKit

abbrev St := Int × Int
def okSt (p : St) : Bool := inR p.1 (-9999) 9999 && inR p.2 (-9999) 9999
def vSteps (ps : List St) : Bool := ps.all okSt && decide (ps.length ≤ 10)
def dos (ps : List St) : List Int := ps.map Prod.fst
def undos (ps : List St) : List Int := ps.map Prod.snd
/-- The effects of the first k steps, taken back. -/
def backed (ps : List St) : List Int := dos ps ++ (undos ps).reverse
/-- Whether a step fails. -/
def failsAt (ps : List St) (z : Int) : Bool := inR z 0 ((ps.length : Int) - 1)
def sagaOf (ps : List St) (z : Int) : List Int := if vSteps ps = true then (if failsAt ps z = true then backed (ps.take z.toNat) else dos ps) else []
def sagaOk (ps : List St) (z : Int) : Bool := vSteps ps && !failsAt ps z
def allIn (l h : Int) (xs : List Int) : Bool := xs.all fun x => inR x l h
def netOk (xs : List Int) : Bool := allIn (-9999) 9999 xs && decide (xs.length ≤ 20)
def sumOf (xs : List Int) : Int := xs.foldl (· + ·) 0
def netOf (xs : List Int) : Int := if netOk xs = true then sumOf xs else 0
def opp (p : St) : Bool := p.2 == -p.1
def undoOf (ps : List St) : Bool := vSteps ps && ps.all opp
theorem vSteps_len {ps : List St} (h : vSteps ps = true) : ps.length ≤ 10 := by
  simp only [vSteps, Bool.and_eq_true, decide_eq_true_eq] at h; exact h.2
theorem okSt_bounds {p : St} (h : okSt p = true) : (-9999 ≤ p.1 ∧ p.1 ≤ 9999) ∧ (-9999 ≤ p.2 ∧ p.2 ≤ 9999) := by
  simp only [okSt, inR, Bool.and_eq_true, decide_eq_true_eq] at h; exact h
theorem vSteps_ok {ps : List St} (h : vSteps ps = true) {p : St} (hp : p ∈ ps) : okSt p = true := by
  simp only [vSteps, Bool.and_eq_true, List.all_eq_true] at h; exact h.1 p hp
theorem vSteps_at {ps : List St} (h : vSteps ps = true) {k : Nat} {x y : Int} (hg : ps[k]? = some (x, y)) : (-9999 ≤ x ∧ x ≤ 9999) ∧ (-9999 ≤ y ∧ y ≤ 9999) :=
  okSt_bounds (vSteps_ok h (List.mem_of_getElem? hg))
theorem vSteps_bad {ps : List St} {k : Nat} {x y : Int} (hg : ps[k]? = some (x, y)) (h : okSt (x, y) = false) : vSteps ps = false := by
  cases hv : vSteps ps with
  | false => rfl
  | true => have := vSteps_ok hv (List.mem_of_getElem? hg); rw [h] at this; cases this
/-- The first k are all right. -/
theorem all_take_step {α : Type} {f : α → Bool} {ps : List α} {k : Nat} {p : α} (hg : ps[k]? = some p) (h : (ps.take k).all f = true) (hp : f p = true) : (ps.take (k + 1)).all f = true := by
  rw [List.take_add_one, hg, List.all_append, h]; simp [hp]
theorem all_of_take {α : Type} {f : α → Bool} {ps : List α} {k : Nat} (h : (ps.take k).all f = true) (hk : ps.length ≤ k) : ps.all f = true := by
  rwa [List.take_of_length_le hk] at h
theorem all_bad {α : Type} {f : α → Bool} {ps : List α} {k : Nat} {p : α} (hg : ps[k]? = some p) (h : f p = false) : ps.all f = false := by
  rw [List.all_eq_false]; exact ⟨p, List.mem_of_getElem? hg, by rw [h]; simp⟩
theorem dos_len (ps : List St) : (dos ps).length = ps.length := by simp [dos]
theorem undos_len (ps : List St) : (undos ps).length = ps.length := by simp [undos]
theorem backed_len (ps : List St) : (backed ps).length = 2 * ps.length := by simp [backed, dos, undos]; omega
theorem dos_take_step {ps : List St} {k : Nat} {x y : Int} (hg : ps[k]? = some (x, y)) : dos (ps.take (k + 1)) = dos (ps.take k) ++ [x] := by
  rw [List.take_add_one, hg]; simp [dos]
theorem undos_take_step {ps : List St} {k : Nat} {x y : Int} (hg : ps[k]? = some (x, y)) : undos (ps.take (k + 1)) = undos (ps.take k) ++ [y] := by
  rw [List.take_add_one, hg]; simp [undos]
theorem sagaOf_len (ps : List St) (z : Int) : (sagaOf ps z).length ≤ 2 * ps.length := by
  unfold sagaOf
  split
  · split
    · rw [backed_len, List.length_take]; omega
    · rw [dos_len]; omega
  · simp
theorem sagaOf_le (ps : List St) (z : Int) {n : Nat} (hl : ps.length = n) (hn : n ≤ 1048576) : (sagaOf ps z).length ≤ 1048576 := by
  cases hv : vSteps ps with
  | false => simp [sagaOf, hv]
  | true => have := vSteps_len hv; have := sagaOf_len ps z; omega
theorem failsAt_iff {ps : List St} {z : Int} : failsAt ps z = true ↔ 0 ≤ z ∧ z < ps.length := by
  simp only [failsAt, inR, Bool.and_eq_true, decide_eq_true_eq]; omega
theorem sagaOf_bad {ps : List St} {z : Int} (h : vSteps ps = false) : sagaOf ps z = [] ∧ sagaOk ps z = false := by
  simp [sagaOf, sagaOk, h]
theorem sagaOf_fail {ps : List St} {z : Int} (h : vSteps ps = true) (hf : failsAt ps z = true) : sagaOf ps z = backed (ps.take z.toNat) ∧ sagaOk ps z = false := by
  simp [sagaOf, sagaOk, h, hf]
theorem sagaOf_good {ps : List St} {z : Int} (h : vSteps ps = true) (hf : failsAt ps z = false) : sagaOf ps z = dos ps ∧ sagaOk ps z = true := by
  simp [sagaOf, sagaOk, h, hf]
theorem sumOf_step {xs : List Int} {k : Nat} {x : Int} (hg : xs[k]? = some x) : sumOf (xs.take (k + 1)) = sumOf (xs.take k) + x := by
  rw [List.take_add_one, hg]; simp [sumOf, List.foldl_append]
theorem foldl_from (xs : List Int) (a : Int) : xs.foldl (· + ·) a = a + sumOf xs := by
  unfold sumOf
  induction xs generalizing a with
  | nil => simp
  | cons x xs ih => simp only [List.foldl_cons]; rw [ih, ih (0 + x)]; omega
theorem sumOf_append (xs ys : List Int) : sumOf (xs ++ ys) = sumOf xs + sumOf ys := by
  rw [sumOf, List.foldl_append, foldl_from]; rfl
theorem sumOf_cons (x : Int) (xs : List Int) : sumOf (x :: xs) = x + sumOf xs := by
  rw [sumOf, List.foldl_cons, foldl_from]; omega
theorem sumOf_reverse (xs : List Int) : sumOf xs.reverse = sumOf xs := by
  induction xs with
  | nil => rfl
  | cons x xs ih => rw [List.reverse_cons, sumOf_append, ih, sumOf_cons, sumOf_cons]; simp [sumOf]; omega
theorem sumOf_neg (xs : List Int) : sumOf (xs.map fun x => -x) = -sumOf xs := by
  induction xs with
  | nil => rfl
  | cons x xs ih => rw [List.map_cons, sumOf_cons, sumOf_cons, ih]; omega
theorem sumOf_bound {xs : List Int} (h : allIn (-9999) 9999 xs = true) : -(9999 * (xs.length : Int)) ≤ sumOf xs ∧ sumOf xs ≤ 9999 * (xs.length : Int) := by
  induction xs with
  | nil => simp [sumOf]
  | cons x xs ih =>
    simp only [allIn, List.all_cons, Bool.and_eq_true] at h
    have h1 := ih h.2
    have h2 := h.1
    simp only [inR, Bool.and_eq_true, decide_eq_true_eq] at h2
    rw [sumOf_cons]; simp only [List.length_cons]; omega
theorem allIn_at {l h : Int} {xs : List Int} (hx : allIn l h xs = true) {k : Nat} {x : Int} (hg : xs[k]? = some x) : l ≤ x ∧ x ≤ h := by
  simp only [allIn, List.all_eq_true, inR, Bool.and_eq_true, decide_eq_true_eq] at hx; exact hx x (List.mem_of_getElem? hg)
theorem netOk_len {xs : List Int} (h : netOk xs = true) : xs.length ≤ 20 := by
  simp only [netOk, Bool.and_eq_true, decide_eq_true_eq] at h; exact h.2
theorem netOk_all {xs : List Int} (h : netOk xs = true) : allIn (-9999) 9999 xs = true := by
  simp only [netOk, Bool.and_eq_true] at h; exact h.1
theorem allIn_take {l h : Int} {xs : List Int} (hx : allIn l h xs = true) (k : Nat) : allIn l h (xs.take k) = true := by
  simp only [allIn, List.all_eq_true] at hx ⊢; exact fun x hm => hx x (List.mem_of_mem_take hm)
theorem allIn_drop {l h : Int} {xs : List Int} (hx : allIn l h xs = true) (k : Nat) : allIn l h (xs.drop k) = true := by
  simp only [allIn, List.all_eq_true] at hx ⊢; exact fun x hm => hx x (List.mem_of_mem_drop hm)
theorem netOk_take {xs : List Int} (h : netOk xs = true) (k : Nat) : netOk (xs.take k) = true := by
  have := netOk_len h
  simp only [netOk, Bool.and_eq_true, decide_eq_true_eq]
  exact ⟨allIn_take (netOk_all h) k, by rw [List.length_take]; omega⟩
theorem netOk_drop {xs : List Int} (h : netOk xs = true) (k : Nat) : netOk (xs.drop k) = true := by
  have := netOk_len h
  simp only [netOk, Bool.and_eq_true, decide_eq_true_eq]
  exact ⟨allIn_drop (netOk_all h) k, by rw [List.length_drop]; omega⟩
theorem net_take {xs : List Int} (h : netOk xs = true) {k : Nat} (hk : k ≤ xs.length) : -199980 ≤ sumOf (xs.take k) ∧ sumOf (xs.take k) ≤ 199980 := by
  have h1 := sumOf_bound (allIn_take (netOk_all h) k)
  have h2 := netOk_len h
  rw [List.length_take] at h1
  omega
theorem netOf_bound (xs : List Int) : -199980 ≤ netOf xs ∧ netOf xs ≤ 199980 := by
  unfold netOf
  split
  · rename_i h
    have := net_take h (Nat.le_refl _)
    rwa [List.take_length] at this
  · omega
theorem netOf_yes {xs : List Int} (h : netOk xs = true) : netOf xs = sumOf xs := by rw [netOf, if_pos h]
theorem netOf_no {xs : List Int} (h : netOk xs = false) : netOf xs = 0 := by rw [netOf, if_neg (by rw [h]; simp)]
theorem net_halves {xs : List Int} (h : netOk xs = true) (k : Nat) : netOf (xs.take k) + netOf (xs.drop k) = netOf xs := by
  rw [netOf_yes h, netOf_yes (netOk_take h k), netOf_yes (netOk_drop h k), ← sumOf_append, List.take_append_drop]
theorem netOk_reverse (xs : List Int) : netOk xs.reverse = netOk xs := by simp [netOk, allIn, List.all_reverse]
theorem netOf_reverse (xs : List Int) : netOf xs.reverse = netOf xs := by rw [netOf, netOf, netOk_reverse, sumOf_reverse]
theorem netOk_neg (xs : List Int) : netOk (xs.map fun x => -x) = netOk xs := by
  have : (xs.map fun x => -x).all (fun x => inR x (-9999) 9999) = xs.all (fun x => inR x (-9999) 9999) := by
    rw [List.all_map]; congr 1; funext x; simp only [Function.comp, inR]
    rw [Bool.eq_iff_iff]; simp only [Bool.and_eq_true, decide_eq_true_eq]; omega
  simp [netOk, allIn, this]
theorem netOf_neg (xs : List Int) : netOf (xs.map fun x => -x) = -netOf xs := by
  rw [netOf, netOf, netOk_neg, sumOf_neg]; split <;> simp
theorem vSteps_take {ps : List St} (h : vSteps ps = true) (k : Nat) : vSteps (ps.take k) = true := by
  have := vSteps_len h
  simp only [vSteps, Bool.and_eq_true, decide_eq_true_eq, List.all_eq_true]
  exact ⟨fun p hp => vSteps_ok h (List.mem_of_mem_take hp), by rw [List.length_take]; omega⟩
theorem undo_halves {ps : List St} (hl : ps.length ≤ 10) (k : Nat) : undoOf ps = (undoOf (ps.take k) && undoOf (ps.drop k)) := by
  have h1 : (ps.take k).length ≤ 10 := by rw [List.length_take]; omega
  have h2 : (ps.drop k).length ≤ 10 := by rw [List.length_drop]; omega
  have e : ∀ f : St → Bool, ps.all f = ((ps.take k).all f && (ps.drop k).all f) := fun f => by
    rw [← List.all_append, List.take_append_drop]
  simp only [undoOf, vSteps, hl, h1, h2, decide_true, Bool.and_true, e okSt, e opp]
  cases (ps.take k).all okSt <;> cases (ps.drop k).all okSt <;> cases (ps.take k).all opp <;> cases (ps.drop k).all opp <;> rfl
theorem undoOf_valid {ps : List St} (h : undoOf ps = true) : vSteps ps = true := by
  simp only [undoOf, Bool.and_eq_true] at h; exact h.1
theorem undoOf_at {ps : List St} (h : undoOf ps = true) {k : Nat} {x y : Int} (hg : ps[k]? = some (x, y)) : y = -x := by
  simp only [undoOf, Bool.and_eq_true, List.all_eq_true] at h
  have := h.2 _ (List.mem_of_getElem? hg)
  simpa [opp] using this
theorem undos_of {ps : List St} (h : ∀ p ∈ ps, p.2 = -p.1) : undos ps = (dos ps).map fun x => -x := by
  simp only [undos, dos, List.map_map]
  exact List.map_congr_left fun p hp => by simpa using h p hp
theorem net_backed {ps : List St} (h : undoOf ps = true) (k : Nat) : netOf (backed (ps.take k)) = 0 := by
  have hm : ∀ p ∈ ps.take k, p.2 = -p.1 := fun p hp => by
    simp only [undoOf, Bool.and_eq_true, List.all_eq_true] at h
    simpa [opp] using h.2 p (List.mem_of_mem_take hp)
  unfold netOf
  split
  · rw [backed, undos_of hm, sumOf_append, sumOf_reverse, sumOf_neg]; omega
  · rfl
theorem net_dos {ps : List St} (h : vSteps ps = true) : netOf (dos ps) = sumOf (dos ps) := by
  apply netOf_yes
  have := vSteps_len h
  simp only [netOk, allIn, Bool.and_eq_true, decide_eq_true_eq, List.all_eq_true, dos_len]
  refine ⟨fun x hx => ?_, by omega⟩
  obtain ⟨p, hp, rfl⟩ := List.mem_map.1 hx
  have := okSt_bounds (vSteps_ok h hp)
  simp only [inR, Bool.and_eq_true, decide_eq_true_eq]; omega
theorem undo_one {ps : List St} (h : undoOf ps = true) {k : Nat} {x y : Int} (hg : ps[k]? = some (x, y)) : undoOf [(x, y)] = true := by
  have h1 := undoOf_valid h
  have h2 := vSteps_ok h1 (List.mem_of_getElem? hg)
  have h3 := undoOf_at h hg
  subst h3
  simp [undoOf, vSteps, h2, opp]
theorem get_take {α : Type} {ps : List α} {k j : Nat} (h : j < k) : (ps.take k)[j]? = ps[j]? := by rw [List.getElem?_take, if_pos h]
theorem backed_do {ps : List St} {j : Nat} {x y : Int} (hg : ps[j]? = some (x, y)) : (backed ps)[j]? = some x := by
  have hl : j < ps.length := (List.getElem?_eq_some_iff.1 hg).1
  rw [backed, List.getElem?_append_left (by rw [dos_len]; exact hl)]; simp [dos, hg]
theorem backed_undo {ps : List St} {j : Nat} {x y : Int} (hg : ps[j]? = some (x, y)) : (backed ps)[2 * ps.length - 1 - j]? = some y := by
  have hl : j < ps.length := (List.getElem?_eq_some_iff.1 hg).1
  rw [backed, List.getElem?_append_right (by rw [dos_len]; omega), dos_len, List.getElem?_reverse (by rw [undos_len]; omega), undos_len]
  rw [show ps.length - 1 - (2 * ps.length - 1 - j - ps.length) = j by omega]
  simp [undos, hg]
theorem dos_at {ps : List St} {j : Nat} {x y : Int} (hg : ps[j]? = some (x, y)) : (dos ps)[j]? = some x := by simp [dos, hg]
/-- Undone from the back up to place j. -/
def backTo (ps : List St) (j : Nat) : List Int := dos ps ++ (undos (ps.drop j)).reverse
theorem backTo_len (ps : List St) (j : Nat) : (backTo ps j).length = ps.length + (ps.length - j) := by simp [backTo, dos, undos]
theorem backTo_step {ps : List St} {j : Nat} {x y : Int} (hg : ps[j]? = some (x, y)) : backTo ps j = backTo ps (j + 1) ++ [y] := by
  have hl : j < ps.length := (List.getElem?_eq_some_iff.1 hg).1
  have e : ps.drop j = (x, y) :: ps.drop (j + 1) := by
    rw [List.drop_eq_getElem_cons hl, (List.getElem?_eq_some_iff.1 hg).2]
  rw [backTo, backTo, e]; simp [undos]
theorem backTo_all (ps : List St) : backTo ps ps.length = dos ps := by simp [backTo, undos]
theorem backTo_zero (ps : List St) : backTo ps 0 = backed ps := by simp [backTo, backed]
/-- Numbers of the call's own and whether all is well. -/
def FreshS (l : List Int) (b : Bool) (w : World) (e : Ending) (w' : World) : Prop :=
  ∃ A c, e = .returned (.tuple #[.slice A l.length c, .bool b]) ∧ l.length ≤ c ∧ Rd w' w.heap.size w'.heap.size 1 A l.length (ivs l) ∧ Soft w' 1 A l.length ∧ Below w.heap.size w w'
theorem FreshS.of_own {l : List Int} {b : Bool} {w w' : World} {ty : TypeId} {v : Value} (h : w'.ownsRow w.heap.size ty 1 v l.length (ivs l)) (hb : Below w.heap.size w w') : FreshS l b w (.returned (.tuple #[v, .bool b])) w' := by
  obtain ⟨A, c, rfl, hc, hr, hs⟩ := own_form h
  exact ⟨A, c, rfl, hc, hr, hs, hb⟩
theorem FreshS.nope {w w' : World} (hb : Below w.heap.size w w') : FreshS [] false w (.returned (.tuple #[.slice none 0 0, .bool false])) w' :=
  ⟨none, 0, rfl, Nat.le_refl _, Rd.nil _ _ _ _ _, (fun _ _ e => nomatch e), hb⟩
end Go.Proofs.Ytogocinmlanikaa
