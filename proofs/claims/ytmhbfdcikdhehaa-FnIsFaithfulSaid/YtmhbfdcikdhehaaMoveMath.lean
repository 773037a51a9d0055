/- Tokens that are moved to another process, in plain mathematics. No program. -/
import Derived.Test.YtmhbfdcikdhehaaTokSumA
set_option linter.unusedSimpArgs false
set_option linter.unusedVariables false
namespace Go.Proofs.Ytmhbfdcikdhehaa
open Go.RowKit

theorem mv_atD {ms : List Int} {k : Nat} (h : k < ms.length) : (ivs ms)[k]? = some (.int .i64 (ms.getD k 0)) := by
  rw [ivs, List.getElem?_map, List.getD_eq_getElem?_getD, List.getElem?_eq_getElem h]; rfl
theorem mv_put (ms : List Int) (k : Nat) (v : Int) : (ivs ms).set k (.int .i64 v) = ivs (ms.set k v) := by simp [ivs, List.map_set]
/-- What goes to the flow z. -/
def maskOf (fl ms : List Int) (z : Int) : List Int := List.zipWith (fun f m => if f = z then m else 0) fl ms
theorem mask_at {fl ms : List Int} {z : Int} {i : Nat} {f m : Int} (hf : fl[i]? = some f) (hm : ms[i]? = some m) : (maskOf fl ms z)[i]? = some (if f = z then m else 0) := by
  unfold maskOf; rw [List.getElem?_zipWith, hf, hm]
theorem mask_len {fl ms : List Int} (h : fl.length = ms.length) (z : Int) : (maskOf fl ms z).length = ms.length := by simp [maskOf, h]
theorem mask_mem {fl ms : List Int} {z x : Int} (h : x ∈ maskOf fl ms z) : x = 0 ∨ x ∈ ms := by
  obtain ⟨i, hi, he⟩ := List.getElem_of_mem h
  have hl : i < fl.length ∧ i < ms.length := by simp [maskOf] at hi; omega
  have := mask_at (z := z) (List.getElem?_eq_getElem hl.1) (List.getElem?_eq_getElem hl.2)
  rw [List.getElem?_eq_getElem hi, he] at this
  injection this with this
  split at this
  · right; rw [this]; exact List.getElem_mem _
  · left; exact this
theorem mask_snoc {fl ms : List Int} {k : Nat} {f m : Int} (hf : fl[k]? = some f) (hm : ms[k]? = some m) (z : Int) : (maskOf (fl.take (k + 1)) (ms.take (k + 1)) z).sum = (maskOf (fl.take k) (ms.take k) z).sum + if f = z then m else 0 := by
  have h1 := (List.getElem?_eq_some_iff.1 hf).1
  have h2 := (List.getElem?_eq_some_iff.1 hm).1
  rw [take_snoc hf, take_snoc hm]
  unfold maskOf
  rw [List.zipWith_append (by rw [List.length_take, List.length_take]; omega), List.sum_append]
  simp
theorem mask_bd {fl ms : List Int} (h03 : ∀ x ∈ ms, 0 ≤ x ∧ x ≤ 3) (z : Int) : ∀ k, k ≤ ms.length → k ≤ fl.length → 0 ≤ (maskOf (fl.take k) (ms.take k) z).sum ∧ (maskOf (fl.take k) (ms.take k) z).sum ≤ 3 * k
  | 0, _, _ => by simp [maskOf]
  | k + 1, h, h' => by
    have h1 := mask_bd (fl := fl) h03 z k (by omega) (by omega)
    have h2 := mask_snoc (fl := fl) (ms := ms) (List.getElem?_eq_getElem (show k < fl.length by omega)) (List.getElem?_eq_getElem (show k < ms.length by omega)) z
    have h3 := h03 (ms[k]'(by omega)) (List.getElem_mem _)
    rw [h2]
    split <;> omega
/-- The tokens behind the move. -/
def movedTo (fl ms : List Int) (N : Nat) : List Int := (List.range N).map fun (z : Nat) => (maskOf fl ms (z : Int)).sum
theorem moved_len (fl ms : List Int) (N : Nat) : (movedTo fl ms N).length = N := by simp [movedTo]
theorem moved_at {fl ms : List Int} {N z : Nat} (h : z < N) : (movedTo fl ms N)[z]? = some (maskOf fl ms (z : Int)).sum := by
  unfold movedTo; rw [List.getElem?_map, List.getElem?_range h]; rfl
theorem moved_none (fl ms : List Int) (N : Nat) : movedTo (fl.take 0) (ms.take 0) N = List.replicate N 0 := by
  apply List.ext_getElem?
  intro i
  by_cases hi : i < N
  · rw [moved_at hi, List.getElem?_replicate, if_pos hi]; simp [maskOf]
  · rw [List.getElem?_eq_none (by rw [moved_len]; omega), List.getElem?_eq_none (by simp; omega)]
theorem moved_skip {fl ms : List Int} {k N : Nat} {f m : Int} (hf : fl[k]? = some f) (hm : ms[k]? = some m) (h : f < 0) : movedTo (fl.take (k + 1)) (ms.take (k + 1)) N = movedTo (fl.take k) (ms.take k) N := by
  unfold movedTo
  apply List.map_congr_left
  intro z _
  rw [mask_snoc hf hm, if_neg (by omega)]; omega
theorem moved_step {fl ms : List Int} {k N j : Nat} {m : Int} (hf : fl[k]? = some (j : Int)) (hm : ms[k]? = some m) (hj : j < N) :
    movedTo (fl.take (k + 1)) (ms.take (k + 1)) N = (movedTo (fl.take k) (ms.take k) N).set j ((maskOf (fl.take k) (ms.take k) (j : Int)).sum + m) := by
  apply List.ext_getElem?
  intro i
  by_cases hi : i < N
  · rw [moved_at hi, mask_snoc hf hm]
    by_cases he : j = i
    · subst he
      rw [List.getElem?_set_self (by rw [moved_len]; exact hj), if_pos rfl]
    · rw [List.getElem?_set_ne he, moved_at hi, if_neg (by omega)]
      simp
  · rw [List.getElem?_eq_none (by rw [moved_len]; omega), List.getElem?_eq_none (by rw [List.length_set, moved_len]; omega)]
/-- No token stands on a flow that is mapped to none: of the first k. -/
def placedUp (fl ms : List Int) (k : Nat) : Bool := ((fl.zip ms).take k).all fun p => !(decide (p.1 < 0) && decide (0 < p.2))
def placed (fl ms : List Int) : Bool := (fl.zip ms).all fun p => !(decide (p.1 < 0) && decide (0 < p.2))
theorem placed_step {fl ms : List Int} {k : Nat} {f m : Int} (hf : fl[k]? = some f) (hm : ms[k]? = some m) : placedUp fl ms (k + 1) = (placedUp fl ms k && !(decide (f < 0) && decide (0 < m))) := by
  unfold placedUp
  have : (fl.zip ms)[k]? = some (f, m) := by rw [List.getElem?_zip_eq_some]; exact ⟨hf, hm⟩
  rw [take_snoc this, List.all_append]; simp
theorem placed_no {fl ms : List Int} {k : Nat} {f m : Int} (hf : fl[k]? = some f) (hm : ms[k]? = some m) (h1 : f < 0) (h2 : 0 < m) : placed fl ms = false := by
  unfold placed
  have : (fl.zip ms)[k]? = some (f, m) := by rw [List.getElem?_zip_eq_some]; exact ⟨hf, hm⟩
  rw [List.all_eq_false]
  exact ⟨(f, m), List.mem_of_getElem? this, by simp [h1, h2]⟩
theorem placed_all {fl ms : List Int} {k : Nat} (h1 : fl.length = ms.length) (h2 : ms.length = k) (h : placedUp fl ms k = true) : placed fl ms = true := by
  unfold placedUp at h
  rwa [List.take_of_length_le (by rw [List.length_zip]; omega)] at h
/-- A map to flows. -/
def vMap (fs gs : List Flw) (fl : List Int) : Bool := decide (fl.length = fs.length) && fl.all fun f => inR f (-1) ((gs.length : Int) - 1)
theorem vMap_iff {fs gs : List Flw} {fl : List Int} : vMap fs gs fl = true ↔ fl.length = fs.length ∧ ∀ f ∈ fl, -1 ≤ f ∧ f ≤ (gs.length : Int) - 1 := by
  unfold vMap
  rw [Bool.and_eq_true, decide_eq_true_eq, List.all_eq_true]
  exact ⟨fun h => ⟨h.1, fun f hf => inR_iff.1 (h.2 f hf)⟩, fun h => ⟨h.1, fun f hf => inR_iff.2 (h.2 f hf)⟩⟩
/-- What MoveMarks answers. -/
def moveOf (ns : List (Int × Int)) (fs : List Flw) (ns' : List (Int × Int)) (gs : List Flw) (fl ms : List Int) : Option (List Int) :=
  if vProc ns fs && vProc ns' gs && vMap fs gs fl && vMarks fs ms && placed fl ms && vMarks gs (movedTo fl ms gs.length) then some (movedTo fl ms gs.length) else none
theorem moveOf_no {ns : List (Int × Int)} {fs : List Flw} {ns' : List (Int × Int)} {gs : List Flw} {fl ms : List Int} (h : vProc ns fs = false ∨ vProc ns' gs = false ∨ vMap fs gs fl = false ∨ vMarks fs ms = false ∨ placed fl ms = false ∨ vMarks gs (movedTo fl ms gs.length) = false) : moveOf ns fs ns' gs fl ms = none := by
  unfold moveOf
  rcases h with h | h | h | h | h | h <;> simp [h]
theorem moveOf_yes {ns : List (Int × Int)} {fs : List Flw} {ns' : List (Int × Int)} {gs : List Flw} {fl ms : List Int} (h1 : vProc ns fs = true) (h2 : vProc ns' gs = true) (h3 : vMap fs gs fl = true) (h4 : vMarks fs ms = true) (h5 : placed fl ms = true) (h6 : vMarks gs (movedTo fl ms gs.length) = true) : moveOf ns fs ns' gs fl ms = some (movedTo fl ms gs.length) := by
  unfold moveOf; simp [h1, h2, h3, h4, h5, h6]
/-- What stands in the map of the tokens behind, while some flows are still to come. -/
def nextAt (fl ms : List Int) (left : Lit → Bool) (z : Int) : Int := dsum left 0 (maskOf fl ms z)
def nextMap (fl ms : List Int) (left : Lit → Bool) (z : Int) : Option Value := if nextAt fl ms left z = 0 then none else some (.int .i64 (nextAt fl ms left z))
theorem nextMap_get (fl ms : List Int) (left : Lit → Bool) (z : Int) : (nextMap fl ms left z).getD (.int .i64 0) = .int .i64 (nextAt fl ms left z) := by
  unfold nextMap
  split
  case isTrue h => rw [h]; rfl
  case isFalse => rfl
theorem nextAt_bd {fl ms : List Int} {left : Lit → Bool} (h03 : ∀ x ∈ ms, 0 ≤ x ∧ x ≤ 3) (hl : fl.length = ms.length) (h14 : ms.length ≤ 14) (z : Int) : 0 ≤ nextAt fl ms left z ∧ nextAt fl ms left z ≤ 42 := by
  have := dsum_bd (left := left) (maskOf fl ms z) 0 (fun x hx => by rcases mask_mem hx with rfl | h; omega; exact h03 x h)
  rw [mask_len hl] at this
  unfold nextAt; omega
theorem nextAt_step {fl ms : List Int} {left : Lit → Bool} {i : Nat} {f m : Int} (hf : fl[i]? = some f) (hm : ms[i]? = some m) (hl : left (.int .i64 (i : Int)) = true) (z : Int) :
    nextAt fl ms (fun y => left y && !y.sameKey (.int .i64 (i : Int))) z = nextAt fl ms left z + if f = z then m else 0 := by
  have := dsum_step (left := left) (maskOf fl ms z) 0 i _ (mask_at hf hm) (by rw [Nat.zero_add]; exact hl)
  rw [Nat.zero_add] at this
  exact this
theorem nextMap_zero {fl ms : List Int} {left : Lit → Bool} {i : Nat} {f : Int} (hf : fl[i]? = some f) (hm : ms[i]? = some 0) (hl : left (.int .i64 (i : Int)) = true) (z : Int) :
    nextMap fl ms left z = nextMap fl ms (fun y => left y && !y.sameKey (.int .i64 (i : Int))) z := by
  unfold nextMap
  rw [nextAt_step hf hm hl]
  have : (if f = z then (0 : Int) else 0) = 0 := by split <;> rfl
  rw [this, Int.add_zero]
theorem nextMap_put {fl ms : List Int} {left : Lit → Bool} {i : Nat} {f m : Int} (h03 : ∀ x ∈ ms, 0 ≤ x ∧ x ≤ 3) (hll : fl.length = ms.length) (h14 : ms.length ≤ 14) (hf : fl[i]? = some f) (hm : ms[i]? = some m) (hm0 : 0 < m) (hl : left (.int .i64 (i : Int)) = true) (z : Int) :
    (if z = f then some (Value.int .i64 (nextAt fl ms left f + m)) else nextMap fl ms left z) = nextMap fl ms (fun y => left y && !y.sameKey (.int .i64 (i : Int))) z := by
  have hb := nextAt_bd (left := left) h03 hll h14 z
  unfold nextMap
  rw [nextAt_step hf hm hl]
  by_cases e : z = f
  · subst e
    rw [if_pos rfl, if_pos rfl, if_neg (by omega)]
  · have h1 : (if f = z then m else 0) = 0 := if_neg (fun h => e h.symm)
    rw [if_neg e, h1, Int.add_zero]
theorem nextMap_start {fl ms : List Int} {left : Lit → Bool} (hll : fl.length = ms.length) (h : ∀ i, i < ms.length → left (.int .i64 (i : Int)) = true) (z : Int) : nextMap fl ms left z = none := by
  unfold nextMap nextAt
  rw [dsum_start _ 0 (fun i hi => by rw [Nat.zero_add]; exact h i (by rwa [mask_len hll] at hi))]
  rfl
theorem nextAt_end {fl ms : List Int} {left : Lit → Bool} (h : ∀ kl, left kl = false) (z : Int) : nextAt fl ms left z = (maskOf fl ms z).sum := dsum_end h _ 0
/-- What the map holds at last. -/
def lastMap (fl ms : List Int) (z : Int) : Option Value := if (maskOf fl ms z).sum = 0 then none else some (.int .i64 (maskOf fl ms z).sum)
theorem nextMap_end {fl ms : List Int} {left : Lit → Bool} (h : ∀ kl, left kl = false) (z : Int) : nextMap fl ms left z = lastMap fl ms z := by
  unfold nextMap lastMap; rw [nextAt_end h]
theorem lastMap_out {fl ms : List Int} {N : Nat} (hf : ∀ f ∈ fl, f ≤ (N : Int) - 1) {z : Int} (h : z < 0 ∨ (N : Int) ≤ z) (hp : placed fl ms = true) (h0 : ∀ x ∈ ms, 0 ≤ x) : lastMap fl ms z = none := by
  unfold lastMap
  rw [if_pos]
  have hz : ∀ x ∈ maskOf fl ms z, x = 0 := by
    intro x hx
    obtain ⟨i, hi, he⟩ := List.getElem_of_mem hx
    have hl : i < fl.length ∧ i < ms.length := by simp [maskOf] at hi; omega
    have h1 := mask_at (z := z) (List.getElem?_eq_getElem hl.1) (List.getElem?_eq_getElem hl.2)
    rw [List.getElem?_eq_getElem hi, he] at h1
    injection h1 with h1
    split at h1
    case isFalse => exact h1
    case isTrue e =>
      have h2 := hf _ (List.getElem_mem hl.1)
      have h3 := h0 _ (List.getElem_mem hl.2)
      by_cases h4 : 0 < ms[i]
      · exfalso
        have := placed_no (List.getElem?_eq_getElem hl.1) (List.getElem?_eq_getElem hl.2) (by omega) h4
        rw [this] at hp; cases hp
      · omega
  have : ∀ l : List Int, (∀ x ∈ l, x = 0) → l.sum = 0 := by
    intro l
    induction l with
    | nil => exact fun _ => rfl
    | cons a l ih => intro hl; rw [List.sum_cons, ih fun x hx => hl x (by simp [hx]), hl a (by simp)]; rfl
  exact this _ hz
theorem lastMap_get (fl ms : List Int) (z : Int) : (lastMap fl ms z).getD (.int .i64 0) = .int .i64 (maskOf fl ms z).sum := by
  unfold lastMap
  split
  case isTrue h => rw [h]; rfl
  case isFalse => rfl
/-- A map that holds some of a list: all that is not 0. -/
def someAt (ms : List Int) (z : Int) : Option Value := if 0 ≤ z then (match ms[z.toNat]? with | some m => if m = 0 then none else some (.int .i64 m) | none => none) else none
theorem someAt_some {ms : List Int} {x : Int} {v : Value} (h : someAt ms x = some v) : ∃ (i : Nat) (c : Int), x = (i : Int) ∧ ms[i]? = some c ∧ v = .int .i64 c := by
  unfold someAt at h
  split at h
  case isFalse => cases h
  case isTrue h0 =>
    obtain ⟨i, rfl⟩ := Int.eq_ofNat_of_zero_le h0
    rw [Int.toNat_natCast] at h
    split at h
    case h_2 => cases h
    case h_1 m hm =>
      split at h
      · cases h
      · injection h with h
        exact ⟨i, m, rfl, hm, h.symm⟩
theorem someAt_zero {ms : List Int} {i : Nat} {c : Int} (h : ms[i]? = some c) (hn : someAt ms (i : Int) = none) : c = 0 := by
  unfold someAt at hn
  rw [if_pos (by omega), Int.toNat_natCast, h] at hn
  simp only at hn
  split at hn
  · assumption
  · cases hn
theorem lastMap_some {fl ms : List Int} {N : Nat} (hf : ∀ f ∈ fl, f ≤ (N : Int) - 1) (hp : placed fl ms = true) (h0 : ∀ x ∈ ms, 0 ≤ x) (z : Int) : lastMap fl ms z = someAt (movedTo fl ms N) z := by
  by_cases hz : z < 0 ∨ (N : Int) ≤ z
  · rw [lastMap_out hf hz hp h0]
    unfold someAt
    split
    case isFalse => rfl
    case isTrue h1 => rw [List.getElem?_eq_none (by rw [moved_len]; omega)]
  · obtain ⟨j, rfl⟩ := Int.eq_ofNat_of_zero_le (show 0 ≤ z by omega)
    unfold someAt lastMap
    have h1 : (0 : Int) ≤ (j : Int) := by omega
    simp only [Int.toNat_natCast, moved_at (show j < N by omega), h1, if_true]
theorem dmax_start0 {left : Lit → Bool} : ∀ (ms : List Int) (k : Nat), (∀ i c, ms[i]? = some c → left (.int .i64 ((k + i : Nat) : Int)) = true ∨ c = 0) → dmax left k ms = 0
  | [], _, _ => rfl
  | m :: ms, k, h => by
    have h0 := h 0 m (by simp)
    rw [Nat.add_zero] at h0
    rw [dmax, dmax_start0 ms (k + 1) (fun i c hi => by have := h (i + 1) c (by simpa using hi); rwa [show k + 1 + i = k + (i + 1) by omega])]
    rcases h0 with h0 | h0
    · rw [h0]; rfl
    · rw [h0]; split <;> rfl
/-- All tokens have room, where most have. -/
theorem most_marks {fs : List Flw} {ms : List Int} (hl : ms.length = fs.length) (h0 : ∀ x ∈ ms, 0 ≤ x) : vMarks fs ms = decide (maxOf ms ≤ 3) := by
  rw [Bool.eq_iff_iff, decide_eq_true_eq, maxOf_le (by omega)]
  unfold vMarks
  rw [Bool.and_eq_true, decide_eq_true_eq, List.all_eq_true]
  exact ⟨fun h z hz => (inR_iff.1 (h.2 z hz)).2, fun h => ⟨hl, fun z hz => inR_iff.2 ⟨h0 z hz, h z hz⟩⟩⟩
theorem moved_nonneg {fl ms : List Int} {N : Nat} (hl : fl.length = ms.length) (h03 : ∀ x ∈ ms, 0 ≤ x ∧ x ≤ 3) : ∀ x ∈ movedTo fl ms N, 0 ≤ x := by
  intro x hx
  obtain ⟨z, _, rfl⟩ := List.mem_map.1 hx
  have := mask_bd h03 (z : Int) ms.length (Nat.le_refl _) (by omega) (fl := fl)
  rw [List.take_of_length_le (by omega), List.take_of_length_le (Nat.le_refl _)] at this
  exact this.1
end Go.Proofs.Ytmhbfdcikdhehaa
