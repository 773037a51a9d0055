/- What the laws on moved tokens need, in plain mathematics. No program. -/
import Derived.Test.YtmhbfdcikdhehaaMoveFS
import Derived.Test.YtmhbfdcikdhehaaTokSumA
set_option linter.unusedSimpArgs false
set_option linter.unusedVariables false
namespace Go.Proofs.Ytmhbfdcikdhehaa
open Go.RowKit

theorem sum_add (f g : Nat → Int) : ∀ n, ((List.range n).map fun z => f z + g z).sum = ((List.range n).map f).sum + ((List.range n).map g).sum
  | 0 => rfl
  | n + 1 => by
    simp only [List.range_succ, List.map_append, List.sum_append, List.map_cons, List.map_nil, List.sum_cons, List.sum_nil]
    rw [sum_add f g n]; omega
theorem sum_one (f m : Int) : ∀ n : Nat, ((List.range n).map fun (z : Nat) => if f = (z : Int) then m else 0).sum = if 0 ≤ f ∧ f < (n : Int) then m else 0
  | 0 => by rw [if_neg (by omega)]; rfl
  | n + 1 => by
    rw [List.range_succ, List.map_append, List.sum_append, sum_one f m n]
    simp only [List.map_cons, List.map_nil, List.sum_cons, List.sum_nil]
    by_cases h1 : f = (n : Int)
    · rw [if_neg (by omega), if_pos h1, if_pos (by omega)]; omega
    · rw [if_neg h1]
      by_cases h2 : 0 ≤ f ∧ f < (n : Int)
      · rw [if_pos h2, if_pos (by omega)]; omega
      · rw [if_neg h2, if_neg (by omega)]; omega
theorem sum_nonneg0 : ∀ {l : List Int}, (∀ m ∈ l, 0 ≤ m) → 0 ≤ l.sum
  | [], _ => by simp
  | m :: l, h => by
    have := sum_nonneg0 (l := l) (fun x hx => h x (List.mem_cons_of_mem _ hx))
    have := h m (List.mem_cons_self ..)
    rw [List.sum_cons]; omega
/-- Moved tokens are as many. -/
theorem moved_sum : ∀ (fl ms : List Int) (N : Nat), fl.length = ms.length → (∀ f ∈ fl, f ≤ (N : Int) - 1) → placed fl ms = true → (∀ m ∈ ms, 0 ≤ m) → (movedTo fl ms N).sum = ms.sum
  | [], [], N, _, _, _, _ => by
    unfold movedTo maskOf
    have : ∀ n : Nat, ((List.range n).map fun (_ : Nat) => (0 : Int)).sum = 0 := fun n => by
      induction n with
      | zero => rfl
      | succ n ih => rw [List.range_succ, List.map_append, List.sum_append, ih]; rfl
    simpa using this N
  | [], _ :: _, _, h, _, _, _ => by simp at h
  | _ :: _, [], _, h, _, _, _ => by simp at h
  | f :: fl, m :: ms, N, h, hb, hp, h0 => by
    have hp' : (!(decide (f < 0) && decide (0 < m))) = true ∧ placed fl ms = true := by
      unfold placed at hp ⊢
      rw [List.zip_cons_cons, List.all_cons, Bool.and_eq_true] at hp
      exact hp
    have ih := moved_sum fl ms N (by simpa using h) (fun x hx => hb x (List.mem_cons_of_mem _ hx)) hp'.2 (fun x hx => h0 x (List.mem_cons_of_mem _ hx))
    have e : movedTo (f :: fl) (m :: ms) N = (List.range N).map fun (z : Nat) => (if f = (z : Int) then m else 0) + (maskOf fl ms (z : Int)).sum := by
      unfold movedTo
      apply List.map_congr_left
      intro z _
      simp [maskOf]
    rw [e, sum_add, sum_one]
    rw [show ((List.range N).map fun (z : Nat) => (maskOf fl ms (z : Int)).sum) = movedTo fl ms N from rfl, ih, List.sum_cons]
    have hbf := hb f (List.mem_cons_self ..)
    have h0m := h0 m (List.mem_cons_self ..)
    by_cases hf : 0 ≤ f
    · rw [if_pos (by omega)]
    · rw [if_neg (by omega)]
      have h1 := hp'.1
      simp only [Bool.not_eq_true', Bool.and_eq_false_iff, decide_eq_false_iff_not] at h1
      have : m = 0 := by omega
      rw [this]
theorem moveOf_parts {ns : List (Int × Int)} {fs : List Flw} {nsq : List (Int × Int)} {gs : List Flw} {fl ms l : List Int} (h : moveOf ns fs nsq gs fl ms = some l) :
    vProc ns fs = true ∧ vProc nsq gs = true ∧ vMap fs gs fl = true ∧ vMarks fs ms = true ∧ placed fl ms = true ∧ vMarks gs (movedTo fl ms gs.length) = true ∧ l = movedTo fl ms gs.length := by
  unfold moveOf at h
  split at h
  case isFalse => cases h
  case isTrue hc =>
    injection h with h
    simp only [Bool.and_eq_true] at hc
    exact ⟨hc.1.1.1.1.1, hc.1.1.1.1.2, hc.1.1.1.2, hc.1.1.2, hc.1.2, hc.2, h.symm⟩
theorem vMarks_in {fs : List Flw} {ms : List Int} (h : vMarks fs ms = true) : ms.length = fs.length ∧ ∀ m ∈ ms, 0 ≤ m ∧ m ≤ 3 := by
  simp only [vMarks, Bool.and_eq_true, decide_eq_true_eq] at h
  exact ⟨h.1, fun m hm => inR_iff.1 (List.all_eq_true.1 h.2 m hm)⟩
theorem count_moved {ns : List (Int × Int)} {fs : List Flw} {nsq : List (Int × Int)} {gs : List Flw} {fl ms l : List Int} (h : moveOf ns fs nsq gs fl ms = some l) : countOf nsq gs l = countOf ns fs ms ∧ l.length = gs.length := by
  obtain ⟨h1, h2, h3, h4, h5, h6, rfl⟩ := moveOf_parts h
  obtain ⟨hm1, hm2⟩ := vMarks_in h4
  obtain ⟨hv1, hv2⟩ := vMap_iff.1 h3
  unfold countOf
  rw [h1, h2, h4, h6]
  simp only [Bool.and_self, if_true]
  exact ⟨moved_sum fl ms gs.length (by omega) (fun f hf => (hv2 f hf).2) h5 (fun m hm => (hm2 m hm).1), moved_len _ _ _⟩
theorem count_neg {ns : List (Int × Int)} {fs : List Flw} {ms : List Int} : countOf ns fs ms < 0 ↔ (vProc ns fs && vMarks fs ms) = false := by
  unfold countOf
  constructor
  · intro h
    cases hc : (vProc ns fs && vMarks fs ms) with
    | false => rfl
    | true =>
      rw [if_pos hc] at h
      rw [Bool.and_eq_true] at hc
      have := sum_nonneg0 (l := ms) (fun m hm => ((vMarks_in hc.2).2 m hm).1)
      omega
  · intro h; rw [h]; simp
def noneL (k : Nat) : List Int := List.replicate k (-1)
theorem noneL_snoc (k : Nat) : noneL k ++ [-1] = noneL (k + 1) := by
  unfold noneL; rw [List.replicate_succ']
theorem mask_none : ∀ (k : Nat) (ms : List Int) (z : Nat), (maskOf (noneL k) ms (z : Int)).sum = 0
  | 0, ms, z => by simp [noneL, maskOf]
  | k + 1, [], z => by simp [noneL, maskOf]
  | k + 1, m :: ms, z => by
    have ih := mask_none k ms z
    unfold noneL maskOf at ih ⊢
    rw [List.replicate_succ, List.zipWith_cons_cons, List.sum_cons, ih, if_neg (by omega)]; rfl
theorem moved_nones (k : Nat) (ms : List Int) (N : Nat) : movedTo (noneL k) ms N = List.replicate N 0 := by
  unfold movedTo
  rw [List.map_congr_left (g := fun _ => (0 : Int)) (fun z _ => mask_none k ms z), List.map_const']
  simp
theorem placed_none : ∀ (k : Nat) (ms : List Int), ms.length = k → (∀ m ∈ ms, 0 ≤ m) → placed (noneL k) ms = decide (ms.sum = 0)
  | 0, [], _, _ => rfl
  | k + 1, m :: ms, h, h0 => by
    have ih := placed_none k ms (by simpa using h) (fun x hx => h0 x (List.mem_cons_of_mem _ hx))
    have hs := sum_nonneg0 (l := ms) (fun x hx => h0 x (List.mem_cons_of_mem _ hx))
    have hm := h0 m (List.mem_cons_self ..)
    unfold placed noneL at ih ⊢
    rw [List.replicate_succ, List.zip_cons_cons, List.all_cons, ih, List.sum_cons, Bool.eq_iff_iff]
    simp only [Bool.and_eq_true, Bool.not_eq_true', Bool.and_eq_false_iff, decide_eq_false_iff_not, decide_eq_true_eq]
    omega
theorem vMap_none (fs gs : List Flw) : vMap fs gs (noneL fs.length) = true := by
  rw [vMap_iff]
  refine ⟨by simp [noneL], fun f hf => ?_⟩
  rw [noneL, List.mem_replicate] at hf
  omega
theorem move_none {ns : List (Int × Int)} {fs : List Flw} {nsq : List (Int × Int)} {gs : List Flw} {ms : List Int} (h1 : vProc ns fs = true) (h2 : vProc nsq gs = true) (h3 : vMarks fs ms = true) : (moveOf ns fs nsq gs (noneL fs.length) ms).isSome = decide (ms.sum = 0) := by
  obtain ⟨hm1, hm2⟩ := vMarks_in h3
  have hz : vMarks gs (movedTo (noneL fs.length) ms gs.length) = true := by
    rw [moved_nones]
    unfold vMarks
    rw [Bool.and_eq_true, decide_eq_true_eq, List.all_eq_true]
    exact ⟨by simp, fun m hm => by rw [(List.mem_replicate.1 hm).2]; rfl⟩
  unfold moveOf
  rw [h1, h2, vMap_none, h3, hz, placed_none _ _ hm1 (fun m hm => (hm2 m hm).1)]
  simp only [Bool.and_self, Bool.true_and, Bool.and_true]
  cases hd : decide (ms.sum = 0) <;> simp
theorem keepsUp_true {ns : List (Int × Int)} {fs : List Flw} {nsq : List (Int × Int)} {gs : List Flw} {fl : List Int} {k : Nat} (h : ∀ i, i < k → keepsAt ns fs nsq gs fl i = true) : keepsUp ns fs nsq gs fl k = true := by
  unfold keepsUp
  rw [List.all_eq_true]
  exact fun i hi => h i (List.mem_range.1 hi)
theorem faith_parts {ns : List (Int × Int)} {fs : List Flw} {nsq : List (Int × Int)} {gs : List Flw} {fl : List Int} (h : faithOf ns fs nsq gs fl = true) : vProc ns fs = true ∧ vProc nsq gs = true ∧ vMap fs gs fl = true ∧ ∀ i, i < fl.length → keepsAt ns fs nsq gs fl i = true := by
  simp only [faithOf, Bool.and_eq_true] at h
  refine ⟨h.1.1.1, h.1.1.2, h.1.2, fun i hi => ?_⟩
  exact List.all_eq_true.1 h.2 i (List.mem_range.2 hi)
theorem faith_none {ns : List (Int × Int)} {fs : List Flw} {nsq : List (Int × Int)} {gs : List Flw} (h1 : vProc ns fs = true) (h2 : vProc nsq gs = true) : faithOf ns fs nsq gs (noneL fs.length) = true := by
  unfold faithOf
  rw [h1, h2, vMap_none]
  simp only [Bool.and_self, Bool.true_and]
  refine keepsUp_true fun i hi => ?_
  have : (noneL fs.length).getD i 0 = -1 := by
    rw [List.getD_eq_getElem?_getD, List.getElem?_eq_getElem hi]
    simp [noneL]
  unfold keepsAt
  rw [this]; rfl
def sameL (k : Nat) : List Int := (List.range k).map fun (i : Nat) => (i : Int)
theorem sameL_snoc (k : Nat) : sameL k ++ [(k : Int)] = sameL (k + 1) := by
  unfold sameL; rw [List.range_succ, List.map_append]; rfl
theorem same_mask : ∀ (ms : List Int) (s z : Nat), (maskOf ((List.range' s ms.length).map fun (i : Nat) => (i : Int)) ms (z : Int)).sum = if s ≤ z then ms.getD (z - s) 0 else 0
  | [], s, z => by simp [maskOf]
  | m :: ms, s, z => by
    have ih := same_mask ms (s + 1) z
    unfold maskOf at ih ⊢
    rw [List.length_cons, List.range'_succ, List.map_cons, List.zipWith_cons_cons, List.sum_cons, ih]
    by_cases h1 : s = z
    · subst h1
      rw [if_pos rfl, if_neg (by omega), if_pos (by omega)]
      simp
    · rw [if_neg (by omega)]
      by_cases h2 : s + 1 ≤ z
      · rw [if_pos h2, if_pos (by omega), show z - s = (z - (s + 1)) + 1 by omega]
        simp
      · rw [if_neg h2, if_neg (by omega)]; rfl
theorem moved_same {ms : List Int} {k : Nat} (h : ms.length = k) : movedTo (sameL k) ms k = ms := by
  subst h
  unfold movedTo sameL
  rw [List.range_eq_range']
  apply List.ext_getElem?
  intro i
  by_cases hi : i < ms.length
  · rw [List.getElem?_map, ← List.range_eq_range', List.getElem?_range hi]
    show some (maskOf _ ms (i : Int)).sum = _
    rw [List.range_eq_range', same_mask ms 0 i, if_pos (by omega), List.getD_eq_getElem?_getD, Nat.sub_zero, List.getElem?_eq_getElem hi]; rfl
  · rw [List.getElem?_eq_none (by simp; omega), List.getElem?_eq_none (by omega)]
theorem vMap_same (fs : List Flw) : vMap fs fs (sameL fs.length) = true := by
  rw [vMap_iff]
  refine ⟨by simp [sameL], fun f hf => ?_⟩
  simp only [sameL, List.mem_map, List.mem_range] at hf
  obtain ⟨a, ha, rfl⟩ := hf
  omega
theorem placed_same {k : Nat} {ms : List Int} : placed (sameL k) ms = true := by
  unfold placed
  rw [List.all_eq_true]
  intro p hp
  have := (List.of_mem_zip hp).1
  simp only [sameL, List.mem_map, List.mem_range] at this
  obtain ⟨a, _, e⟩ := this
  rw [← e]
  have : decide ((a : Int) < 0) = false := decide_eq_false (by omega)
  rw [this]; rfl
theorem move_same {ns : List (Int × Int)} {fs : List Flw} {ms : List Int} (h1 : vProc ns fs = true) (h3 : vMarks fs ms = true) : moveOf ns fs ns fs (sameL fs.length) ms = some ms := by
  have hm := moved_same (vMarks_in h3).1
  unfold moveOf
  rw [hm, h1, vMap_same, h3, placed_same]; rfl
theorem faith_same {ns : List (Int × Int)} {fs : List Flw} (h1 : vProc ns fs = true) : faithOf ns fs ns fs (sameL fs.length) = true := by
  unfold faithOf
  rw [h1, vMap_same]
  simp only [Bool.and_self, Bool.true_and]
  refine keepsUp_true fun i hi => ?_
  have : (sameL fs.length).getD i 0 = (i : Int) := by
    rw [List.getD_eq_getElem?_getD, List.getElem?_eq_getElem hi]
    simp [sameL]
  unfold keepsAt
  rw [this, Int.toNat_natCast]
  simp
end Go.Proofs.Ytmhbfdcikdhehaa
