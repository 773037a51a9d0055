/- What a node that goes on has done to the tokens, in plain mathematics. No program. -/
import Derived.Test.YtcckmabdflhfmaaTokFireB
import Derived.Test.YtcckmabdflhfmaaLawTokM
namespace Go.Proofs.Ytcckmabdflhfmaa
open Go.RowKit

theorem set_sum : ∀ (ms : List Int) (k : Nat) (d : Int), k < ms.length → (ms.set k (ms.getD k 0 + d)).sum = ms.sum + d
  | [], k, d, h => by simp at h
  | x :: ms, 0, d, _ => by
    rw [List.set_cons_zero, List.sum_cons, List.sum_cons]
    show x + d + ms.sum = _
    omega
  | x :: ms, k + 1, d, h => by
    rw [List.set_cons_succ, List.sum_cons, List.sum_cons]
    have := set_sum ms k d (by simpa using h)
    have e : (x :: ms).getD (k + 1) 0 = ms.getD k 0 := rfl
    rw [e, this]; omega
theorem bump_sum (d : Int) : ∀ (is ms : List Int), (∀ q ∈ is, q.toNat < ms.length) → (bump d ms is).sum = ms.sum + d * (is.length : Int)
  | [], ms, _ => by simp [bump]
  | q :: is, ms, h => by
    rw [bump, bump_sum d is _ (fun z hz => by rw [List.length_set]; exact h z (by simp [hz])), set_sum _ _ _ (h q (by simp))]
    have : ((q :: is).length : Int) = (is.length : Int) + 1 := by simp
    rw [this, Int.mul_add]; omega
/-- A flow that is one of them, and no other is. -/
theorem bump_once (d : Int) : ∀ (is ms : List Int) (k : Nat), k < ms.length → (is.map Int.toNat).Nodup → (∃ q ∈ is, q.toNat = k) → (bump d ms is).getD k 0 = ms.getD k 0 + d
  | [], _, _, _, _, h => by obtain ⟨q, hq, _⟩ := h; simp at hq
  | a :: is, ms, k, hk, hn, h => by
    rw [List.map_cons, List.nodup_cons] at hn
    rw [bump]
    by_cases e : a.toNat = k
    · subst e
      rw [bump_other is _ _ (fun z hz e => hn.1 (by rw [← e]; exact List.mem_map_of_mem hz)), List.getD_eq_getElem?_getD, List.getElem?_set_self hk]; rfl
    · obtain ⟨q, hq, he⟩ := h
      have hq' : q ∈ is := by
        rcases List.mem_cons.1 hq with rfl | h'
        · exact absurd he e
        · exact h'
      rw [bump_once d is _ k (by rw [List.length_set]; exact hk) hn.2 ⟨q, hq', he⟩, List.getD_eq_getElem?_getD, List.getElem?_set_ne e, ← List.getD_eq_getElem?_getD]
theorem flOf_lt {fs : List Flw} {out : Bool} {node q : Int} (h : q ∈ flOf fs out node) : 0 ≤ q ∧ q.toNat < fs.length := by
  obtain ⟨k, f, rfl, hf, _⟩ := flOf_mem.1 h
  have := (List.getElem?_eq_some_iff.1 hf).1
  exact ⟨by omega, by omega⟩
theorem flOf_nodup (fs : List Flw) (out : Bool) (node : Int) : ((flOf fs out node).map Int.toNat).Nodup := by
  rw [List.Nodup, List.pairwise_map]
  refine (List.Pairwise.imp_of_mem (fun {a b} ha hb h => ?_) (flOf_sorted fs out node))
  have h1 := flOf_lt ha
  have h2 := flOf_lt hb
  omega
theorem takes_mem {x : Int} {ms ids : List Int} {q : Int} (h : q ∈ takesOf x ms ids) : q ∈ ids := (having_sub ms ids).mem ((takes_sub x ms ids).mem h)
theorem takes_len {x : Int} {ms ids : List Int} (h : readyB x ms ids = true) : (takesOf x ms ids).length = if x = 8 then ids.length else 1 := by
  unfold takesOf
  unfold readyB at h
  by_cases hx : x = 8
  · rw [if_pos hx] at h
    rw [if_pos hx, if_pos hx]
    rw [Bool.and_eq_true] at h
    have h2 := having_all.2 h.2
    rw [if_neg (by omega), h2]
  · rw [if_neg hx] at h
    rw [if_neg hx, if_neg hx, List.length_take]
    have : havingOf ms ids ≠ [] := fun e => by rw [having_any.1 e] at h; cases h
    have := List.length_pos_iff.2 this
    omega
/-- A node has gone on: all that is known. -/
structure Fired (ns : List (Int × Int)) (fs : List Flw) (ms : List Int) (node : Int) (vs : List Int) (M : List Int) (k : Nat) (x y : Int) : Prop where
  valid : vProc ns fs = true
  marks : vMarks fs ms = true
  at' : node = (k : Int)
  nd : ns[k]? = some (x, y)
  ready : readyB x ms (flOf fs false (k : Int)) = true
  res : M = behindOf x fs ms vs (k : Int)
  after : vMarks fs M = true
  puts : ∀ q ∈ putsOf x fs vs (k : Int), q ∈ flOf fs true (k : Int)
theorem fired {ns : List (Int × Int)} {fs : List Flw} {ms : List Int} {node : Int} {vs : List Int} {M : List Int} (h : fireOf ns fs ms node vs = some M) : ∃ k x y, Fired ns fs ms node vs M k x y := by
  unfold fireOf at h
  split at h
  case isFalse => cases h
  case isTrue hc =>
    simp only [Bool.and_eq_true] at hc
    obtain ⟨⟨⟨⟨hv, hm⟩, hi⟩, _⟩, hf⟩ := hc
    obtain ⟨i0, i1⟩ := inR_iff.1 hi
    obtain ⟨k, rfl⟩ := Int.eq_ofNat_of_zero_le i0
    have hk : k < ns.length := by omega
    obtain ⟨⟨x, y⟩, hxy⟩ : ∃ p, ns[k]? = some p := ⟨_, List.getElem?_eq_getElem hk⟩
    rw [Int.toNat_natCast, kindAt_is hxy] at hf
    injection h with h
    rw [Int.toNat_natCast, kindAt_is hxy] at h
    simp only [canFire, Bool.and_eq_true] at hf
    obtain ⟨⟨hr, hc⟩, ha⟩ := hf
    refine ⟨k, x, y, hv, hm, rfl, hxy, hr, h.symm, ?_, ?_⟩
    · rw [vMarks, Bool.and_eq_true, ← h]
      exact ⟨by rw [behind_len, marks_len hm]; simp, ha⟩
    · intro q hq
      unfold putsOf at hq
      split at hq
      case isTrue h5 =>
        rw [List.mem_singleton] at hq
        rcases chooseR_mem fs vs (flOf fs true (k : Int)) (-1) with h6 | h6
        · rw [h6] at hc
          simp [h5] at hc
        · rw [hq]; exact h6
      case isFalse => exact hq
section
variable {ns : List (Int × Int)} {fs : List Flw} {ms : List Int} {node : Int} {vs : List Int} {M : List Int} {k : Nat} {x y : Int}
theorem Fired.lt (h : Fired ns fs ms node vs M k x y) : k < ns.length := (List.getElem?_eq_some_iff.1 h.nd).1
theorem Fired.takesLt (h : Fired ns fs ms node vs M k x y) : ∀ q ∈ takesOf x ms (flOf fs false (k : Int)), q.toNat < ms.length := fun q hq => by
  rw [marks_len h.marks]; exact (flOf_lt (takes_mem hq)).2
theorem Fired.putsLt (h : Fired ns fs ms node vs M k x y) : ∀ q ∈ putsOf x fs vs (k : Int), q.toNat < (bump (-1) ms (takesOf x ms (flOf fs false (k : Int)))).length := fun q hq => by
  rw [bump_len, marks_len h.marks]; exact (flOf_lt (h.puts q hq)).2
theorem Fired.sum (h : Fired ns fs ms node vs M k x y) : M.sum = ms.sum - (if x = 8 then ((flOf fs false (k : Int)).length : Int) else 1) + (if x = 5 then 1 else ((flOf fs true (k : Int)).length : Int)) := by
  rw [h.res, behindOf, bump_sum 1 _ _ h.putsLt, bump_sum (-1) _ _ h.takesLt, takes_len h.ready]
  have e : (putsOf x fs vs (k : Int)).length = if x = 5 then 1 else (flOf fs true (k : Int)).length := by
    unfold putsOf
    split <;> rfl
  rw [e]
  split <;> split <;> omega
theorem Fired.other (h : Fired ns fs ms node vs M k x y) {i : Nat} (h1 : inL (flOf fs false (k : Int)) (i : Int) = false) (h2 : inL (flOf fs true (k : Int)) (i : Int) = false) : M.getD i 0 = ms.getD i 0 := by
  have n1 : ∀ q ∈ flOf fs false (k : Int), q.toNat ≠ i := fun q hq e => by
    have h3 := (flOf_lt hq).1
    have : (i : Int) ∈ flOf fs false (k : Int) := by rw [show (i : Int) = q by omega]; exact hq
    rw [inL, List.contains_iff_mem.2 this] at h1; cases h1
  have n2 : ∀ q ∈ flOf fs true (k : Int), q.toNat ≠ i := fun q hq e => by
    have h3 := (flOf_lt hq).1
    have : (i : Int) ∈ flOf fs true (k : Int) := by rw [show (i : Int) = q by omega]; exact hq
    rw [inL, List.contains_iff_mem.2 this] at h2; cases h2
  rw [h.res, behindOf, bump_other _ _ _ (fun q hq => n2 q (h.puts q hq)), bump_other _ _ _ (fun q hq => n1 q (takes_mem hq))]
theorem Fired.fork (h : Fired ns fs ms node vs M k x y) (hx : x ≠ 5) {q : Int} (hq : q ∈ flOf fs true (k : Int)) (h1 : inL (flOf fs false (k : Int)) q = false) : M.getD q.toNat 0 = ms.getD q.toNat 0 + 1 := by
  have hql := flOf_lt hq
  have n1 : ∀ z ∈ flOf fs false (k : Int), z.toNat ≠ q.toNat := fun z hz e => by
    have h3 := (flOf_lt hz).1
    have : q ∈ flOf fs false (k : Int) := by rw [show q = z by omega]; exact hz
    rw [inL, List.contains_iff_mem.2 this] at h1; cases h1
  have e : putsOf x fs vs (k : Int) = flOf fs true (k : Int) := by unfold putsOf; rw [if_neg hx]
  rw [h.res, behindOf, e, bump_once 1 _ _ _ (by rw [bump_len, marks_len h.marks]; exact hql.2) (flOf_nodup _ _ _) ⟨q, hq, rfl⟩, bump_other _ _ _ (fun z hz => n1 z (takes_mem hz))]
theorem Fired.isReady (h : Fired ns fs ms node vs M k x y) : inL (readyOf ns fs ms) node = true := by
  rw [h.at', ready_mem (by rw [h.valid, h.marks]; rfl) h.lt, kindAt_is h.nd]; exact h.ready
theorem Fired.kind (h : Fired ns fs ms node vs M k x y) : vKind x (flOf fs false (k : Int)).length (flOf fs true (k : Int)).length = true := (vProc_node h.valid h.nd).2
theorem Fired.count (h : Fired ns fs ms node vs M k x y) : countOf ns fs M = M.sum := count_yes (by rw [h.valid, h.after]; rfl)
theorem Fired.count0 (h : Fired ns fs ms node vs M k x y) : countOf ns fs ms = ms.sum := count_yes (by rw [h.valid, h.marks]; rfl)
theorem Fired.some_in (h : Fired ns fs ms node vs M k x y) : 1 ≤ (flOf fs false (k : Int)).length := by
  have hr := h.ready
  rcases Nat.eq_zero_or_pos (flOf fs false (k : Int)).length with h0 | h0
  · rw [List.eq_nil_of_length_eq_zero h0, readyB_nil] at hr; cases hr
  · exact h0
theorem Fired.diff (h : Fired ns fs ms node vs M k x y) : M.sum - ms.sum < ((flOf fs true (k : Int)).length : Int) ∧ -(M.sum - ms.sum) ≤ ((flOf fs false (k : Int)).length : Int) := by
  have h1 := h.sum
  have h2 := h.kind
  have h3 := h.some_in
  generalize (flOf fs true (k : Int)).length = b at *
  generalize (flOf fs false (k : Int)).length = a at *
  simp only [vKind] at h2
  by_cases h8 : x = 8
  · subst h8
    simp at h1 h2
    omega
  · rw [if_neg h8] at h1
    by_cases h5 : x = 5
    · subst h5
      simp at h1 h2
      omega
    · rw [if_neg h5] at h1
      omega
end
theorem sum_le {B : Int} : ∀ {ms : List Int}, (∀ z ∈ ms, z ≤ B) → ms.sum ≤ B * (ms.length : Int)
  | [], _ => by simp
  | z :: ms, h => by
    have h1 := h z (by simp)
    have h2 := sum_le (B := B) (ms := ms) fun y hy => h y (by simp [hy])
    have e : ((z :: ms).length : Int) = (ms.length : Int) + 1 := by simp
    rw [List.sum_cons, e, Int.mul_add]; omega
end Go.Proofs.Ytcckmabdflhfmaa
