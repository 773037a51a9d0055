/- Post offices in plain mathematics: which are valid. No program. -/
import Derived.Test.YtgnffodnimafoaaTripMem
set_option linter.unusedSimpArgs false
set_option linter.unusedVariables false
namespace Go.Proofs.Ytgnffodnimafoaa
open Go.RowKit

/-- A subscription: owner, name, key. -/
def vSub (p : Tri) : Bool := inR p.1 0 9 && inR p.2.1 0 9 && inR p.2.2 0 99
/-- A letter: name, key, until. -/
def vLet (p : Tri) : Bool := inR p.1 0 9 && inR p.2.1 0 99 && inR p.2.2 0 9999
/-- The subscription waits for the letter. -/
def meets (s l : Tri) : Bool := s.2.1 == l.1 && s.2.2 == l.2.1
def vSubs (ss : List Tri) : Bool := ss.all vSub && decide (ss.length ≤ 10)
def vLets (ls : List Tri) : Bool := ls.all vLet && decide (ls.length ≤ 10)
def vPost (ss ls : List Tri) : Bool := (ss.all fun s => ls.all fun l => !meets s l) && vSubs ss && vLets ls
/-- The address of a subscription, and of a letter. -/
def adS (s : Tri) : Int × Int := (s.2.1, s.2.2)
def adL (l : Tri) : Int × Int := (l.1, l.2.1)
theorem meets_iff {s l : Tri} : meets s l = true ↔ adS s = adL l := by
  obtain ⟨a, b, c⟩ := s
  obtain ⟨d, e, f⟩ := l
  simp [meets, adS, adL]
/-- The indices below k of those with an address. -/
def idxUp (f : Tri → Int × Int) (l : List Tri) (a : Int × Int) (k : Nat) : List Int := ((List.range k).filter fun i => match l[i]? with | some t => f t == a | none => false).map fun (i : Nat) => (i : Int)
def idxOf (f : Tri → Int × Int) (l : List Tri) (a : Int × Int) : List Int := idxUp f l a l.length
theorem idxUp_yes {f : Tri → Int × Int} {l : List Tri} {a : Int × Int} {k : Nat} {t : Tri} (hg : l[k]? = some t) (h : f t = a) : idxUp f l a (k + 1) = idxUp f l a k ++ [(k : Int)] := by
  simp [idxUp, List.range_succ, hg, h]
theorem idxUp_no {f : Tri → Int × Int} {l : List Tri} {a : Int × Int} {k : Nat} {t : Tri} (hg : l[k]? = some t) (h : ¬ f t = a) : idxUp f l a (k + 1) = idxUp f l a k := by
  simp [idxUp, List.range_succ, hg, h]
theorem idxUp_le (f : Tri → Int × Int) (l : List Tri) (a : Int × Int) (k : Nat) : (idxUp f l a k).length ≤ k := by
  have := List.length_filter_le (fun i => match l[i]? with | some t => f t == a | none => false) (List.range k)
  simpa [idxUp] using this
theorem idx_some {f : Tri → Int × Int} {l : List Tri} {a : Int × Int} : idxOf f l a ≠ [] ↔ ∃ t ∈ l, f t = a := by
  constructor
  · intro h
    obtain ⟨z, hz⟩ := List.exists_mem_of_ne_nil _ h
    obtain ⟨i, hi, _⟩ := List.mem_map.1 hz
    have hf := (List.mem_filter.1 hi).2
    cases hg : l[i]? with
    | none => rw [hg] at hf; cases hf
    | some t =>
      rw [hg] at hf
      exact ⟨t, List.mem_of_getElem? hg, by simpa using hf⟩
  · rintro ⟨t, ht, rfl⟩ h
    obtain ⟨i, hi, he⟩ := List.mem_iff_getElem.1 ht
    have : (i : Int) ∈ idxOf f l (f t) := List.mem_map.2 ⟨i, List.mem_filter.2 ⟨List.mem_range.2 hi, by rw [List.getElem?_eq_getElem hi, he]; simp⟩, rfl⟩
    rw [h] at this
    simp at this
/-- A post office is valid, said of addresses. -/
theorem vPost_ads (ss ls : List Tri) : vPost ss ls = (vSubs ss && vLets ls && ls.all fun l => (idxOf adS ss (adL l)).isEmpty) := by
  have h : (ss.all fun s => ls.all fun l => !meets s l) = ls.all fun l => (idxOf adS ss (adL l)).isEmpty := by
    rw [Bool.eq_iff_iff, List.all_eq_true, List.all_eq_true]
    constructor
    · intro h l hl
      rw [List.isEmpty_iff]
      refine Classical.byContradiction fun hne => ?_
      obtain ⟨s, hs, he⟩ := idx_some.1 hne
      have := List.all_eq_true.1 (h s hs) l hl
      rw [meets_iff.2 he] at this
      cases this
    · intro h s hs
      refine List.all_eq_true.2 fun l hl => ?_
      cases hm : meets s l with
      | false => rfl
      | true =>
        have := h l hl
        rw [List.isEmpty_iff] at this
        exact absurd this (idx_some.2 ⟨s, hs, meets_iff.1 hm⟩)
  rw [vPost, h]
  cases vSubs ss <;> cases vLets ls <;> simp
end Go.Proofs.Ytgnffodnimafoaa
