/- Merged: ProcStart, StartMath. -/
import Derived.Test.YtknphikoikdcjaaCondS
import Derived.Test.YtknphikoikdcjaaBase
/- spec.start, impl.startOf: the start of a process. -/
set_option linter.unusedSimpArgs false
set_option linter.unusedVariables false
namespace Go.Proofs.Ytknphikoikdcjaa
open Go.RowKit

/-- The number of the first node that is a start, the first node being number k; -1 if there is none. -/
def startAt : List (Int × Int) → Nat → Int
  | [], _ => -1
  | p :: ps, k => if p.1 = 0 then (k : Int) else startAt ps (k + 1)
theorem startAt_hit {ns : List (Int × Int)} {k : Nat} {x y : Int} (hg : ns[k]? = some (x, y)) (h : x = 0) : startAt (ns.drop k) k = (k : Int) := by
  rw [drop_flw hg, startAt, if_pos h]
theorem startAt_miss {ns : List (Int × Int)} {k : Nat} {x y : Int} (hg : ns[k]? = some (x, y)) (h : ¬ x = 0) : startAt (ns.drop k) k = startAt (ns.drop (k + 1)) (k + 1) := by
  rw [drop_flw hg, startAt, if_neg h]

end Go.Proofs.Ytknphikoikdcjaa


/- The start of a process, and what is reachable from it, in plain mathematics. -/
namespace Go.Proofs.Ytknphikoikdcjaa
open Go.RowKit

theorem startAt_spec : ∀ (ns : List (Int × Int)) (k : Nat), 1 ≤ nStarts ns → ∃ (j : Nat) (y : Int), ns[j]? = some (0, y) ∧ startAt ns k = ((k + j : Nat) : Int)
  | [], k, h => by simp [nStarts] at h
  | (x, y) :: ns, k, h => by
    by_cases hx : x = 0
    · subst hx
      exact ⟨0, y, rfl, by simp [startAt]⟩
    · have h' : 1 ≤ nStarts ns := by simpa [nStarts, hx] using h
      obtain ⟨j, y', e, hs⟩ := startAt_spec ns (k + 1) h'
      refine ⟨j + 1, y', by simpa using e, ?_⟩
      rw [startAt, if_neg hx, hs]
      congr 1
      omega
theorem starts_none : ∀ {ns : List (Int × Int)}, nStarts ns = 0 → ∀ (i : Nat) (y : Int), ns[i]? ≠ some (0, y)
  | [], _, i, y, e => by simp at e
  | (x, y) :: ns, h, 0, y', e => by
    simp at e
    rw [e.1] at h
    simp [nStarts] at h
  | (x, y) :: ns, h, i + 1, y', e => by
    have h' : nStarts ns = 0 := by
      simp only [nStarts, List.countP_cons] at h ⊢; omega
    exact starts_none h' i y' (by simpa using e)
theorem starts_one : ∀ {ns : List (Int × Int)}, nStarts ns = 1 → ∀ {i j : Nat} {y z : Int}, ns[i]? = some (0, y) → ns[j]? = some (0, z) → i = j
  | [], h, _, _, _, _, _, _ => by simp [nStarts] at h
  | (x, y) :: ns, h, 0, 0, _, _, _, _ => rfl
  | (x, y) :: ns, h, 0, j + 1, y', z, e, e' => by
    simp at e
    rw [e.1] at h
    have h' : nStarts ns = 0 := by simpa [nStarts] using h
    exact absurd (by simpa using e') (starts_none h' j z)
  | (x, y) :: ns, h, i + 1, 0, y', z, e, e' => by
    simp at e'
    rw [e'.1] at h
    have h' : nStarts ns = 0 := by simpa [nStarts] using h
    exact absurd (by simpa using e) (starts_none h' i y')
  | (x, y) :: ns, h, i + 1, j + 1, y', z, e, e' => by
    have e1 : ns[i]? = some (0, y') := by simpa using e
    have e2 : ns[j]? = some (0, z) := by simpa using e'
    by_cases hx : x = 0
    · subst hx
      have h' : nStarts ns = 0 := by simpa [nStarts] using h
      exact absurd e1 (starts_none h' i y')
    · have h' : nStarts ns = 1 := by simpa [nStarts, hx] using h
      rw [starts_one h' e1 e2]

/-- What Reachable answers. -/
noncomputable def reachOf (ns : List (Int × Int)) (fs : List Flw) : List Int :=
  if vProc ns fs then ((List.range ns.length).filter fun (i : Nat) => rchB fs (startAt ns 0) (i : Int)).map (fun (i : Nat) => (i : Int)) else []
/-- The nodes below k that are reachable. -/
noncomputable def reachUp (fs : List Flw) (a : Int) (k : Nat) : List Int := ((List.range k).filter fun (i : Nat) => rchB fs a (i : Int)).map (fun (i : Nat) => (i : Int))
theorem reachUp_yes {fs : List Flw} {a : Int} {k : Nat} (h : rchB fs a (k : Int) = true) : reachUp fs a (k + 1) = reachUp fs a k ++ [(k : Int)] := by
  simp [reachUp, List.range_succ, h]
theorem reachUp_no {fs : List Flw} {a : Int} {k : Nat} (h : rchB fs a (k : Int) = false) : reachUp fs a (k + 1) = reachUp fs a k := by
  simp [reachUp, List.range_succ, h]
theorem reachUp_le (fs : List Flw) (a : Int) (k : Nat) : (reachUp fs a k).length ≤ k := by
  have := List.length_filter_le (fun (i : Nat) => rchB fs a (i : Int)) (List.range k)
  simpa [reachUp] using this
theorem reachOf_yes {ns : List (Int × Int)} {fs : List Flw} (h : vProc ns fs = true) : reachOf ns fs = reachUp fs (startAt ns 0) ns.length := by
  rw [reachOf, if_pos h]; rfl
theorem reachUp_mem {fs : List Flw} {a z : Int} {k : Nat} : z ∈ reachUp fs a k ↔ 0 ≤ z ∧ z < (k : Int) ∧ Rch fs a z := by
  unfold reachUp
  simp only [List.mem_map, List.mem_filter, List.mem_range]
  constructor
  · rintro ⟨i, ⟨hi, hr⟩, rfl⟩
    exact ⟨by omega, by omega, rchB_iff.1 hr⟩
  · rintro ⟨h0, h1, hr⟩
    refine ⟨z.toNat, ⟨by omega, ?_⟩, by omega⟩
    rw [Int.toNat_of_nonneg h0]
    exact rchB_iff.2 hr
/-- What HasCircle answers. -/
noncomputable def circUp (fs : List Flw) (k : Nat) : Bool := (List.range k).any fun (i : Nat) => rch1B fs (i : Int) (i : Int)
noncomputable def circOf (ns : List (Int × Int)) (fs : List Flw) : Bool := vProc ns fs && circUp fs ns.length
/-- A flow among the first k leads back. -/
noncomputable def backUp (fs : List Flw) (k : Nat) : Bool := (fs.take k).any fun f => rchB fs f.2.1 f.1
theorem circ_back {fs : List Flw} {N : Nat} (h : Inside fs N) : circUp fs N = backUp fs fs.length := by
  rw [Bool.eq_iff_iff]
  simp only [circUp, backUp, List.take_length, List.any_eq_true, List.mem_range]
  constructor
  · rintro ⟨i, hi, hr⟩
    obtain ⟨b, ⟨f, hf, h1, h2⟩, hr⟩ := rch1B_iff.1 hr
    exact ⟨f, hf, rchB_iff.2 (by rw [h1, h2]; exact hr)⟩
  · rintro ⟨f, hf, hr⟩
    have hb := h f hf
    refine ⟨f.1.toNat, by omega, rch1B_iff.2 ?_⟩
    rw [Int.toNat_of_nonneg hb.1]
    exact ⟨f.2.1, ⟨f, hf, rfl, rfl⟩, rchB_iff.1 hr⟩
end Go.Proofs.Ytknphikoikdcjaa

