/- Conditions in plain mathematics: which are valid. No program. -/
import Derived.Test.YthlcbdjjegageaaWords
namespace Go.Proofs.Ythlcbdjjegageaa
open Go.RowKit

def inR (n lo hi : Int) : Bool := decide (lo ≤ n) && decide (n ≤ hi)
theorem inR_iff {n lo hi : Int} : inR n lo hi = true ↔ lo ≤ n ∧ n ≤ hi := by simp [inR]
/-- A part of a condition is valid. -/
def vPart (k v : Int) : Bool :=
  if k = 0 then inR v (-9999) 9999 else if k = 1 then inR v 0 3 else inR k 2 8 && decide (v = 0)
/-- How many values a part takes. -/
def needs1 (k : Int) : Int := if k = 0 ∨ k = 1 then 0 else if k = 2 then 1 else 2
/-- The height of the stack behind the parts, none if a part is not valid or takes what is not there. -/
def scanD : List (Int × Int) → Int → Option Int
  | [], d => some d
  | p :: ps, d => if vPart p.1 p.2 = true ∧ needs1 p.1 ≤ d then scanD ps (d - needs1 p.1 + 1) else none
/-- A condition is valid. -/
def vCond (ps : List (Int × Int)) : Bool := inR ps.length 1 12 && decide (scanD ps 0 = some 1)

theorem needs1_bd (k : Int) : 0 ≤ needs1 k ∧ needs1 k ≤ 2 := by unfold needs1; split <;> (try split) <;> omega
theorem scanD_step {ps : List (Int × Int)} {k : Nat} {x y d : Int} (hg : ps[k]? = some (x, y)) (hv : vPart x y = true) (hn : needs1 x ≤ d) : scanD (ps.drop k) d = scanD (ps.drop (k + 1)) (d - needs1 x + 1) := by
  obtain ⟨hk, e⟩ := List.getElem?_eq_some_iff.1 hg
  rw [List.drop_eq_getElem_cons hk, e, scanD, if_pos ⟨hv, hn⟩]
theorem scanD_bad {ps : List (Int × Int)} {k : Nat} {x y d : Int} (hg : ps[k]? = some (x, y)) (hv : ¬ (vPart x y = true ∧ needs1 x ≤ d)) : scanD (ps.drop k) d = none := by
  obtain ⟨hk, e⟩ := List.getElem?_eq_some_iff.1 hg
  rw [List.drop_eq_getElem_cons hk, e, scanD, if_neg hv]
theorem vCond_none {ps : List (Int × Int)} (h : scanD ps 0 = none) : vCond ps = false := by simp [vCond, h]
theorem vCond_some {ps : List (Int × Int)} {d : Int} (h : scanD ps 0 = some d) : vCond ps = (inR ps.length 1 12 && (d == 1)) := by
  simp [vCond, h]; rfl

/-- A variable stands in the condition. -/
def hasV (ps : List (Int × Int)) (v : Int) : Bool := ps.any fun p => p.1 == 1 && p.2 == v
/-- The variables below k that stand in it. -/
def usedUp (ps : List (Int × Int)) (k : Nat) : List Int := ((List.range k).filter fun (v : Nat) => hasV ps (v : Int)).map fun (v : Nat) => (v : Int)
/-- The variables of a condition. -/
def usedOf (ps : List (Int × Int)) : List Int := if vCond ps then usedUp ps 4 else []
theorem usedUp_yes {ps : List (Int × Int)} {k : Nat} (h : hasV ps k = true) : usedUp ps (k + 1) = usedUp ps k ++ [(k : Int)] := by
  simp [usedUp, List.range_succ, h]
theorem usedUp_no {ps : List (Int × Int)} {k : Nat} (h : hasV ps k = false) : usedUp ps (k + 1) = usedUp ps k := by
  simp [usedUp, List.range_succ, h]
theorem usedUp_le (ps : List (Int × Int)) (k : Nat) : (usedUp ps k).length ≤ k := by
  have := List.length_filter_le (fun (v : Nat) => hasV ps (v : Int)) (List.range k)
  simp [usedUp] at *; omega
theorem hasV_step {ps : List (Int × Int)} {k : Nat} {x y v : Int} {b : Bool} (hg : ps[k]? = some (x, y)) (h : hasV ps v = (b || hasV (ps.drop k) v)) : hasV ps v = ((b || (x == 1 && y == v)) || hasV (ps.drop (k + 1)) v) := by
  rw [h, drop_cons2 hg]
  simp [hasV, Bool.or_assoc]

theorem scanD_parts : ∀ {ps : List (Int × Int)} {d r : Int}, scanD ps d = some r → ∀ q ∈ ps, vPart q.1 q.2 = true
  | [], _, _, _, q, h => by cases h
  | p :: ps, d, r, h, q, hq => by
    rw [scanD] at h
    split at h
    · rename_i hc
      rcases List.mem_cons.1 hq with rfl | hq
      · exact hc.1
      · exact scanD_parts h q hq
    · cases h
theorem vCond_parts {ps : List (Int × Int)} (h : vCond ps = true) {k : Nat} {x y : Int} (hg : ps[k]? = some (x, y)) : vPart x y = true := by
  simp [vCond] at h
  exact scanD_parts h.2 (x, y) (List.mem_of_getElem? hg)
theorem vPart_var {y : Int} (h : vPart 1 y = true) : y = 0 ∨ y = 1 ∨ y = 2 ∨ y = 3 := by
  have h' : inR y 0 3 = true := by simpa [vPart] using h
  have := inR_iff.1 h'; omega
theorem vCond_len {ps : List (Int × Int)} (h : vCond ps = true) : 1 ≤ ps.length ∧ ps.length ≤ 12 := by
  simp [vCond] at h
  have := inR_iff.1 h.1; omega
/-- The condition has a variable. -/
def anyVar (ps : List (Int × Int)) : Bool := ps.any fun p => p.1 == 1
theorem anyVar_step {ps : List (Int × Int)} {k : Nat} {x y : Int} {b : Bool} (hg : ps[k]? = some (x, y)) (h : anyVar ps = (b || anyVar (ps.drop k))) : anyVar ps = ((b || x == 1) || anyVar (ps.drop (k + 1))) := by
  rw [h, drop_cons2 hg]
  simp [anyVar, Bool.or_assoc]
theorem used_mem {ps : List (Int × Int)} {x : Int} (h : x ∈ usedOf ps) : 0 ≤ x ∧ x < 4 := by
  unfold usedOf at h
  split at h
  · simp [usedUp] at h
    obtain ⟨a, ⟨ha, _⟩, rfl⟩ := h
    omega
  · cases h
theorem used_sorted (ps : List (Int × Int)) : (usedOf ps).Pairwise (· < ·) := by
  unfold usedOf
  split
  · unfold usedUp
    rw [List.pairwise_map]
    refine List.Pairwise.imp (R := (· < ·)) (fun h => by omega) ?_
    exact List.Pairwise.filter _ List.pairwise_lt_range
  · exact List.Pairwise.nil
theorem used_up {ps : List (Int × Int)} {i : Nat} {x y : Int} (hx : (usedOf ps)[i]? = some x) (hy : (usedOf ps)[i + 1]? = some y) : x < y := by
  obtain ⟨h1, e1⟩ := List.getElem?_eq_some_iff.1 hx
  obtain ⟨h2, e2⟩ := List.getElem?_eq_some_iff.1 hy
  have := List.pairwise_iff_getElem.1 (used_sorted ps) i (i + 1) h1 h2 (by omega)
  rw [e1, e2] at this
  exact this
theorem used_some {ps : List (Int × Int)} (h : vCond ps = true) : anyVar ps = decide (0 < (usedOf ps).length) := by
  rw [Bool.eq_iff_iff, decide_eq_true_iff, usedOf, if_pos h]
  constructor
  · intro ha
    simp only [anyVar, List.any_eq_true] at ha
    obtain ⟨⟨x, y⟩, hm, hx⟩ := ha
    simp at hx
    subst hx
    obtain ⟨k, hk, e⟩ := List.getElem_of_mem hm
    have hv := vPart_var (vCond_parts h (k := k) (x := 1) (y := y) (by rw [List.getElem?_eq_getElem hk, e]))
    have hin : y ∈ usedUp ps 4 := by
      have hh : hasV ps y = true := by
        simp only [hasV, List.any_eq_true]
        exact ⟨_, hm, by simp⟩
      simp only [usedUp, List.mem_map, List.mem_filter, List.mem_range]
      refine ⟨y.toNat, ⟨by omega, ?_⟩, by omega⟩
      rwa [Int.toNat_of_nonneg (by omega)]
    exact List.length_pos_of_mem hin
  · intro hl
    obtain ⟨y, hy⟩ := List.exists_mem_of_length_pos hl
    simp only [usedUp, List.mem_map, List.mem_filter] at hy
    obtain ⟨a, ⟨_, ha⟩, _⟩ := hy
    simp only [hasV, List.any_eq_true] at ha
    obtain ⟨q, hq, h1⟩ := ha
    simp at h1
    simp only [anyVar, List.any_eq_true]
    exact ⟨q, hq, by simp [h1.1]⟩
theorem used_le (ps : List (Int × Int)) : (usedOf ps).length ≤ 4 := by
  unfold usedOf
  split
  · exact usedUp_le ps 4
  · simp
theorem hasV_take {ps : List (Int × Int)} {k : Nat} {x y v : Int} (hg : ps[k]? = some (x, y)) : hasV (ps.take (k + 1)) v = (hasV (ps.take k) v || (x == 1 && y == v)) := by
  rw [take_snoc hg]
  simp [hasV]
end Go.Proofs.Ythlcbdjjegageaa
