/- Conditions in plain mathematics: which are valid. No program. -/
import Derived.Test.YtakpjhiodmgccabWords
namespace Go.Proofs.Ytakpjhiodmgccab
open Go.RowKit

def inR (n lo hi : Int) : Bool := decide (lo ≤ n) && decide (n ≤ hi)
theorem inR_iff {n lo hi : Int} : inR n lo hi = true ↔ lo ≤ n ∧ n ≤ hi := by simp [inR]
/-- A part of a condition is valid. -/
def vPart (k v : Int) : Bool :=
  if k = 0 then inR v (-9999) 9999 else if k = 1 then inR v 0 3 else inR k 2 8 && decide (v = 0)
/-- How many values a part takes. -/
def needs1 (k : Int) : Int := if k = 0 ∨ k = 1 then 0 else if k = 2 then 1 else 2
/-- The height of the stack behind the parts, none if a part is not valid or takes what is not there. -/
def scanD : List (Int × Int) → Int → Option Int
  | [], d => some d
  | p :: ps, d => if vPart p.1 p.2 = true ∧ needs1 p.1 ≤ d then scanD ps (d - needs1 p.1 + 1) else none
/-- A condition is valid. -/
def vCond (ps : List (Int × Int)) : Bool := inR ps.length 1 12 && decide (scanD ps 0 = some 1)

theorem needs1_bd (k : Int) : 0 ≤ needs1 k ∧ needs1 k ≤ 2 := by unfold needs1; split <;> (try split) <;> omega
theorem scanD_step {ps : List (Int × Int)} {k : Nat} {x y d : Int} (hg : ps[k]? = some (x, y)) (hv : vPart x y = true) (hn : needs1 x ≤ d) : scanD (ps.drop k) d = scanD (ps.drop (k + 1)) (d - needs1 x + 1) := by
  obtain ⟨hk, e⟩ := List.getElem?_eq_some_iff.1 hg
  rw [List.drop_eq_getElem_cons hk, e, scanD, if_pos ⟨hv, hn⟩]
theorem scanD_bad {ps : List (Int × Int)} {k : Nat} {x y d : Int} (hg : ps[k]? = some (x, y)) (hv : ¬ (vPart x y = true ∧ needs1 x ≤ d)) : scanD (ps.drop k) d = none := by
  obtain ⟨hk, e⟩ := List.getElem?_eq_some_iff.1 hg
  rw [List.drop_eq_getElem_cons hk, e, scanD, if_neg hv]
theorem vCond_none {ps : List (Int × Int)} (h : scanD ps 0 = none) : vCond ps = false := by simp [vCond, h]
theorem vCond_some {ps : List (Int × Int)} {d : Int} (h : scanD ps 0 = some d) : vCond ps = (inR ps.length 1 12 && (d == 1)) := by
  simp [vCond, h]; rfl
end Go.Proofs.Ytakpjhiodmgccab
