/- Tokens, in plain mathematics: the flow that a choice takes. No program. -/
import Derived.Test.YthlcbdjjegageaaFlowMath
import Derived.Test.YthlcbdjjegageaaEvalMath
namespace Go.Proofs.Ythlcbdjjegageaa
open Go.RowKit

/-- The flow that is taken of some flows: the first one whose condition holds, else the first one without a condition. -/
def chooseR (fs : List Flw) (vs : List Int) : List Int → Int → Int
  | [], rest => rest
  | i :: is, rest => if (fs.getD i.toNat (0, 0, [])).2.2 ≠ [] ∧ evalOf (fs.getD i.toNat (0, 0, [])).2.2 vs ≠ 0 then i else chooseR fs vs is (if (fs.getD i.toNat (0, 0, [])).2.2 = [] ∧ rest < 0 then i else rest)
/-- What ChooseFlow answers. -/
def chooseAt (ns : List (Int × Int)) (fs : List Flw) (node : Int) (vs : List Int) : Int :=
  if vProc ns fs && inR node 0 ((ns.length : Int) - 1) && ((ns[node.toNat]?.map Prod.fst) == some 5) && vVals vs then chooseR fs vs (flOf fs true node) (-1) else -1
theorem chooseR_at {fs : List Flw} {vs is : List Int} {k q : Nat} {x y : Int} {ps : List (Int × Int)} (hk : is[k]? = some (q : Int)) (hq : fs[q]? = some (x, y, ps)) (rest : Int) :
    chooseR fs vs (is.drop k) rest = if ps ≠ [] ∧ evalOf ps vs ≠ 0 then (q : Int) else chooseR fs vs (is.drop (k + 1)) (if ps = [] ∧ rest < 0 then (q : Int) else rest) := by
  rw [drop_flw hk, chooseR]
  have : fs.getD (q : Int).toNat (0, 0, []) = (x, y, ps) := by rw [Int.toNat_natCast, List.getD_eq_getElem?_getD, hq]; rfl
  rw [this]
/-- The condition of a flow of a valid process is valid, if there is one. -/
theorem vProc_when {ns : List (Int × Int)} {fs : List Flw} (h : vProc ns fs = true) {q : Nat} {x y : Int} {ps : List (Int × Int)} (hq : fs[q]? = some (x, y, ps)) : ps = [] ∨ vCond ps = true := by
  simp only [vProc, Bool.and_eq_true] at h
  have h1 := List.all_eq_true.1 h.1.1.2 _ (List.mem_of_getElem? hq)
  simp only [vFlow, Bool.and_eq_true, Bool.or_eq_true] at h1
  rcases h1.2 with h2 | h2
  · exact .inl (List.isEmpty_iff.1 h2)
  · exact .inr h2.2
theorem chooseAt_no1 {ns : List (Int × Int)} {fs : List Flw} {node : Int} {vs : List Int} (h : vProc ns fs = false) : chooseAt ns fs node vs = -1 := by simp [chooseAt, h]
theorem chooseAt_no2 {ns : List (Int × Int)} {fs : List Flw} {node : Int} {vs : List Int} (h : inR node 0 ((ns.length : Int) - 1) = false) : chooseAt ns fs node vs = -1 := by simp [chooseAt, h]
theorem chooseAt_no3 {ns : List (Int × Int)} {fs : List Flw} {k : Nat} {x y : Int} {vs : List Int} (hk : ns[k]? = some (x, y)) (h : ¬ x = 5) : chooseAt ns fs (k : Int) vs = -1 := by
  have : (ns[((k : Int)).toNat]?.map Prod.fst == some 5) = false := by rw [Int.toNat_natCast, hk]; simpa using h
  simp only [chooseAt, this]; simp
theorem chooseAt_no4 {ns : List (Int × Int)} {fs : List Flw} {node : Int} {vs : List Int} (h : vVals vs = false) : chooseAt ns fs node vs = -1 := by simp [chooseAt, h]
theorem chooseAt_yes {ns : List (Int × Int)} {fs : List Flw} {k : Nat} {y : Int} {vs : List Int} (h1 : vProc ns fs = true) (h2 : inR (k : Int) 0 ((ns.length : Int) - 1) = true) (hk : ns[k]? = some (5, y)) (h4 : vVals vs = true) : chooseAt ns fs (k : Int) vs = chooseR fs vs (flOf fs true (k : Int)) (-1) := by
  have : (ns[((k : Int)).toNat]?.map Prod.fst == some 5) = true := by rw [Int.toNat_natCast, hk]; rfl
  simp only [chooseAt, h1, h2, this, h4]; simp
end Go.Proofs.Ythlcbdjjegageaa
