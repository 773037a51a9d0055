/- Ready nodes, in plain mathematics. No program. -/
import Derived.Test.YthlcbdjjegageaaTokCount
namespace Go.Proofs.Ythlcbdjjegageaa
open Go.RowKit

/-- There is a token on the flow. -/
def pos (ms : List Int) (i : Int) : Bool := decide (0 < ms.getD i.toNat 0)
def havingOf (ms ids : List Int) : List Int := ids.filter (pos ms)
/-- The flows of which a node of the kind takes a token. -/
def takesOf (x : Int) (ms ids : List Int) : List Int := if x = 8 then (if (havingOf ms ids).length < ids.length then [] else havingOf ms ids) else (havingOf ms ids).take 1
/-- A node of the kind is ready. -/
def readyB (x : Int) (ms ids : List Int) : Bool := if x = 8 then (!ids.isEmpty && ids.all (pos ms)) else ids.any (pos ms)
theorem having_yes {ms ids : List Int} {k : Nat} {q : Int} (hk : ids[k]? = some q) (h : 0 < ms.getD q.toNat 0) : havingOf ms (ids.take (k + 1)) = havingOf ms (ids.take k) ++ [q] := by
  rw [take_snoc hk, havingOf, List.filter_append, havingOf]
  have : pos ms q = true := decide_eq_true h
  simp [this]
theorem having_no {ms ids : List Int} {k : Nat} {q : Int} (hk : ids[k]? = some q) (h : ¬ 0 < ms.getD q.toNat 0) : havingOf ms (ids.take (k + 1)) = havingOf ms (ids.take k) := by
  rw [take_snoc hk, havingOf, List.filter_append, havingOf]
  have : pos ms q = false := decide_eq_false h
  simp [this]
theorem having_le (ms ids : List Int) : (havingOf ms ids).length ≤ ids.length := List.length_filter_le _ _
theorem having_all {ms ids : List Int} : (havingOf ms ids).length = ids.length ↔ ids.all (pos ms) = true := by
  rw [havingOf, List.length_filter_eq_length_iff, List.all_eq_true]
theorem having_any {ms ids : List Int} : havingOf ms ids = [] ↔ ids.any (pos ms) = false := by
  rw [havingOf, List.filter_eq_nil_iff]
  simp [List.any_eq_false]
theorem takes_ready (x : Int) (ms ids : List Int) : decide (0 < (takesOf x ms ids).length) = readyB x ms ids := by
  unfold takesOf readyB
  by_cases hx : x = 8
  · rw [if_pos hx, if_pos hx]
    have hle := having_le ms ids
    by_cases hl : (havingOf ms ids).length < ids.length
    · rw [if_pos hl]
      have : ids.all (pos ms) = false := by
        cases h : ids.all (pos ms) with
        | false => rfl
        | true => have := having_all.2 h; omega
      rw [this]; simp
    · rw [if_neg hl]
      have he : (havingOf ms ids).length = ids.length := by omega
      rw [having_all.1 he, he]
      cases ids <;> simp
  · rw [if_neg hx, if_neg hx, List.length_take]
    cases h : ids.any (pos ms) with
    | false => rw [having_any.2 h]; rfl
    | true =>
      have : havingOf ms ids ≠ [] := fun e => by rw [having_any.1 e] at h; cases h
      have hp : 0 < (havingOf ms ids).length := List.length_pos_iff.2 this
      rw [decide_eq_true]; omega
/-- What ReadyNodes answers. -/
def kindAt (ns : List (Int × Int)) (k : Nat) : Int := (ns.getD k (0, 0)).1
def readyUp (ns : List (Int × Int)) (fs : List Flw) (ms : List Int) (k : Nat) : List Int := ((List.range k).filter fun (i : Nat) => readyB (kindAt ns i) ms (flOf fs false (i : Int))).map fun (i : Nat) => (i : Int)
def readyOf (ns : List (Int × Int)) (fs : List Flw) (ms : List Int) : List Int := if vProc ns fs && vMarks fs ms then readyUp ns fs ms ns.length else []
theorem kindAt_is {ns : List (Int × Int)} {k : Nat} {x y : Int} (h : ns[k]? = some (x, y)) : kindAt ns k = x := by
  rw [kindAt, List.getD_eq_getElem?_getD, h]; rfl
theorem readyUp_yes {ns : List (Int × Int)} {fs : List Flw} {ms : List Int} {k : Nat} (h : readyB (kindAt ns k) ms (flOf fs false (k : Int)) = true) : readyUp ns fs ms (k + 1) = readyUp ns fs ms k ++ [(k : Int)] := by
  simp [readyUp, List.range_succ, h]
theorem readyUp_no {ns : List (Int × Int)} {fs : List Flw} {ms : List Int} {k : Nat} (h : readyB (kindAt ns k) ms (flOf fs false (k : Int)) = false) : readyUp ns fs ms (k + 1) = readyUp ns fs ms k := by
  simp [readyUp, List.range_succ, h]
theorem readyUp_le (ns : List (Int × Int)) (fs : List Flw) (ms : List Int) (k : Nat) : (readyUp ns fs ms k).length ≤ k := by
  have := List.length_filter_le (fun (i : Nat) => readyB (kindAt ns i) ms (flOf fs false (i : Int))) (List.range k)
  simpa [readyUp] using this
end Go.Proofs.Ythlcbdjjegageaa
