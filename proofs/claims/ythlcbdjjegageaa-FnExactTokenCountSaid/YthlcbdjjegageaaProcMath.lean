/- Flows of a process, in plain mathematics. No program. -/
import Derived.Test.YthlcbdjjegageaaCondMath
namespace Go.Proofs.Ythlcbdjjegageaa
open Go.RowKit

theorem drop_flw {α : Type} {l : List α} {k : Nat} {x : α} (h : l[k]? = some x) : l.drop k = x :: l.drop (k + 1) := by
  obtain ⟨hk, e⟩ := List.getElem?_eq_some_iff.1 h
  rw [List.drop_eq_getElem_cons hk, e]
/-- A flow: from, to, its condition. -/
abbrev Flw := Int × Int × List (Int × Int)
/-- The end of a flow. -/
def endOf (out : Bool) (f : Flw) : Int := if out then f.1 else f.2.1
/-- The numbers below k of the flows with that end. -/
def flUp (fs : List Flw) (out : Bool) (node : Int) (k : Nat) : List Int :=
  ((List.range k).filter fun i => match fs[i]? with | some f => endOf out f == node | none => false).map fun (i : Nat) => (i : Int)
def flOf (fs : List Flw) (out : Bool) (node : Int) : List Int := flUp fs out node fs.length
theorem flUp_yes {fs : List Flw} {out : Bool} {node : Int} {k : Nat} {f : Flw} (hg : fs[k]? = some f) (h : endOf out f = node) : flUp fs out node (k + 1) = flUp fs out node k ++ [(k : Int)] := by
  simp [flUp, List.range_succ, hg, h]
theorem flUp_no {fs : List Flw} {out : Bool} {node : Int} {k : Nat} {f : Flw} (hg : fs[k]? = some f) (h : ¬ endOf out f = node) : flUp fs out node (k + 1) = flUp fs out node k := by
  simp [flUp, List.range_succ, hg, h]
theorem flUp_le (fs : List Flw) (out : Bool) (node : Int) (k : Nat) : (flUp fs out node k).length ≤ k := by
  have := List.length_filter_le (fun i => match fs[i]? with | some f => endOf out f == node | none => false) (List.range k)
  simpa [flUp] using this

/-- A node has a value that goes with its kind. -/
def vVal (kind value : Int) : Bool := if kind = 3 then inR value 1 100 else if kind = 4 then inR value 0 9 else decide (value = 0)
/-- A node of the kind may have i flows into it and o out of it. -/
def vKind (kind : Int) (i o : Int) : Bool :=
  if kind = 0 then decide (i = 0) && decide (o = 1) else if kind = 1 then decide (i = 1) && decide (o = 0)
  else if kind = 2 ∨ kind = 3 ∨ kind = 4 then decide (i = 1) && decide (o = 1) else if kind = 5 ∨ kind = 6 then decide (i = 1) && decide (2 ≤ o)
  else if kind = 7 ∨ kind = 8 then decide (2 ≤ i) && decide (o = 1) else false
def vNode (kind value : Int) (i o : Nat) : Bool := vVal kind value && vKind kind i o
/-- A flow lies between nodes, and has a valid condition or an empty one; only behind a choice has it one. -/
def vFlow (ns : List (Int × Int)) (f : Flw) : Bool :=
  inR f.1 0 (ns.length - 1) && inR f.2.1 0 (ns.length - 1) && (f.2.2.isEmpty || ((ns[f.1.toNat]?.map Prod.fst) == some 5 && vCond f.2.2))
def nStarts (ns : List (Int × Int)) : Nat := ns.countP fun n => n.1 == 0
/-- These nodes, the first of them number k, have the flows of their kinds. -/
def vNodesR (fs : List Flw) : List (Int × Int) → Nat → Bool
  | [], _ => true
  | p :: ps, k => vNode p.1 p.2 (flOf fs false k).length (flOf fs true k).length && vNodesR fs ps (k + 1)
/-- A process is valid. -/
def vProc (ns : List (Int × Int)) (fs : List Flw) : Bool :=
  inR ns.length 2 10 && decide (fs.length ≤ 14) && fs.all (vFlow ns) && vNodesR fs ns 0 && decide (nStarts ns = 1)
theorem flw_hit {g : Flw → Bool} {fs : List Flw} {k : Nat} {f : Flw} (hg : fs[k]? = some f) (h : g f = true) : (fs.drop k).all g = (fs.drop (k + 1)).all g := by
  rw [drop_flw hg, List.all_cons, h, Bool.true_and]
theorem flw_miss {g : Flw → Bool} {fs : List Flw} {k : Nat} {f : Flw} (hg : fs[k]? = some f) (h : g f = false) : (fs.drop k).all g = false := by
  rw [drop_flw hg, List.all_cons, h, Bool.false_and]
theorem node_hit {fs : List Flw} {ns : List (Int × Int)} {k : Nat} {x y : Int} (hg : ns[k]? = some (x, y)) (h : vNode x y (flOf fs false k).length (flOf fs true k).length = true) : vNodesR fs (ns.drop k) k = vNodesR fs (ns.drop (k + 1)) (k + 1) := by
  rw [drop_flw hg, vNodesR, h, Bool.true_and]
theorem node_miss {fs : List Flw} {ns : List (Int × Int)} {k : Nat} {x y : Int} (hg : ns[k]? = some (x, y)) (h : vNode x y (flOf fs false k).length (flOf fs true k).length = false) : vNodesR fs (ns.drop k) k = false := by
  rw [drop_flw hg, vNodesR, h, Bool.false_and]
theorem start_hit {ns : List (Int × Int)} {k : Nat} {y : Int} (hg : ns[k]? = some (0, y)) : nStarts (ns.drop k) = 1 + nStarts (ns.drop (k + 1)) := by
  rw [drop_flw hg]; simp [nStarts]; omega
theorem start_miss {ns : List (Int × Int)} {k : Nat} {x y : Int} (hg : ns[k]? = some (x, y)) (h : ¬ x = 0) : nStarts (ns.drop k) = nStarts (ns.drop (k + 1)) := by
  rw [drop_flw hg]; simp [nStarts, h]
end Go.Proofs.Ythlcbdjjegageaa
