/-
  No cell of these rows narrows 'for every input' (looked for: loops, veiled, ifaces, maps, wideKeys, modest, calm, conditions, laid).
  DERIVED. THE GIVEN ROWS OF THIS SEAT. 12 by the template 'for every input the law returns true; each argument reads behind the call as it read before'; 0 by the template 'total and deterministic' (their statements: YtakpjhiodmgccabTotals.lean).
  GIVEN WITH THE SEED: the statements are not yours to turn. If you find one false, say at which input.
  Laid BY PROGRAM, IN A SANDBOX (cutbox-rows.mjs): the forced cells as the released guide's own fill.sh prints them over the translation 75287fb837252e8a… (all of the seat's roots in one cut). By AI agents, Wed Nov 11 2026. No macro, syntax, notation, axiom, sorry.
-/
import Derived.Test.YtakpjhiodmgccabChecked
import GoSem.Claim
import GoSem.ClaimJoined
import GoSem.ClaimMapViews
import Derived.JoinedTies
import Derived.KernelRfl
namespace Go.Proofs.Ytakpjhiodmgccab
/- THE CELL 'sum', in the pinned program and in every row, IS THE sha256 OF THE DUMP (.gsa) THAT YtakpjhiodmgccabProg.lean LOADS. Nothing in Lean hashes anything: it is a label: what it is worth is what the hold of that sum in a sandbox is worth. -/
noncomputable def Try.pinned : Pinned := { name := "ytakpjhiodmgccab", sum := "75287fb837252e8a3e4fc1b5221f513331dc72cf9507d761c4e6a8dd87fe13d6", checked := Try.checked }
namespace Rows
def none {H : Type} : Left H := { results := [], args := [] }

/-- 'laws.FnFlowsOutIn': WHATEVER THE INPUT: true; the input reads as it did. -/
def fnFlowsOutInSpec : ChangeSpec := { name := "fnFlowsOutIn", fn := fun _ => fun
  | [d] => { results := [.lit (.bool true)], args := [d] }
  | _ => none }
def fnFlowsOutInRow : OpenClaim := { program := "ytakpjhiodmgccab", sum := "75287fb837252e8a3e4fc1b5221f513331dc72cf9507d761c4e6a8dd87fe13d6", func := "loop.example/processengine/laws.FnFlowsOutIn", spec := "fnFlowsOutIn", unfollowed := true, recurses := true, apart := false }
def FnFlowsOutInSaid : Prop := fnFlowsOutInRow.holds Try.pinned (OpenSpec.ofChange fnFlowsOutInSpec)

/-- ITS FALSE NEIGHBOUR: 'it returns false'. Refute it at one input. -/
def fnFlowsOutInWrong : ChangeSpec := { name := "fnFlowsOutIn", fn := fun _ => fun
  | [d] => { results := [.lit (.bool false)], args := [d] }
  | _ => none }
def FnFlowsOutInWrongFalsely : Prop := fnFlowsOutInRow.holds Try.pinned (OpenSpec.ofChange fnFlowsOutInWrong)

/-- 'laws.FnHasCircleLine': WHATEVER THE INPUT: true; the input reads as it did. -/
def fnHasCircleLineSpec : ChangeSpec := { name := "fnHasCircleLine", fn := fun _ => fun
  | [d] => { results := [.lit (.bool true)], args := [d] }
  | _ => none }
def fnHasCircleLineRow : OpenClaim := { program := "ytakpjhiodmgccab", sum := "75287fb837252e8a3e4fc1b5221f513331dc72cf9507d761c4e6a8dd87fe13d6", func := "loop.example/processengine/laws.FnHasCircleLine", spec := "fnHasCircleLine", unfollowed := true, recurses := true, apart := false }
def FnHasCircleLineSaid : Prop := fnHasCircleLineRow.holds Try.pinned (OpenSpec.ofChange fnHasCircleLineSpec)

/-- ITS FALSE NEIGHBOUR: 'it returns false'. Refute it at one input. -/
def fnHasCircleLineWrong : ChangeSpec := { name := "fnHasCircleLine", fn := fun _ => fun
  | [d] => { results := [.lit (.bool false)], args := [d] }
  | _ => none }
def FnHasCircleLineWrongFalsely : Prop := fnHasCircleLineRow.holds Try.pinned (OpenSpec.ofChange fnHasCircleLineWrong)

/-- 'laws.FnValidProcessStart': WHATEVER THE INPUT: true; the input reads as it did. -/
def fnValidProcessStartSpec : ChangeSpec := { name := "fnValidProcessStart", fn := fun _ => fun
  | [d] => { results := [.lit (.bool true)], args := [d] }
  | _ => none }
def fnValidProcessStartRow : OpenClaim := { program := "ytakpjhiodmgccab", sum := "75287fb837252e8a3e4fc1b5221f513331dc72cf9507d761c4e6a8dd87fe13d6", func := "loop.example/processengine/laws.FnValidProcessStart", spec := "fnValidProcessStart", unfollowed := true, recurses := true, apart := false }
def FnValidProcessStartSaid : Prop := fnValidProcessStartRow.holds Try.pinned (OpenSpec.ofChange fnValidProcessStartSpec)

/-- ITS FALSE NEIGHBOUR: 'it returns false'. Refute it at one input. -/
def fnValidProcessStartWrong : ChangeSpec := { name := "fnValidProcessStart", fn := fun _ => fun
  | [d] => { results := [.lit (.bool false)], args := [d] }
  | _ => none }
def FnValidProcessStartWrongFalsely : Prop := fnValidProcessStartRow.holds Try.pinned (OpenSpec.ofChange fnValidProcessStartWrong)

/-- 'laws.FnUsedVariablesJoin': WHATEVER THE INPUT: true; the input reads as it did. -/
def fnUsedVariablesJoinSpec : ChangeSpec := { name := "fnUsedVariablesJoin", fn := fun _ => fun
  | [d] => { results := [.lit (.bool true)], args := [d] }
  | _ => none }
def fnUsedVariablesJoinRow : OpenClaim := { program := "ytakpjhiodmgccab", sum := "75287fb837252e8a3e4fc1b5221f513331dc72cf9507d761c4e6a8dd87fe13d6", func := "loop.example/processengine/laws.FnUsedVariablesJoin", spec := "fnUsedVariablesJoin", unfollowed := true, recurses := true, apart := false }
def FnUsedVariablesJoinSaid : Prop := fnUsedVariablesJoinRow.holds Try.pinned (OpenSpec.ofChange fnUsedVariablesJoinSpec)

/-- ITS FALSE NEIGHBOUR: 'it returns false'. Refute it at one input. -/
def fnUsedVariablesJoinWrong : ChangeSpec := { name := "fnUsedVariablesJoin", fn := fun _ => fun
  | [d] => { results := [.lit (.bool false)], args := [d] }
  | _ => none }
def FnUsedVariablesJoinWrongFalsely : Prop := fnUsedVariablesJoinRow.holds Try.pinned (OpenSpec.ofChange fnUsedVariablesJoinWrong)

/-- 'laws.FnExactValidCondition': WHATEVER THE INPUT: true; the input reads as it did. -/
def fnExactValidConditionSpec : ChangeSpec := { name := "fnExactValidCondition", fn := fun _ => fun
  | [d] => { results := [.lit (.bool true)], args := [d] }
  | _ => none }
def fnExactValidConditionRow : OpenClaim := { program := "ytakpjhiodmgccab", sum := "75287fb837252e8a3e4fc1b5221f513331dc72cf9507d761c4e6a8dd87fe13d6", func := "loop.example/processengine/laws.FnExactValidCondition", spec := "fnExactValidCondition", unfollowed := true, recurses := true, apart := false }
def FnExactValidConditionSaid : Prop := fnExactValidConditionRow.holds Try.pinned (OpenSpec.ofChange fnExactValidConditionSpec)

/-- ITS FALSE NEIGHBOUR: 'it returns false'. Refute it at one input. -/
def fnExactValidConditionWrong : ChangeSpec := { name := "fnExactValidCondition", fn := fun _ => fun
  | [d] => { results := [.lit (.bool false)], args := [d] }
  | _ => none }
def FnExactValidConditionWrongFalsely : Prop := fnExactValidConditionRow.holds Try.pinned (OpenSpec.ofChange fnExactValidConditionWrong)

/-- 'laws.FnExactEvalCondition': WHATEVER THE INPUT: true; the input reads as it did. -/
def fnExactEvalConditionSpec : ChangeSpec := { name := "fnExactEvalCondition", fn := fun _ => fun
  | [d1, d2] => { results := [.lit (.bool true)], args := [d1, d2] }
  | _ => none }
def fnExactEvalConditionRow : OpenClaim := { program := "ytakpjhiodmgccab", sum := "75287fb837252e8a3e4fc1b5221f513331dc72cf9507d761c4e6a8dd87fe13d6", func := "loop.example/processengine/laws.FnExactEvalCondition", spec := "fnExactEvalCondition", unfollowed := true, recurses := true, apart := false }
def FnExactEvalConditionSaid : Prop := fnExactEvalConditionRow.holds Try.pinned (OpenSpec.ofChange fnExactEvalConditionSpec)

/-- ITS FALSE NEIGHBOUR: 'it returns false'. Refute it at one input. -/
def fnExactEvalConditionWrong : ChangeSpec := { name := "fnExactEvalCondition", fn := fun _ => fun
  | [d1, d2] => { results := [.lit (.bool false)], args := [d1, d2] }
  | _ => none }
def FnExactEvalConditionWrongFalsely : Prop := fnExactEvalConditionRow.holds Try.pinned (OpenSpec.ofChange fnExactEvalConditionWrong)

/-- 'laws.FnExactUsedVariables': WHATEVER THE INPUT: true; the input reads as it did. -/
def fnExactUsedVariablesSpec : ChangeSpec := { name := "fnExactUsedVariables", fn := fun _ => fun
  | [d] => { results := [.lit (.bool true)], args := [d] }
  | _ => none }
def fnExactUsedVariablesRow : OpenClaim := { program := "ytakpjhiodmgccab", sum := "75287fb837252e8a3e4fc1b5221f513331dc72cf9507d761c4e6a8dd87fe13d6", func := "loop.example/processengine/laws.FnExactUsedVariables", spec := "fnExactUsedVariables", unfollowed := true, recurses := true, apart := false }
def FnExactUsedVariablesSaid : Prop := fnExactUsedVariablesRow.holds Try.pinned (OpenSpec.ofChange fnExactUsedVariablesSpec)

/-- ITS FALSE NEIGHBOUR: 'it returns false'. Refute it at one input. -/
def fnExactUsedVariablesWrong : ChangeSpec := { name := "fnExactUsedVariables", fn := fun _ => fun
  | [d] => { results := [.lit (.bool false)], args := [d] }
  | _ => none }
def FnExactUsedVariablesWrongFalsely : Prop := fnExactUsedVariablesRow.holds Try.pinned (OpenSpec.ofChange fnExactUsedVariablesWrong)

/-- 'laws.FnExactNotCondition': WHATEVER THE INPUT: true; the input reads as it did. -/
def fnExactNotConditionSpec : ChangeSpec := { name := "fnExactNotCondition", fn := fun _ => fun
  | [d] => { results := [.lit (.bool true)], args := [d] }
  | _ => none }
def fnExactNotConditionRow : OpenClaim := { program := "ytakpjhiodmgccab", sum := "75287fb837252e8a3e4fc1b5221f513331dc72cf9507d761c4e6a8dd87fe13d6", func := "loop.example/processengine/laws.FnExactNotCondition", spec := "fnExactNotCondition", unfollowed := true, recurses := true, apart := false }
def FnExactNotConditionSaid : Prop := fnExactNotConditionRow.holds Try.pinned (OpenSpec.ofChange fnExactNotConditionSpec)

/-- ITS FALSE NEIGHBOUR: 'it returns false'. Refute it at one input. -/
def fnExactNotConditionWrong : ChangeSpec := { name := "fnExactNotCondition", fn := fun _ => fun
  | [d] => { results := [.lit (.bool false)], args := [d] }
  | _ => none }
def FnExactNotConditionWrongFalsely : Prop := fnExactNotConditionRow.holds Try.pinned (OpenSpec.ofChange fnExactNotConditionWrong)

/-- 'laws.FnExactValidProcess': WHATEVER THE INPUT: true; the input reads as it did. -/
def fnExactValidProcessSpec : ChangeSpec := { name := "fnExactValidProcess", fn := fun _ => fun
  | [d] => { results := [.lit (.bool true)], args := [d] }
  | _ => none }
def fnExactValidProcessRow : OpenClaim := { program := "ytakpjhiodmgccab", sum := "75287fb837252e8a3e4fc1b5221f513331dc72cf9507d761c4e6a8dd87fe13d6", func := "loop.example/processengine/laws.FnExactValidProcess", spec := "fnExactValidProcess", unfollowed := true, recurses := true, apart := false }
def FnExactValidProcessSaid : Prop := fnExactValidProcessRow.holds Try.pinned (OpenSpec.ofChange fnExactValidProcessSpec)

/-- ITS FALSE NEIGHBOUR: 'it returns false'. Refute it at one input. -/
def fnExactValidProcessWrong : ChangeSpec := { name := "fnExactValidProcess", fn := fun _ => fun
  | [d] => { results := [.lit (.bool false)], args := [d] }
  | _ => none }
def FnExactValidProcessWrongFalsely : Prop := fnExactValidProcessRow.holds Try.pinned (OpenSpec.ofChange fnExactValidProcessWrong)

/-- 'laws.FnExactFlowsOut': WHATEVER THE INPUT: true; the input reads as it did. -/
def fnExactFlowsOutSpec : ChangeSpec := { name := "fnExactFlowsOut", fn := fun _ => fun
  | [d1, d2] => { results := [.lit (.bool true)], args := [d1, d2] }
  | _ => none }
def fnExactFlowsOutRow : OpenClaim := { program := "ytakpjhiodmgccab", sum := "75287fb837252e8a3e4fc1b5221f513331dc72cf9507d761c4e6a8dd87fe13d6", func := "loop.example/processengine/laws.FnExactFlowsOut", spec := "fnExactFlowsOut", unfollowed := true, recurses := true, apart := false }
def FnExactFlowsOutSaid : Prop := fnExactFlowsOutRow.holds Try.pinned (OpenSpec.ofChange fnExactFlowsOutSpec)

/-- ITS FALSE NEIGHBOUR: 'it returns false'. Refute it at one input. -/
def fnExactFlowsOutWrong : ChangeSpec := { name := "fnExactFlowsOut", fn := fun _ => fun
  | [d1, d2] => { results := [.lit (.bool false)], args := [d1, d2] }
  | _ => none }
def FnExactFlowsOutWrongFalsely : Prop := fnExactFlowsOutRow.holds Try.pinned (OpenSpec.ofChange fnExactFlowsOutWrong)

/-- 'laws.FnExactFlowsIn': WHATEVER THE INPUT: true; the input reads as it did. -/
def fnExactFlowsInSpec : ChangeSpec := { name := "fnExactFlowsIn", fn := fun _ => fun
  | [d1, d2] => { results := [.lit (.bool true)], args := [d1, d2] }
  | _ => none }
def fnExactFlowsInRow : OpenClaim := { program := "ytakpjhiodmgccab", sum := "75287fb837252e8a3e4fc1b5221f513331dc72cf9507d761c4e6a8dd87fe13d6", func := "loop.example/processengine/laws.FnExactFlowsIn", spec := "fnExactFlowsIn", unfollowed := true, recurses := true, apart := false }
def FnExactFlowsInSaid : Prop := fnExactFlowsInRow.holds Try.pinned (OpenSpec.ofChange fnExactFlowsInSpec)

/-- ITS FALSE NEIGHBOUR: 'it returns false'. Refute it at one input. -/
def fnExactFlowsInWrong : ChangeSpec := { name := "fnExactFlowsIn", fn := fun _ => fun
  | [d1, d2] => { results := [.lit (.bool false)], args := [d1, d2] }
  | _ => none }
def FnExactFlowsInWrongFalsely : Prop := fnExactFlowsInRow.holds Try.pinned (OpenSpec.ofChange fnExactFlowsInWrong)

/-- 'laws.FnExactReachable': WHATEVER THE INPUT: true; the input reads as it did. -/
def fnExactReachableSpec : ChangeSpec := { name := "fnExactReachable", fn := fun _ => fun
  | [d] => { results := [.lit (.bool true)], args := [d] }
  | _ => none }
def fnExactReachableRow : OpenClaim := { program := "ytakpjhiodmgccab", sum := "75287fb837252e8a3e4fc1b5221f513331dc72cf9507d761c4e6a8dd87fe13d6", func := "loop.example/processengine/laws.FnExactReachable", spec := "fnExactReachable", unfollowed := true, recurses := true, apart := false }
def FnExactReachableSaid : Prop := fnExactReachableRow.holds Try.pinned (OpenSpec.ofChange fnExactReachableSpec)

/-- ITS FALSE NEIGHBOUR: 'it returns false'. Refute it at one input. -/
def fnExactReachableWrong : ChangeSpec := { name := "fnExactReachable", fn := fun _ => fun
  | [d] => { results := [.lit (.bool false)], args := [d] }
  | _ => none }
def FnExactReachableWrongFalsely : Prop := fnExactReachableRow.holds Try.pinned (OpenSpec.ofChange fnExactReachableWrong)

/- THE SECOND FORM. 'bulk': how many values and letters a reading holds, each counted each time it is reached (what is shared counts as often as it is met; a slice's spare places count too). A statement '..UptoSaid' is the law's where the arguments, and the package variables that the reading takes, are together of bulk at most 1048576: NARROWER than '..Said'. Prove '..Said' where nothing that the law and all that it calls make is longer than what came in: it says more and counts as full. Else prove '..UptoSaid'. A law counts once. -/
mutual
def uptoBulk {H : Type} : DataW H → Nat
  | .lit (.string bytes) => bytes.length + 1
  | .lit _ => 1
  | .nil => 1
  | .ptr d => uptoBulk d + 1
  | .slice elems spare => uptoBulkAll elems + uptoBulkAll spare + 1
  | .agg parts => uptoBulkAll parts + 1
  | .iface _ d => uptoBulk d + 1
  | .map entries => uptoBulkEntries entries + 1
  | .held _ => 1
def uptoBulkAll {H : Type} : List (DataW H) → Nat
  | [] => 0
  | d :: r => uptoBulk d + uptoBulkAll r
def uptoBulkEntries {H : Type} : List (Lit × DataW H) → Nat
  | [] => 0
  | x :: r => uptoBulkEntry x + uptoBulkEntries r
def uptoBulkEntry {H : Type} : Lit × DataW H → Nat
  | (.string bytes, d) => bytes.length + uptoBulk d + 1
  | (_, d) => uptoBulk d + 1
 end
def uptoSmall : (H : Type) → List (DataW H) → Bool := fun _ ds => decide (uptoBulkAll ds ≤ 1048576)
def OpenSpec.upto (s : _root_.Go.ChangeSpec) : _root_.Go.OpenSpec := { _root_.Go.OpenSpec.ofChange s with cond := some uptoSmall }

/-- 'laws.FnFlowsOutIn', WHERE WHAT IT READS IS OF BULK AT MOST 1048576: true; the input reads as it did. -/
def fnFlowsOutInUptoRow : OpenClaim := { program := "ytakpjhiodmgccab", sum := "75287fb837252e8a3e4fc1b5221f513331dc72cf9507d761c4e6a8dd87fe13d6", func := "loop.example/processengine/laws.FnFlowsOutIn", spec := "fnFlowsOutIn", unfollowed := true, recurses := true, apart := false, narrowed := true }
def FnFlowsOutInUptoSaid : Prop := fnFlowsOutInUptoRow.holds Try.pinned (OpenSpec.upto fnFlowsOutInSpec)

/-- 'laws.FnHasCircleLine', WHERE WHAT IT READS IS OF BULK AT MOST 1048576: true; the input reads as it did. -/
def fnHasCircleLineUptoRow : OpenClaim := { program := "ytakpjhiodmgccab", sum := "75287fb837252e8a3e4fc1b5221f513331dc72cf9507d761c4e6a8dd87fe13d6", func := "loop.example/processengine/laws.FnHasCircleLine", spec := "fnHasCircleLine", unfollowed := true, recurses := true, apart := false, narrowed := true }
def FnHasCircleLineUptoSaid : Prop := fnHasCircleLineUptoRow.holds Try.pinned (OpenSpec.upto fnHasCircleLineSpec)

/-- 'laws.FnValidProcessStart', WHERE WHAT IT READS IS OF BULK AT MOST 1048576: true; the input reads as it did. -/
def fnValidProcessStartUptoRow : OpenClaim := { program := "ytakpjhiodmgccab", sum := "75287fb837252e8a3e4fc1b5221f513331dc72cf9507d761c4e6a8dd87fe13d6", func := "loop.example/processengine/laws.FnValidProcessStart", spec := "fnValidProcessStart", unfollowed := true, recurses := true, apart := false, narrowed := true }
def FnValidProcessStartUptoSaid : Prop := fnValidProcessStartUptoRow.holds Try.pinned (OpenSpec.upto fnValidProcessStartSpec)

/-- 'laws.FnUsedVariablesJoin', WHERE WHAT IT READS IS OF BULK AT MOST 1048576: true; the input reads as it did. -/
def fnUsedVariablesJoinUptoRow : OpenClaim := { program := "ytakpjhiodmgccab", sum := "75287fb837252e8a3e4fc1b5221f513331dc72cf9507d761c4e6a8dd87fe13d6", func := "loop.example/processengine/laws.FnUsedVariablesJoin", spec := "fnUsedVariablesJoin", unfollowed := true, recurses := true, apart := false, narrowed := true }
def FnUsedVariablesJoinUptoSaid : Prop := fnUsedVariablesJoinUptoRow.holds Try.pinned (OpenSpec.upto fnUsedVariablesJoinSpec)

/-- 'laws.FnExactValidCondition', WHERE WHAT IT READS IS OF BULK AT MOST 1048576: true; the input reads as it did. -/
def fnExactValidConditionUptoRow : OpenClaim := { program := "ytakpjhiodmgccab", sum := "75287fb837252e8a3e4fc1b5221f513331dc72cf9507d761c4e6a8dd87fe13d6", func := "loop.example/processengine/laws.FnExactValidCondition", spec := "fnExactValidCondition", unfollowed := true, recurses := true, apart := false, narrowed := true }
def FnExactValidConditionUptoSaid : Prop := fnExactValidConditionUptoRow.holds Try.pinned (OpenSpec.upto fnExactValidConditionSpec)

/-- 'laws.FnExactEvalCondition', WHERE WHAT IT READS IS OF BULK AT MOST 1048576: true; the input reads as it did. -/
def fnExactEvalConditionUptoRow : OpenClaim := { program := "ytakpjhiodmgccab", sum := "75287fb837252e8a3e4fc1b5221f513331dc72cf9507d761c4e6a8dd87fe13d6", func := "loop.example/processengine/laws.FnExactEvalCondition", spec := "fnExactEvalCondition", unfollowed := true, recurses := true, apart := false, narrowed := true }
def FnExactEvalConditionUptoSaid : Prop := fnExactEvalConditionUptoRow.holds Try.pinned (OpenSpec.upto fnExactEvalConditionSpec)

/-- 'laws.FnExactUsedVariables', WHERE WHAT IT READS IS OF BULK AT MOST 1048576: true; the input reads as it did. -/
def fnExactUsedVariablesUptoRow : OpenClaim := { program := "ytakpjhiodmgccab", sum := "75287fb837252e8a3e4fc1b5221f513331dc72cf9507d761c4e6a8dd87fe13d6", func := "loop.example/processengine/laws.FnExactUsedVariables", spec := "fnExactUsedVariables", unfollowed := true, recurses := true, apart := false, narrowed := true }
def FnExactUsedVariablesUptoSaid : Prop := fnExactUsedVariablesUptoRow.holds Try.pinned (OpenSpec.upto fnExactUsedVariablesSpec)

/-- 'laws.FnExactNotCondition', WHERE WHAT IT READS IS OF BULK AT MOST 1048576: true; the input reads as it did. -/
def fnExactNotConditionUptoRow : OpenClaim := { program := "ytakpjhiodmgccab", sum := "75287fb837252e8a3e4fc1b5221f513331dc72cf9507d761c4e6a8dd87fe13d6", func := "loop.example/processengine/laws.FnExactNotCondition", spec := "fnExactNotCondition", unfollowed := true, recurses := true, apart := false, narrowed := true }
def FnExactNotConditionUptoSaid : Prop := fnExactNotConditionUptoRow.holds Try.pinned (OpenSpec.upto fnExactNotConditionSpec)

/-- 'laws.FnExactValidProcess', WHERE WHAT IT READS IS OF BULK AT MOST 1048576: true; the input reads as it did. -/
def fnExactValidProcessUptoRow : OpenClaim := { program := "ytakpjhiodmgccab", sum := "75287fb837252e8a3e4fc1b5221f513331dc72cf9507d761c4e6a8dd87fe13d6", func := "loop.example/processengine/laws.FnExactValidProcess", spec := "fnExactValidProcess", unfollowed := true, recurses := true, apart := false, narrowed := true }
def FnExactValidProcessUptoSaid : Prop := fnExactValidProcessUptoRow.holds Try.pinned (OpenSpec.upto fnExactValidProcessSpec)

/-- 'laws.FnExactFlowsOut', WHERE WHAT IT READS IS OF BULK AT MOST 1048576: true; the input reads as it did. -/
def fnExactFlowsOutUptoRow : OpenClaim := { program := "ytakpjhiodmgccab", sum := "75287fb837252e8a3e4fc1b5221f513331dc72cf9507d761c4e6a8dd87fe13d6", func := "loop.example/processengine/laws.FnExactFlowsOut", spec := "fnExactFlowsOut", unfollowed := true, recurses := true, apart := false, narrowed := true }
def FnExactFlowsOutUptoSaid : Prop := fnExactFlowsOutUptoRow.holds Try.pinned (OpenSpec.upto fnExactFlowsOutSpec)

/-- 'laws.FnExactFlowsIn', WHERE WHAT IT READS IS OF BULK AT MOST 1048576: true; the input reads as it did. -/
def fnExactFlowsInUptoRow : OpenClaim := { program := "ytakpjhiodmgccab", sum := "75287fb837252e8a3e4fc1b5221f513331dc72cf9507d761c4e6a8dd87fe13d6", func := "loop.example/processengine/laws.FnExactFlowsIn", spec := "fnExactFlowsIn", unfollowed := true, recurses := true, apart := false, narrowed := true }
def FnExactFlowsInUptoSaid : Prop := fnExactFlowsInUptoRow.holds Try.pinned (OpenSpec.upto fnExactFlowsInSpec)

/-- 'laws.FnExactReachable', WHERE WHAT IT READS IS OF BULK AT MOST 1048576: true; the input reads as it did. -/
def fnExactReachableUptoRow : OpenClaim := { program := "ytakpjhiodmgccab", sum := "75287fb837252e8a3e4fc1b5221f513331dc72cf9507d761c4e6a8dd87fe13d6", func := "loop.example/processengine/laws.FnExactReachable", spec := "fnExactReachable", unfollowed := true, recurses := true, apart := false, narrowed := true }
def FnExactReachableUptoSaid : Prop := fnExactReachableUptoRow.holds Try.pinned (OpenSpec.upto fnExactReachableSpec)

end Rows
end Go.Proofs.Ytakpjhiodmgccab
