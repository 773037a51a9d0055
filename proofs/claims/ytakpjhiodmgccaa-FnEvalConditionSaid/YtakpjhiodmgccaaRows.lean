/-
  No cell of these rows narrows 'for every input' (looked for: loops, veiled, ifaces, maps, wideKeys, modest, calm, conditions, laid).
  DERIVED. THE GIVEN ROWS OF THIS SEAT. 12 by the template 'for every input the law returns true; each argument reads behind the call as it read before'; 0 by the template 'total and deterministic' (their statements: YtakpjhiodmgccaaTotals.lean).
  GIVEN WITH THE SEED: the statements are not yours to turn. If you find one false, say at which input.
  Laid BY PROGRAM, IN A SANDBOX (cutbox-rows.mjs): the forced cells as the released guide's own fill.sh prints them over the translation 6e2d1eb54b8197b0… (all of the seat's roots in one cut). By AI agents, Wed Nov 11 2026. No macro, syntax, notation, axiom, sorry.
-/
import Derived.Test.YtakpjhiodmgccaaChecked
import GoSem.Claim
import GoSem.ClaimJoined
import GoSem.ClaimMapViews
import Derived.JoinedTies
import Derived.KernelRfl
namespace Go.Proofs.Ytakpjhiodmgccaa
/- THE CELL 'sum', in the pinned program and in every row, IS THE sha256 OF THE DUMP (.gsa) THAT YtakpjhiodmgccaaProg.lean LOADS. Nothing in Lean hashes anything: it is a label: what it is worth is what the hold of that sum in a sandbox is worth. -/
noncomputable def Try.pinned : Pinned := { name := "ytakpjhiodmgccaa", sum := "6e2d1eb54b8197b0580ee3a1565661bb8eb3a789d253b57ea8145dd50a3bf5e8", checked := Try.checked }
namespace Rows
def none {H : Type} : Left H := { results := [], args := [] }

/-- 'laws.FnEvalCondition': WHATEVER THE INPUT: true; the input reads as it did. -/
def fnEvalConditionSpec : ChangeSpec := { name := "fnEvalCondition", fn := fun _ => fun
  | [d] => { results := [.lit (.bool true)], args := [d] }
  | _ => none }
def fnEvalConditionRow : OpenClaim := { program := "ytakpjhiodmgccaa", sum := "6e2d1eb54b8197b0580ee3a1565661bb8eb3a789d253b57ea8145dd50a3bf5e8", func := "loop.example/processengine/laws.FnEvalCondition", spec := "fnEvalCondition", unfollowed := true, recurses := true, apart := false }
def FnEvalConditionSaid : Prop := fnEvalConditionRow.holds Try.pinned (OpenSpec.ofChange fnEvalConditionSpec)

/-- ITS FALSE NEIGHBOUR: 'it returns false'. Refute it at one input. -/
def fnEvalConditionWrong : ChangeSpec := { name := "fnEvalCondition", fn := fun _ => fun
  | [d] => { results := [.lit (.bool false)], args := [d] }
  | _ => none }
def FnEvalConditionWrongFalsely : Prop := fnEvalConditionRow.holds Try.pinned (OpenSpec.ofChange fnEvalConditionWrong)

/-- 'laws.FnEvalConditionJoin': WHATEVER THE INPUT: true; the input reads as it did. -/
def fnEvalConditionJoinSpec : ChangeSpec := { name := "fnEvalConditionJoin", fn := fun _ => fun
  | [d] => { results := [.lit (.bool true)], args := [d] }
  | _ => none }
def fnEvalConditionJoinRow : OpenClaim := { program := "ytakpjhiodmgccaa", sum := "6e2d1eb54b8197b0580ee3a1565661bb8eb3a789d253b57ea8145dd50a3bf5e8", func := "loop.example/processengine/laws.FnEvalConditionJoin", spec := "fnEvalConditionJoin", unfollowed := true, recurses := true, apart := false }
def FnEvalConditionJoinSaid : Prop := fnEvalConditionJoinRow.holds Try.pinned (OpenSpec.ofChange fnEvalConditionJoinSpec)

/-- ITS FALSE NEIGHBOUR: 'it returns false'. Refute it at one input. -/
def fnEvalConditionJoinWrong : ChangeSpec := { name := "fnEvalConditionJoin", fn := fun _ => fun
  | [d] => { results := [.lit (.bool false)], args := [d] }
  | _ => none }
def FnEvalConditionJoinWrongFalsely : Prop := fnEvalConditionJoinRow.holds Try.pinned (OpenSpec.ofChange fnEvalConditionJoinWrong)

/-- 'laws.FnUsedVariables': WHATEVER THE INPUT: true; the input reads as it did. -/
def fnUsedVariablesSpec : ChangeSpec := { name := "fnUsedVariables", fn := fun _ => fun
  | [d] => { results := [.lit (.bool true)], args := [d] }
  | _ => none }
def fnUsedVariablesRow : OpenClaim := { program := "ytakpjhiodmgccaa", sum := "6e2d1eb54b8197b0580ee3a1565661bb8eb3a789d253b57ea8145dd50a3bf5e8", func := "loop.example/processengine/laws.FnUsedVariables", spec := "fnUsedVariables", unfollowed := true, recurses := true, apart := false }
def FnUsedVariablesSaid : Prop := fnUsedVariablesRow.holds Try.pinned (OpenSpec.ofChange fnUsedVariablesSpec)

/-- ITS FALSE NEIGHBOUR: 'it returns false'. Refute it at one input. -/
def fnUsedVariablesWrong : ChangeSpec := { name := "fnUsedVariables", fn := fun _ => fun
  | [d] => { results := [.lit (.bool false)], args := [d] }
  | _ => none }
def FnUsedVariablesWrongFalsely : Prop := fnUsedVariablesRow.holds Try.pinned (OpenSpec.ofChange fnUsedVariablesWrong)

/-- 'laws.FnUsedVariablesOrder': WHATEVER THE INPUT: true; the input reads as it did. -/
def fnUsedVariablesOrderSpec : ChangeSpec := { name := "fnUsedVariablesOrder", fn := fun _ => fun
  | [d] => { results := [.lit (.bool true)], args := [d] }
  | _ => none }
def fnUsedVariablesOrderRow : OpenClaim := { program := "ytakpjhiodmgccaa", sum := "6e2d1eb54b8197b0580ee3a1565661bb8eb3a789d253b57ea8145dd50a3bf5e8", func := "loop.example/processengine/laws.FnUsedVariablesOrder", spec := "fnUsedVariablesOrder", unfollowed := true, recurses := true, apart := false }
def FnUsedVariablesOrderSaid : Prop := fnUsedVariablesOrderRow.holds Try.pinned (OpenSpec.ofChange fnUsedVariablesOrderSpec)

/-- ITS FALSE NEIGHBOUR: 'it returns false'. Refute it at one input. -/
def fnUsedVariablesOrderWrong : ChangeSpec := { name := "fnUsedVariablesOrder", fn := fun _ => fun
  | [d] => { results := [.lit (.bool false)], args := [d] }
  | _ => none }
def FnUsedVariablesOrderWrongFalsely : Prop := fnUsedVariablesOrderRow.holds Try.pinned (OpenSpec.ofChange fnUsedVariablesOrderWrong)

/-- 'laws.FnNotCondition': WHATEVER THE INPUT: true; the input reads as it did. -/
def fnNotConditionSpec : ChangeSpec := { name := "fnNotCondition", fn := fun _ => fun
  | [d] => { results := [.lit (.bool true)], args := [d] }
  | _ => none }
def fnNotConditionRow : OpenClaim := { program := "ytakpjhiodmgccaa", sum := "6e2d1eb54b8197b0580ee3a1565661bb8eb3a789d253b57ea8145dd50a3bf5e8", func := "loop.example/processengine/laws.FnNotCondition", spec := "fnNotCondition", unfollowed := true, recurses := true, apart := false }
def FnNotConditionSaid : Prop := fnNotConditionRow.holds Try.pinned (OpenSpec.ofChange fnNotConditionSpec)

/-- ITS FALSE NEIGHBOUR: 'it returns false'. Refute it at one input. -/
def fnNotConditionWrong : ChangeSpec := { name := "fnNotCondition", fn := fun _ => fun
  | [d] => { results := [.lit (.bool false)], args := [d] }
  | _ => none }
def FnNotConditionWrongFalsely : Prop := fnNotConditionRow.holds Try.pinned (OpenSpec.ofChange fnNotConditionWrong)

/-- 'laws.FnValidProcessFlows': WHATEVER THE INPUT: true; the input reads as it did. -/
def fnValidProcessFlowsSpec : ChangeSpec := { name := "fnValidProcessFlows", fn := fun _ => fun
  | [d] => { results := [.lit (.bool true)], args := [d] }
  | _ => none }
def fnValidProcessFlowsRow : OpenClaim := { program := "ytakpjhiodmgccaa", sum := "6e2d1eb54b8197b0580ee3a1565661bb8eb3a789d253b57ea8145dd50a3bf5e8", func := "loop.example/processengine/laws.FnValidProcessFlows", spec := "fnValidProcessFlows", unfollowed := true, recurses := true, apart := false }
def FnValidProcessFlowsSaid : Prop := fnValidProcessFlowsRow.holds Try.pinned (OpenSpec.ofChange fnValidProcessFlowsSpec)

/-- ITS FALSE NEIGHBOUR: 'it returns false'. Refute it at one input. -/
def fnValidProcessFlowsWrong : ChangeSpec := { name := "fnValidProcessFlows", fn := fun _ => fun
  | [d] => { results := [.lit (.bool false)], args := [d] }
  | _ => none }
def FnValidProcessFlowsWrongFalsely : Prop := fnValidProcessFlowsRow.holds Try.pinned (OpenSpec.ofChange fnValidProcessFlowsWrong)

/-- 'laws.FnFlowsOut': WHATEVER THE INPUT: true; the input reads as it did. -/
def fnFlowsOutSpec : ChangeSpec := { name := "fnFlowsOut", fn := fun _ => fun
  | [d] => { results := [.lit (.bool true)], args := [d] }
  | _ => none }
def fnFlowsOutRow : OpenClaim := { program := "ytakpjhiodmgccaa", sum := "6e2d1eb54b8197b0580ee3a1565661bb8eb3a789d253b57ea8145dd50a3bf5e8", func := "loop.example/processengine/laws.FnFlowsOut", spec := "fnFlowsOut", unfollowed := true, recurses := true, apart := false }
def FnFlowsOutSaid : Prop := fnFlowsOutRow.holds Try.pinned (OpenSpec.ofChange fnFlowsOutSpec)

/-- ITS FALSE NEIGHBOUR: 'it returns false'. Refute it at one input. -/
def fnFlowsOutWrong : ChangeSpec := { name := "fnFlowsOut", fn := fun _ => fun
  | [d] => { results := [.lit (.bool false)], args := [d] }
  | _ => none }
def FnFlowsOutWrongFalsely : Prop := fnFlowsOutRow.holds Try.pinned (OpenSpec.ofChange fnFlowsOutWrong)

/-- 'laws.FnFlowsIn': WHATEVER THE INPUT: true; the input reads as it did. -/
def fnFlowsInSpec : ChangeSpec := { name := "fnFlowsIn", fn := fun _ => fun
  | [d] => { results := [.lit (.bool true)], args := [d] }
  | _ => none }
def fnFlowsInRow : OpenClaim := { program := "ytakpjhiodmgccaa", sum := "6e2d1eb54b8197b0580ee3a1565661bb8eb3a789d253b57ea8145dd50a3bf5e8", func := "loop.example/processengine/laws.FnFlowsIn", spec := "fnFlowsIn", unfollowed := true, recurses := true, apart := false }
def FnFlowsInSaid : Prop := fnFlowsInRow.holds Try.pinned (OpenSpec.ofChange fnFlowsInSpec)

/-- ITS FALSE NEIGHBOUR: 'it returns false'. Refute it at one input. -/
def fnFlowsInWrong : ChangeSpec := { name := "fnFlowsIn", fn := fun _ => fun
  | [d] => { results := [.lit (.bool false)], args := [d] }
  | _ => none }
def FnFlowsInWrongFalsely : Prop := fnFlowsInRow.holds Try.pinned (OpenSpec.ofChange fnFlowsInWrong)

/-- 'laws.FnReachable': WHATEVER THE INPUT: true; the input reads as it did. -/
def fnReachableSpec : ChangeSpec := { name := "fnReachable", fn := fun _ => fun
  | [d] => { results := [.lit (.bool true)], args := [d] }
  | _ => none }
def fnReachableRow : OpenClaim := { program := "ytakpjhiodmgccaa", sum := "6e2d1eb54b8197b0580ee3a1565661bb8eb3a789d253b57ea8145dd50a3bf5e8", func := "loop.example/processengine/laws.FnReachable", spec := "fnReachable", unfollowed := true, recurses := true, apart := false }
def FnReachableSaid : Prop := fnReachableRow.holds Try.pinned (OpenSpec.ofChange fnReachableSpec)

/-- ITS FALSE NEIGHBOUR: 'it returns false'. Refute it at one input. -/
def fnReachableWrong : ChangeSpec := { name := "fnReachable", fn := fun _ => fun
  | [d] => { results := [.lit (.bool false)], args := [d] }
  | _ => none }
def FnReachableWrongFalsely : Prop := fnReachableRow.holds Try.pinned (OpenSpec.ofChange fnReachableWrong)

/-- 'laws.FnReachableFrom': WHATEVER THE INPUT: true; the input reads as it did. -/
def fnReachableFromSpec : ChangeSpec := { name := "fnReachableFrom", fn := fun _ => fun
  | [d] => { results := [.lit (.bool true)], args := [d] }
  | _ => none }
def fnReachableFromRow : OpenClaim := { program := "ytakpjhiodmgccaa", sum := "6e2d1eb54b8197b0580ee3a1565661bb8eb3a789d253b57ea8145dd50a3bf5e8", func := "loop.example/processengine/laws.FnReachableFrom", spec := "fnReachableFrom", unfollowed := true, recurses := true, apart := false }
def FnReachableFromSaid : Prop := fnReachableFromRow.holds Try.pinned (OpenSpec.ofChange fnReachableFromSpec)

/-- ITS FALSE NEIGHBOUR: 'it returns false'. Refute it at one input. -/
def fnReachableFromWrong : ChangeSpec := { name := "fnReachableFrom", fn := fun _ => fun
  | [d] => { results := [.lit (.bool false)], args := [d] }
  | _ => none }
def FnReachableFromWrongFalsely : Prop := fnReachableFromRow.holds Try.pinned (OpenSpec.ofChange fnReachableFromWrong)

/-- 'laws.FnNotConditionTwice': WHATEVER THE INPUT: true; the input reads as it did. -/
def fnNotConditionTwiceSpec : ChangeSpec := { name := "fnNotConditionTwice", fn := fun _ => fun
  | [d] => { results := [.lit (.bool true)], args := [d] }
  | _ => none }
def fnNotConditionTwiceRow : OpenClaim := { program := "ytakpjhiodmgccaa", sum := "6e2d1eb54b8197b0580ee3a1565661bb8eb3a789d253b57ea8145dd50a3bf5e8", func := "loop.example/processengine/laws.FnNotConditionTwice", spec := "fnNotConditionTwice", unfollowed := true, recurses := true, apart := false }
def FnNotConditionTwiceSaid : Prop := fnNotConditionTwiceRow.holds Try.pinned (OpenSpec.ofChange fnNotConditionTwiceSpec)

/-- ITS FALSE NEIGHBOUR: 'it returns false'. Refute it at one input. -/
def fnNotConditionTwiceWrong : ChangeSpec := { name := "fnNotConditionTwice", fn := fun _ => fun
  | [d] => { results := [.lit (.bool false)], args := [d] }
  | _ => none }
def FnNotConditionTwiceWrongFalsely : Prop := fnNotConditionTwiceRow.holds Try.pinned (OpenSpec.ofChange fnNotConditionTwiceWrong)

/-- 'laws.FnEvalConditionAnd': WHATEVER THE INPUT: true; the input reads as it did. -/
def fnEvalConditionAndSpec : ChangeSpec := { name := "fnEvalConditionAnd", fn := fun _ => fun
  | [d] => { results := [.lit (.bool true)], args := [d] }
  | _ => none }
def fnEvalConditionAndRow : OpenClaim := { program := "ytakpjhiodmgccaa", sum := "6e2d1eb54b8197b0580ee3a1565661bb8eb3a789d253b57ea8145dd50a3bf5e8", func := "loop.example/processengine/laws.FnEvalConditionAnd", spec := "fnEvalConditionAnd", unfollowed := true, recurses := true, apart := false }
def FnEvalConditionAndSaid : Prop := fnEvalConditionAndRow.holds Try.pinned (OpenSpec.ofChange fnEvalConditionAndSpec)

/-- ITS FALSE NEIGHBOUR: 'it returns false'. Refute it at one input. -/
def fnEvalConditionAndWrong : ChangeSpec := { name := "fnEvalConditionAnd", fn := fun _ => fun
  | [d] => { results := [.lit (.bool false)], args := [d] }
  | _ => none }
def FnEvalConditionAndWrongFalsely : Prop := fnEvalConditionAndRow.holds Try.pinned (OpenSpec.ofChange fnEvalConditionAndWrong)

/- THE SECOND FORM. 'bulk': how many values and letters a reading holds, each counted each time it is reached (what is shared counts as often as it is met; a slice's spare places count too). A statement '..UptoSaid' is the law's where the arguments, and the package variables that the reading takes, are together of bulk at most 1048576: NARROWER than '..Said'. Prove '..Said' where nothing that the law and all that it calls make is longer than what came in: it says more and counts as full. Else prove '..UptoSaid'. A law counts once. -/
mutual
def uptoBulk {H : Type} : DataW H → Nat
  | .lit (.string bytes) => bytes.length + 1
  | .lit _ => 1
  | .nil => 1
  | .ptr d => uptoBulk d + 1
  | .slice elems spare => uptoBulkAll elems + uptoBulkAll spare + 1
  | .agg parts => uptoBulkAll parts + 1
  | .iface _ d => uptoBulk d + 1
  | .map entries => uptoBulkEntries entries + 1
  | .held _ => 1
def uptoBulkAll {H : Type} : List (DataW H) → Nat
  | [] => 0
  | d :: r => uptoBulk d + uptoBulkAll r
def uptoBulkEntries {H : Type} : List (Lit × DataW H) → Nat
  | [] => 0
  | x :: r => uptoBulkEntry x + uptoBulkEntries r
def uptoBulkEntry {H : Type} : Lit × DataW H → Nat
  | (.string bytes, d) => bytes.length + uptoBulk d + 1
  | (_, d) => uptoBulk d + 1
 end
def uptoSmall : (H : Type) → List (DataW H) → Bool := fun _ ds => decide (uptoBulkAll ds ≤ 1048576)
def OpenSpec.upto (s : _root_.Go.ChangeSpec) : _root_.Go.OpenSpec := { _root_.Go.OpenSpec.ofChange s with cond := some uptoSmall }

/-- 'laws.FnEvalCondition', WHERE WHAT IT READS IS OF BULK AT MOST 1048576: true; the input reads as it did. -/
def fnEvalConditionUptoRow : OpenClaim := { program := "ytakpjhiodmgccaa", sum := "6e2d1eb54b8197b0580ee3a1565661bb8eb3a789d253b57ea8145dd50a3bf5e8", func := "loop.example/processengine/laws.FnEvalCondition", spec := "fnEvalCondition", unfollowed := true, recurses := true, apart := false, narrowed := true }
def FnEvalConditionUptoSaid : Prop := fnEvalConditionUptoRow.holds Try.pinned (OpenSpec.upto fnEvalConditionSpec)

/-- 'laws.FnEvalConditionJoin', WHERE WHAT IT READS IS OF BULK AT MOST 1048576: true; the input reads as it did. -/
def fnEvalConditionJoinUptoRow : OpenClaim := { program := "ytakpjhiodmgccaa", sum := "6e2d1eb54b8197b0580ee3a1565661bb8eb3a789d253b57ea8145dd50a3bf5e8", func := "loop.example/processengine/laws.FnEvalConditionJoin", spec := "fnEvalConditionJoin", unfollowed := true, recurses := true, apart := false, narrowed := true }
def FnEvalConditionJoinUptoSaid : Prop := fnEvalConditionJoinUptoRow.holds Try.pinned (OpenSpec.upto fnEvalConditionJoinSpec)

/-- 'laws.FnUsedVariables', WHERE WHAT IT READS IS OF BULK AT MOST 1048576: true; the input reads as it did. -/
def fnUsedVariablesUptoRow : OpenClaim := { program := "ytakpjhiodmgccaa", sum := "6e2d1eb54b8197b0580ee3a1565661bb8eb3a789d253b57ea8145dd50a3bf5e8", func := "loop.example/processengine/laws.FnUsedVariables", spec := "fnUsedVariables", unfollowed := true, recurses := true, apart := false, narrowed := true }
def FnUsedVariablesUptoSaid : Prop := fnUsedVariablesUptoRow.holds Try.pinned (OpenSpec.upto fnUsedVariablesSpec)

/-- 'laws.FnUsedVariablesOrder', WHERE WHAT IT READS IS OF BULK AT MOST 1048576: true; the input reads as it did. -/
def fnUsedVariablesOrderUptoRow : OpenClaim := { program := "ytakpjhiodmgccaa", sum := "6e2d1eb54b8197b0580ee3a1565661bb8eb3a789d253b57ea8145dd50a3bf5e8", func := "loop.example/processengine/laws.FnUsedVariablesOrder", spec := "fnUsedVariablesOrder", unfollowed := true, recurses := true, apart := false, narrowed := true }
def FnUsedVariablesOrderUptoSaid : Prop := fnUsedVariablesOrderUptoRow.holds Try.pinned (OpenSpec.upto fnUsedVariablesOrderSpec)

/-- 'laws.FnNotCondition', WHERE WHAT IT READS IS OF BULK AT MOST 1048576: true; the input reads as it did. -/
def fnNotConditionUptoRow : OpenClaim := { program := "ytakpjhiodmgccaa", sum := "6e2d1eb54b8197b0580ee3a1565661bb8eb3a789d253b57ea8145dd50a3bf5e8", func := "loop.example/processengine/laws.FnNotCondition", spec := "fnNotCondition", unfollowed := true, recurses := true, apart := false, narrowed := true }
def FnNotConditionUptoSaid : Prop := fnNotConditionUptoRow.holds Try.pinned (OpenSpec.upto fnNotConditionSpec)

/-- 'laws.FnValidProcessFlows', WHERE WHAT IT READS IS OF BULK AT MOST 1048576: true; the input reads as it did. -/
def fnValidProcessFlowsUptoRow : OpenClaim := { program := "ytakpjhiodmgccaa", sum := "6e2d1eb54b8197b0580ee3a1565661bb8eb3a789d253b57ea8145dd50a3bf5e8", func := "loop.example/processengine/laws.FnValidProcessFlows", spec := "fnValidProcessFlows", unfollowed := true, recurses := true, apart := false, narrowed := true }
def FnValidProcessFlowsUptoSaid : Prop := fnValidProcessFlowsUptoRow.holds Try.pinned (OpenSpec.upto fnValidProcessFlowsSpec)

/-- 'laws.FnFlowsOut', WHERE WHAT IT READS IS OF BULK AT MOST 1048576: true; the input reads as it did. -/
def fnFlowsOutUptoRow : OpenClaim := { program := "ytakpjhiodmgccaa", sum := "6e2d1eb54b8197b0580ee3a1565661bb8eb3a789d253b57ea8145dd50a3bf5e8", func := "loop.example/processengine/laws.FnFlowsOut", spec := "fnFlowsOut", unfollowed := true, recurses := true, apart := false, narrowed := true }
def FnFlowsOutUptoSaid : Prop := fnFlowsOutUptoRow.holds Try.pinned (OpenSpec.upto fnFlowsOutSpec)

/-- 'laws.FnFlowsIn', WHERE WHAT IT READS IS OF BULK AT MOST 1048576: true; the input reads as it did. -/
def fnFlowsInUptoRow : OpenClaim := { program := "ytakpjhiodmgccaa", sum := "6e2d1eb54b8197b0580ee3a1565661bb8eb3a789d253b57ea8145dd50a3bf5e8", func := "loop.example/processengine/laws.FnFlowsIn", spec := "fnFlowsIn", unfollowed := true, recurses := true, apart := false, narrowed := true }
def FnFlowsInUptoSaid : Prop := fnFlowsInUptoRow.holds Try.pinned (OpenSpec.upto fnFlowsInSpec)

/-- 'laws.FnReachable', WHERE WHAT IT READS IS OF BULK AT MOST 1048576: true; the input reads as it did. -/
def fnReachableUptoRow : OpenClaim := { program := "ytakpjhiodmgccaa", sum := "6e2d1eb54b8197b0580ee3a1565661bb8eb3a789d253b57ea8145dd50a3bf5e8", func := "loop.example/processengine/laws.FnReachable", spec := "fnReachable", unfollowed := true, recurses := true, apart := false, narrowed := true }
def FnReachableUptoSaid : Prop := fnReachableUptoRow.holds Try.pinned (OpenSpec.upto fnReachableSpec)

/-- 'laws.FnReachableFrom', WHERE WHAT IT READS IS OF BULK AT MOST 1048576: true; the input reads as it did. -/
def fnReachableFromUptoRow : OpenClaim := { program := "ytakpjhiodmgccaa", sum := "6e2d1eb54b8197b0580ee3a1565661bb8eb3a789d253b57ea8145dd50a3bf5e8", func := "loop.example/processengine/laws.FnReachableFrom", spec := "fnReachableFrom", unfollowed := true, recurses := true, apart := false, narrowed := true }
def FnReachableFromUptoSaid : Prop := fnReachableFromUptoRow.holds Try.pinned (OpenSpec.upto fnReachableFromSpec)

/-- 'laws.FnNotConditionTwice', WHERE WHAT IT READS IS OF BULK AT MOST 1048576: true; the input reads as it did. -/
def fnNotConditionTwiceUptoRow : OpenClaim := { program := "ytakpjhiodmgccaa", sum := "6e2d1eb54b8197b0580ee3a1565661bb8eb3a789d253b57ea8145dd50a3bf5e8", func := "loop.example/processengine/laws.FnNotConditionTwice", spec := "fnNotConditionTwice", unfollowed := true, recurses := true, apart := false, narrowed := true }
def FnNotConditionTwiceUptoSaid : Prop := fnNotConditionTwiceUptoRow.holds Try.pinned (OpenSpec.upto fnNotConditionTwiceSpec)

/-- 'laws.FnEvalConditionAnd', WHERE WHAT IT READS IS OF BULK AT MOST 1048576: true; the input reads as it did. -/
def fnEvalConditionAndUptoRow : OpenClaim := { program := "ytakpjhiodmgccaa", sum := "6e2d1eb54b8197b0580ee3a1565661bb8eb3a789d253b57ea8145dd50a3bf5e8", func := "loop.example/processengine/laws.FnEvalConditionAnd", spec := "fnEvalConditionAnd", unfollowed := true, recurses := true, apart := false, narrowed := true }
def FnEvalConditionAndUptoSaid : Prop := fnEvalConditionAndUptoRow.holds Try.pinned (OpenSpec.upto fnEvalConditionAndSpec)

end Rows
end Go.Proofs.Ytakpjhiodmgccaa
