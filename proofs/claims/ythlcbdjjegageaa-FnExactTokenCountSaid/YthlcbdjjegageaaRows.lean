/-
  No cell of these rows narrows 'for every input' (looked for: loops, veiled, ifaces, maps, wideKeys, modest, calm, conditions, laid).
  DERIVED. THE GIVEN ROWS OF THIS SEAT. 12 by the template 'for every input the law returns true; each argument reads behind the call as it read before'; 0 by the template 'total and deterministic' (their statements: YthlcbdjjegageaaTotals.lean).
  GIVEN WITH THE SEED: the statements are not yours to turn. If you find one false, say at which input.
  Laid BY PROGRAM, IN A SANDBOX (cutbox-rows.mjs): the forced cells as the released guide's own fill.sh prints them over the translation ff44f60da0b915a3… (all of the seat's roots in one cut). By AI agents, Wed Nov 11 2026. No macro, syntax, notation, axiom, sorry.
-/
import Derived.Test.YthlcbdjjegageaaChecked
import GoSem.Claim
import GoSem.ClaimJoined
import GoSem.ClaimMapViews
import Derived.JoinedTies
import Derived.KernelRfl
namespace Go.Proofs.Ythlcbdjjegageaa
/- THE CELL 'sum', in the pinned program and in every row, IS THE sha256 OF THE DUMP (.gsa) THAT YthlcbdjjegageaaProg.lean LOADS. Nothing in Lean hashes anything: it is a label: what it is worth is what the hold of that sum in a sandbox is worth. -/
noncomputable def Try.pinned : Pinned := { name := "ythlcbdjjegageaa", sum := "ff44f60da0b915a37b8f6d1678ed9f1f2e641c3a32168e9c5a6cd8b0665dbab1", checked := Try.checked }
namespace Rows
def none {H : Type} : Left H := { results := [], args := [] }

/-- 'laws.FnValidProcessFlows': WHATEVER THE INPUT: true; the input reads as it did. -/
def fnValidProcessFlowsSpec : ChangeSpec := { name := "fnValidProcessFlows", fn := fun _ => fun
  | [d] => { results := [.lit (.bool true)], args := [d] }
  | _ => none }
def fnValidProcessFlowsRow : OpenClaim := { program := "ythlcbdjjegageaa", sum := "ff44f60da0b915a37b8f6d1678ed9f1f2e641c3a32168e9c5a6cd8b0665dbab1", func := "loop.example/processengine/laws.FnValidProcessFlows", spec := "fnValidProcessFlows", unfollowed := true, recurses := true, apart := false }
def FnValidProcessFlowsSaid : Prop := fnValidProcessFlowsRow.holds Try.pinned (OpenSpec.ofChange fnValidProcessFlowsSpec)

/-- ITS FALSE NEIGHBOUR: 'it returns false'. Refute it at one input. -/
def fnValidProcessFlowsWrong : ChangeSpec := { name := "fnValidProcessFlows", fn := fun _ => fun
  | [d] => { results := [.lit (.bool false)], args := [d] }
  | _ => none }
def FnValidProcessFlowsWrongFalsely : Prop := fnValidProcessFlowsRow.holds Try.pinned (OpenSpec.ofChange fnValidProcessFlowsWrong)

/-- 'laws.FnFlowsOut': WHATEVER THE INPUT: true; the input reads as it did. -/
def fnFlowsOutSpec : ChangeSpec := { name := "fnFlowsOut", fn := fun _ => fun
  | [d] => { results := [.lit (.bool true)], args := [d] }
  | _ => none }
def fnFlowsOutRow : OpenClaim := { program := "ythlcbdjjegageaa", sum := "ff44f60da0b915a37b8f6d1678ed9f1f2e641c3a32168e9c5a6cd8b0665dbab1", func := "loop.example/processengine/laws.FnFlowsOut", spec := "fnFlowsOut", unfollowed := true, recurses := true, apart := false }
def FnFlowsOutSaid : Prop := fnFlowsOutRow.holds Try.pinned (OpenSpec.ofChange fnFlowsOutSpec)

/-- ITS FALSE NEIGHBOUR: 'it returns false'. Refute it at one input. -/
def fnFlowsOutWrong : ChangeSpec := { name := "fnFlowsOut", fn := fun _ => fun
  | [d] => { results := [.lit (.bool false)], args := [d] }
  | _ => none }
def FnFlowsOutWrongFalsely : Prop := fnFlowsOutRow.holds Try.pinned (OpenSpec.ofChange fnFlowsOutWrong)

/-- 'laws.FnFlowsIn': WHATEVER THE INPUT: true; the input reads as it did. -/
def fnFlowsInSpec : ChangeSpec := { name := "fnFlowsIn", fn := fun _ => fun
  | [d] => { results := [.lit (.bool true)], args := [d] }
  | _ => none }
def fnFlowsInRow : OpenClaim := { program := "ythlcbdjjegageaa", sum := "ff44f60da0b915a37b8f6d1678ed9f1f2e641c3a32168e9c5a6cd8b0665dbab1", func := "loop.example/processengine/laws.FnFlowsIn", spec := "fnFlowsIn", unfollowed := true, recurses := true, apart := false }
def FnFlowsInSaid : Prop := fnFlowsInRow.holds Try.pinned (OpenSpec.ofChange fnFlowsInSpec)

/-- ITS FALSE NEIGHBOUR: 'it returns false'. Refute it at one input. -/
def fnFlowsInWrong : ChangeSpec := { name := "fnFlowsIn", fn := fun _ => fun
  | [d] => { results := [.lit (.bool false)], args := [d] }
  | _ => none }
def FnFlowsInWrongFalsely : Prop := fnFlowsInRow.holds Try.pinned (OpenSpec.ofChange fnFlowsInWrong)

/-- 'laws.FnReachable': WHATEVER THE INPUT: true; the input reads as it did. -/
def fnReachableSpec : ChangeSpec := { name := "fnReachable", fn := fun _ => fun
  | [d] => { results := [.lit (.bool true)], args := [d] }
  | _ => none }
def fnReachableRow : OpenClaim := { program := "ythlcbdjjegageaa", sum := "ff44f60da0b915a37b8f6d1678ed9f1f2e641c3a32168e9c5a6cd8b0665dbab1", func := "loop.example/processengine/laws.FnReachable", spec := "fnReachable", unfollowed := true, recurses := true, apart := false }
def FnReachableSaid : Prop := fnReachableRow.holds Try.pinned (OpenSpec.ofChange fnReachableSpec)

/-- ITS FALSE NEIGHBOUR: 'it returns false'. Refute it at one input. -/
def fnReachableWrong : ChangeSpec := { name := "fnReachable", fn := fun _ => fun
  | [d] => { results := [.lit (.bool false)], args := [d] }
  | _ => none }
def FnReachableWrongFalsely : Prop := fnReachableRow.holds Try.pinned (OpenSpec.ofChange fnReachableWrong)

/-- 'laws.FnReachableFrom': WHATEVER THE INPUT: true; the input reads as it did. -/
def fnReachableFromSpec : ChangeSpec := { name := "fnReachableFrom", fn := fun _ => fun
  | [d] => { results := [.lit (.bool true)], args := [d] }
  | _ => none }
def fnReachableFromRow : OpenClaim := { program := "ythlcbdjjegageaa", sum := "ff44f60da0b915a37b8f6d1678ed9f1f2e641c3a32168e9c5a6cd8b0665dbab1", func := "loop.example/processengine/laws.FnReachableFrom", spec := "fnReachableFrom", unfollowed := true, recurses := true, apart := false }
def FnReachableFromSaid : Prop := fnReachableFromRow.holds Try.pinned (OpenSpec.ofChange fnReachableFromSpec)

/-- ITS FALSE NEIGHBOUR: 'it returns false'. Refute it at one input. -/
def fnReachableFromWrong : ChangeSpec := { name := "fnReachableFrom", fn := fun _ => fun
  | [d] => { results := [.lit (.bool false)], args := [d] }
  | _ => none }
def FnReachableFromWrongFalsely : Prop := fnReachableFromRow.holds Try.pinned (OpenSpec.ofChange fnReachableFromWrong)

/-- 'laws.FnFlowsOutIn': WHATEVER THE INPUT: true; the input reads as it did. -/
def fnFlowsOutInSpec : ChangeSpec := { name := "fnFlowsOutIn", fn := fun _ => fun
  | [d] => { results := [.lit (.bool true)], args := [d] }
  | _ => none }
def fnFlowsOutInRow : OpenClaim := { program := "ythlcbdjjegageaa", sum := "ff44f60da0b915a37b8f6d1678ed9f1f2e641c3a32168e9c5a6cd8b0665dbab1", func := "loop.example/processengine/laws.FnFlowsOutIn", spec := "fnFlowsOutIn", unfollowed := true, recurses := true, apart := false }
def FnFlowsOutInSaid : Prop := fnFlowsOutInRow.holds Try.pinned (OpenSpec.ofChange fnFlowsOutInSpec)

/-- ITS FALSE NEIGHBOUR: 'it returns false'. Refute it at one input. -/
def fnFlowsOutInWrong : ChangeSpec := { name := "fnFlowsOutIn", fn := fun _ => fun
  | [d] => { results := [.lit (.bool false)], args := [d] }
  | _ => none }
def FnFlowsOutInWrongFalsely : Prop := fnFlowsOutInRow.holds Try.pinned (OpenSpec.ofChange fnFlowsOutInWrong)

/-- 'laws.FnHasCircleLine': WHATEVER THE INPUT: true; the input reads as it did. -/
def fnHasCircleLineSpec : ChangeSpec := { name := "fnHasCircleLine", fn := fun _ => fun
  | [d] => { results := [.lit (.bool true)], args := [d] }
  | _ => none }
def fnHasCircleLineRow : OpenClaim := { program := "ythlcbdjjegageaa", sum := "ff44f60da0b915a37b8f6d1678ed9f1f2e641c3a32168e9c5a6cd8b0665dbab1", func := "loop.example/processengine/laws.FnHasCircleLine", spec := "fnHasCircleLine", unfollowed := true, recurses := true, apart := false }
def FnHasCircleLineSaid : Prop := fnHasCircleLineRow.holds Try.pinned (OpenSpec.ofChange fnHasCircleLineSpec)

/-- ITS FALSE NEIGHBOUR: 'it returns false'. Refute it at one input. -/
def fnHasCircleLineWrong : ChangeSpec := { name := "fnHasCircleLine", fn := fun _ => fun
  | [d] => { results := [.lit (.bool false)], args := [d] }
  | _ => none }
def FnHasCircleLineWrongFalsely : Prop := fnHasCircleLineRow.holds Try.pinned (OpenSpec.ofChange fnHasCircleLineWrong)

/-- 'laws.FnValidProcessStart': WHATEVER THE INPUT: true; the input reads as it did. -/
def fnValidProcessStartSpec : ChangeSpec := { name := "fnValidProcessStart", fn := fun _ => fun
  | [d] => { results := [.lit (.bool true)], args := [d] }
  | _ => none }
def fnValidProcessStartRow : OpenClaim := { program := "ythlcbdjjegageaa", sum := "ff44f60da0b915a37b8f6d1678ed9f1f2e641c3a32168e9c5a6cd8b0665dbab1", func := "loop.example/processengine/laws.FnValidProcessStart", spec := "fnValidProcessStart", unfollowed := true, recurses := true, apart := false }
def FnValidProcessStartSaid : Prop := fnValidProcessStartRow.holds Try.pinned (OpenSpec.ofChange fnValidProcessStartSpec)

/-- ITS FALSE NEIGHBOUR: 'it returns false'. Refute it at one input. -/
def fnValidProcessStartWrong : ChangeSpec := { name := "fnValidProcessStart", fn := fun _ => fun
  | [d] => { results := [.lit (.bool false)], args := [d] }
  | _ => none }
def FnValidProcessStartWrongFalsely : Prop := fnValidProcessStartRow.holds Try.pinned (OpenSpec.ofChange fnValidProcessStartWrong)

/-- 'laws.FnExactFirstMarks': WHATEVER THE INPUT: true; the input reads as it did. -/
def fnExactFirstMarksSpec : ChangeSpec := { name := "fnExactFirstMarks", fn := fun _ => fun
  | [d] => { results := [.lit (.bool true)], args := [d] }
  | _ => none }
def fnExactFirstMarksRow : OpenClaim := { program := "ythlcbdjjegageaa", sum := "ff44f60da0b915a37b8f6d1678ed9f1f2e641c3a32168e9c5a6cd8b0665dbab1", func := "loop.example/processengine/laws.FnExactFirstMarks", spec := "fnExactFirstMarks", unfollowed := true, recurses := true, apart := false }
def FnExactFirstMarksSaid : Prop := fnExactFirstMarksRow.holds Try.pinned (OpenSpec.ofChange fnExactFirstMarksSpec)

/-- ITS FALSE NEIGHBOUR: 'it returns false'. Refute it at one input. -/
def fnExactFirstMarksWrong : ChangeSpec := { name := "fnExactFirstMarks", fn := fun _ => fun
  | [d] => { results := [.lit (.bool false)], args := [d] }
  | _ => none }
def FnExactFirstMarksWrongFalsely : Prop := fnExactFirstMarksRow.holds Try.pinned (OpenSpec.ofChange fnExactFirstMarksWrong)

/-- 'laws.FnExactReadyNodes': WHATEVER THE INPUT: true; the input reads as it did. -/
def fnExactReadyNodesSpec : ChangeSpec := { name := "fnExactReadyNodes", fn := fun _ => fun
  | [d1, d2] => { results := [.lit (.bool true)], args := [d1, d2] }
  | _ => none }
def fnExactReadyNodesRow : OpenClaim := { program := "ythlcbdjjegageaa", sum := "ff44f60da0b915a37b8f6d1678ed9f1f2e641c3a32168e9c5a6cd8b0665dbab1", func := "loop.example/processengine/laws.FnExactReadyNodes", spec := "fnExactReadyNodes", unfollowed := true, recurses := true, apart := false }
def FnExactReadyNodesSaid : Prop := fnExactReadyNodesRow.holds Try.pinned (OpenSpec.ofChange fnExactReadyNodesSpec)

/-- ITS FALSE NEIGHBOUR: 'it returns false'. Refute it at one input. -/
def fnExactReadyNodesWrong : ChangeSpec := { name := "fnExactReadyNodes", fn := fun _ => fun
  | [d1, d2] => { results := [.lit (.bool false)], args := [d1, d2] }
  | _ => none }
def FnExactReadyNodesWrongFalsely : Prop := fnExactReadyNodesRow.holds Try.pinned (OpenSpec.ofChange fnExactReadyNodesWrong)

/-- 'laws.FnExactChooseFlow': WHATEVER THE INPUT: true; the input reads as it did. -/
def fnExactChooseFlowSpec : ChangeSpec := { name := "fnExactChooseFlow", fn := fun _ => fun
  | [d1, d2, d3] => { results := [.lit (.bool true)], args := [d1, d2, d3] }
  | _ => none }
def fnExactChooseFlowRow : OpenClaim := { program := "ythlcbdjjegageaa", sum := "ff44f60da0b915a37b8f6d1678ed9f1f2e641c3a32168e9c5a6cd8b0665dbab1", func := "loop.example/processengine/laws.FnExactChooseFlow", spec := "fnExactChooseFlow", unfollowed := true, recurses := true, apart := false }
def FnExactChooseFlowSaid : Prop := fnExactChooseFlowRow.holds Try.pinned (OpenSpec.ofChange fnExactChooseFlowSpec)

/-- ITS FALSE NEIGHBOUR: 'it returns false'. Refute it at one input. -/
def fnExactChooseFlowWrong : ChangeSpec := { name := "fnExactChooseFlow", fn := fun _ => fun
  | [d1, d2, d3] => { results := [.lit (.bool false)], args := [d1, d2, d3] }
  | _ => none }
def FnExactChooseFlowWrongFalsely : Prop := fnExactChooseFlowRow.holds Try.pinned (OpenSpec.ofChange fnExactChooseFlowWrong)

/-- 'laws.FnExactTokenCount': WHATEVER THE INPUT: true; the input reads as it did. -/
def fnExactTokenCountSpec : ChangeSpec := { name := "fnExactTokenCount", fn := fun _ => fun
  | [d1, d2] => { results := [.lit (.bool true)], args := [d1, d2] }
  | _ => none }
def fnExactTokenCountRow : OpenClaim := { program := "ythlcbdjjegageaa", sum := "ff44f60da0b915a37b8f6d1678ed9f1f2e641c3a32168e9c5a6cd8b0665dbab1", func := "loop.example/processengine/laws.FnExactTokenCount", spec := "fnExactTokenCount", unfollowed := true, recurses := true, apart := false }
def FnExactTokenCountSaid : Prop := fnExactTokenCountRow.holds Try.pinned (OpenSpec.ofChange fnExactTokenCountSpec)

/-- ITS FALSE NEIGHBOUR: 'it returns false'. Refute it at one input. -/
def fnExactTokenCountWrong : ChangeSpec := { name := "fnExactTokenCount", fn := fun _ => fun
  | [d1, d2] => { results := [.lit (.bool false)], args := [d1, d2] }
  | _ => none }
def FnExactTokenCountWrongFalsely : Prop := fnExactTokenCountRow.holds Try.pinned (OpenSpec.ofChange fnExactTokenCountWrong)

/- THE SECOND FORM. 'bulk': how many values and letters a reading holds, each counted each time it is reached (what is shared counts as often as it is met; a slice's spare places count too). A statement '..UptoSaid' is the law's where the arguments, and the package variables that the reading takes, are together of bulk at most 1048576: NARROWER than '..Said'. Prove '..Said' where nothing that the law and all that it calls make is longer than what came in: it says more and counts as full. Else prove '..UptoSaid'. A law counts once. -/
mutual
def uptoBulk {H : Type} : DataW H → Nat
  | .lit (.string bytes) => bytes.length + 1
  | .lit _ => 1
  | .nil => 1
  | .ptr d => uptoBulk d + 1
  | .slice elems spare => uptoBulkAll elems + uptoBulkAll spare + 1
  | .agg parts => uptoBulkAll parts + 1
  | .iface _ d => uptoBulk d + 1
  | .map entries => uptoBulkEntries entries + 1
  | .held _ => 1
def uptoBulkAll {H : Type} : List (DataW H) → Nat
  | [] => 0
  | d :: r => uptoBulk d + uptoBulkAll r
def uptoBulkEntries {H : Type} : List (Lit × DataW H) → Nat
  | [] => 0
  | x :: r => uptoBulkEntry x + uptoBulkEntries r
def uptoBulkEntry {H : Type} : Lit × DataW H → Nat
  | (.string bytes, d) => bytes.length + uptoBulk d + 1
  | (_, d) => uptoBulk d + 1
 end
def uptoSmall : (H : Type) → List (DataW H) → Bool := fun _ ds => decide (uptoBulkAll ds ≤ 1048576)
def OpenSpec.upto (s : _root_.Go.ChangeSpec) : _root_.Go.OpenSpec := { _root_.Go.OpenSpec.ofChange s with cond := some uptoSmall }

/-- 'laws.FnValidProcessFlows', WHERE WHAT IT READS IS OF BULK AT MOST 1048576: true; the input reads as it did. -/
def fnValidProcessFlowsUptoRow : OpenClaim := { program := "ythlcbdjjegageaa", sum := "ff44f60da0b915a37b8f6d1678ed9f1f2e641c3a32168e9c5a6cd8b0665dbab1", func := "loop.example/processengine/laws.FnValidProcessFlows", spec := "fnValidProcessFlows", unfollowed := true, recurses := true, apart := false, narrowed := true }
def FnValidProcessFlowsUptoSaid : Prop := fnValidProcessFlowsUptoRow.holds Try.pinned (OpenSpec.upto fnValidProcessFlowsSpec)

/-- 'laws.FnFlowsOut', WHERE WHAT IT READS IS OF BULK AT MOST 1048576: true; the input reads as it did. -/
def fnFlowsOutUptoRow : OpenClaim := { program := "ythlcbdjjegageaa", sum := "ff44f60da0b915a37b8f6d1678ed9f1f2e641c3a32168e9c5a6cd8b0665dbab1", func := "loop.example/processengine/laws.FnFlowsOut", spec := "fnFlowsOut", unfollowed := true, recurses := true, apart := false, narrowed := true }
def FnFlowsOutUptoSaid : Prop := fnFlowsOutUptoRow.holds Try.pinned (OpenSpec.upto fnFlowsOutSpec)

/-- 'laws.FnFlowsIn', WHERE WHAT IT READS IS OF BULK AT MOST 1048576: true; the input reads as it did. -/
def fnFlowsInUptoRow : OpenClaim := { program := "ythlcbdjjegageaa", sum := "ff44f60da0b915a37b8f6d1678ed9f1f2e641c3a32168e9c5a6cd8b0665dbab1", func := "loop.example/processengine/laws.FnFlowsIn", spec := "fnFlowsIn", unfollowed := true, recurses := true, apart := false, narrowed := true }
def FnFlowsInUptoSaid : Prop := fnFlowsInUptoRow.holds Try.pinned (OpenSpec.upto fnFlowsInSpec)

/-- 'laws.FnReachable', WHERE WHAT IT READS IS OF BULK AT MOST 1048576: true; the input reads as it did. -/
def fnReachableUptoRow : OpenClaim := { program := "ythlcbdjjegageaa", sum := "ff44f60da0b915a37b8f6d1678ed9f1f2e641c3a32168e9c5a6cd8b0665dbab1", func := "loop.example/processengine/laws.FnReachable", spec := "fnReachable", unfollowed := true, recurses := true, apart := false, narrowed := true }
def FnReachableUptoSaid : Prop := fnReachableUptoRow.holds Try.pinned (OpenSpec.upto fnReachableSpec)

/-- 'laws.FnReachableFrom', WHERE WHAT IT READS IS OF BULK AT MOST 1048576: true; the input reads as it did. -/
def fnReachableFromUptoRow : OpenClaim := { program := "ythlcbdjjegageaa", sum := "ff44f60da0b915a37b8f6d1678ed9f1f2e641c3a32168e9c5a6cd8b0665dbab1", func := "loop.example/processengine/laws.FnReachableFrom", spec := "fnReachableFrom", unfollowed := true, recurses := true, apart := false, narrowed := true }
def FnReachableFromUptoSaid : Prop := fnReachableFromUptoRow.holds Try.pinned (OpenSpec.upto fnReachableFromSpec)

/-- 'laws.FnFlowsOutIn', WHERE WHAT IT READS IS OF BULK AT MOST 1048576: true; the input reads as it did. -/
def fnFlowsOutInUptoRow : OpenClaim := { program := "ythlcbdjjegageaa", sum := "ff44f60da0b915a37b8f6d1678ed9f1f2e641c3a32168e9c5a6cd8b0665dbab1", func := "loop.example/processengine/laws.FnFlowsOutIn", spec := "fnFlowsOutIn", unfollowed := true, recurses := true, apart := false, narrowed := true }
def FnFlowsOutInUptoSaid : Prop := fnFlowsOutInUptoRow.holds Try.pinned (OpenSpec.upto fnFlowsOutInSpec)

/-- 'laws.FnHasCircleLine', WHERE WHAT IT READS IS OF BULK AT MOST 1048576: true; the input reads as it did. -/
def fnHasCircleLineUptoRow : OpenClaim := { program := "ythlcbdjjegageaa", sum := "ff44f60da0b915a37b8f6d1678ed9f1f2e641c3a32168e9c5a6cd8b0665dbab1", func := "loop.example/processengine/laws.FnHasCircleLine", spec := "fnHasCircleLine", unfollowed := true, recurses := true, apart := false, narrowed := true }
def FnHasCircleLineUptoSaid : Prop := fnHasCircleLineUptoRow.holds Try.pinned (OpenSpec.upto fnHasCircleLineSpec)

/-- 'laws.FnValidProcessStart', WHERE WHAT IT READS IS OF BULK AT MOST 1048576: true; the input reads as it did. -/
def fnValidProcessStartUptoRow : OpenClaim := { program := "ythlcbdjjegageaa", sum := "ff44f60da0b915a37b8f6d1678ed9f1f2e641c3a32168e9c5a6cd8b0665dbab1", func := "loop.example/processengine/laws.FnValidProcessStart", spec := "fnValidProcessStart", unfollowed := true, recurses := true, apart := false, narrowed := true }
def FnValidProcessStartUptoSaid : Prop := fnValidProcessStartUptoRow.holds Try.pinned (OpenSpec.upto fnValidProcessStartSpec)

/-- 'laws.FnExactFirstMarks', WHERE WHAT IT READS IS OF BULK AT MOST 1048576: true; the input reads as it did. -/
def fnExactFirstMarksUptoRow : OpenClaim := { program := "ythlcbdjjegageaa", sum := "ff44f60da0b915a37b8f6d1678ed9f1f2e641c3a32168e9c5a6cd8b0665dbab1", func := "loop.example/processengine/laws.FnExactFirstMarks", spec := "fnExactFirstMarks", unfollowed := true, recurses := true, apart := false, narrowed := true }
def FnExactFirstMarksUptoSaid : Prop := fnExactFirstMarksUptoRow.holds Try.pinned (OpenSpec.upto fnExactFirstMarksSpec)

/-- 'laws.FnExactReadyNodes', WHERE WHAT IT READS IS OF BULK AT MOST 1048576: true; the input reads as it did. -/
def fnExactReadyNodesUptoRow : OpenClaim := { program := "ythlcbdjjegageaa", sum := "ff44f60da0b915a37b8f6d1678ed9f1f2e641c3a32168e9c5a6cd8b0665dbab1", func := "loop.example/processengine/laws.FnExactReadyNodes", spec := "fnExactReadyNodes", unfollowed := true, recurses := true, apart := false, narrowed := true }
def FnExactReadyNodesUptoSaid : Prop := fnExactReadyNodesUptoRow.holds Try.pinned (OpenSpec.upto fnExactReadyNodesSpec)

/-- 'laws.FnExactChooseFlow', WHERE WHAT IT READS IS OF BULK AT MOST 1048576: true; the input reads as it did. -/
def fnExactChooseFlowUptoRow : OpenClaim := { program := "ythlcbdjjegageaa", sum := "ff44f60da0b915a37b8f6d1678ed9f1f2e641c3a32168e9c5a6cd8b0665dbab1", func := "loop.example/processengine/laws.FnExactChooseFlow", spec := "fnExactChooseFlow", unfollowed := true, recurses := true, apart := false, narrowed := true }
def FnExactChooseFlowUptoSaid : Prop := fnExactChooseFlowUptoRow.holds Try.pinned (OpenSpec.upto fnExactChooseFlowSpec)

/-- 'laws.FnExactTokenCount', WHERE WHAT IT READS IS OF BULK AT MOST 1048576: true; the input reads as it did. -/
def fnExactTokenCountUptoRow : OpenClaim := { program := "ythlcbdjjegageaa", sum := "ff44f60da0b915a37b8f6d1678ed9f1f2e641c3a32168e9c5a6cd8b0665dbab1", func := "loop.example/processengine/laws.FnExactTokenCount", spec := "fnExactTokenCount", unfollowed := true, recurses := true, apart := false, narrowed := true }
def FnExactTokenCountUptoSaid : Prop := fnExactTokenCountUptoRow.holds Try.pinned (OpenSpec.upto fnExactTokenCountSpec)

end Rows
end Go.Proofs.Ythlcbdjjegageaa
