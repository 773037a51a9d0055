/-
  No cell of these rows narrows 'for every input' (looked for: loops, veiled, ifaces, maps, wideKeys, modest, calm, conditions, laid).
  DERIVED. THE GIVEN ROWS OF THIS SEAT. 13 by the template 'for every input the law returns true; each argument reads behind the call as it read before'; 0 by the template 'total and deterministic' (their statements: YtcckmabdflhfmaaTotals.lean).
  GIVEN WITH THE SEED: the statements are not yours to turn. If you find one false, say at which input.
  Laid BY PROGRAM, IN A SANDBOX (cutbox-rows.mjs): the forced cells as the released guide's own fill.sh prints them over the translation c4e99b1d72915285… (all of the seat's roots in one cut). By AI agents, Wed Nov 11 2026. No macro, syntax, notation, axiom, sorry.
-/
import Derived.Test.YtcckmabdflhfmaaChecked
import GoSem.Claim
import GoSem.ClaimJoined
import GoSem.ClaimMapViews
import Derived.JoinedTies
import Derived.KernelRfl
namespace Go.Proofs.Ytcckmabdflhfmaa
/- THE CELL 'sum', in the pinned program and in every row, IS THE sha256 OF THE DUMP (.gsa) THAT YtcckmabdflhfmaaProg.lean LOADS. Nothing in Lean hashes anything: it is a label: what it is worth is what the hold of that sum in a sandbox is worth. -/
noncomputable def Try.pinned : Pinned := { name := "ytcckmabdflhfmaa", sum := "c4e99b1d7291528588e3fceb29e1d9c9a402a7e6315e01bd4312fed19dfa5d77", checked := Try.checked }
namespace Rows
def none {H : Type} : Left H := { results := [], args := [] }

/-- 'laws.FnExactFireNode': WHATEVER THE INPUT: true; the input reads as it did. -/
def fnExactFireNodeSpec : ChangeSpec := { name := "fnExactFireNode", fn := fun _ => fun
  | [d1, d2, d3, d4] => { results := [.lit (.bool true)], args := [d1, d2, d3, d4] }
  | _ => none }
def fnExactFireNodeRow : OpenClaim := { program := "ytcckmabdflhfmaa", sum := "c4e99b1d7291528588e3fceb29e1d9c9a402a7e6315e01bd4312fed19dfa5d77", func := "loop.example/processengine/laws.FnExactFireNode", spec := "fnExactFireNode", inPlace := ["maps.clone"], unfollowed := true, recurses := true, apart := false }
def FnExactFireNodeSaid : Prop := fnExactFireNodeRow.holds Try.pinned (OpenSpec.ofChange fnExactFireNodeSpec)

/-- ITS FALSE NEIGHBOUR: 'it returns false'. Refute it at one input. -/
def fnExactFireNodeWrong : ChangeSpec := { name := "fnExactFireNode", fn := fun _ => fun
  | [d1, d2, d3, d4] => { results := [.lit (.bool false)], args := [d1, d2, d3, d4] }
  | _ => none }
def FnExactFireNodeWrongFalsely : Prop := fnExactFireNodeRow.holds Try.pinned (OpenSpec.ofChange fnExactFireNodeWrong)

/-- 'laws.FnFirstMarks': WHATEVER THE INPUT: true; the input reads as it did. -/
def fnFirstMarksSpec : ChangeSpec := { name := "fnFirstMarks", fn := fun _ => fun
  | [d] => { results := [.lit (.bool true)], args := [d] }
  | _ => none }
def fnFirstMarksRow : OpenClaim := { program := "ytcckmabdflhfmaa", sum := "c4e99b1d7291528588e3fceb29e1d9c9a402a7e6315e01bd4312fed19dfa5d77", func := "loop.example/processengine/laws.FnFirstMarks", spec := "fnFirstMarks", unfollowed := true, recurses := true, apart := false }
def FnFirstMarksSaid : Prop := fnFirstMarksRow.holds Try.pinned (OpenSpec.ofChange fnFirstMarksSpec)

/-- ITS FALSE NEIGHBOUR: 'it returns false'. Refute it at one input. -/
def fnFirstMarksWrong : ChangeSpec := { name := "fnFirstMarks", fn := fun _ => fun
  | [d] => { results := [.lit (.bool false)], args := [d] }
  | _ => none }
def FnFirstMarksWrongFalsely : Prop := fnFirstMarksRow.holds Try.pinned (OpenSpec.ofChange fnFirstMarksWrong)

/-- 'laws.FnFirstMarksReady': WHATEVER THE INPUT: true; the input reads as it did. -/
def fnFirstMarksReadySpec : ChangeSpec := { name := "fnFirstMarksReady", fn := fun _ => fun
  | [d] => { results := [.lit (.bool true)], args := [d] }
  | _ => none }
def fnFirstMarksReadyRow : OpenClaim := { program := "ytcckmabdflhfmaa", sum := "c4e99b1d7291528588e3fceb29e1d9c9a402a7e6315e01bd4312fed19dfa5d77", func := "loop.example/processengine/laws.FnFirstMarksReady", spec := "fnFirstMarksReady", unfollowed := true, recurses := true, apart := false }
def FnFirstMarksReadySaid : Prop := fnFirstMarksReadyRow.holds Try.pinned (OpenSpec.ofChange fnFirstMarksReadySpec)

/-- ITS FALSE NEIGHBOUR: 'it returns false'. Refute it at one input. -/
def fnFirstMarksReadyWrong : ChangeSpec := { name := "fnFirstMarksReady", fn := fun _ => fun
  | [d] => { results := [.lit (.bool false)], args := [d] }
  | _ => none }
def FnFirstMarksReadyWrongFalsely : Prop := fnFirstMarksReadyRow.holds Try.pinned (OpenSpec.ofChange fnFirstMarksReadyWrong)

/-- 'laws.FnReadyNodes': WHATEVER THE INPUT: true; the input reads as it did. -/
def fnReadyNodesSpec : ChangeSpec := { name := "fnReadyNodes", fn := fun _ => fun
  | [d] => { results := [.lit (.bool true)], args := [d] }
  | _ => none }
def fnReadyNodesRow : OpenClaim := { program := "ytcckmabdflhfmaa", sum := "c4e99b1d7291528588e3fceb29e1d9c9a402a7e6315e01bd4312fed19dfa5d77", func := "loop.example/processengine/laws.FnReadyNodes", spec := "fnReadyNodes", unfollowed := true, recurses := true, apart := false }
def FnReadyNodesSaid : Prop := fnReadyNodesRow.holds Try.pinned (OpenSpec.ofChange fnReadyNodesSpec)

/-- ITS FALSE NEIGHBOUR: 'it returns false'. Refute it at one input. -/
def fnReadyNodesWrong : ChangeSpec := { name := "fnReadyNodes", fn := fun _ => fun
  | [d] => { results := [.lit (.bool false)], args := [d] }
  | _ => none }
def FnReadyNodesWrongFalsely : Prop := fnReadyNodesRow.holds Try.pinned (OpenSpec.ofChange fnReadyNodesWrong)

/-- 'laws.FnReadyNodesMore': WHATEVER THE INPUT: true; the input reads as it did. -/
def fnReadyNodesMoreSpec : ChangeSpec := { name := "fnReadyNodesMore", fn := fun _ => fun
  | [d] => { results := [.lit (.bool true)], args := [d] }
  | _ => none }
def fnReadyNodesMoreRow : OpenClaim := { program := "ytcckmabdflhfmaa", sum := "c4e99b1d7291528588e3fceb29e1d9c9a402a7e6315e01bd4312fed19dfa5d77", func := "loop.example/processengine/laws.FnReadyNodesMore", spec := "fnReadyNodesMore", unfollowed := true, recurses := true, apart := false }
def FnReadyNodesMoreSaid : Prop := fnReadyNodesMoreRow.holds Try.pinned (OpenSpec.ofChange fnReadyNodesMoreSpec)

/-- ITS FALSE NEIGHBOUR: 'it returns false'. Refute it at one input. -/
def fnReadyNodesMoreWrong : ChangeSpec := { name := "fnReadyNodesMore", fn := fun _ => fun
  | [d] => { results := [.lit (.bool false)], args := [d] }
  | _ => none }
def FnReadyNodesMoreWrongFalsely : Prop := fnReadyNodesMoreRow.holds Try.pinned (OpenSpec.ofChange fnReadyNodesMoreWrong)

/-- 'laws.FnChooseFlow': WHATEVER THE INPUT: true; the input reads as it did. -/
def fnChooseFlowSpec : ChangeSpec := { name := "fnChooseFlow", fn := fun _ => fun
  | [d] => { results := [.lit (.bool true)], args := [d] }
  | _ => none }
def fnChooseFlowRow : OpenClaim := { program := "ytcckmabdflhfmaa", sum := "c4e99b1d7291528588e3fceb29e1d9c9a402a7e6315e01bd4312fed19dfa5d77", func := "loop.example/processengine/laws.FnChooseFlow", spec := "fnChooseFlow", unfollowed := true, recurses := true, apart := false }
def FnChooseFlowSaid : Prop := fnChooseFlowRow.holds Try.pinned (OpenSpec.ofChange fnChooseFlowSpec)

/-- ITS FALSE NEIGHBOUR: 'it returns false'. Refute it at one input. -/
def fnChooseFlowWrong : ChangeSpec := { name := "fnChooseFlow", fn := fun _ => fun
  | [d] => { results := [.lit (.bool false)], args := [d] }
  | _ => none }
def FnChooseFlowWrongFalsely : Prop := fnChooseFlowRow.holds Try.pinned (OpenSpec.ofChange fnChooseFlowWrong)

/-- 'laws.FnChooseFlowRest': WHATEVER THE INPUT: true; the input reads as it did. -/
def fnChooseFlowRestSpec : ChangeSpec := { name := "fnChooseFlowRest", fn := fun _ => fun
  | [d] => { results := [.lit (.bool true)], args := [d] }
  | _ => none }
def fnChooseFlowRestRow : OpenClaim := { program := "ytcckmabdflhfmaa", sum := "c4e99b1d7291528588e3fceb29e1d9c9a402a7e6315e01bd4312fed19dfa5d77", func := "loop.example/processengine/laws.FnChooseFlowRest", spec := "fnChooseFlowRest", unfollowed := true, recurses := true, apart := false }
def FnChooseFlowRestSaid : Prop := fnChooseFlowRestRow.holds Try.pinned (OpenSpec.ofChange fnChooseFlowRestSpec)

/-- ITS FALSE NEIGHBOUR: 'it returns false'. Refute it at one input. -/
def fnChooseFlowRestWrong : ChangeSpec := { name := "fnChooseFlowRest", fn := fun _ => fun
  | [d] => { results := [.lit (.bool false)], args := [d] }
  | _ => none }
def FnChooseFlowRestWrongFalsely : Prop := fnChooseFlowRestRow.holds Try.pinned (OpenSpec.ofChange fnChooseFlowRestWrong)

/-- 'laws.FnFireNode': WHATEVER THE INPUT: true; the input reads as it did. -/
def fnFireNodeSpec : ChangeSpec := { name := "fnFireNode", fn := fun _ => fun
  | [d] => { results := [.lit (.bool true)], args := [d] }
  | _ => none }
def fnFireNodeRow : OpenClaim := { program := "ytcckmabdflhfmaa", sum := "c4e99b1d7291528588e3fceb29e1d9c9a402a7e6315e01bd4312fed19dfa5d77", func := "loop.example/processengine/laws.FnFireNode", spec := "fnFireNode", inPlace := ["maps.clone"], unfollowed := true, recurses := true, apart := false }
def FnFireNodeSaid : Prop := fnFireNodeRow.holds Try.pinned (OpenSpec.ofChange fnFireNodeSpec)

/-- ITS FALSE NEIGHBOUR: 'it returns false'. Refute it at one input. -/
def fnFireNodeWrong : ChangeSpec := { name := "fnFireNode", fn := fun _ => fun
  | [d] => { results := [.lit (.bool false)], args := [d] }
  | _ => none }
def FnFireNodeWrongFalsely : Prop := fnFireNodeRow.holds Try.pinned (OpenSpec.ofChange fnFireNodeWrong)

/-- 'laws.FnFireNodeReady': WHATEVER THE INPUT: true; the input reads as it did. -/
def fnFireNodeReadySpec : ChangeSpec := { name := "fnFireNodeReady", fn := fun _ => fun
  | [d] => { results := [.lit (.bool true)], args := [d] }
  | _ => none }
def fnFireNodeReadyRow : OpenClaim := { program := "ytcckmabdflhfmaa", sum := "c4e99b1d7291528588e3fceb29e1d9c9a402a7e6315e01bd4312fed19dfa5d77", func := "loop.example/processengine/laws.FnFireNodeReady", spec := "fnFireNodeReady", inPlace := ["maps.clone"], unfollowed := true, recurses := true, apart := false }
def FnFireNodeReadySaid : Prop := fnFireNodeReadyRow.holds Try.pinned (OpenSpec.ofChange fnFireNodeReadySpec)

/-- ITS FALSE NEIGHBOUR: 'it returns false'. Refute it at one input. -/
def fnFireNodeReadyWrong : ChangeSpec := { name := "fnFireNodeReady", fn := fun _ => fun
  | [d] => { results := [.lit (.bool false)], args := [d] }
  | _ => none }
def FnFireNodeReadyWrongFalsely : Prop := fnFireNodeReadyRow.holds Try.pinned (OpenSpec.ofChange fnFireNodeReadyWrong)

/-- 'laws.FnFireNodeTwo': WHATEVER THE INPUT: true; the input reads as it did. -/
def fnFireNodeTwoSpec : ChangeSpec := { name := "fnFireNodeTwo", fn := fun _ => fun
  | [d] => { results := [.lit (.bool true)], args := [d] }
  | _ => none }
def fnFireNodeTwoRow : OpenClaim := { program := "ytcckmabdflhfmaa", sum := "c4e99b1d7291528588e3fceb29e1d9c9a402a7e6315e01bd4312fed19dfa5d77", func := "loop.example/processengine/laws.FnFireNodeTwo", spec := "fnFireNodeTwo", inPlace := ["maps.clone"], unfollowed := true, recurses := true, apart := false }
def FnFireNodeTwoSaid : Prop := fnFireNodeTwoRow.holds Try.pinned (OpenSpec.ofChange fnFireNodeTwoSpec)

/-- ITS FALSE NEIGHBOUR: 'it returns false'. Refute it at one input. -/
def fnFireNodeTwoWrong : ChangeSpec := { name := "fnFireNodeTwo", fn := fun _ => fun
  | [d] => { results := [.lit (.bool false)], args := [d] }
  | _ => none }
def FnFireNodeTwoWrongFalsely : Prop := fnFireNodeTwoRow.holds Try.pinned (OpenSpec.ofChange fnFireNodeTwoWrong)

/-- 'laws.FnFireNodeKinds': WHATEVER THE INPUT: true; the input reads as it did. -/
def fnFireNodeKindsSpec : ChangeSpec := { name := "fnFireNodeKinds", fn := fun _ => fun
  | [d] => { results := [.lit (.bool true)], args := [d] }
  | _ => none }
def fnFireNodeKindsRow : OpenClaim := { program := "ytcckmabdflhfmaa", sum := "c4e99b1d7291528588e3fceb29e1d9c9a402a7e6315e01bd4312fed19dfa5d77", func := "loop.example/processengine/laws.FnFireNodeKinds", spec := "fnFireNodeKinds", inPlace := ["maps.clone"], unfollowed := true, recurses := true, apart := false }
def FnFireNodeKindsSaid : Prop := fnFireNodeKindsRow.holds Try.pinned (OpenSpec.ofChange fnFireNodeKindsSpec)

/-- ITS FALSE NEIGHBOUR: 'it returns false'. Refute it at one input. -/
def fnFireNodeKindsWrong : ChangeSpec := { name := "fnFireNodeKinds", fn := fun _ => fun
  | [d] => { results := [.lit (.bool false)], args := [d] }
  | _ => none }
def FnFireNodeKindsWrongFalsely : Prop := fnFireNodeKindsRow.holds Try.pinned (OpenSpec.ofChange fnFireNodeKindsWrong)

/-- 'laws.FnTokenCount': WHATEVER THE INPUT: true; the input reads as it did. -/
def fnTokenCountSpec : ChangeSpec := { name := "fnTokenCount", fn := fun _ => fun
  | [d] => { results := [.lit (.bool true)], args := [d] }
  | _ => none }
def fnTokenCountRow : OpenClaim := { program := "ytcckmabdflhfmaa", sum := "c4e99b1d7291528588e3fceb29e1d9c9a402a7e6315e01bd4312fed19dfa5d77", func := "loop.example/processengine/laws.FnTokenCount", spec := "fnTokenCount", unfollowed := true, recurses := true, apart := false }
def FnTokenCountSaid : Prop := fnTokenCountRow.holds Try.pinned (OpenSpec.ofChange fnTokenCountSpec)

/-- ITS FALSE NEIGHBOUR: 'it returns false'. Refute it at one input. -/
def fnTokenCountWrong : ChangeSpec := { name := "fnTokenCount", fn := fun _ => fun
  | [d] => { results := [.lit (.bool false)], args := [d] }
  | _ => none }
def FnTokenCountWrongFalsely : Prop := fnTokenCountRow.holds Try.pinned (OpenSpec.ofChange fnTokenCountWrong)

/-- 'laws.FnTokenCountFire': WHATEVER THE INPUT: true; the input reads as it did. -/
def fnTokenCountFireSpec : ChangeSpec := { name := "fnTokenCountFire", fn := fun _ => fun
  | [d] => { results := [.lit (.bool true)], args := [d] }
  | _ => none }
def fnTokenCountFireRow : OpenClaim := { program := "ytcckmabdflhfmaa", sum := "c4e99b1d7291528588e3fceb29e1d9c9a402a7e6315e01bd4312fed19dfa5d77", func := "loop.example/processengine/laws.FnTokenCountFire", spec := "fnTokenCountFire", inPlace := ["maps.clone"], unfollowed := true, recurses := true, apart := false }
def FnTokenCountFireSaid : Prop := fnTokenCountFireRow.holds Try.pinned (OpenSpec.ofChange fnTokenCountFireSpec)

/-- ITS FALSE NEIGHBOUR: 'it returns false'. Refute it at one input. -/
def fnTokenCountFireWrong : ChangeSpec := { name := "fnTokenCountFire", fn := fun _ => fun
  | [d] => { results := [.lit (.bool false)], args := [d] }
  | _ => none }
def FnTokenCountFireWrongFalsely : Prop := fnTokenCountFireRow.holds Try.pinned (OpenSpec.ofChange fnTokenCountFireWrong)

/- THE SECOND FORM. 'bulk': how many values and letters a reading holds, each counted each time it is reached (what is shared counts as often as it is met; a slice's spare places count too). A statement '..UptoSaid' is the law's where the arguments, and the package variables that the reading takes, are together of bulk at most 1048576: NARROWER than '..Said'. Prove '..Said' where nothing that the law and all that it calls make is longer than what came in: it says more and counts as full. Else prove '..UptoSaid'. A law counts once. -/
mutual
def uptoBulk {H : Type} : DataW H → Nat
  | .lit (.string bytes) => bytes.length + 1
  | .lit _ => 1
  | .nil => 1
  | .ptr d => uptoBulk d + 1
  | .slice elems spare => uptoBulkAll elems + uptoBulkAll spare + 1
  | .agg parts => uptoBulkAll parts + 1
  | .iface _ d => uptoBulk d + 1
  | .map entries => uptoBulkEntries entries + 1
  | .held _ => 1
def uptoBulkAll {H : Type} : List (DataW H) → Nat
  | [] => 0
  | d :: r => uptoBulk d + uptoBulkAll r
def uptoBulkEntries {H : Type} : List (Lit × DataW H) → Nat
  | [] => 0
  | x :: r => uptoBulkEntry x + uptoBulkEntries r
def uptoBulkEntry {H : Type} : Lit × DataW H → Nat
  | (.string bytes, d) => bytes.length + uptoBulk d + 1
  | (_, d) => uptoBulk d + 1
 end
def uptoSmall : (H : Type) → List (DataW H) → Bool := fun _ ds => decide (uptoBulkAll ds ≤ 1048576)
def OpenSpec.upto (s : _root_.Go.ChangeSpec) : _root_.Go.OpenSpec := { _root_.Go.OpenSpec.ofChange s with cond := some uptoSmall }

/-- 'laws.FnExactFireNode', WHERE WHAT IT READS IS OF BULK AT MOST 1048576: true; the input reads as it did. -/
def fnExactFireNodeUptoRow : OpenClaim := { program := "ytcckmabdflhfmaa", sum := "c4e99b1d7291528588e3fceb29e1d9c9a402a7e6315e01bd4312fed19dfa5d77", func := "loop.example/processengine/laws.FnExactFireNode", spec := "fnExactFireNode", inPlace := ["maps.clone"], unfollowed := true, recurses := true, apart := false, narrowed := true }
def FnExactFireNodeUptoSaid : Prop := fnExactFireNodeUptoRow.holds Try.pinned (OpenSpec.upto fnExactFireNodeSpec)

/-- 'laws.FnFirstMarks', WHERE WHAT IT READS IS OF BULK AT MOST 1048576: true; the input reads as it did. -/
def fnFirstMarksUptoRow : OpenClaim := { program := "ytcckmabdflhfmaa", sum := "c4e99b1d7291528588e3fceb29e1d9c9a402a7e6315e01bd4312fed19dfa5d77", func := "loop.example/processengine/laws.FnFirstMarks", spec := "fnFirstMarks", unfollowed := true, recurses := true, apart := false, narrowed := true }
def FnFirstMarksUptoSaid : Prop := fnFirstMarksUptoRow.holds Try.pinned (OpenSpec.upto fnFirstMarksSpec)

/-- 'laws.FnFirstMarksReady', WHERE WHAT IT READS IS OF BULK AT MOST 1048576: true; the input reads as it did. -/
def fnFirstMarksReadyUptoRow : OpenClaim := { program := "ytcckmabdflhfmaa", sum := "c4e99b1d7291528588e3fceb29e1d9c9a402a7e6315e01bd4312fed19dfa5d77", func := "loop.example/processengine/laws.FnFirstMarksReady", spec := "fnFirstMarksReady", unfollowed := true, recurses := true, apart := false, narrowed := true }
def FnFirstMarksReadyUptoSaid : Prop := fnFirstMarksReadyUptoRow.holds Try.pinned (OpenSpec.upto fnFirstMarksReadySpec)

/-- 'laws.FnReadyNodes', WHERE WHAT IT READS IS OF BULK AT MOST 1048576: true; the input reads as it did. -/
def fnReadyNodesUptoRow : OpenClaim := { program := "ytcckmabdflhfmaa", sum := "c4e99b1d7291528588e3fceb29e1d9c9a402a7e6315e01bd4312fed19dfa5d77", func := "loop.example/processengine/laws.FnReadyNodes", spec := "fnReadyNodes", unfollowed := true, recurses := true, apart := false, narrowed := true }
def FnReadyNodesUptoSaid : Prop := fnReadyNodesUptoRow.holds Try.pinned (OpenSpec.upto fnReadyNodesSpec)

/-- 'laws.FnReadyNodesMore', WHERE WHAT IT READS IS OF BULK AT MOST 1048576: true; the input reads as it did. -/
def fnReadyNodesMoreUptoRow : OpenClaim := { program := "ytcckmabdflhfmaa", sum := "c4e99b1d7291528588e3fceb29e1d9c9a402a7e6315e01bd4312fed19dfa5d77", func := "loop.example/processengine/laws.FnReadyNodesMore", spec := "fnReadyNodesMore", unfollowed := true, recurses := true, apart := false, narrowed := true }
def FnReadyNodesMoreUptoSaid : Prop := fnReadyNodesMoreUptoRow.holds Try.pinned (OpenSpec.upto fnReadyNodesMoreSpec)

/-- 'laws.FnChooseFlow', WHERE WHAT IT READS IS OF BULK AT MOST 1048576: true; the input reads as it did. -/
def fnChooseFlowUptoRow : OpenClaim := { program := "ytcckmabdflhfmaa", sum := "c4e99b1d7291528588e3fceb29e1d9c9a402a7e6315e01bd4312fed19dfa5d77", func := "loop.example/processengine/laws.FnChooseFlow", spec := "fnChooseFlow", unfollowed := true, recurses := true, apart := false, narrowed := true }
def FnChooseFlowUptoSaid : Prop := fnChooseFlowUptoRow.holds Try.pinned (OpenSpec.upto fnChooseFlowSpec)

/-- 'laws.FnChooseFlowRest', WHERE WHAT IT READS IS OF BULK AT MOST 1048576: true; the input reads as it did. -/
def fnChooseFlowRestUptoRow : OpenClaim := { program := "ytcckmabdflhfmaa", sum := "c4e99b1d7291528588e3fceb29e1d9c9a402a7e6315e01bd4312fed19dfa5d77", func := "loop.example/processengine/laws.FnChooseFlowRest", spec := "fnChooseFlowRest", unfollowed := true, recurses := true, apart := false, narrowed := true }
def FnChooseFlowRestUptoSaid : Prop := fnChooseFlowRestUptoRow.holds Try.pinned (OpenSpec.upto fnChooseFlowRestSpec)

/-- 'laws.FnFireNode', WHERE WHAT IT READS IS OF BULK AT MOST 1048576: true; the input reads as it did. -/
def fnFireNodeUptoRow : OpenClaim := { program := "ytcckmabdflhfmaa", sum := "c4e99b1d7291528588e3fceb29e1d9c9a402a7e6315e01bd4312fed19dfa5d77", func := "loop.example/processengine/laws.FnFireNode", spec := "fnFireNode", inPlace := ["maps.clone"], unfollowed := true, recurses := true, apart := false, narrowed := true }
def FnFireNodeUptoSaid : Prop := fnFireNodeUptoRow.holds Try.pinned (OpenSpec.upto fnFireNodeSpec)

/-- 'laws.FnFireNodeReady', WHERE WHAT IT READS IS OF BULK AT MOST 1048576: true; the input reads as it did. -/
def fnFireNodeReadyUptoRow : OpenClaim := { program := "ytcckmabdflhfmaa", sum := "c4e99b1d7291528588e3fceb29e1d9c9a402a7e6315e01bd4312fed19dfa5d77", func := "loop.example/processengine/laws.FnFireNodeReady", spec := "fnFireNodeReady", inPlace := ["maps.clone"], unfollowed := true, recurses := true, apart := false, narrowed := true }
def FnFireNodeReadyUptoSaid : Prop := fnFireNodeReadyUptoRow.holds Try.pinned (OpenSpec.upto fnFireNodeReadySpec)

/-- 'laws.FnFireNodeTwo', WHERE WHAT IT READS IS OF BULK AT MOST 1048576: true; the input reads as it did. -/
def fnFireNodeTwoUptoRow : OpenClaim := { program := "ytcckmabdflhfmaa", sum := "c4e99b1d7291528588e3fceb29e1d9c9a402a7e6315e01bd4312fed19dfa5d77", func := "loop.example/processengine/laws.FnFireNodeTwo", spec := "fnFireNodeTwo", inPlace := ["maps.clone"], unfollowed := true, recurses := true, apart := false, narrowed := true }
def FnFireNodeTwoUptoSaid : Prop := fnFireNodeTwoUptoRow.holds Try.pinned (OpenSpec.upto fnFireNodeTwoSpec)

/-- 'laws.FnFireNodeKinds', WHERE WHAT IT READS IS OF BULK AT MOST 1048576: true; the input reads as it did. -/
def fnFireNodeKindsUptoRow : OpenClaim := { program := "ytcckmabdflhfmaa", sum := "c4e99b1d7291528588e3fceb29e1d9c9a402a7e6315e01bd4312fed19dfa5d77", func := "loop.example/processengine/laws.FnFireNodeKinds", spec := "fnFireNodeKinds", inPlace := ["maps.clone"], unfollowed := true, recurses := true, apart := false, narrowed := true }
def FnFireNodeKindsUptoSaid : Prop := fnFireNodeKindsUptoRow.holds Try.pinned (OpenSpec.upto fnFireNodeKindsSpec)

/-- 'laws.FnTokenCount', WHERE WHAT IT READS IS OF BULK AT MOST 1048576: true; the input reads as it did. -/
def fnTokenCountUptoRow : OpenClaim := { program := "ytcckmabdflhfmaa", sum := "c4e99b1d7291528588e3fceb29e1d9c9a402a7e6315e01bd4312fed19dfa5d77", func := "loop.example/processengine/laws.FnTokenCount", spec := "fnTokenCount", unfollowed := true, recurses := true, apart := false, narrowed := true }
def FnTokenCountUptoSaid : Prop := fnTokenCountUptoRow.holds Try.pinned (OpenSpec.upto fnTokenCountSpec)

/-- 'laws.FnTokenCountFire', WHERE WHAT IT READS IS OF BULK AT MOST 1048576: true; the input reads as it did. -/
def fnTokenCountFireUptoRow : OpenClaim := { program := "ytcckmabdflhfmaa", sum := "c4e99b1d7291528588e3fceb29e1d9c9a402a7e6315e01bd4312fed19dfa5d77", func := "loop.example/processengine/laws.FnTokenCountFire", spec := "fnTokenCountFire", inPlace := ["maps.clone"], unfollowed := true, recurses := true, apart := false, narrowed := true }
def FnTokenCountFireUptoSaid : Prop := fnTokenCountFireUptoRow.holds Try.pinned (OpenSpec.upto fnTokenCountFireSpec)

end Rows
end Go.Proofs.Ytcckmabdflhfmaa
