/-
  No cell of these rows narrows 'for every input' (looked for: loops, veiled, ifaces, maps, wideKeys, modest, calm, conditions, laid).
  DERIVED. THE GIVEN ROWS OF THIS SEAT. 5 by the template 'for every input the law returns true; each argument reads behind the call as it read before'; 0 by the template 'total and deterministic' (their statements: YtonlkodenfiljaaTotals.lean).
  GIVEN WITH THE SEED: the statements are not yours to turn. If you find one false, say at which input.
  Laid BY PROGRAM, IN A SANDBOX (cutbox-rows.mjs): the forced cells as the released guide's own fill.sh prints them over the translation fc4a9ad3f8f047fa… (all of the seat's roots in one cut). By AI agents, Wed Nov 11 2026. No macro, syntax, notation, axiom, sorry.
-/
import Derived.Test.YtonlkodenfiljaaChecked
import GoSem.Claim
import GoSem.ClaimJoined
import GoSem.ClaimMapViews
import Derived.JoinedTies
import Derived.KernelRfl
namespace Go.Proofs.Ytonlkodenfiljaa
/- THE CELL 'sum', in the pinned program and in every row, IS THE sha256 OF THE DUMP (.gsa) THAT YtonlkodenfiljaaProg.lean LOADS. Nothing in Lean hashes anything: it is a label: what it is worth is what the hold of that sum in a sandbox is worth. -/
noncomputable def Try.pinned : Pinned := { name := "ytonlkodenfiljaa", sum := "fc4a9ad3f8f047fab044804f7aa1d64b7823070a5a3614cde4f3cfc5c41d8a1c", checked := Try.checked }
namespace Rows
def none {H : Type} : Left H := { results := [], args := [] }

/-- 'laws.FnEarliestTimesMore': WHATEVER THE INPUT: true; the input reads as it did. -/
def fnEarliestTimesMoreSpec : ChangeSpec := { name := "fnEarliestTimesMore", fn := fun _ => fun
  | [d] => { results := [.lit (.bool true)], args := [d] }
  | _ => none }
def fnEarliestTimesMoreRow : OpenClaim := { program := "ytonlkodenfiljaa", sum := "fc4a9ad3f8f047fab044804f7aa1d64b7823070a5a3614cde4f3cfc5c41d8a1c", func := "loop.example/processengine/laws.FnEarliestTimesMore", spec := "fnEarliestTimesMore", unfollowed := true, recurses := true, apart := false }
def FnEarliestTimesMoreSaid : Prop := fnEarliestTimesMoreRow.holds Try.pinned (OpenSpec.ofChange fnEarliestTimesMoreSpec)

/-- ITS FALSE NEIGHBOUR: 'it returns false'. Refute it at one input. -/
def fnEarliestTimesMoreWrong : ChangeSpec := { name := "fnEarliestTimesMore", fn := fun _ => fun
  | [d] => { results := [.lit (.bool false)], args := [d] }
  | _ => none }
def FnEarliestTimesMoreWrongFalsely : Prop := fnEarliestTimesMoreRow.holds Try.pinned (OpenSpec.ofChange fnEarliestTimesMoreWrong)

/-- 'laws.FnTotalTimeMore': WHATEVER THE INPUT: true; the input reads as it did. -/
def fnTotalTimeMoreSpec : ChangeSpec := { name := "fnTotalTimeMore", fn := fun _ => fun
  | [d] => { results := [.lit (.bool true)], args := [d] }
  | _ => none }
def fnTotalTimeMoreRow : OpenClaim := { program := "ytonlkodenfiljaa", sum := "fc4a9ad3f8f047fab044804f7aa1d64b7823070a5a3614cde4f3cfc5c41d8a1c", func := "loop.example/processengine/laws.FnTotalTimeMore", spec := "fnTotalTimeMore", unfollowed := true, recurses := true, apart := false }
def FnTotalTimeMoreSaid : Prop := fnTotalTimeMoreRow.holds Try.pinned (OpenSpec.ofChange fnTotalTimeMoreSpec)

/-- ITS FALSE NEIGHBOUR: 'it returns false'. Refute it at one input. -/
def fnTotalTimeMoreWrong : ChangeSpec := { name := "fnTotalTimeMore", fn := fun _ => fun
  | [d] => { results := [.lit (.bool false)], args := [d] }
  | _ => none }
def FnTotalTimeMoreWrongFalsely : Prop := fnTotalTimeMoreRow.holds Try.pinned (OpenSpec.ofChange fnTotalTimeMoreWrong)

/-- 'laws.FnCriticalNodesWay': WHATEVER THE INPUT: true; the input reads as it did. -/
def fnCriticalNodesWaySpec : ChangeSpec := { name := "fnCriticalNodesWay", fn := fun _ => fun
  | [d] => { results := [.lit (.bool true)], args := [d] }
  | _ => none }
def fnCriticalNodesWayRow : OpenClaim := { program := "ytonlkodenfiljaa", sum := "fc4a9ad3f8f047fab044804f7aa1d64b7823070a5a3614cde4f3cfc5c41d8a1c", func := "loop.example/processengine/laws.FnCriticalNodesWay", spec := "fnCriticalNodesWay", unfollowed := true, recurses := true, apart := false }
def FnCriticalNodesWaySaid : Prop := fnCriticalNodesWayRow.holds Try.pinned (OpenSpec.ofChange fnCriticalNodesWaySpec)

/-- ITS FALSE NEIGHBOUR: 'it returns false'. Refute it at one input. -/
def fnCriticalNodesWayWrong : ChangeSpec := { name := "fnCriticalNodesWay", fn := fun _ => fun
  | [d] => { results := [.lit (.bool false)], args := [d] }
  | _ => none }
def FnCriticalNodesWayWrongFalsely : Prop := fnCriticalNodesWayRow.holds Try.pinned (OpenSpec.ofChange fnCriticalNodesWayWrong)

/-- 'laws.FnHasCircle': WHATEVER THE INPUT: true; the input reads as it did. -/
def fnHasCircleSpec : ChangeSpec := { name := "fnHasCircle", fn := fun _ => fun
  | [d] => { results := [.lit (.bool true)], args := [d] }
  | _ => none }
def fnHasCircleRow : OpenClaim := { program := "ytonlkodenfiljaa", sum := "fc4a9ad3f8f047fab044804f7aa1d64b7823070a5a3614cde4f3cfc5c41d8a1c", func := "loop.example/processengine/laws.FnHasCircle", spec := "fnHasCircle", unfollowed := true, recurses := true, apart := false }
def FnHasCircleSaid : Prop := fnHasCircleRow.holds Try.pinned (OpenSpec.ofChange fnHasCircleSpec)

/-- ITS FALSE NEIGHBOUR: 'it returns false'. Refute it at one input. -/
def fnHasCircleWrong : ChangeSpec := { name := "fnHasCircle", fn := fun _ => fun
  | [d] => { results := [.lit (.bool false)], args := [d] }
  | _ => none }
def FnHasCircleWrongFalsely : Prop := fnHasCircleRow.holds Try.pinned (OpenSpec.ofChange fnHasCircleWrong)

/-- 'laws.FnFireNodeTwo': WHATEVER THE INPUT: true; the input reads as it did. -/
def fnFireNodeTwoSpec : ChangeSpec := { name := "fnFireNodeTwo", fn := fun _ => fun
  | [d] => { results := [.lit (.bool true)], args := [d] }
  | _ => none }
def fnFireNodeTwoRow : OpenClaim := { program := "ytonlkodenfiljaa", sum := "fc4a9ad3f8f047fab044804f7aa1d64b7823070a5a3614cde4f3cfc5c41d8a1c", func := "loop.example/processengine/laws.FnFireNodeTwo", spec := "fnFireNodeTwo", inPlace := ["maps.clone"], unfollowed := true, recurses := true, apart := false }
def FnFireNodeTwoSaid : Prop := fnFireNodeTwoRow.holds Try.pinned (OpenSpec.ofChange fnFireNodeTwoSpec)

/-- ITS FALSE NEIGHBOUR: 'it returns false'. Refute it at one input. -/
def fnFireNodeTwoWrong : ChangeSpec := { name := "fnFireNodeTwo", fn := fun _ => fun
  | [d] => { results := [.lit (.bool false)], args := [d] }
  | _ => none }
def FnFireNodeTwoWrongFalsely : Prop := fnFireNodeTwoRow.holds Try.pinned (OpenSpec.ofChange fnFireNodeTwoWrong)

/- THE SECOND FORM. 'bulk': how many values and letters a reading holds, each counted each time it is reached (what is shared counts as often as it is met; a slice's spare places count too). A statement '..UptoSaid' is the law's where the arguments, and the package variables that the reading takes, are together of bulk at most 1048576: NARROWER than '..Said'. Prove '..Said' where nothing that the law and all that it calls make is longer than what came in: it says more and counts as full. Else prove '..UptoSaid'. A law counts once. -/
mutual
def uptoBulk {H : Type} : DataW H → Nat
  | .lit (.string bytes) => bytes.length + 1
  | .lit _ => 1
  | .nil => 1
  | .ptr d => uptoBulk d + 1
  | .slice elems spare => uptoBulkAll elems + uptoBulkAll spare + 1
  | .agg parts => uptoBulkAll parts + 1
  | .iface _ d => uptoBulk d + 1
  | .map entries => uptoBulkEntries entries + 1
  | .held _ => 1
def uptoBulkAll {H : Type} : List (DataW H) → Nat
  | [] => 0
  | d :: r => uptoBulk d + uptoBulkAll r
def uptoBulkEntries {H : Type} : List (Lit × DataW H) → Nat
  | [] => 0
  | x :: r => uptoBulkEntry x + uptoBulkEntries r
def uptoBulkEntry {H : Type} : Lit × DataW H → Nat
  | (.string bytes, d) => bytes.length + uptoBulk d + 1
  | (_, d) => uptoBulk d + 1
 end
def uptoSmall : (H : Type) → List (DataW H) → Bool := fun _ ds => decide (uptoBulkAll ds ≤ 1048576)
def OpenSpec.upto (s : _root_.Go.ChangeSpec) : _root_.Go.OpenSpec := { _root_.Go.OpenSpec.ofChange s with cond := some uptoSmall }

/-- 'laws.FnEarliestTimesMore', WHERE WHAT IT READS IS OF BULK AT MOST 1048576: true; the input reads as it did. -/
def fnEarliestTimesMoreUptoRow : OpenClaim := { program := "ytonlkodenfiljaa", sum := "fc4a9ad3f8f047fab044804f7aa1d64b7823070a5a3614cde4f3cfc5c41d8a1c", func := "loop.example/processengine/laws.FnEarliestTimesMore", spec := "fnEarliestTimesMore", unfollowed := true, recurses := true, apart := false, narrowed := true }
def FnEarliestTimesMoreUptoSaid : Prop := fnEarliestTimesMoreUptoRow.holds Try.pinned (OpenSpec.upto fnEarliestTimesMoreSpec)

/-- 'laws.FnTotalTimeMore', WHERE WHAT IT READS IS OF BULK AT MOST 1048576: true; the input reads as it did. -/
def fnTotalTimeMoreUptoRow : OpenClaim := { program := "ytonlkodenfiljaa", sum := "fc4a9ad3f8f047fab044804f7aa1d64b7823070a5a3614cde4f3cfc5c41d8a1c", func := "loop.example/processengine/laws.FnTotalTimeMore", spec := "fnTotalTimeMore", unfollowed := true, recurses := true, apart := false, narrowed := true }
def FnTotalTimeMoreUptoSaid : Prop := fnTotalTimeMoreUptoRow.holds Try.pinned (OpenSpec.upto fnTotalTimeMoreSpec)

/-- 'laws.FnCriticalNodesWay', WHERE WHAT IT READS IS OF BULK AT MOST 1048576: true; the input reads as it did. -/
def fnCriticalNodesWayUptoRow : OpenClaim := { program := "ytonlkodenfiljaa", sum := "fc4a9ad3f8f047fab044804f7aa1d64b7823070a5a3614cde4f3cfc5c41d8a1c", func := "loop.example/processengine/laws.FnCriticalNodesWay", spec := "fnCriticalNodesWay", unfollowed := true, recurses := true, apart := false, narrowed := true }
def FnCriticalNodesWayUptoSaid : Prop := fnCriticalNodesWayUptoRow.holds Try.pinned (OpenSpec.upto fnCriticalNodesWaySpec)

/-- 'laws.FnHasCircle', WHERE WHAT IT READS IS OF BULK AT MOST 1048576: true; the input reads as it did. -/
def fnHasCircleUptoRow : OpenClaim := { program := "ytonlkodenfiljaa", sum := "fc4a9ad3f8f047fab044804f7aa1d64b7823070a5a3614cde4f3cfc5c41d8a1c", func := "loop.example/processengine/laws.FnHasCircle", spec := "fnHasCircle", unfollowed := true, recurses := true, apart := false, narrowed := true }
def FnHasCircleUptoSaid : Prop := fnHasCircleUptoRow.holds Try.pinned (OpenSpec.upto fnHasCircleSpec)

/-- 'laws.FnFireNodeTwo', WHERE WHAT IT READS IS OF BULK AT MOST 1048576: true; the input reads as it did. -/
def fnFireNodeTwoUptoRow : OpenClaim := { program := "ytonlkodenfiljaa", sum := "fc4a9ad3f8f047fab044804f7aa1d64b7823070a5a3614cde4f3cfc5c41d8a1c", func := "loop.example/processengine/laws.FnFireNodeTwo", spec := "fnFireNodeTwo", inPlace := ["maps.clone"], unfollowed := true, recurses := true, apart := false, narrowed := true }
def FnFireNodeTwoUptoSaid : Prop := fnFireNodeTwoUptoRow.holds Try.pinned (OpenSpec.upto fnFireNodeTwoSpec)

end Rows
end Go.Proofs.Ytonlkodenfiljaa
