/-
  No cell of these rows narrows 'for every input' (looked for: loops, veiled, ifaces, maps, wideKeys, modest, calm, conditions, laid).
  DERIVED. THE GIVEN ROWS OF THIS SEAT. 9 by the template 'for every input the law returns true; each argument reads behind the call as it read before'; 0 by the template 'total and deterministic' (their statements: YtknphikoikdcjaaGreatTotals.lean).
  GIVEN WITH THE SEED: the statements are not yours to turn. If you find one false, say at which input.
  Laid BY PROGRAM, IN A SANDBOX (cutbox-rows.mjs): the forced cells as the released guide's own fill.sh prints them over the translation a4fae24741ef27e8… (all of the seat's roots in one cut). By AI agents, Wed Nov 11 2026. No macro, syntax, notation, axiom, sorry.
-/
import Derived.Test.YtknphikoikdcjaaGreatChecked
import GoSem.Claim
import GoSem.ClaimJoined
import GoSem.ClaimMapViews
import Derived.JoinedTies
import Derived.KernelRfl
namespace Go.Proofs.YtknphikoikdcjaaGreat
/- THE CELL 'sum', in the pinned program and in every row, IS THE sha256 OF THE DUMP (.gsa) THAT YtknphikoikdcjaaGreatProg.lean LOADS. Nothing in Lean hashes anything: it is a label: what it is worth is what the hold of that sum in a sandbox is worth. -/
noncomputable def Tryz.pinned : Pinned := { name := "ytknphikoikdcjaagreat", sum := "a4fae24741ef27e8b205329d50b097cfb29b3e77dda4bb12f3ee6207ed8df2b1", checked := Tryz.checked }
namespace Rows
def none {H : Type} : Left H := { results := [], args := [] }

/-- 'laws.FnExactMoveInstance': WHATEVER THE INPUT: true; the input reads as it did. -/
def fnExactMoveInstanceSpec : ChangeSpec := { name := "fnExactMoveInstance", fn := fun _ => fun
  | [d1, d2, d3, d4] => { results := [.lit (.bool true)], args := [d1, d2, d3, d4] }
  | _ => none }
def fnExactMoveInstanceRow : OpenClaim := { program := "ytknphikoikdcjaagreat", sum := "a4fae24741ef27e8b205329d50b097cfb29b3e77dda4bb12f3ee6207ed8df2b1", func := "loop.example/processengine/laws.FnExactMoveInstance", spec := "fnExactMoveInstance", unfollowed := true, recurses := true, apart := false }
def FnExactMoveInstanceSaid : Prop := fnExactMoveInstanceRow.holds Tryz.pinned (OpenSpec.ofChange fnExactMoveInstanceSpec)

/-- ITS FALSE NEIGHBOUR: 'it returns false'. Refute it at one input. -/
def fnExactMoveInstanceWrong : ChangeSpec := { name := "fnExactMoveInstance", fn := fun _ => fun
  | [d1, d2, d3, d4] => { results := [.lit (.bool false)], args := [d1, d2, d3, d4] }
  | _ => none }
def FnExactMoveInstanceWrongFalsely : Prop := fnExactMoveInstanceRow.holds Tryz.pinned (OpenSpec.ofChange fnExactMoveInstanceWrong)

/-- 'laws.FnExactStartInstance': WHATEVER THE INPUT: true; the input reads as it did. -/
def fnExactStartInstanceSpec : ChangeSpec := { name := "fnExactStartInstance", fn := fun _ => fun
  | [d1, d2] => { results := [.lit (.bool true)], args := [d1, d2] }
  | _ => none }
def fnExactStartInstanceRow : OpenClaim := { program := "ytknphikoikdcjaagreat", sum := "a4fae24741ef27e8b205329d50b097cfb29b3e77dda4bb12f3ee6207ed8df2b1", func := "loop.example/processengine/laws.FnExactStartInstance", spec := "fnExactStartInstance", inPlace := ["maps.clone"], unfollowed := true, recurses := true, apart := false }
def FnExactStartInstanceSaid : Prop := fnExactStartInstanceRow.holds Tryz.pinned (OpenSpec.ofChange fnExactStartInstanceSpec)

/-- ITS FALSE NEIGHBOUR: 'it returns false'. Refute it at one input. -/
def fnExactStartInstanceWrong : ChangeSpec := { name := "fnExactStartInstance", fn := fun _ => fun
  | [d1, d2] => { results := [.lit (.bool false)], args := [d1, d2] }
  | _ => none }
def FnExactStartInstanceWrongFalsely : Prop := fnExactStartInstanceRow.holds Tryz.pinned (OpenSpec.ofChange fnExactStartInstanceWrong)

/-- 'laws.FnExactOpenTasks': WHATEVER THE INPUT: true; the input reads as it did. -/
def fnExactOpenTasksSpec : ChangeSpec := { name := "fnExactOpenTasks", fn := fun _ => fun
  | [d1, d2] => { results := [.lit (.bool true)], args := [d1, d2] }
  | _ => none }
def fnExactOpenTasksRow : OpenClaim := { program := "ytknphikoikdcjaagreat", sum := "a4fae24741ef27e8b205329d50b097cfb29b3e77dda4bb12f3ee6207ed8df2b1", func := "loop.example/processengine/laws.FnExactOpenTasks", spec := "fnExactOpenTasks", unfollowed := true, recurses := true, apart := false }
def FnExactOpenTasksSaid : Prop := fnExactOpenTasksRow.holds Tryz.pinned (OpenSpec.ofChange fnExactOpenTasksSpec)

/-- ITS FALSE NEIGHBOUR: 'it returns false'. Refute it at one input. -/
def fnExactOpenTasksWrong : ChangeSpec := { name := "fnExactOpenTasks", fn := fun _ => fun
  | [d1, d2] => { results := [.lit (.bool false)], args := [d1, d2] }
  | _ => none }
def FnExactOpenTasksWrongFalsely : Prop := fnExactOpenTasksRow.holds Tryz.pinned (OpenSpec.ofChange fnExactOpenTasksWrong)

/-- 'laws.FnExactCompleteTask': WHATEVER THE INPUT: true; the input reads as it did. -/
def fnExactCompleteTaskSpec : ChangeSpec := { name := "fnExactCompleteTask", fn := fun _ => fun
  | [d1, d2, d3, d4] => { results := [.lit (.bool true)], args := [d1, d2, d3, d4] }
  | _ => none }
def fnExactCompleteTaskRow : OpenClaim := { program := "ytknphikoikdcjaagreat", sum := "a4fae24741ef27e8b205329d50b097cfb29b3e77dda4bb12f3ee6207ed8df2b1", func := "loop.example/processengine/laws.FnExactCompleteTask", spec := "fnExactCompleteTask", inPlace := ["maps.clone"], unfollowed := true, recurses := true, apart := false }
def FnExactCompleteTaskSaid : Prop := fnExactCompleteTaskRow.holds Tryz.pinned (OpenSpec.ofChange fnExactCompleteTaskSpec)

/-- ITS FALSE NEIGHBOUR: 'it returns false'. Refute it at one input. -/
def fnExactCompleteTaskWrong : ChangeSpec := { name := "fnExactCompleteTask", fn := fun _ => fun
  | [d1, d2, d3, d4] => { results := [.lit (.bool false)], args := [d1, d2, d3, d4] }
  | _ => none }
def FnExactCompleteTaskWrongFalsely : Prop := fnExactCompleteTaskRow.holds Tryz.pinned (OpenSpec.ofChange fnExactCompleteTaskWrong)

/-- 'laws.FnExactDeliverMessage': WHATEVER THE INPUT: true; the input reads as it did. -/
def fnExactDeliverMessageSpec : ChangeSpec := { name := "fnExactDeliverMessage", fn := fun _ => fun
  | [d1, d2, d3] => { results := [.lit (.bool true)], args := [d1, d2, d3] }
  | _ => none }
def fnExactDeliverMessageRow : OpenClaim := { program := "ytknphikoikdcjaagreat", sum := "a4fae24741ef27e8b205329d50b097cfb29b3e77dda4bb12f3ee6207ed8df2b1", func := "loop.example/processengine/laws.FnExactDeliverMessage", spec := "fnExactDeliverMessage", inPlace := ["maps.clone"], unfollowed := true, recurses := true, apart := false }
def FnExactDeliverMessageSaid : Prop := fnExactDeliverMessageRow.holds Tryz.pinned (OpenSpec.ofChange fnExactDeliverMessageSpec)

/-- ITS FALSE NEIGHBOUR: 'it returns false'. Refute it at one input. -/
def fnExactDeliverMessageWrong : ChangeSpec := { name := "fnExactDeliverMessage", fn := fun _ => fun
  | [d1, d2, d3] => { results := [.lit (.bool false)], args := [d1, d2, d3] }
  | _ => none }
def FnExactDeliverMessageWrongFalsely : Prop := fnExactDeliverMessageRow.holds Tryz.pinned (OpenSpec.ofChange fnExactDeliverMessageWrong)

/-- 'laws.FnExactAdvanceClock': WHATEVER THE INPUT: true; the input reads as it did. -/
def fnExactAdvanceClockSpec : ChangeSpec := { name := "fnExactAdvanceClock", fn := fun _ => fun
  | [d1, d2, d3] => { results := [.lit (.bool true)], args := [d1, d2, d3] }
  | _ => none }
def fnExactAdvanceClockRow : OpenClaim := { program := "ytknphikoikdcjaagreat", sum := "a4fae24741ef27e8b205329d50b097cfb29b3e77dda4bb12f3ee6207ed8df2b1", func := "loop.example/processengine/laws.FnExactAdvanceClock", spec := "fnExactAdvanceClock", inPlace := ["maps.clone"], unfollowed := true, recurses := true, apart := false }
def FnExactAdvanceClockSaid : Prop := fnExactAdvanceClockRow.holds Tryz.pinned (OpenSpec.ofChange fnExactAdvanceClockSpec)

/-- ITS FALSE NEIGHBOUR: 'it returns false'. Refute it at one input. -/
def fnExactAdvanceClockWrong : ChangeSpec := { name := "fnExactAdvanceClock", fn := fun _ => fun
  | [d1, d2, d3] => { results := [.lit (.bool false)], args := [d1, d2, d3] }
  | _ => none }
def FnExactAdvanceClockWrongFalsely : Prop := fnExactAdvanceClockRow.holds Tryz.pinned (OpenSpec.ofChange fnExactAdvanceClockWrong)

/-- 'laws.FnExactApplyEvent': WHATEVER THE INPUT: true; the input reads as it did. -/
def fnExactApplyEventSpec : ChangeSpec := { name := "fnExactApplyEvent", fn := fun _ => fun
  | [d1, d2, d3] => { results := [.lit (.bool true)], args := [d1, d2, d3] }
  | _ => none }
def fnExactApplyEventRow : OpenClaim := { program := "ytknphikoikdcjaagreat", sum := "a4fae24741ef27e8b205329d50b097cfb29b3e77dda4bb12f3ee6207ed8df2b1", func := "loop.example/processengine/laws.FnExactApplyEvent", spec := "fnExactApplyEvent", inPlace := ["maps.clone"], unfollowed := true, recurses := true, apart := false }
def FnExactApplyEventSaid : Prop := fnExactApplyEventRow.holds Tryz.pinned (OpenSpec.ofChange fnExactApplyEventSpec)

/-- ITS FALSE NEIGHBOUR: 'it returns false'. Refute it at one input. -/
def fnExactApplyEventWrong : ChangeSpec := { name := "fnExactApplyEvent", fn := fun _ => fun
  | [d1, d2, d3] => { results := [.lit (.bool false)], args := [d1, d2, d3] }
  | _ => none }
def FnExactApplyEventWrongFalsely : Prop := fnExactApplyEventRow.holds Tryz.pinned (OpenSpec.ofChange fnExactApplyEventWrong)

/-- 'laws.FnExactReplayEvents': WHATEVER THE INPUT: true; the input reads as it did. -/
def fnExactReplayEventsSpec : ChangeSpec := { name := "fnExactReplayEvents", fn := fun _ => fun
  | [d1, d2, d3] => { results := [.lit (.bool true)], args := [d1, d2, d3] }
  | _ => none }
def fnExactReplayEventsRow : OpenClaim := { program := "ytknphikoikdcjaagreat", sum := "a4fae24741ef27e8b205329d50b097cfb29b3e77dda4bb12f3ee6207ed8df2b1", func := "loop.example/processengine/laws.FnExactReplayEvents", spec := "fnExactReplayEvents", inPlace := ["maps.clone"], unfollowed := true, recurses := true, apart := false }
def FnExactReplayEventsSaid : Prop := fnExactReplayEventsRow.holds Tryz.pinned (OpenSpec.ofChange fnExactReplayEventsSpec)

/-- ITS FALSE NEIGHBOUR: 'it returns false'. Refute it at one input. -/
def fnExactReplayEventsWrong : ChangeSpec := { name := "fnExactReplayEvents", fn := fun _ => fun
  | [d1, d2, d3] => { results := [.lit (.bool false)], args := [d1, d2, d3] }
  | _ => none }
def FnExactReplayEventsWrongFalsely : Prop := fnExactReplayEventsRow.holds Tryz.pinned (OpenSpec.ofChange fnExactReplayEventsWrong)

/-- 'laws.FnExactFirstSplit': WHATEVER THE INPUT: true; the input reads as it did. -/
def fnExactFirstSplitSpec : ChangeSpec := { name := "fnExactFirstSplit", fn := fun _ => fun
  | [d1, d2, d3, d4] => { results := [.lit (.bool true)], args := [d1, d2, d3, d4] }
  | _ => none }
def fnExactFirstSplitRow : OpenClaim := { program := "ytknphikoikdcjaagreat", sum := "a4fae24741ef27e8b205329d50b097cfb29b3e77dda4bb12f3ee6207ed8df2b1", func := "loop.example/processengine/laws.FnExactFirstSplit", spec := "fnExactFirstSplit", inPlace := ["maps.clone"], unfollowed := true, recurses := true, apart := false }
def FnExactFirstSplitSaid : Prop := fnExactFirstSplitRow.holds Tryz.pinned (OpenSpec.ofChange fnExactFirstSplitSpec)

/-- ITS FALSE NEIGHBOUR: 'it returns false'. Refute it at one input. -/
def fnExactFirstSplitWrong : ChangeSpec := { name := "fnExactFirstSplit", fn := fun _ => fun
  | [d1, d2, d3, d4] => { results := [.lit (.bool false)], args := [d1, d2, d3, d4] }
  | _ => none }
def FnExactFirstSplitWrongFalsely : Prop := fnExactFirstSplitRow.holds Tryz.pinned (OpenSpec.ofChange fnExactFirstSplitWrong)

/- THE SECOND FORM. 'bulk': how many values and letters a reading holds, each counted each time it is reached (what is shared counts as often as it is met; a slice's spare places count too). A statement '..UptoSaid' is the law's where the arguments, and the package variables that the reading takes, are together of bulk at most 1048576: NARROWER than '..Said'. Prove '..Said' where nothing that the law and all that it calls make is longer than what came in: it says more and counts as full. Else prove '..UptoSaid'. A law counts once. -/
mutual
def uptoBulk {H : Type} : DataW H → Nat
  | .lit (.string bytes) => bytes.length + 1
  | .lit _ => 1
  | .nil => 1
  | .ptr d => uptoBulk d + 1
  | .slice elems spare => uptoBulkAll elems + uptoBulkAll spare + 1
  | .agg parts => uptoBulkAll parts + 1
  | .iface _ d => uptoBulk d + 1
  | .map entries => uptoBulkEntries entries + 1
  | .held _ => 1
def uptoBulkAll {H : Type} : List (DataW H) → Nat
  | [] => 0
  | d :: r => uptoBulk d + uptoBulkAll r
def uptoBulkEntries {H : Type} : List (Lit × DataW H) → Nat
  | [] => 0
  | x :: r => uptoBulkEntry x + uptoBulkEntries r
def uptoBulkEntry {H : Type} : Lit × DataW H → Nat
  | (.string bytes, d) => bytes.length + uptoBulk d + 1
  | (_, d) => uptoBulk d + 1
 end
def uptoSmall : (H : Type) → List (DataW H) → Bool := fun _ ds => decide (uptoBulkAll ds ≤ 1048576)
def OpenSpec.upto (s : _root_.Go.ChangeSpec) : _root_.Go.OpenSpec := { _root_.Go.OpenSpec.ofChange s with cond := some uptoSmall }

/-- 'laws.FnExactMoveInstance', WHERE WHAT IT READS IS OF BULK AT MOST 1048576: true; the input reads as it did. -/
def fnExactMoveInstanceUptoRow : OpenClaim := { program := "ytknphikoikdcjaagreat", sum := "a4fae24741ef27e8b205329d50b097cfb29b3e77dda4bb12f3ee6207ed8df2b1", func := "loop.example/processengine/laws.FnExactMoveInstance", spec := "fnExactMoveInstance", unfollowed := true, recurses := true, apart := false, narrowed := true }
def FnExactMoveInstanceUptoSaid : Prop := fnExactMoveInstanceUptoRow.holds Tryz.pinned (OpenSpec.upto fnExactMoveInstanceSpec)

/-- 'laws.FnExactStartInstance', WHERE WHAT IT READS IS OF BULK AT MOST 1048576: true; the input reads as it did. -/
def fnExactStartInstanceUptoRow : OpenClaim := { program := "ytknphikoikdcjaagreat", sum := "a4fae24741ef27e8b205329d50b097cfb29b3e77dda4bb12f3ee6207ed8df2b1", func := "loop.example/processengine/laws.FnExactStartInstance", spec := "fnExactStartInstance", inPlace := ["maps.clone"], unfollowed := true, recurses := true, apart := false, narrowed := true }
def FnExactStartInstanceUptoSaid : Prop := fnExactStartInstanceUptoRow.holds Tryz.pinned (OpenSpec.upto fnExactStartInstanceSpec)

/-- 'laws.FnExactOpenTasks', WHERE WHAT IT READS IS OF BULK AT MOST 1048576: true; the input reads as it did. -/
def fnExactOpenTasksUptoRow : OpenClaim := { program := "ytknphikoikdcjaagreat", sum := "a4fae24741ef27e8b205329d50b097cfb29b3e77dda4bb12f3ee6207ed8df2b1", func := "loop.example/processengine/laws.FnExactOpenTasks", spec := "fnExactOpenTasks", unfollowed := true, recurses := true, apart := false, narrowed := true }
def FnExactOpenTasksUptoSaid : Prop := fnExactOpenTasksUptoRow.holds Tryz.pinned (OpenSpec.upto fnExactOpenTasksSpec)

/-- 'laws.FnExactCompleteTask', WHERE WHAT IT READS IS OF BULK AT MOST 1048576: true; the input reads as it did. -/
def fnExactCompleteTaskUptoRow : OpenClaim := { program := "ytknphikoikdcjaagreat", sum := "a4fae24741ef27e8b205329d50b097cfb29b3e77dda4bb12f3ee6207ed8df2b1", func := "loop.example/processengine/laws.FnExactCompleteTask", spec := "fnExactCompleteTask", inPlace := ["maps.clone"], unfollowed := true, recurses := true, apart := false, narrowed := true }
def FnExactCompleteTaskUptoSaid : Prop := fnExactCompleteTaskUptoRow.holds Tryz.pinned (OpenSpec.upto fnExactCompleteTaskSpec)

/-- 'laws.FnExactDeliverMessage', WHERE WHAT IT READS IS OF BULK AT MOST 1048576: true; the input reads as it did. -/
def fnExactDeliverMessageUptoRow : OpenClaim := { program := "ytknphikoikdcjaagreat", sum := "a4fae24741ef27e8b205329d50b097cfb29b3e77dda4bb12f3ee6207ed8df2b1", func := "loop.example/processengine/laws.FnExactDeliverMessage", spec := "fnExactDeliverMessage", inPlace := ["maps.clone"], unfollowed := true, recurses := true, apart := false, narrowed := true }
def FnExactDeliverMessageUptoSaid : Prop := fnExactDeliverMessageUptoRow.holds Tryz.pinned (OpenSpec.upto fnExactDeliverMessageSpec)

/-- 'laws.FnExactAdvanceClock', WHERE WHAT IT READS IS OF BULK AT MOST 1048576: true; the input reads as it did. -/
def fnExactAdvanceClockUptoRow : OpenClaim := { program := "ytknphikoikdcjaagreat", sum := "a4fae24741ef27e8b205329d50b097cfb29b3e77dda4bb12f3ee6207ed8df2b1", func := "loop.example/processengine/laws.FnExactAdvanceClock", spec := "fnExactAdvanceClock", inPlace := ["maps.clone"], unfollowed := true, recurses := true, apart := false, narrowed := true }
def FnExactAdvanceClockUptoSaid : Prop := fnExactAdvanceClockUptoRow.holds Tryz.pinned (OpenSpec.upto fnExactAdvanceClockSpec)

/-- 'laws.FnExactApplyEvent', WHERE WHAT IT READS IS OF BULK AT MOST 1048576: true; the input reads as it did. -/
def fnExactApplyEventUptoRow : OpenClaim := { program := "ytknphikoikdcjaagreat", sum := "a4fae24741ef27e8b205329d50b097cfb29b3e77dda4bb12f3ee6207ed8df2b1", func := "loop.example/processengine/laws.FnExactApplyEvent", spec := "fnExactApplyEvent", inPlace := ["maps.clone"], unfollowed := true, recurses := true, apart := false, narrowed := true }
def FnExactApplyEventUptoSaid : Prop := fnExactApplyEventUptoRow.holds Tryz.pinned (OpenSpec.upto fnExactApplyEventSpec)

/-- 'laws.FnExactReplayEvents', WHERE WHAT IT READS IS OF BULK AT MOST 1048576: true; the input reads as it did. -/
def fnExactReplayEventsUptoRow : OpenClaim := { program := "ytknphikoikdcjaagreat", sum := "a4fae24741ef27e8b205329d50b097cfb29b3e77dda4bb12f3ee6207ed8df2b1", func := "loop.example/processengine/laws.FnExactReplayEvents", spec := "fnExactReplayEvents", inPlace := ["maps.clone"], unfollowed := true, recurses := true, apart := false, narrowed := true }
def FnExactReplayEventsUptoSaid : Prop := fnExactReplayEventsUptoRow.holds Tryz.pinned (OpenSpec.upto fnExactReplayEventsSpec)

/-- 'laws.FnExactFirstSplit', WHERE WHAT IT READS IS OF BULK AT MOST 1048576: true; the input reads as it did. -/
def fnExactFirstSplitUptoRow : OpenClaim := { program := "ytknphikoikdcjaagreat", sum := "a4fae24741ef27e8b205329d50b097cfb29b3e77dda4bb12f3ee6207ed8df2b1", func := "loop.example/processengine/laws.FnExactFirstSplit", spec := "fnExactFirstSplit", inPlace := ["maps.clone"], unfollowed := true, recurses := true, apart := false, narrowed := true }
def FnExactFirstSplitUptoSaid : Prop := fnExactFirstSplitUptoRow.holds Tryz.pinned (OpenSpec.upto fnExactFirstSplitSpec)

end Rows
end Go.Proofs.YtknphikoikdcjaaGreat
