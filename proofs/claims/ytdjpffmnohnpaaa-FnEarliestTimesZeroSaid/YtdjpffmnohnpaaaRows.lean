/-
  No cell of these rows narrows 'for every input' (looked for: loops, veiled, ifaces, maps, wideKeys, modest, calm, conditions, laid).
  DERIVED. THE GIVEN ROWS OF THIS SEAT. 12 by the template 'for every input the law returns true; each argument reads behind the call as it read before'; 0 by the template 'total and deterministic' (their statements: YtdjpffmnohnpaaaTotals.lean).
  GIVEN WITH THE SEED: the statements are not yours to turn. If you find one false, say at which input.
  Laid BY PROGRAM, IN A SANDBOX (cutbox-rows.mjs): the forced cells as the released guide's own fill.sh prints them over the translation 6ccf05f4c5e2cf6d… (all of the seat's roots in one cut). By AI agents, Wed Nov 11 2026. No macro, syntax, notation, axiom, sorry.
-/
import Derived.Test.YtdjpffmnohnpaaaChecked
import GoSem.Claim
import GoSem.ClaimJoined
import GoSem.ClaimMapViews
import Derived.JoinedTies
import Derived.KernelRfl
namespace Go.Proofs.Ytdjpffmnohnpaaa
/- THE CELL 'sum', in the pinned program and in every row, IS THE sha256 OF THE DUMP (.gsa) THAT YtdjpffmnohnpaaaProg.lean LOADS. Nothing in Lean hashes anything: it is a label: what it is worth is what the hold of that sum in a sandbox is worth. -/
noncomputable def Try.pinned : Pinned := { name := "ytdjpffmnohnpaaa", sum := "6ccf05f4c5e2cf6d4168c1a8e72df32fcbf784c34daa59c5c27bb603ab1ce29a", checked := Try.checked }
namespace Rows
def none {H : Type} : Left H := { results := [], args := [] }

/-- 'laws.FnExactEarliestTimes': WHATEVER THE INPUT: true; the input reads as it did. -/
def fnExactEarliestTimesSpec : ChangeSpec := { name := "fnExactEarliestTimes", fn := fun _ => fun
  | [d1, d2] => { results := [.lit (.bool true)], args := [d1, d2] }
  | _ => none }
def fnExactEarliestTimesRow : OpenClaim := { program := "ytdjpffmnohnpaaa", sum := "6ccf05f4c5e2cf6d4168c1a8e72df32fcbf784c34daa59c5c27bb603ab1ce29a", func := "loop.example/processengine/laws.FnExactEarliestTimes", spec := "fnExactEarliestTimes", unfollowed := true, recurses := true, apart := false }
def FnExactEarliestTimesSaid : Prop := fnExactEarliestTimesRow.holds Try.pinned (OpenSpec.ofChange fnExactEarliestTimesSpec)

/-- ITS FALSE NEIGHBOUR: 'it returns false'. Refute it at one input. -/
def fnExactEarliestTimesWrong : ChangeSpec := { name := "fnExactEarliestTimes", fn := fun _ => fun
  | [d1, d2] => { results := [.lit (.bool false)], args := [d1, d2] }
  | _ => none }
def FnExactEarliestTimesWrongFalsely : Prop := fnExactEarliestTimesRow.holds Try.pinned (OpenSpec.ofChange fnExactEarliestTimesWrong)

/-- 'laws.FnExactTotalTime': WHATEVER THE INPUT: true; the input reads as it did. -/
def fnExactTotalTimeSpec : ChangeSpec := { name := "fnExactTotalTime", fn := fun _ => fun
  | [d1, d2] => { results := [.lit (.bool true)], args := [d1, d2] }
  | _ => none }
def fnExactTotalTimeRow : OpenClaim := { program := "ytdjpffmnohnpaaa", sum := "6ccf05f4c5e2cf6d4168c1a8e72df32fcbf784c34daa59c5c27bb603ab1ce29a", func := "loop.example/processengine/laws.FnExactTotalTime", spec := "fnExactTotalTime", unfollowed := true, recurses := true, apart := false }
def FnExactTotalTimeSaid : Prop := fnExactTotalTimeRow.holds Try.pinned (OpenSpec.ofChange fnExactTotalTimeSpec)

/-- ITS FALSE NEIGHBOUR: 'it returns false'. Refute it at one input. -/
def fnExactTotalTimeWrong : ChangeSpec := { name := "fnExactTotalTime", fn := fun _ => fun
  | [d1, d2] => { results := [.lit (.bool false)], args := [d1, d2] }
  | _ => none }
def FnExactTotalTimeWrongFalsely : Prop := fnExactTotalTimeRow.holds Try.pinned (OpenSpec.ofChange fnExactTotalTimeWrong)

/-- 'laws.FnExactSlackTimes': WHATEVER THE INPUT: true; the input reads as it did. -/
def fnExactSlackTimesSpec : ChangeSpec := { name := "fnExactSlackTimes", fn := fun _ => fun
  | [d1, d2] => { results := [.lit (.bool true)], args := [d1, d2] }
  | _ => none }
def fnExactSlackTimesRow : OpenClaim := { program := "ytdjpffmnohnpaaa", sum := "6ccf05f4c5e2cf6d4168c1a8e72df32fcbf784c34daa59c5c27bb603ab1ce29a", func := "loop.example/processengine/laws.FnExactSlackTimes", spec := "fnExactSlackTimes", unfollowed := true, recurses := true, apart := false }
def FnExactSlackTimesSaid : Prop := fnExactSlackTimesRow.holds Try.pinned (OpenSpec.ofChange fnExactSlackTimesSpec)

/-- ITS FALSE NEIGHBOUR: 'it returns false'. Refute it at one input. -/
def fnExactSlackTimesWrong : ChangeSpec := { name := "fnExactSlackTimes", fn := fun _ => fun
  | [d1, d2] => { results := [.lit (.bool false)], args := [d1, d2] }
  | _ => none }
def FnExactSlackTimesWrongFalsely : Prop := fnExactSlackTimesRow.holds Try.pinned (OpenSpec.ofChange fnExactSlackTimesWrong)

/-- 'laws.FnExactCriticalNodes': WHATEVER THE INPUT: true; the input reads as it did. -/
def fnExactCriticalNodesSpec : ChangeSpec := { name := "fnExactCriticalNodes", fn := fun _ => fun
  | [d1, d2] => { results := [.lit (.bool true)], args := [d1, d2] }
  | _ => none }
def fnExactCriticalNodesRow : OpenClaim := { program := "ytdjpffmnohnpaaa", sum := "6ccf05f4c5e2cf6d4168c1a8e72df32fcbf784c34daa59c5c27bb603ab1ce29a", func := "loop.example/processengine/laws.FnExactCriticalNodes", spec := "fnExactCriticalNodes", unfollowed := true, recurses := true, apart := false }
def FnExactCriticalNodesSaid : Prop := fnExactCriticalNodesRow.holds Try.pinned (OpenSpec.ofChange fnExactCriticalNodesSpec)

/-- ITS FALSE NEIGHBOUR: 'it returns false'. Refute it at one input. -/
def fnExactCriticalNodesWrong : ChangeSpec := { name := "fnExactCriticalNodes", fn := fun _ => fun
  | [d1, d2] => { results := [.lit (.bool false)], args := [d1, d2] }
  | _ => none }
def FnExactCriticalNodesWrongFalsely : Prop := fnExactCriticalNodesRow.holds Try.pinned (OpenSpec.ofChange fnExactCriticalNodesWrong)

/-- 'laws.FnEarliestTimes': WHATEVER THE INPUT: true; the input reads as it did. -/
def fnEarliestTimesSpec : ChangeSpec := { name := "fnEarliestTimes", fn := fun _ => fun
  | [d] => { results := [.lit (.bool true)], args := [d] }
  | _ => none }
def fnEarliestTimesRow : OpenClaim := { program := "ytdjpffmnohnpaaa", sum := "6ccf05f4c5e2cf6d4168c1a8e72df32fcbf784c34daa59c5c27bb603ab1ce29a", func := "loop.example/processengine/laws.FnEarliestTimes", spec := "fnEarliestTimes", unfollowed := true, recurses := true, apart := false }
def FnEarliestTimesSaid : Prop := fnEarliestTimesRow.holds Try.pinned (OpenSpec.ofChange fnEarliestTimesSpec)

/-- ITS FALSE NEIGHBOUR: 'it returns false'. Refute it at one input. -/
def fnEarliestTimesWrong : ChangeSpec := { name := "fnEarliestTimes", fn := fun _ => fun
  | [d] => { results := [.lit (.bool false)], args := [d] }
  | _ => none }
def FnEarliestTimesWrongFalsely : Prop := fnEarliestTimesRow.holds Try.pinned (OpenSpec.ofChange fnEarliestTimesWrong)

/-- 'laws.FnEarliestTimesZero': WHATEVER THE INPUT: true; the input reads as it did. -/
def fnEarliestTimesZeroSpec : ChangeSpec := { name := "fnEarliestTimesZero", fn := fun _ => fun
  | [d] => { results := [.lit (.bool true)], args := [d] }
  | _ => none }
def fnEarliestTimesZeroRow : OpenClaim := { program := "ytdjpffmnohnpaaa", sum := "6ccf05f4c5e2cf6d4168c1a8e72df32fcbf784c34daa59c5c27bb603ab1ce29a", func := "loop.example/processengine/laws.FnEarliestTimesZero", spec := "fnEarliestTimesZero", unfollowed := true, recurses := true, apart := false }
def FnEarliestTimesZeroSaid : Prop := fnEarliestTimesZeroRow.holds Try.pinned (OpenSpec.ofChange fnEarliestTimesZeroSpec)

/-- ITS FALSE NEIGHBOUR: 'it returns false'. Refute it at one input. -/
def fnEarliestTimesZeroWrong : ChangeSpec := { name := "fnEarliestTimesZero", fn := fun _ => fun
  | [d] => { results := [.lit (.bool false)], args := [d] }
  | _ => none }
def FnEarliestTimesZeroWrongFalsely : Prop := fnEarliestTimesZeroRow.holds Try.pinned (OpenSpec.ofChange fnEarliestTimesZeroWrong)

/-- 'laws.FnTotalTime': WHATEVER THE INPUT: true; the input reads as it did. -/
def fnTotalTimeSpec : ChangeSpec := { name := "fnTotalTime", fn := fun _ => fun
  | [d] => { results := [.lit (.bool true)], args := [d] }
  | _ => none }
def fnTotalTimeRow : OpenClaim := { program := "ytdjpffmnohnpaaa", sum := "6ccf05f4c5e2cf6d4168c1a8e72df32fcbf784c34daa59c5c27bb603ab1ce29a", func := "loop.example/processengine/laws.FnTotalTime", spec := "fnTotalTime", unfollowed := true, recurses := true, apart := false }
def FnTotalTimeSaid : Prop := fnTotalTimeRow.holds Try.pinned (OpenSpec.ofChange fnTotalTimeSpec)

/-- ITS FALSE NEIGHBOUR: 'it returns false'. Refute it at one input. -/
def fnTotalTimeWrong : ChangeSpec := { name := "fnTotalTime", fn := fun _ => fun
  | [d] => { results := [.lit (.bool false)], args := [d] }
  | _ => none }
def FnTotalTimeWrongFalsely : Prop := fnTotalTimeRow.holds Try.pinned (OpenSpec.ofChange fnTotalTimeWrong)

/-- 'laws.FnTotalTimeBounds': WHATEVER THE INPUT: true; the input reads as it did. -/
def fnTotalTimeBoundsSpec : ChangeSpec := { name := "fnTotalTimeBounds", fn := fun _ => fun
  | [d] => { results := [.lit (.bool true)], args := [d] }
  | _ => none }
def fnTotalTimeBoundsRow : OpenClaim := { program := "ytdjpffmnohnpaaa", sum := "6ccf05f4c5e2cf6d4168c1a8e72df32fcbf784c34daa59c5c27bb603ab1ce29a", func := "loop.example/processengine/laws.FnTotalTimeBounds", spec := "fnTotalTimeBounds", unfollowed := true, recurses := true, apart := false }
def FnTotalTimeBoundsSaid : Prop := fnTotalTimeBoundsRow.holds Try.pinned (OpenSpec.ofChange fnTotalTimeBoundsSpec)

/-- ITS FALSE NEIGHBOUR: 'it returns false'. Refute it at one input. -/
def fnTotalTimeBoundsWrong : ChangeSpec := { name := "fnTotalTimeBounds", fn := fun _ => fun
  | [d] => { results := [.lit (.bool false)], args := [d] }
  | _ => none }
def FnTotalTimeBoundsWrongFalsely : Prop := fnTotalTimeBoundsRow.holds Try.pinned (OpenSpec.ofChange fnTotalTimeBoundsWrong)

/-- 'laws.FnSlackTimes': WHATEVER THE INPUT: true; the input reads as it did. -/
def fnSlackTimesSpec : ChangeSpec := { name := "fnSlackTimes", fn := fun _ => fun
  | [d] => { results := [.lit (.bool true)], args := [d] }
  | _ => none }
def fnSlackTimesRow : OpenClaim := { program := "ytdjpffmnohnpaaa", sum := "6ccf05f4c5e2cf6d4168c1a8e72df32fcbf784c34daa59c5c27bb603ab1ce29a", func := "loop.example/processengine/laws.FnSlackTimes", spec := "fnSlackTimes", unfollowed := true, recurses := true, apart := false }
def FnSlackTimesSaid : Prop := fnSlackTimesRow.holds Try.pinned (OpenSpec.ofChange fnSlackTimesSpec)

/-- ITS FALSE NEIGHBOUR: 'it returns false'. Refute it at one input. -/
def fnSlackTimesWrong : ChangeSpec := { name := "fnSlackTimes", fn := fun _ => fun
  | [d] => { results := [.lit (.bool false)], args := [d] }
  | _ => none }
def FnSlackTimesWrongFalsely : Prop := fnSlackTimesRow.holds Try.pinned (OpenSpec.ofChange fnSlackTimesWrong)

/-- 'laws.FnSlackTimesFlow': WHATEVER THE INPUT: true; the input reads as it did. -/
def fnSlackTimesFlowSpec : ChangeSpec := { name := "fnSlackTimesFlow", fn := fun _ => fun
  | [d] => { results := [.lit (.bool true)], args := [d] }
  | _ => none }
def fnSlackTimesFlowRow : OpenClaim := { program := "ytdjpffmnohnpaaa", sum := "6ccf05f4c5e2cf6d4168c1a8e72df32fcbf784c34daa59c5c27bb603ab1ce29a", func := "loop.example/processengine/laws.FnSlackTimesFlow", spec := "fnSlackTimesFlow", unfollowed := true, recurses := true, apart := false }
def FnSlackTimesFlowSaid : Prop := fnSlackTimesFlowRow.holds Try.pinned (OpenSpec.ofChange fnSlackTimesFlowSpec)

/-- ITS FALSE NEIGHBOUR: 'it returns false'. Refute it at one input. -/
def fnSlackTimesFlowWrong : ChangeSpec := { name := "fnSlackTimesFlow", fn := fun _ => fun
  | [d] => { results := [.lit (.bool false)], args := [d] }
  | _ => none }
def FnSlackTimesFlowWrongFalsely : Prop := fnSlackTimesFlowRow.holds Try.pinned (OpenSpec.ofChange fnSlackTimesFlowWrong)

/-- 'laws.FnCriticalNodes': WHATEVER THE INPUT: true; the input reads as it did. -/
def fnCriticalNodesSpec : ChangeSpec := { name := "fnCriticalNodes", fn := fun _ => fun
  | [d] => { results := [.lit (.bool true)], args := [d] }
  | _ => none }
def fnCriticalNodesRow : OpenClaim := { program := "ytdjpffmnohnpaaa", sum := "6ccf05f4c5e2cf6d4168c1a8e72df32fcbf784c34daa59c5c27bb603ab1ce29a", func := "loop.example/processengine/laws.FnCriticalNodes", spec := "fnCriticalNodes", unfollowed := true, recurses := true, apart := false }
def FnCriticalNodesSaid : Prop := fnCriticalNodesRow.holds Try.pinned (OpenSpec.ofChange fnCriticalNodesSpec)

/-- ITS FALSE NEIGHBOUR: 'it returns false'. Refute it at one input. -/
def fnCriticalNodesWrong : ChangeSpec := { name := "fnCriticalNodes", fn := fun _ => fun
  | [d] => { results := [.lit (.bool false)], args := [d] }
  | _ => none }
def FnCriticalNodesWrongFalsely : Prop := fnCriticalNodesRow.holds Try.pinned (OpenSpec.ofChange fnCriticalNodesWrong)

/-- 'laws.FnSlackTimesRange': WHATEVER THE INPUT: true; the input reads as it did. -/
def fnSlackTimesRangeSpec : ChangeSpec := { name := "fnSlackTimesRange", fn := fun _ => fun
  | [d] => { results := [.lit (.bool true)], args := [d] }
  | _ => none }
def fnSlackTimesRangeRow : OpenClaim := { program := "ytdjpffmnohnpaaa", sum := "6ccf05f4c5e2cf6d4168c1a8e72df32fcbf784c34daa59c5c27bb603ab1ce29a", func := "loop.example/processengine/laws.FnSlackTimesRange", spec := "fnSlackTimesRange", unfollowed := true, recurses := true, apart := false }
def FnSlackTimesRangeSaid : Prop := fnSlackTimesRangeRow.holds Try.pinned (OpenSpec.ofChange fnSlackTimesRangeSpec)

/-- ITS FALSE NEIGHBOUR: 'it returns false'. Refute it at one input. -/
def fnSlackTimesRangeWrong : ChangeSpec := { name := "fnSlackTimesRange", fn := fun _ => fun
  | [d] => { results := [.lit (.bool false)], args := [d] }
  | _ => none }
def FnSlackTimesRangeWrongFalsely : Prop := fnSlackTimesRangeRow.holds Try.pinned (OpenSpec.ofChange fnSlackTimesRangeWrong)

/- THE SECOND FORM. 'bulk': how many values and letters a reading holds, each counted each time it is reached (what is shared counts as often as it is met; a slice's spare places count too). A statement '..UptoSaid' is the law's where the arguments, and the package variables that the reading takes, are together of bulk at most 1048576: NARROWER than '..Said'. Prove '..Said' where nothing that the law and all that it calls make is longer than what came in: it says more and counts as full. Else prove '..UptoSaid'. A law counts once. -/
mutual
def uptoBulk {H : Type} : DataW H → Nat
  | .lit (.string bytes) => bytes.length + 1
  | .lit _ => 1
  | .nil => 1
  | .ptr d => uptoBulk d + 1
  | .slice elems spare => uptoBulkAll elems + uptoBulkAll spare + 1
  | .agg parts => uptoBulkAll parts + 1
  | .iface _ d => uptoBulk d + 1
  | .map entries => uptoBulkEntries entries + 1
  | .held _ => 1
def uptoBulkAll {H : Type} : List (DataW H) → Nat
  | [] => 0
  | d :: r => uptoBulk d + uptoBulkAll r
def uptoBulkEntries {H : Type} : List (Lit × DataW H) → Nat
  | [] => 0
  | x :: r => uptoBulkEntry x + uptoBulkEntries r
def uptoBulkEntry {H : Type} : Lit × DataW H → Nat
  | (.string bytes, d) => bytes.length + uptoBulk d + 1
  | (_, d) => uptoBulk d + 1
 end
def uptoSmall : (H : Type) → List (DataW H) → Bool := fun _ ds => decide (uptoBulkAll ds ≤ 1048576)
def OpenSpec.upto (s : _root_.Go.ChangeSpec) : _root_.Go.OpenSpec := { _root_.Go.OpenSpec.ofChange s with cond := some uptoSmall }

/-- 'laws.FnExactEarliestTimes', WHERE WHAT IT READS IS OF BULK AT MOST 1048576: true; the input reads as it did. -/
def fnExactEarliestTimesUptoRow : OpenClaim := { program := "ytdjpffmnohnpaaa", sum := "6ccf05f4c5e2cf6d4168c1a8e72df32fcbf784c34daa59c5c27bb603ab1ce29a", func := "loop.example/processengine/laws.FnExactEarliestTimes", spec := "fnExactEarliestTimes", unfollowed := true, recurses := true, apart := false, narrowed := true }
def FnExactEarliestTimesUptoSaid : Prop := fnExactEarliestTimesUptoRow.holds Try.pinned (OpenSpec.upto fnExactEarliestTimesSpec)

/-- 'laws.FnExactTotalTime', WHERE WHAT IT READS IS OF BULK AT MOST 1048576: true; the input reads as it did. -/
def fnExactTotalTimeUptoRow : OpenClaim := { program := "ytdjpffmnohnpaaa", sum := "6ccf05f4c5e2cf6d4168c1a8e72df32fcbf784c34daa59c5c27bb603ab1ce29a", func := "loop.example/processengine/laws.FnExactTotalTime", spec := "fnExactTotalTime", unfollowed := true, recurses := true, apart := false, narrowed := true }
def FnExactTotalTimeUptoSaid : Prop := fnExactTotalTimeUptoRow.holds Try.pinned (OpenSpec.upto fnExactTotalTimeSpec)

/-- 'laws.FnExactSlackTimes', WHERE WHAT IT READS IS OF BULK AT MOST 1048576: true; the input reads as it did. -/
def fnExactSlackTimesUptoRow : OpenClaim := { program := "ytdjpffmnohnpaaa", sum := "6ccf05f4c5e2cf6d4168c1a8e72df32fcbf784c34daa59c5c27bb603ab1ce29a", func := "loop.example/processengine/laws.FnExactSlackTimes", spec := "fnExactSlackTimes", unfollowed := true, recurses := true, apart := false, narrowed := true }
def FnExactSlackTimesUptoSaid : Prop := fnExactSlackTimesUptoRow.holds Try.pinned (OpenSpec.upto fnExactSlackTimesSpec)

/-- 'laws.FnExactCriticalNodes', WHERE WHAT IT READS IS OF BULK AT MOST 1048576: true; the input reads as it did. -/
def fnExactCriticalNodesUptoRow : OpenClaim := { program := "ytdjpffmnohnpaaa", sum := "6ccf05f4c5e2cf6d4168c1a8e72df32fcbf784c34daa59c5c27bb603ab1ce29a", func := "loop.example/processengine/laws.FnExactCriticalNodes", spec := "fnExactCriticalNodes", unfollowed := true, recurses := true, apart := false, narrowed := true }
def FnExactCriticalNodesUptoSaid : Prop := fnExactCriticalNodesUptoRow.holds Try.pinned (OpenSpec.upto fnExactCriticalNodesSpec)

/-- 'laws.FnEarliestTimes', WHERE WHAT IT READS IS OF BULK AT MOST 1048576: true; the input reads as it did. -/
def fnEarliestTimesUptoRow : OpenClaim := { program := "ytdjpffmnohnpaaa", sum := "6ccf05f4c5e2cf6d4168c1a8e72df32fcbf784c34daa59c5c27bb603ab1ce29a", func := "loop.example/processengine/laws.FnEarliestTimes", spec := "fnEarliestTimes", unfollowed := true, recurses := true, apart := false, narrowed := true }
def FnEarliestTimesUptoSaid : Prop := fnEarliestTimesUptoRow.holds Try.pinned (OpenSpec.upto fnEarliestTimesSpec)

/-- 'laws.FnEarliestTimesZero', WHERE WHAT IT READS IS OF BULK AT MOST 1048576: true; the input reads as it did. -/
def fnEarliestTimesZeroUptoRow : OpenClaim := { program := "ytdjpffmnohnpaaa", sum := "6ccf05f4c5e2cf6d4168c1a8e72df32fcbf784c34daa59c5c27bb603ab1ce29a", func := "loop.example/processengine/laws.FnEarliestTimesZero", spec := "fnEarliestTimesZero", unfollowed := true, recurses := true, apart := false, narrowed := true }
def FnEarliestTimesZeroUptoSaid : Prop := fnEarliestTimesZeroUptoRow.holds Try.pinned (OpenSpec.upto fnEarliestTimesZeroSpec)

/-- 'laws.FnTotalTime', WHERE WHAT IT READS IS OF BULK AT MOST 1048576: true; the input reads as it did. -/
def fnTotalTimeUptoRow : OpenClaim := { program := "ytdjpffmnohnpaaa", sum := "6ccf05f4c5e2cf6d4168c1a8e72df32fcbf784c34daa59c5c27bb603ab1ce29a", func := "loop.example/processengine/laws.FnTotalTime", spec := "fnTotalTime", unfollowed := true, recurses := true, apart := false, narrowed := true }
def FnTotalTimeUptoSaid : Prop := fnTotalTimeUptoRow.holds Try.pinned (OpenSpec.upto fnTotalTimeSpec)

/-- 'laws.FnTotalTimeBounds', WHERE WHAT IT READS IS OF BULK AT MOST 1048576: true; the input reads as it did. -/
def fnTotalTimeBoundsUptoRow : OpenClaim := { program := "ytdjpffmnohnpaaa", sum := "6ccf05f4c5e2cf6d4168c1a8e72df32fcbf784c34daa59c5c27bb603ab1ce29a", func := "loop.example/processengine/laws.FnTotalTimeBounds", spec := "fnTotalTimeBounds", unfollowed := true, recurses := true, apart := false, narrowed := true }
def FnTotalTimeBoundsUptoSaid : Prop := fnTotalTimeBoundsUptoRow.holds Try.pinned (OpenSpec.upto fnTotalTimeBoundsSpec)

/-- 'laws.FnSlackTimes', WHERE WHAT IT READS IS OF BULK AT MOST 1048576: true; the input reads as it did. -/
def fnSlackTimesUptoRow : OpenClaim := { program := "ytdjpffmnohnpaaa", sum := "6ccf05f4c5e2cf6d4168c1a8e72df32fcbf784c34daa59c5c27bb603ab1ce29a", func := "loop.example/processengine/laws.FnSlackTimes", spec := "fnSlackTimes", unfollowed := true, recurses := true, apart := false, narrowed := true }
def FnSlackTimesUptoSaid : Prop := fnSlackTimesUptoRow.holds Try.pinned (OpenSpec.upto fnSlackTimesSpec)

/-- 'laws.FnSlackTimesFlow', WHERE WHAT IT READS IS OF BULK AT MOST 1048576: true; the input reads as it did. -/
def fnSlackTimesFlowUptoRow : OpenClaim := { program := "ytdjpffmnohnpaaa", sum := "6ccf05f4c5e2cf6d4168c1a8e72df32fcbf784c34daa59c5c27bb603ab1ce29a", func := "loop.example/processengine/laws.FnSlackTimesFlow", spec := "fnSlackTimesFlow", unfollowed := true, recurses := true, apart := false, narrowed := true }
def FnSlackTimesFlowUptoSaid : Prop := fnSlackTimesFlowUptoRow.holds Try.pinned (OpenSpec.upto fnSlackTimesFlowSpec)

/-- 'laws.FnCriticalNodes', WHERE WHAT IT READS IS OF BULK AT MOST 1048576: true; the input reads as it did. -/
def fnCriticalNodesUptoRow : OpenClaim := { program := "ytdjpffmnohnpaaa", sum := "6ccf05f4c5e2cf6d4168c1a8e72df32fcbf784c34daa59c5c27bb603ab1ce29a", func := "loop.example/processengine/laws.FnCriticalNodes", spec := "fnCriticalNodes", unfollowed := true, recurses := true, apart := false, narrowed := true }
def FnCriticalNodesUptoSaid : Prop := fnCriticalNodesUptoRow.holds Try.pinned (OpenSpec.upto fnCriticalNodesSpec)

/-- 'laws.FnSlackTimesRange', WHERE WHAT IT READS IS OF BULK AT MOST 1048576: true; the input reads as it did. -/
def fnSlackTimesRangeUptoRow : OpenClaim := { program := "ytdjpffmnohnpaaa", sum := "6ccf05f4c5e2cf6d4168c1a8e72df32fcbf784c34daa59c5c27bb603ab1ce29a", func := "loop.example/processengine/laws.FnSlackTimesRange", spec := "fnSlackTimesRange", unfollowed := true, recurses := true, apart := false, narrowed := true }
def FnSlackTimesRangeUptoSaid : Prop := fnSlackTimesRangeUptoRow.holds Try.pinned (OpenSpec.upto fnSlackTimesRangeSpec)

end Rows
end Go.Proofs.Ytdjpffmnohnpaaa
