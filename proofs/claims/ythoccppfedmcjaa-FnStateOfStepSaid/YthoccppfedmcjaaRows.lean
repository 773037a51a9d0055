/-
  No cell of these rows narrows 'for every input' (looked for: loops, veiled, ifaces, maps, wideKeys, modest, calm, conditions, laid).
  DERIVED. THE GIVEN ROWS OF THIS SEAT. 9 by the template 'for every input the law returns true; each argument reads behind the call as it read before'; 0 by the template 'total and deterministic' (their statements: YthoccppfedmcjaaTotals.lean).
  GIVEN WITH THE SEED: the statements are not yours to turn. If you find one false, say at which input.
  Laid BY PROGRAM, IN A SANDBOX (cutbox-rows.mjs): the forced cells as the released guide's own fill.sh prints them over the translation 5401cec79cfe37f3… (all of the seat's roots in one cut). By AI agents, Wed Nov 11 2026. No macro, syntax, notation, axiom, sorry.
-/
import Derived.Test.YthoccppfedmcjaaChecked
import GoSem.Claim
import GoSem.ClaimJoined
import GoSem.ClaimMapViews
import Derived.JoinedTies
import Derived.KernelRfl
namespace Go.Proofs.Ythoccppfedmcjaa
/- THE CELL 'sum', in the pinned program and in every row, IS THE sha256 OF THE DUMP (.gsa) THAT YthoccppfedmcjaaProg.lean LOADS. Nothing in Lean hashes anything: it is a label: what it is worth is what the hold of that sum in a sandbox is worth. -/
noncomputable def Try.pinned : Pinned := { name := "ythoccppfedmcjaa", sum := "5401cec79cfe37f3f170eace35c51e533adcbf62740d3569365fff9b612af2f6", checked := Try.checked }
namespace Rows
def none {H : Type} : Left H := { results := [], args := [] }

/-- 'laws.FnValidSnap': WHATEVER THE INPUT: true; the input reads as it did. -/
def fnValidSnapSpec : ChangeSpec := { name := "fnValidSnap", fn := fun _ => fun
  | [d] => { results := [.lit (.bool true)], args := [d] }
  | _ => none }
def fnValidSnapRow : OpenClaim := { program := "ythoccppfedmcjaa", sum := "5401cec79cfe37f3f170eace35c51e533adcbf62740d3569365fff9b612af2f6", func := "loop.example/processengine/laws.FnValidSnap", spec := "fnValidSnap", apart := false }
def FnValidSnapSaid : Prop := fnValidSnapRow.holds Try.pinned (OpenSpec.ofChange fnValidSnapSpec)

/-- ITS FALSE NEIGHBOUR: 'it returns false'. Refute it at one input. -/
def fnValidSnapWrong : ChangeSpec := { name := "fnValidSnap", fn := fun _ => fun
  | [d] => { results := [.lit (.bool false)], args := [d] }
  | _ => none }
def FnValidSnapWrongFalsely : Prop := fnValidSnapRow.holds Try.pinned (OpenSpec.ofChange fnValidSnapWrong)

/-- 'laws.FnStateOf': WHATEVER THE INPUT: true; the input reads as it did. -/
def fnStateOfSpec : ChangeSpec := { name := "fnStateOf", fn := fun _ => fun
  | [d] => { results := [.lit (.bool true)], args := [d] }
  | _ => none }
def fnStateOfRow : OpenClaim := { program := "ythoccppfedmcjaa", sum := "5401cec79cfe37f3f170eace35c51e533adcbf62740d3569365fff9b612af2f6", func := "loop.example/processengine/laws.FnStateOf", spec := "fnStateOf", unfollowed := true, recurses := true, apart := false }
def FnStateOfSaid : Prop := fnStateOfRow.holds Try.pinned (OpenSpec.ofChange fnStateOfSpec)

/-- ITS FALSE NEIGHBOUR: 'it returns false'. Refute it at one input. -/
def fnStateOfWrong : ChangeSpec := { name := "fnStateOf", fn := fun _ => fun
  | [d] => { results := [.lit (.bool false)], args := [d] }
  | _ => none }
def FnStateOfWrongFalsely : Prop := fnStateOfRow.holds Try.pinned (OpenSpec.ofChange fnStateOfWrong)

/-- 'laws.FnStateOfStep': WHATEVER THE INPUT: true; the input reads as it did. -/
def fnStateOfStepSpec : ChangeSpec := { name := "fnStateOfStep", fn := fun _ => fun
  | [d] => { results := [.lit (.bool true)], args := [d] }
  | _ => none }
def fnStateOfStepRow : OpenClaim := { program := "ythoccppfedmcjaa", sum := "5401cec79cfe37f3f170eace35c51e533adcbf62740d3569365fff9b612af2f6", func := "loop.example/processengine/laws.FnStateOfStep", spec := "fnStateOfStep", unfollowed := true, recurses := true, apart := false }
def FnStateOfStepSaid : Prop := fnStateOfStepRow.holds Try.pinned (OpenSpec.ofChange fnStateOfStepSpec)

/-- ITS FALSE NEIGHBOUR: 'it returns false'. Refute it at one input. -/
def fnStateOfStepWrong : ChangeSpec := { name := "fnStateOfStep", fn := fun _ => fun
  | [d] => { results := [.lit (.bool false)], args := [d] }
  | _ => none }
def FnStateOfStepWrongFalsely : Prop := fnStateOfStepRow.holds Try.pinned (OpenSpec.ofChange fnStateOfStepWrong)

/-- 'laws.FnCompactLog': WHATEVER THE INPUT: true; the input reads as it did. -/
def fnCompactLogSpec : ChangeSpec := { name := "fnCompactLog", fn := fun _ => fun
  | [d] => { results := [.lit (.bool true)], args := [d] }
  | _ => none }
def fnCompactLogRow : OpenClaim := { program := "ythoccppfedmcjaa", sum := "5401cec79cfe37f3f170eace35c51e533adcbf62740d3569365fff9b612af2f6", func := "loop.example/processengine/laws.FnCompactLog", spec := "fnCompactLog", unfollowed := true, recurses := true, apart := false }
def FnCompactLogSaid : Prop := fnCompactLogRow.holds Try.pinned (OpenSpec.ofChange fnCompactLogSpec)

/-- ITS FALSE NEIGHBOUR: 'it returns false'. Refute it at one input. -/
def fnCompactLogWrong : ChangeSpec := { name := "fnCompactLog", fn := fun _ => fun
  | [d] => { results := [.lit (.bool false)], args := [d] }
  | _ => none }
def FnCompactLogWrongFalsely : Prop := fnCompactLogRow.holds Try.pinned (OpenSpec.ofChange fnCompactLogWrong)

/-- 'laws.FnCompactLogTwice': WHATEVER THE INPUT: true; the input reads as it did. -/
def fnCompactLogTwiceSpec : ChangeSpec := { name := "fnCompactLogTwice", fn := fun _ => fun
  | [d] => { results := [.lit (.bool true)], args := [d] }
  | _ => none }
def fnCompactLogTwiceRow : OpenClaim := { program := "ythoccppfedmcjaa", sum := "5401cec79cfe37f3f170eace35c51e533adcbf62740d3569365fff9b612af2f6", func := "loop.example/processengine/laws.FnCompactLogTwice", spec := "fnCompactLogTwice", unfollowed := true, recurses := true, apart := false }
def FnCompactLogTwiceSaid : Prop := fnCompactLogTwiceRow.holds Try.pinned (OpenSpec.ofChange fnCompactLogTwiceSpec)

/-- ITS FALSE NEIGHBOUR: 'it returns false'. Refute it at one input. -/
def fnCompactLogTwiceWrong : ChangeSpec := { name := "fnCompactLogTwice", fn := fun _ => fun
  | [d] => { results := [.lit (.bool false)], args := [d] }
  | _ => none }
def FnCompactLogTwiceWrongFalsely : Prop := fnCompactLogTwiceRow.holds Try.pinned (OpenSpec.ofChange fnCompactLogTwiceWrong)

/-- 'laws.FnCompactLogAll': WHATEVER THE INPUT: true; the input reads as it did. -/
def fnCompactLogAllSpec : ChangeSpec := { name := "fnCompactLogAll", fn := fun _ => fun
  | [d] => { results := [.lit (.bool true)], args := [d] }
  | _ => none }
def fnCompactLogAllRow : OpenClaim := { program := "ythoccppfedmcjaa", sum := "5401cec79cfe37f3f170eace35c51e533adcbf62740d3569365fff9b612af2f6", func := "loop.example/processengine/laws.FnCompactLogAll", spec := "fnCompactLogAll", unfollowed := true, recurses := true, apart := false }
def FnCompactLogAllSaid : Prop := fnCompactLogAllRow.holds Try.pinned (OpenSpec.ofChange fnCompactLogAllSpec)

/-- ITS FALSE NEIGHBOUR: 'it returns false'. Refute it at one input. -/
def fnCompactLogAllWrong : ChangeSpec := { name := "fnCompactLogAll", fn := fun _ => fun
  | [d] => { results := [.lit (.bool false)], args := [d] }
  | _ => none }
def FnCompactLogAllWrongFalsely : Prop := fnCompactLogAllRow.holds Try.pinned (OpenSpec.ofChange fnCompactLogAllWrong)

/-- 'laws.FnInstallSnap': WHATEVER THE INPUT: true; the input reads as it did. -/
def fnInstallSnapSpec : ChangeSpec := { name := "fnInstallSnap", fn := fun _ => fun
  | [d] => { results := [.lit (.bool true)], args := [d] }
  | _ => none }
def fnInstallSnapRow : OpenClaim := { program := "ythoccppfedmcjaa", sum := "5401cec79cfe37f3f170eace35c51e533adcbf62740d3569365fff9b612af2f6", func := "loop.example/processengine/laws.FnInstallSnap", spec := "fnInstallSnap", apart := false }
def FnInstallSnapSaid : Prop := fnInstallSnapRow.holds Try.pinned (OpenSpec.ofChange fnInstallSnapSpec)

/-- ITS FALSE NEIGHBOUR: 'it returns false'. Refute it at one input. -/
def fnInstallSnapWrong : ChangeSpec := { name := "fnInstallSnap", fn := fun _ => fun
  | [d] => { results := [.lit (.bool false)], args := [d] }
  | _ => none }
def FnInstallSnapWrongFalsely : Prop := fnInstallSnapRow.holds Try.pinned (OpenSpec.ofChange fnInstallSnapWrong)

/-- 'laws.FnInstallSnapSame': WHATEVER THE INPUT: true; the input reads as it did. -/
def fnInstallSnapSameSpec : ChangeSpec := { name := "fnInstallSnapSame", fn := fun _ => fun
  | [d] => { results := [.lit (.bool true)], args := [d] }
  | _ => none }
def fnInstallSnapSameRow : OpenClaim := { program := "ythoccppfedmcjaa", sum := "5401cec79cfe37f3f170eace35c51e533adcbf62740d3569365fff9b612af2f6", func := "loop.example/processengine/laws.FnInstallSnapSame", spec := "fnInstallSnapSame", unfollowed := true, recurses := true, apart := false }
def FnInstallSnapSameSaid : Prop := fnInstallSnapSameRow.holds Try.pinned (OpenSpec.ofChange fnInstallSnapSameSpec)

/-- ITS FALSE NEIGHBOUR: 'it returns false'. Refute it at one input. -/
def fnInstallSnapSameWrong : ChangeSpec := { name := "fnInstallSnapSame", fn := fun _ => fun
  | [d] => { results := [.lit (.bool false)], args := [d] }
  | _ => none }
def FnInstallSnapSameWrongFalsely : Prop := fnInstallSnapSameRow.holds Try.pinned (OpenSpec.ofChange fnInstallSnapSameWrong)

/-- 'laws.FnInstallSnapOld': WHATEVER THE INPUT: true; the input reads as it did. -/
def fnInstallSnapOldSpec : ChangeSpec := { name := "fnInstallSnapOld", fn := fun _ => fun
  | [d] => { results := [.lit (.bool true)], args := [d] }
  | _ => none }
def fnInstallSnapOldRow : OpenClaim := { program := "ythoccppfedmcjaa", sum := "5401cec79cfe37f3f170eace35c51e533adcbf62740d3569365fff9b612af2f6", func := "loop.example/processengine/laws.FnInstallSnapOld", spec := "fnInstallSnapOld", apart := false }
def FnInstallSnapOldSaid : Prop := fnInstallSnapOldRow.holds Try.pinned (OpenSpec.ofChange fnInstallSnapOldSpec)

/-- ITS FALSE NEIGHBOUR: 'it returns false'. Refute it at one input. -/
def fnInstallSnapOldWrong : ChangeSpec := { name := "fnInstallSnapOld", fn := fun _ => fun
  | [d] => { results := [.lit (.bool false)], args := [d] }
  | _ => none }
def FnInstallSnapOldWrongFalsely : Prop := fnInstallSnapOldRow.holds Try.pinned (OpenSpec.ofChange fnInstallSnapOldWrong)

/- THE SECOND FORM. 'bulk': how many values and letters a reading holds, each counted each time it is reached (what is shared counts as often as it is met; a slice's spare places count too). A statement '..UptoSaid' is the law's where the arguments, and the package variables that the reading takes, are together of bulk at most 1048576: NARROWER than '..Said'. Prove '..Said' where nothing that the law and all that it calls make is longer than what came in: it says more and counts as full. Else prove '..UptoSaid'. A law counts once. -/
mutual
def uptoBulk {H : Type} : DataW H → Nat
  | .lit (.string bytes) => bytes.length + 1
  | .lit _ => 1
  | .nil => 1
  | .ptr d => uptoBulk d + 1
  | .slice elems spare => uptoBulkAll elems + uptoBulkAll spare + 1
  | .agg parts => uptoBulkAll parts + 1
  | .iface _ d => uptoBulk d + 1
  | .map entries => uptoBulkEntries entries + 1
  | .held _ => 1
def uptoBulkAll {H : Type} : List (DataW H) → Nat
  | [] => 0
  | d :: r => uptoBulk d + uptoBulkAll r
def uptoBulkEntries {H : Type} : List (Lit × DataW H) → Nat
  | [] => 0
  | x :: r => uptoBulkEntry x + uptoBulkEntries r
def uptoBulkEntry {H : Type} : Lit × DataW H → Nat
  | (.string bytes, d) => bytes.length + uptoBulk d + 1
  | (_, d) => uptoBulk d + 1
 end
def uptoSmall : (H : Type) → List (DataW H) → Bool := fun _ ds => decide (uptoBulkAll ds ≤ 1048576)
def OpenSpec.upto (s : _root_.Go.ChangeSpec) : _root_.Go.OpenSpec := { _root_.Go.OpenSpec.ofChange s with cond := some uptoSmall }

/-- 'laws.FnValidSnap', WHERE WHAT IT READS IS OF BULK AT MOST 1048576: true; the input reads as it did. -/
def fnValidSnapUptoRow : OpenClaim := { program := "ythoccppfedmcjaa", sum := "5401cec79cfe37f3f170eace35c51e533adcbf62740d3569365fff9b612af2f6", func := "loop.example/processengine/laws.FnValidSnap", spec := "fnValidSnap", apart := false, narrowed := true }
def FnValidSnapUptoSaid : Prop := fnValidSnapUptoRow.holds Try.pinned (OpenSpec.upto fnValidSnapSpec)

/-- 'laws.FnStateOf', WHERE WHAT IT READS IS OF BULK AT MOST 1048576: true; the input reads as it did. -/
def fnStateOfUptoRow : OpenClaim := { program := "ythoccppfedmcjaa", sum := "5401cec79cfe37f3f170eace35c51e533adcbf62740d3569365fff9b612af2f6", func := "loop.example/processengine/laws.FnStateOf", spec := "fnStateOf", unfollowed := true, recurses := true, apart := false, narrowed := true }
def FnStateOfUptoSaid : Prop := fnStateOfUptoRow.holds Try.pinned (OpenSpec.upto fnStateOfSpec)

/-- 'laws.FnStateOfStep', WHERE WHAT IT READS IS OF BULK AT MOST 1048576: true; the input reads as it did. -/
def fnStateOfStepUptoRow : OpenClaim := { program := "ythoccppfedmcjaa", sum := "5401cec79cfe37f3f170eace35c51e533adcbf62740d3569365fff9b612af2f6", func := "loop.example/processengine/laws.FnStateOfStep", spec := "fnStateOfStep", unfollowed := true, recurses := true, apart := false, narrowed := true }
def FnStateOfStepUptoSaid : Prop := fnStateOfStepUptoRow.holds Try.pinned (OpenSpec.upto fnStateOfStepSpec)

/-- 'laws.FnCompactLog', WHERE WHAT IT READS IS OF BULK AT MOST 1048576: true; the input reads as it did. -/
def fnCompactLogUptoRow : OpenClaim := { program := "ythoccppfedmcjaa", sum := "5401cec79cfe37f3f170eace35c51e533adcbf62740d3569365fff9b612af2f6", func := "loop.example/processengine/laws.FnCompactLog", spec := "fnCompactLog", unfollowed := true, recurses := true, apart := false, narrowed := true }
def FnCompactLogUptoSaid : Prop := fnCompactLogUptoRow.holds Try.pinned (OpenSpec.upto fnCompactLogSpec)

/-- 'laws.FnCompactLogTwice', WHERE WHAT IT READS IS OF BULK AT MOST 1048576: true; the input reads as it did. -/
def fnCompactLogTwiceUptoRow : OpenClaim := { program := "ythoccppfedmcjaa", sum := "5401cec79cfe37f3f170eace35c51e533adcbf62740d3569365fff9b612af2f6", func := "loop.example/processengine/laws.FnCompactLogTwice", spec := "fnCompactLogTwice", unfollowed := true, recurses := true, apart := false, narrowed := true }
def FnCompactLogTwiceUptoSaid : Prop := fnCompactLogTwiceUptoRow.holds Try.pinned (OpenSpec.upto fnCompactLogTwiceSpec)

/-- 'laws.FnCompactLogAll', WHERE WHAT IT READS IS OF BULK AT MOST 1048576: true; the input reads as it did. -/
def fnCompactLogAllUptoRow : OpenClaim := { program := "ythoccppfedmcjaa", sum := "5401cec79cfe37f3f170eace35c51e533adcbf62740d3569365fff9b612af2f6", func := "loop.example/processengine/laws.FnCompactLogAll", spec := "fnCompactLogAll", unfollowed := true, recurses := true, apart := false, narrowed := true }
def FnCompactLogAllUptoSaid : Prop := fnCompactLogAllUptoRow.holds Try.pinned (OpenSpec.upto fnCompactLogAllSpec)

/-- 'laws.FnInstallSnap', WHERE WHAT IT READS IS OF BULK AT MOST 1048576: true; the input reads as it did. -/
def fnInstallSnapUptoRow : OpenClaim := { program := "ythoccppfedmcjaa", sum := "5401cec79cfe37f3f170eace35c51e533adcbf62740d3569365fff9b612af2f6", func := "loop.example/processengine/laws.FnInstallSnap", spec := "fnInstallSnap", apart := false, narrowed := true }
def FnInstallSnapUptoSaid : Prop := fnInstallSnapUptoRow.holds Try.pinned (OpenSpec.upto fnInstallSnapSpec)

/-- 'laws.FnInstallSnapSame', WHERE WHAT IT READS IS OF BULK AT MOST 1048576: true; the input reads as it did. -/
def fnInstallSnapSameUptoRow : OpenClaim := { program := "ythoccppfedmcjaa", sum := "5401cec79cfe37f3f170eace35c51e533adcbf62740d3569365fff9b612af2f6", func := "loop.example/processengine/laws.FnInstallSnapSame", spec := "fnInstallSnapSame", unfollowed := true, recurses := true, apart := false, narrowed := true }
def FnInstallSnapSameUptoSaid : Prop := fnInstallSnapSameUptoRow.holds Try.pinned (OpenSpec.upto fnInstallSnapSameSpec)

/-- 'laws.FnInstallSnapOld', WHERE WHAT IT READS IS OF BULK AT MOST 1048576: true; the input reads as it did. -/
def fnInstallSnapOldUptoRow : OpenClaim := { program := "ythoccppfedmcjaa", sum := "5401cec79cfe37f3f170eace35c51e533adcbf62740d3569365fff9b612af2f6", func := "loop.example/processengine/laws.FnInstallSnapOld", spec := "fnInstallSnapOld", apart := false, narrowed := true }
def FnInstallSnapOldUptoSaid : Prop := fnInstallSnapOldUptoRow.holds Try.pinned (OpenSpec.upto fnInstallSnapOldSpec)

end Rows
end Go.Proofs.Ythoccppfedmcjaa
