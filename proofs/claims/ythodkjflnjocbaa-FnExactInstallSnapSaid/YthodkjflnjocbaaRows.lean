/-
  No cell of these rows narrows 'for every input' (looked for: loops, veiled, ifaces, maps, wideKeys, modest, calm, conditions, laid).
  DERIVED. THE GIVEN ROWS OF THIS SEAT. 10 by the template 'for every input the law returns true; each argument reads behind the call as it read before'; 0 by the template 'total and deterministic' (their statements: YthodkjflnjocbaaTotals.lean).
  GIVEN WITH THE SEED: the statements are not yours to turn. If you find one false, say at which input.
  Laid BY PROGRAM, IN A SANDBOX (cutbox-rows.mjs): the forced cells as the released guide's own fill.sh prints them over the translation 89990c0bf33a9006… (all of the seat's roots in one cut). By AI agents, Wed Nov 11 2026. No macro, syntax, notation, axiom, sorry.
-/
import Derived.Test.YthodkjflnjocbaaChecked
import GoSem.Claim
import GoSem.ClaimJoined
import GoSem.ClaimMapViews
import Derived.JoinedTies
import Derived.KernelRfl
namespace Go.Proofs.Ythodkjflnjocbaa
/- THE CELL 'sum', in the pinned program and in every row, IS THE sha256 OF THE DUMP (.gsa) THAT YthodkjflnjocbaaProg.lean LOADS. Nothing in Lean hashes anything: it is a label: what it is worth is what the hold of that sum in a sandbox is worth. -/
noncomputable def Try.pinned : Pinned := { name := "ythodkjflnjocbaa", sum := "89990c0bf33a90065f8ad00c3dc381155d8d55996d6b94c2cd78a2ae83adfdf0", checked := Try.checked }
namespace Rows
def none {H : Type} : Left H := { results := [], args := [] }

/-- 'laws.FnExactValidSnap': WHATEVER THE INPUT: true; the input reads as it did. -/
def fnExactValidSnapSpec : ChangeSpec := { name := "fnExactValidSnap", fn := fun _ => fun
  | [d] => { results := [.lit (.bool true)], args := [d] }
  | _ => none }
def fnExactValidSnapRow : OpenClaim := { program := "ythodkjflnjocbaa", sum := "89990c0bf33a90065f8ad00c3dc381155d8d55996d6b94c2cd78a2ae83adfdf0", func := "loop.example/processengine/laws.FnExactValidSnap", spec := "fnExactValidSnap", apart := false }
def FnExactValidSnapSaid : Prop := fnExactValidSnapRow.holds Try.pinned (OpenSpec.ofChange fnExactValidSnapSpec)

/-- ITS FALSE NEIGHBOUR: 'it returns false'. Refute it at one input. -/
def fnExactValidSnapWrong : ChangeSpec := { name := "fnExactValidSnap", fn := fun _ => fun
  | [d] => { results := [.lit (.bool false)], args := [d] }
  | _ => none }
def FnExactValidSnapWrongFalsely : Prop := fnExactValidSnapRow.holds Try.pinned (OpenSpec.ofChange fnExactValidSnapWrong)

/-- 'laws.FnExactStateOf': WHATEVER THE INPUT: true; the input reads as it did. -/
def fnExactStateOfSpec : ChangeSpec := { name := "fnExactStateOf", fn := fun _ => fun
  | [d] => { results := [.lit (.bool true)], args := [d] }
  | _ => none }
def fnExactStateOfRow : OpenClaim := { program := "ythodkjflnjocbaa", sum := "89990c0bf33a90065f8ad00c3dc381155d8d55996d6b94c2cd78a2ae83adfdf0", func := "loop.example/processengine/laws.FnExactStateOf", spec := "fnExactStateOf", unfollowed := true, recurses := true, apart := false }
def FnExactStateOfSaid : Prop := fnExactStateOfRow.holds Try.pinned (OpenSpec.ofChange fnExactStateOfSpec)

/-- ITS FALSE NEIGHBOUR: 'it returns false'. Refute it at one input. -/
def fnExactStateOfWrong : ChangeSpec := { name := "fnExactStateOf", fn := fun _ => fun
  | [d] => { results := [.lit (.bool false)], args := [d] }
  | _ => none }
def FnExactStateOfWrongFalsely : Prop := fnExactStateOfRow.holds Try.pinned (OpenSpec.ofChange fnExactStateOfWrong)

/-- 'laws.FnExactCompactLog': WHATEVER THE INPUT: true; the input reads as it did. -/
def fnExactCompactLogSpec : ChangeSpec := { name := "fnExactCompactLog", fn := fun _ => fun
  | [d1, d2] => { results := [.lit (.bool true)], args := [d1, d2] }
  | _ => none }
def fnExactCompactLogRow : OpenClaim := { program := "ythodkjflnjocbaa", sum := "89990c0bf33a90065f8ad00c3dc381155d8d55996d6b94c2cd78a2ae83adfdf0", func := "loop.example/processengine/laws.FnExactCompactLog", spec := "fnExactCompactLog", unfollowed := true, recurses := true, apart := false }
def FnExactCompactLogSaid : Prop := fnExactCompactLogRow.holds Try.pinned (OpenSpec.ofChange fnExactCompactLogSpec)

/-- ITS FALSE NEIGHBOUR: 'it returns false'. Refute it at one input. -/
def fnExactCompactLogWrong : ChangeSpec := { name := "fnExactCompactLog", fn := fun _ => fun
  | [d1, d2] => { results := [.lit (.bool false)], args := [d1, d2] }
  | _ => none }
def FnExactCompactLogWrongFalsely : Prop := fnExactCompactLogRow.holds Try.pinned (OpenSpec.ofChange fnExactCompactLogWrong)

/-- 'laws.FnExactInstallSnap': WHATEVER THE INPUT: true; the input reads as it did. -/
def fnExactInstallSnapSpec : ChangeSpec := { name := "fnExactInstallSnap", fn := fun _ => fun
  | [d1, d2] => { results := [.lit (.bool true)], args := [d1, d2] }
  | _ => none }
def fnExactInstallSnapRow : OpenClaim := { program := "ythodkjflnjocbaa", sum := "89990c0bf33a90065f8ad00c3dc381155d8d55996d6b94c2cd78a2ae83adfdf0", func := "loop.example/processengine/laws.FnExactInstallSnap", spec := "fnExactInstallSnap", apart := false }
def FnExactInstallSnapSaid : Prop := fnExactInstallSnapRow.holds Try.pinned (OpenSpec.ofChange fnExactInstallSnapSpec)

/-- ITS FALSE NEIGHBOUR: 'it returns false'. Refute it at one input. -/
def fnExactInstallSnapWrong : ChangeSpec := { name := "fnExactInstallSnap", fn := fun _ => fun
  | [d1, d2] => { results := [.lit (.bool false)], args := [d1, d2] }
  | _ => none }
def FnExactInstallSnapWrongFalsely : Prop := fnExactInstallSnapRow.holds Try.pinned (OpenSpec.ofChange fnExactInstallSnapWrong)

/-- 'laws.FnExactCommitPoint': WHATEVER THE INPUT: true; the input reads as it did. -/
def fnExactCommitPointSpec : ChangeSpec := { name := "fnExactCommitPoint", fn := fun _ => fun
  | [d1, d2, d3] => { results := [.lit (.bool true)], args := [d1, d2, d3] }
  | _ => none }
def fnExactCommitPointRow : OpenClaim := { program := "ythodkjflnjocbaa", sum := "89990c0bf33a90065f8ad00c3dc381155d8d55996d6b94c2cd78a2ae83adfdf0", func := "loop.example/processengine/laws.FnExactCommitPoint", spec := "fnExactCommitPoint", unfollowed := true, recurses := true, apart := false }
def FnExactCommitPointSaid : Prop := fnExactCommitPointRow.holds Try.pinned (OpenSpec.ofChange fnExactCommitPointSpec)

/-- ITS FALSE NEIGHBOUR: 'it returns false'. Refute it at one input. -/
def fnExactCommitPointWrong : ChangeSpec := { name := "fnExactCommitPoint", fn := fun _ => fun
  | [d1, d2, d3] => { results := [.lit (.bool false)], args := [d1, d2, d3] }
  | _ => none }
def FnExactCommitPointWrongFalsely : Prop := fnExactCommitPointRow.holds Try.pinned (OpenSpec.ofChange fnExactCommitPointWrong)

/-- 'laws.FnExactCountVotes': WHATEVER THE INPUT: true; the input reads as it did. -/
def fnExactCountVotesSpec : ChangeSpec := { name := "fnExactCountVotes", fn := fun _ => fun
  | [d1, d2, d3, d4] => { results := [.lit (.bool true)], args := [d1, d2, d3, d4] }
  | _ => none }
def fnExactCountVotesRow : OpenClaim := { program := "ythodkjflnjocbaa", sum := "89990c0bf33a90065f8ad00c3dc381155d8d55996d6b94c2cd78a2ae83adfdf0", func := "loop.example/processengine/laws.FnExactCountVotes", spec := "fnExactCountVotes", apart := false }
def FnExactCountVotesSaid : Prop := fnExactCountVotesRow.holds Try.pinned (OpenSpec.ofChange fnExactCountVotesSpec)

/-- ITS FALSE NEIGHBOUR: 'it returns false'. Refute it at one input. -/
def fnExactCountVotesWrong : ChangeSpec := { name := "fnExactCountVotes", fn := fun _ => fun
  | [d1, d2, d3, d4] => { results := [.lit (.bool false)], args := [d1, d2, d3, d4] }
  | _ => none }
def FnExactCountVotesWrongFalsely : Prop := fnExactCountVotesRow.holds Try.pinned (OpenSpec.ofChange fnExactCountVotesWrong)

/-- 'laws.FnCommitPoint': WHATEVER THE INPUT: true; the input reads as it did. -/
def fnCommitPointSpec : ChangeSpec := { name := "fnCommitPoint", fn := fun _ => fun
  | [d] => { results := [.lit (.bool true)], args := [d] }
  | _ => none }
def fnCommitPointRow : OpenClaim := { program := "ythodkjflnjocbaa", sum := "89990c0bf33a90065f8ad00c3dc381155d8d55996d6b94c2cd78a2ae83adfdf0", func := "loop.example/processengine/laws.FnCommitPoint", spec := "fnCommitPoint", unfollowed := true, recurses := true, apart := false }
def FnCommitPointSaid : Prop := fnCommitPointRow.holds Try.pinned (OpenSpec.ofChange fnCommitPointSpec)

/-- ITS FALSE NEIGHBOUR: 'it returns false'. Refute it at one input. -/
def fnCommitPointWrong : ChangeSpec := { name := "fnCommitPoint", fn := fun _ => fun
  | [d] => { results := [.lit (.bool false)], args := [d] }
  | _ => none }
def FnCommitPointWrongFalsely : Prop := fnCommitPointRow.holds Try.pinned (OpenSpec.ofChange fnCommitPointWrong)

/-- 'laws.FnCommitPointMore': WHATEVER THE INPUT: true; the input reads as it did. -/
def fnCommitPointMoreSpec : ChangeSpec := { name := "fnCommitPointMore", fn := fun _ => fun
  | [d] => { results := [.lit (.bool true)], args := [d] }
  | _ => none }
def fnCommitPointMoreRow : OpenClaim := { program := "ythodkjflnjocbaa", sum := "89990c0bf33a90065f8ad00c3dc381155d8d55996d6b94c2cd78a2ae83adfdf0", func := "loop.example/processengine/laws.FnCommitPointMore", spec := "fnCommitPointMore", unfollowed := true, recurses := true, apart := false }
def FnCommitPointMoreSaid : Prop := fnCommitPointMoreRow.holds Try.pinned (OpenSpec.ofChange fnCommitPointMoreSpec)

/-- ITS FALSE NEIGHBOUR: 'it returns false'. Refute it at one input. -/
def fnCommitPointMoreWrong : ChangeSpec := { name := "fnCommitPointMore", fn := fun _ => fun
  | [d] => { results := [.lit (.bool false)], args := [d] }
  | _ => none }
def FnCommitPointMoreWrongFalsely : Prop := fnCommitPointMoreRow.holds Try.pinned (OpenSpec.ofChange fnCommitPointMoreWrong)

/-- 'laws.FnCommitPointGreatest': WHATEVER THE INPUT: true; the input reads as it did. -/
def fnCommitPointGreatestSpec : ChangeSpec := { name := "fnCommitPointGreatest", fn := fun _ => fun
  | [d] => { results := [.lit (.bool true)], args := [d] }
  | _ => none }
def fnCommitPointGreatestRow : OpenClaim := { program := "ythodkjflnjocbaa", sum := "89990c0bf33a90065f8ad00c3dc381155d8d55996d6b94c2cd78a2ae83adfdf0", func := "loop.example/processengine/laws.FnCommitPointGreatest", spec := "fnCommitPointGreatest", unfollowed := true, recurses := true, apart := false }
def FnCommitPointGreatestSaid : Prop := fnCommitPointGreatestRow.holds Try.pinned (OpenSpec.ofChange fnCommitPointGreatestSpec)

/-- ITS FALSE NEIGHBOUR: 'it returns false'. Refute it at one input. -/
def fnCommitPointGreatestWrong : ChangeSpec := { name := "fnCommitPointGreatest", fn := fun _ => fun
  | [d] => { results := [.lit (.bool false)], args := [d] }
  | _ => none }
def FnCommitPointGreatestWrongFalsely : Prop := fnCommitPointGreatestRow.holds Try.pinned (OpenSpec.ofChange fnCommitPointGreatestWrong)

/-- 'laws.FnCommitPointAll': WHATEVER THE INPUT: true; the input reads as it did. -/
def fnCommitPointAllSpec : ChangeSpec := { name := "fnCommitPointAll", fn := fun _ => fun
  | [d] => { results := [.lit (.bool true)], args := [d] }
  | _ => none }
def fnCommitPointAllRow : OpenClaim := { program := "ythodkjflnjocbaa", sum := "89990c0bf33a90065f8ad00c3dc381155d8d55996d6b94c2cd78a2ae83adfdf0", func := "loop.example/processengine/laws.FnCommitPointAll", spec := "fnCommitPointAll", unfollowed := true, recurses := true, apart := false }
def FnCommitPointAllSaid : Prop := fnCommitPointAllRow.holds Try.pinned (OpenSpec.ofChange fnCommitPointAllSpec)

/-- ITS FALSE NEIGHBOUR: 'it returns false'. Refute it at one input. -/
def fnCommitPointAllWrong : ChangeSpec := { name := "fnCommitPointAll", fn := fun _ => fun
  | [d] => { results := [.lit (.bool false)], args := [d] }
  | _ => none }
def FnCommitPointAllWrongFalsely : Prop := fnCommitPointAllRow.holds Try.pinned (OpenSpec.ofChange fnCommitPointAllWrong)

/- THE SECOND FORM. 'bulk': how many values and letters a reading holds, each counted each time it is reached (what is shared counts as often as it is met; a slice's spare places count too). A statement '..UptoSaid' is the law's where the arguments, and the package variables that the reading takes, are together of bulk at most 1048576: NARROWER than '..Said'. Prove '..Said' where nothing that the law and all that it calls make is longer than what came in: it says more and counts as full. Else prove '..UptoSaid'. A law counts once. -/
mutual
def uptoBulk {H : Type} : DataW H → Nat
  | .lit (.string bytes) => bytes.length + 1
  | .lit _ => 1
  | .nil => 1
  | .ptr d => uptoBulk d + 1
  | .slice elems spare => uptoBulkAll elems + uptoBulkAll spare + 1
  | .agg parts => uptoBulkAll parts + 1
  | .iface _ d => uptoBulk d + 1
  | .map entries => uptoBulkEntries entries + 1
  | .held _ => 1
def uptoBulkAll {H : Type} : List (DataW H) → Nat
  | [] => 0
  | d :: r => uptoBulk d + uptoBulkAll r
def uptoBulkEntries {H : Type} : List (Lit × DataW H) → Nat
  | [] => 0
  | x :: r => uptoBulkEntry x + uptoBulkEntries r
def uptoBulkEntry {H : Type} : Lit × DataW H → Nat
  | (.string bytes, d) => bytes.length + uptoBulk d + 1
  | (_, d) => uptoBulk d + 1
 end
def uptoSmall : (H : Type) → List (DataW H) → Bool := fun _ ds => decide (uptoBulkAll ds ≤ 1048576)
def OpenSpec.upto (s : _root_.Go.ChangeSpec) : _root_.Go.OpenSpec := { _root_.Go.OpenSpec.ofChange s with cond := some uptoSmall }

/-- 'laws.FnExactValidSnap', WHERE WHAT IT READS IS OF BULK AT MOST 1048576: true; the input reads as it did. -/
def fnExactValidSnapUptoRow : OpenClaim := { program := "ythodkjflnjocbaa", sum := "89990c0bf33a90065f8ad00c3dc381155d8d55996d6b94c2cd78a2ae83adfdf0", func := "loop.example/processengine/laws.FnExactValidSnap", spec := "fnExactValidSnap", apart := false, narrowed := true }
def FnExactValidSnapUptoSaid : Prop := fnExactValidSnapUptoRow.holds Try.pinned (OpenSpec.upto fnExactValidSnapSpec)

/-- 'laws.FnExactStateOf', WHERE WHAT IT READS IS OF BULK AT MOST 1048576: true; the input reads as it did. -/
def fnExactStateOfUptoRow : OpenClaim := { program := "ythodkjflnjocbaa", sum := "89990c0bf33a90065f8ad00c3dc381155d8d55996d6b94c2cd78a2ae83adfdf0", func := "loop.example/processengine/laws.FnExactStateOf", spec := "fnExactStateOf", unfollowed := true, recurses := true, apart := false, narrowed := true }
def FnExactStateOfUptoSaid : Prop := fnExactStateOfUptoRow.holds Try.pinned (OpenSpec.upto fnExactStateOfSpec)

/-- 'laws.FnExactCompactLog', WHERE WHAT IT READS IS OF BULK AT MOST 1048576: true; the input reads as it did. -/
def fnExactCompactLogUptoRow : OpenClaim := { program := "ythodkjflnjocbaa", sum := "89990c0bf33a90065f8ad00c3dc381155d8d55996d6b94c2cd78a2ae83adfdf0", func := "loop.example/processengine/laws.FnExactCompactLog", spec := "fnExactCompactLog", unfollowed := true, recurses := true, apart := false, narrowed := true }
def FnExactCompactLogUptoSaid : Prop := fnExactCompactLogUptoRow.holds Try.pinned (OpenSpec.upto fnExactCompactLogSpec)

/-- 'laws.FnExactInstallSnap', WHERE WHAT IT READS IS OF BULK AT MOST 1048576: true; the input reads as it did. -/
def fnExactInstallSnapUptoRow : OpenClaim := { program := "ythodkjflnjocbaa", sum := "89990c0bf33a90065f8ad00c3dc381155d8d55996d6b94c2cd78a2ae83adfdf0", func := "loop.example/processengine/laws.FnExactInstallSnap", spec := "fnExactInstallSnap", apart := false, narrowed := true }
def FnExactInstallSnapUptoSaid : Prop := fnExactInstallSnapUptoRow.holds Try.pinned (OpenSpec.upto fnExactInstallSnapSpec)

/-- 'laws.FnExactCommitPoint', WHERE WHAT IT READS IS OF BULK AT MOST 1048576: true; the input reads as it did. -/
def fnExactCommitPointUptoRow : OpenClaim := { program := "ythodkjflnjocbaa", sum := "89990c0bf33a90065f8ad00c3dc381155d8d55996d6b94c2cd78a2ae83adfdf0", func := "loop.example/processengine/laws.FnExactCommitPoint", spec := "fnExactCommitPoint", unfollowed := true, recurses := true, apart := false, narrowed := true }
def FnExactCommitPointUptoSaid : Prop := fnExactCommitPointUptoRow.holds Try.pinned (OpenSpec.upto fnExactCommitPointSpec)

/-- 'laws.FnExactCountVotes', WHERE WHAT IT READS IS OF BULK AT MOST 1048576: true; the input reads as it did. -/
def fnExactCountVotesUptoRow : OpenClaim := { program := "ythodkjflnjocbaa", sum := "89990c0bf33a90065f8ad00c3dc381155d8d55996d6b94c2cd78a2ae83adfdf0", func := "loop.example/processengine/laws.FnExactCountVotes", spec := "fnExactCountVotes", apart := false, narrowed := true }
def FnExactCountVotesUptoSaid : Prop := fnExactCountVotesUptoRow.holds Try.pinned (OpenSpec.upto fnExactCountVotesSpec)

/-- 'laws.FnCommitPoint', WHERE WHAT IT READS IS OF BULK AT MOST 1048576: true; the input reads as it did. -/
def fnCommitPointUptoRow : OpenClaim := { program := "ythodkjflnjocbaa", sum := "89990c0bf33a90065f8ad00c3dc381155d8d55996d6b94c2cd78a2ae83adfdf0", func := "loop.example/processengine/laws.FnCommitPoint", spec := "fnCommitPoint", unfollowed := true, recurses := true, apart := false, narrowed := true }
def FnCommitPointUptoSaid : Prop := fnCommitPointUptoRow.holds Try.pinned (OpenSpec.upto fnCommitPointSpec)

/-- 'laws.FnCommitPointMore', WHERE WHAT IT READS IS OF BULK AT MOST 1048576: true; the input reads as it did. -/
def fnCommitPointMoreUptoRow : OpenClaim := { program := "ythodkjflnjocbaa", sum := "89990c0bf33a90065f8ad00c3dc381155d8d55996d6b94c2cd78a2ae83adfdf0", func := "loop.example/processengine/laws.FnCommitPointMore", spec := "fnCommitPointMore", unfollowed := true, recurses := true, apart := false, narrowed := true }
def FnCommitPointMoreUptoSaid : Prop := fnCommitPointMoreUptoRow.holds Try.pinned (OpenSpec.upto fnCommitPointMoreSpec)

/-- 'laws.FnCommitPointGreatest', WHERE WHAT IT READS IS OF BULK AT MOST 1048576: true; the input reads as it did. -/
def fnCommitPointGreatestUptoRow : OpenClaim := { program := "ythodkjflnjocbaa", sum := "89990c0bf33a90065f8ad00c3dc381155d8d55996d6b94c2cd78a2ae83adfdf0", func := "loop.example/processengine/laws.FnCommitPointGreatest", spec := "fnCommitPointGreatest", unfollowed := true, recurses := true, apart := false, narrowed := true }
def FnCommitPointGreatestUptoSaid : Prop := fnCommitPointGreatestUptoRow.holds Try.pinned (OpenSpec.upto fnCommitPointGreatestSpec)

/-- 'laws.FnCommitPointAll', WHERE WHAT IT READS IS OF BULK AT MOST 1048576: true; the input reads as it did. -/
def fnCommitPointAllUptoRow : OpenClaim := { program := "ythodkjflnjocbaa", sum := "89990c0bf33a90065f8ad00c3dc381155d8d55996d6b94c2cd78a2ae83adfdf0", func := "loop.example/processengine/laws.FnCommitPointAll", spec := "fnCommitPointAll", unfollowed := true, recurses := true, apart := false, narrowed := true }
def FnCommitPointAllUptoSaid : Prop := fnCommitPointAllUptoRow.holds Try.pinned (OpenSpec.upto fnCommitPointAllSpec)

end Rows
end Go.Proofs.Ythodkjflnjocbaa
