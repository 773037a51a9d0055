/-
  No cell of these rows narrows 'for every input' (looked for: loops, veiled, ifaces, maps, wideKeys, modest, calm, conditions, laid).
  DERIVED. THE GIVEN ROWS OF THIS SEAT. 12 by the template 'for every input the law returns true; each argument reads behind the call as it read before'; 0 by the template 'total and deterministic' (their statements: YtobjcifoaejonaaTotals.lean).
  GIVEN WITH THE SEED: the statements are not yours to turn. If you find one false, say at which input.
  Laid BY PROGRAM, IN A SANDBOX (cutbox-rows.mjs): the forced cells as the released guide's own fill.sh prints them over the translation e70c243d15e9cc6c… (all of the seat's roots in one cut). By AI agents, Wed Nov 11 2026. No macro, syntax, notation, axiom, sorry.
-/
import Derived.Test.YtobjcifoaejonaaChecked
import GoSem.Claim
import GoSem.ClaimJoined
import GoSem.ClaimMapViews
import Derived.JoinedTies
import Derived.KernelRfl
namespace Go.Proofs.Ytobjcifoaejonaa
/- THE CELL 'sum', in the pinned program and in every row, IS THE sha256 OF THE DUMP (.gsa) THAT YtobjcifoaejonaaProg.lean LOADS. Nothing in Lean hashes anything: it is a label: what it is worth is what the hold of that sum in a sandbox is worth. -/
noncomputable def Try.pinned : Pinned := { name := "ytobjcifoaejonaa", sum := "e70c243d15e9cc6c36e597255296fbcf94f2f51341a7540923de2f1dc7c073c8", checked := Try.checked }
namespace Rows
def none {H : Type} : Left H := { results := [], args := [] }

/-- 'laws.FnExactValidLog': WHATEVER THE INPUT: true; the input reads as it did. -/
def fnExactValidLogSpec : ChangeSpec := { name := "fnExactValidLog", fn := fun _ => fun
  | [d] => { results := [.lit (.bool true)], args := [d] }
  | _ => none }
def fnExactValidLogRow : OpenClaim := { program := "ytobjcifoaejonaa", sum := "e70c243d15e9cc6c36e597255296fbcf94f2f51341a7540923de2f1dc7c073c8", func := "loop.example/processengine/laws.FnExactValidLog", spec := "fnExactValidLog", apart := false }
def FnExactValidLogSaid : Prop := fnExactValidLogRow.holds Try.pinned (OpenSpec.ofChange fnExactValidLogSpec)

/-- ITS FALSE NEIGHBOUR: 'it returns false'. Refute it at one input. -/
def fnExactValidLogWrong : ChangeSpec := { name := "fnExactValidLog", fn := fun _ => fun
  | [d] => { results := [.lit (.bool false)], args := [d] }
  | _ => none }
def FnExactValidLogWrongFalsely : Prop := fnExactValidLogRow.holds Try.pinned (OpenSpec.ofChange fnExactValidLogWrong)

/-- 'laws.FnExactAppendEntries': WHATEVER THE INPUT: true; the input reads as it did. -/
def fnExactAppendEntriesSpec : ChangeSpec := { name := "fnExactAppendEntries", fn := fun _ => fun
  | [d1, d2, d3, d4] => { results := [.lit (.bool true)], args := [d1, d2, d3, d4] }
  | _ => none }
def fnExactAppendEntriesRow : OpenClaim := { program := "ytobjcifoaejonaa", sum := "e70c243d15e9cc6c36e597255296fbcf94f2f51341a7540923de2f1dc7c073c8", func := "loop.example/processengine/laws.FnExactAppendEntries", spec := "fnExactAppendEntries", unfollowed := true, recurses := true, apart := false }
def FnExactAppendEntriesSaid : Prop := fnExactAppendEntriesRow.holds Try.pinned (OpenSpec.ofChange fnExactAppendEntriesSpec)

/-- ITS FALSE NEIGHBOUR: 'it returns false'. Refute it at one input. -/
def fnExactAppendEntriesWrong : ChangeSpec := { name := "fnExactAppendEntries", fn := fun _ => fun
  | [d1, d2, d3, d4] => { results := [.lit (.bool false)], args := [d1, d2, d3, d4] }
  | _ => none }
def FnExactAppendEntriesWrongFalsely : Prop := fnExactAppendEntriesRow.holds Try.pinned (OpenSpec.ofChange fnExactAppendEntriesWrong)

/-- 'laws.FnExactNewerLog': WHATEVER THE INPUT: true; the input reads as it did. -/
def fnExactNewerLogSpec : ChangeSpec := { name := "fnExactNewerLog", fn := fun _ => fun
  | [d1, d2] => { results := [.lit (.bool true)], args := [d1, d2] }
  | _ => none }
def fnExactNewerLogRow : OpenClaim := { program := "ytobjcifoaejonaa", sum := "e70c243d15e9cc6c36e597255296fbcf94f2f51341a7540923de2f1dc7c073c8", func := "loop.example/processengine/laws.FnExactNewerLog", spec := "fnExactNewerLog", apart := false }
def FnExactNewerLogSaid : Prop := fnExactNewerLogRow.holds Try.pinned (OpenSpec.ofChange fnExactNewerLogSpec)

/-- ITS FALSE NEIGHBOUR: 'it returns false'. Refute it at one input. -/
def fnExactNewerLogWrong : ChangeSpec := { name := "fnExactNewerLog", fn := fun _ => fun
  | [d1, d2] => { results := [.lit (.bool false)], args := [d1, d2] }
  | _ => none }
def FnExactNewerLogWrongFalsely : Prop := fnExactNewerLogRow.holds Try.pinned (OpenSpec.ofChange fnExactNewerLogWrong)

/-- 'laws.FnExactCommonPart': WHATEVER THE INPUT: true; the input reads as it did. -/
def fnExactCommonPartSpec : ChangeSpec := { name := "fnExactCommonPart", fn := fun _ => fun
  | [d1, d2] => { results := [.lit (.bool true)], args := [d1, d2] }
  | _ => none }
def fnExactCommonPartRow : OpenClaim := { program := "ytobjcifoaejonaa", sum := "e70c243d15e9cc6c36e597255296fbcf94f2f51341a7540923de2f1dc7c073c8", func := "loop.example/processengine/laws.FnExactCommonPart", spec := "fnExactCommonPart", unfollowed := true, recurses := true, apart := false }
def FnExactCommonPartSaid : Prop := fnExactCommonPartRow.holds Try.pinned (OpenSpec.ofChange fnExactCommonPartSpec)

/-- ITS FALSE NEIGHBOUR: 'it returns false'. Refute it at one input. -/
def fnExactCommonPartWrong : ChangeSpec := { name := "fnExactCommonPart", fn := fun _ => fun
  | [d1, d2] => { results := [.lit (.bool false)], args := [d1, d2] }
  | _ => none }
def FnExactCommonPartWrongFalsely : Prop := fnExactCommonPartRow.holds Try.pinned (OpenSpec.ofChange fnExactCommonPartWrong)

/-- 'laws.FnExactCommitPoint': WHATEVER THE INPUT: true; the input reads as it did. -/
def fnExactCommitPointSpec : ChangeSpec := { name := "fnExactCommitPoint", fn := fun _ => fun
  | [d1, d2, d3] => { results := [.lit (.bool true)], args := [d1, d2, d3] }
  | _ => none }
def fnExactCommitPointRow : OpenClaim := { program := "ytobjcifoaejonaa", sum := "e70c243d15e9cc6c36e597255296fbcf94f2f51341a7540923de2f1dc7c073c8", func := "loop.example/processengine/laws.FnExactCommitPoint", spec := "fnExactCommitPoint", unfollowed := true, recurses := true, apart := false }
def FnExactCommitPointSaid : Prop := fnExactCommitPointRow.holds Try.pinned (OpenSpec.ofChange fnExactCommitPointSpec)

/-- ITS FALSE NEIGHBOUR: 'it returns false'. Refute it at one input. -/
def fnExactCommitPointWrong : ChangeSpec := { name := "fnExactCommitPoint", fn := fun _ => fun
  | [d1, d2, d3] => { results := [.lit (.bool false)], args := [d1, d2, d3] }
  | _ => none }
def FnExactCommitPointWrongFalsely : Prop := fnExactCommitPointRow.holds Try.pinned (OpenSpec.ofChange fnExactCommitPointWrong)

/-- 'laws.FnExactAskVote': WHATEVER THE INPUT: true; the input reads as it did. -/
def fnExactAskVoteSpec : ChangeSpec := { name := "fnExactAskVote", fn := fun _ => fun
  | [d1, d2, d3, d4] => { results := [.lit (.bool true)], args := [d1, d2, d3, d4] }
  | _ => none }
def fnExactAskVoteRow : OpenClaim := { program := "ytobjcifoaejonaa", sum := "e70c243d15e9cc6c36e597255296fbcf94f2f51341a7540923de2f1dc7c073c8", func := "loop.example/processengine/laws.FnExactAskVote", spec := "fnExactAskVote", apart := false }
def FnExactAskVoteSaid : Prop := fnExactAskVoteRow.holds Try.pinned (OpenSpec.ofChange fnExactAskVoteSpec)

/-- ITS FALSE NEIGHBOUR: 'it returns false'. Refute it at one input. -/
def fnExactAskVoteWrong : ChangeSpec := { name := "fnExactAskVote", fn := fun _ => fun
  | [d1, d2, d3, d4] => { results := [.lit (.bool false)], args := [d1, d2, d3, d4] }
  | _ => none }
def FnExactAskVoteWrongFalsely : Prop := fnExactAskVoteRow.holds Try.pinned (OpenSpec.ofChange fnExactAskVoteWrong)

/-- 'laws.FnExactIsQuorum': WHATEVER THE INPUT: true; the input reads as it did. -/
def fnExactIsQuorumSpec : ChangeSpec := { name := "fnExactIsQuorum", fn := fun _ => fun
  | [d1, d2] => { results := [.lit (.bool true)], args := [d1, d2] }
  | _ => none }
def fnExactIsQuorumRow : OpenClaim := { program := "ytobjcifoaejonaa", sum := "e70c243d15e9cc6c36e597255296fbcf94f2f51341a7540923de2f1dc7c073c8", func := "loop.example/processengine/laws.FnExactIsQuorum", spec := "fnExactIsQuorum", apart := false }
def FnExactIsQuorumSaid : Prop := fnExactIsQuorumRow.holds Try.pinned (OpenSpec.ofChange fnExactIsQuorumSpec)

/-- ITS FALSE NEIGHBOUR: 'it returns false'. Refute it at one input. -/
def fnExactIsQuorumWrong : ChangeSpec := { name := "fnExactIsQuorum", fn := fun _ => fun
  | [d1, d2] => { results := [.lit (.bool false)], args := [d1, d2] }
  | _ => none }
def FnExactIsQuorumWrongFalsely : Prop := fnExactIsQuorumRow.holds Try.pinned (OpenSpec.ofChange fnExactIsQuorumWrong)

/-- 'laws.FnExactOneStep': WHATEVER THE INPUT: true; the input reads as it did. -/
def fnExactOneStepSpec : ChangeSpec := { name := "fnExactOneStep", fn := fun _ => fun
  | [d1, d2] => { results := [.lit (.bool true)], args := [d1, d2] }
  | _ => none }
def fnExactOneStepRow : OpenClaim := { program := "ytobjcifoaejonaa", sum := "e70c243d15e9cc6c36e597255296fbcf94f2f51341a7540923de2f1dc7c073c8", func := "loop.example/processengine/laws.FnExactOneStep", spec := "fnExactOneStep", apart := false }
def FnExactOneStepSaid : Prop := fnExactOneStepRow.holds Try.pinned (OpenSpec.ofChange fnExactOneStepSpec)

/-- ITS FALSE NEIGHBOUR: 'it returns false'. Refute it at one input. -/
def fnExactOneStepWrong : ChangeSpec := { name := "fnExactOneStep", fn := fun _ => fun
  | [d1, d2] => { results := [.lit (.bool false)], args := [d1, d2] }
  | _ => none }
def FnExactOneStepWrongFalsely : Prop := fnExactOneStepRow.holds Try.pinned (OpenSpec.ofChange fnExactOneStepWrong)

/-- 'laws.FnExactCountVotes': WHATEVER THE INPUT: true; the input reads as it did. -/
def fnExactCountVotesSpec : ChangeSpec := { name := "fnExactCountVotes", fn := fun _ => fun
  | [d1, d2, d3, d4] => { results := [.lit (.bool true)], args := [d1, d2, d3, d4] }
  | _ => none }
def fnExactCountVotesRow : OpenClaim := { program := "ytobjcifoaejonaa", sum := "e70c243d15e9cc6c36e597255296fbcf94f2f51341a7540923de2f1dc7c073c8", func := "loop.example/processengine/laws.FnExactCountVotes", spec := "fnExactCountVotes", apart := false }
def FnExactCountVotesSaid : Prop := fnExactCountVotesRow.holds Try.pinned (OpenSpec.ofChange fnExactCountVotesSpec)

/-- ITS FALSE NEIGHBOUR: 'it returns false'. Refute it at one input. -/
def fnExactCountVotesWrong : ChangeSpec := { name := "fnExactCountVotes", fn := fun _ => fun
  | [d1, d2, d3, d4] => { results := [.lit (.bool false)], args := [d1, d2, d3, d4] }
  | _ => none }
def FnExactCountVotesWrongFalsely : Prop := fnExactCountVotesRow.holds Try.pinned (OpenSpec.ofChange fnExactCountVotesWrong)

/-- 'laws.FnCommitPoint': WHATEVER THE INPUT: true; the input reads as it did. -/
def fnCommitPointSpec : ChangeSpec := { name := "fnCommitPoint", fn := fun _ => fun
  | [d] => { results := [.lit (.bool true)], args := [d] }
  | _ => none }
def fnCommitPointRow : OpenClaim := { program := "ytobjcifoaejonaa", sum := "e70c243d15e9cc6c36e597255296fbcf94f2f51341a7540923de2f1dc7c073c8", func := "loop.example/processengine/laws.FnCommitPoint", spec := "fnCommitPoint", unfollowed := true, recurses := true, apart := false }
def FnCommitPointSaid : Prop := fnCommitPointRow.holds Try.pinned (OpenSpec.ofChange fnCommitPointSpec)

/-- ITS FALSE NEIGHBOUR: 'it returns false'. Refute it at one input. -/
def fnCommitPointWrong : ChangeSpec := { name := "fnCommitPoint", fn := fun _ => fun
  | [d] => { results := [.lit (.bool false)], args := [d] }
  | _ => none }
def FnCommitPointWrongFalsely : Prop := fnCommitPointRow.holds Try.pinned (OpenSpec.ofChange fnCommitPointWrong)

/-- 'laws.FnCommitPointMore': WHATEVER THE INPUT: true; the input reads as it did. -/
def fnCommitPointMoreSpec : ChangeSpec := { name := "fnCommitPointMore", fn := fun _ => fun
  | [d] => { results := [.lit (.bool true)], args := [d] }
  | _ => none }
def fnCommitPointMoreRow : OpenClaim := { program := "ytobjcifoaejonaa", sum := "e70c243d15e9cc6c36e597255296fbcf94f2f51341a7540923de2f1dc7c073c8", func := "loop.example/processengine/laws.FnCommitPointMore", spec := "fnCommitPointMore", unfollowed := true, recurses := true, apart := false }
def FnCommitPointMoreSaid : Prop := fnCommitPointMoreRow.holds Try.pinned (OpenSpec.ofChange fnCommitPointMoreSpec)

/-- ITS FALSE NEIGHBOUR: 'it returns false'. Refute it at one input. -/
def fnCommitPointMoreWrong : ChangeSpec := { name := "fnCommitPointMore", fn := fun _ => fun
  | [d] => { results := [.lit (.bool false)], args := [d] }
  | _ => none }
def FnCommitPointMoreWrongFalsely : Prop := fnCommitPointMoreRow.holds Try.pinned (OpenSpec.ofChange fnCommitPointMoreWrong)

/-- 'laws.FnCommitPointGreatest': WHATEVER THE INPUT: true; the input reads as it did. -/
def fnCommitPointGreatestSpec : ChangeSpec := { name := "fnCommitPointGreatest", fn := fun _ => fun
  | [d] => { results := [.lit (.bool true)], args := [d] }
  | _ => none }
def fnCommitPointGreatestRow : OpenClaim := { program := "ytobjcifoaejonaa", sum := "e70c243d15e9cc6c36e597255296fbcf94f2f51341a7540923de2f1dc7c073c8", func := "loop.example/processengine/laws.FnCommitPointGreatest", spec := "fnCommitPointGreatest", unfollowed := true, recurses := true, apart := false }
def FnCommitPointGreatestSaid : Prop := fnCommitPointGreatestRow.holds Try.pinned (OpenSpec.ofChange fnCommitPointGreatestSpec)

/-- ITS FALSE NEIGHBOUR: 'it returns false'. Refute it at one input. -/
def fnCommitPointGreatestWrong : ChangeSpec := { name := "fnCommitPointGreatest", fn := fun _ => fun
  | [d] => { results := [.lit (.bool false)], args := [d] }
  | _ => none }
def FnCommitPointGreatestWrongFalsely : Prop := fnCommitPointGreatestRow.holds Try.pinned (OpenSpec.ofChange fnCommitPointGreatestWrong)

/- THE SECOND FORM. 'bulk': how many values and letters a reading holds, each counted each time it is reached (what is shared counts as often as it is met; a slice's spare places count too). A statement '..UptoSaid' is the law's where the arguments, and the package variables that the reading takes, are together of bulk at most 1048576: NARROWER than '..Said'. Prove '..Said' where nothing that the law and all that it calls make is longer than what came in: it says more and counts as full. Else prove '..UptoSaid'. A law counts once. -/
mutual
def uptoBulk {H : Type} : DataW H → Nat
  | .lit (.string bytes) => bytes.length + 1
  | .lit _ => 1
  | .nil => 1
  | .ptr d => uptoBulk d + 1
  | .slice elems spare => uptoBulkAll elems + uptoBulkAll spare + 1
  | .agg parts => uptoBulkAll parts + 1
  | .iface _ d => uptoBulk d + 1
  | .map entries => uptoBulkEntries entries + 1
  | .held _ => 1
def uptoBulkAll {H : Type} : List (DataW H) → Nat
  | [] => 0
  | d :: r => uptoBulk d + uptoBulkAll r
def uptoBulkEntries {H : Type} : List (Lit × DataW H) → Nat
  | [] => 0
  | x :: r => uptoBulkEntry x + uptoBulkEntries r
def uptoBulkEntry {H : Type} : Lit × DataW H → Nat
  | (.string bytes, d) => bytes.length + uptoBulk d + 1
  | (_, d) => uptoBulk d + 1
 end
def uptoSmall : (H : Type) → List (DataW H) → Bool := fun _ ds => decide (uptoBulkAll ds ≤ 1048576)
def OpenSpec.upto (s : _root_.Go.ChangeSpec) : _root_.Go.OpenSpec := { _root_.Go.OpenSpec.ofChange s with cond := some uptoSmall }

/-- 'laws.FnExactValidLog', WHERE WHAT IT READS IS OF BULK AT MOST 1048576: true; the input reads as it did. -/
def fnExactValidLogUptoRow : OpenClaim := { program := "ytobjcifoaejonaa", sum := "e70c243d15e9cc6c36e597255296fbcf94f2f51341a7540923de2f1dc7c073c8", func := "loop.example/processengine/laws.FnExactValidLog", spec := "fnExactValidLog", apart := false, narrowed := true }
def FnExactValidLogUptoSaid : Prop := fnExactValidLogUptoRow.holds Try.pinned (OpenSpec.upto fnExactValidLogSpec)

/-- 'laws.FnExactAppendEntries', WHERE WHAT IT READS IS OF BULK AT MOST 1048576: true; the input reads as it did. -/
def fnExactAppendEntriesUptoRow : OpenClaim := { program := "ytobjcifoaejonaa", sum := "e70c243d15e9cc6c36e597255296fbcf94f2f51341a7540923de2f1dc7c073c8", func := "loop.example/processengine/laws.FnExactAppendEntries", spec := "fnExactAppendEntries", unfollowed := true, recurses := true, apart := false, narrowed := true }
def FnExactAppendEntriesUptoSaid : Prop := fnExactAppendEntriesUptoRow.holds Try.pinned (OpenSpec.upto fnExactAppendEntriesSpec)

/-- 'laws.FnExactNewerLog', WHERE WHAT IT READS IS OF BULK AT MOST 1048576: true; the input reads as it did. -/
def fnExactNewerLogUptoRow : OpenClaim := { program := "ytobjcifoaejonaa", sum := "e70c243d15e9cc6c36e597255296fbcf94f2f51341a7540923de2f1dc7c073c8", func := "loop.example/processengine/laws.FnExactNewerLog", spec := "fnExactNewerLog", apart := false, narrowed := true }
def FnExactNewerLogUptoSaid : Prop := fnExactNewerLogUptoRow.holds Try.pinned (OpenSpec.upto fnExactNewerLogSpec)

/-- 'laws.FnExactCommonPart', WHERE WHAT IT READS IS OF BULK AT MOST 1048576: true; the input reads as it did. -/
def fnExactCommonPartUptoRow : OpenClaim := { program := "ytobjcifoaejonaa", sum := "e70c243d15e9cc6c36e597255296fbcf94f2f51341a7540923de2f1dc7c073c8", func := "loop.example/processengine/laws.FnExactCommonPart", spec := "fnExactCommonPart", unfollowed := true, recurses := true, apart := false, narrowed := true }
def FnExactCommonPartUptoSaid : Prop := fnExactCommonPartUptoRow.holds Try.pinned (OpenSpec.upto fnExactCommonPartSpec)

/-- 'laws.FnExactCommitPoint', WHERE WHAT IT READS IS OF BULK AT MOST 1048576: true; the input reads as it did. -/
def fnExactCommitPointUptoRow : OpenClaim := { program := "ytobjcifoaejonaa", sum := "e70c243d15e9cc6c36e597255296fbcf94f2f51341a7540923de2f1dc7c073c8", func := "loop.example/processengine/laws.FnExactCommitPoint", spec := "fnExactCommitPoint", unfollowed := true, recurses := true, apart := false, narrowed := true }
def FnExactCommitPointUptoSaid : Prop := fnExactCommitPointUptoRow.holds Try.pinned (OpenSpec.upto fnExactCommitPointSpec)

/-- 'laws.FnExactAskVote', WHERE WHAT IT READS IS OF BULK AT MOST 1048576: true; the input reads as it did. -/
def fnExactAskVoteUptoRow : OpenClaim := { program := "ytobjcifoaejonaa", sum := "e70c243d15e9cc6c36e597255296fbcf94f2f51341a7540923de2f1dc7c073c8", func := "loop.example/processengine/laws.FnExactAskVote", spec := "fnExactAskVote", apart := false, narrowed := true }
def FnExactAskVoteUptoSaid : Prop := fnExactAskVoteUptoRow.holds Try.pinned (OpenSpec.upto fnExactAskVoteSpec)

/-- 'laws.FnExactIsQuorum', WHERE WHAT IT READS IS OF BULK AT MOST 1048576: true; the input reads as it did. -/
def fnExactIsQuorumUptoRow : OpenClaim := { program := "ytobjcifoaejonaa", sum := "e70c243d15e9cc6c36e597255296fbcf94f2f51341a7540923de2f1dc7c073c8", func := "loop.example/processengine/laws.FnExactIsQuorum", spec := "fnExactIsQuorum", apart := false, narrowed := true }
def FnExactIsQuorumUptoSaid : Prop := fnExactIsQuorumUptoRow.holds Try.pinned (OpenSpec.upto fnExactIsQuorumSpec)

/-- 'laws.FnExactOneStep', WHERE WHAT IT READS IS OF BULK AT MOST 1048576: true; the input reads as it did. -/
def fnExactOneStepUptoRow : OpenClaim := { program := "ytobjcifoaejonaa", sum := "e70c243d15e9cc6c36e597255296fbcf94f2f51341a7540923de2f1dc7c073c8", func := "loop.example/processengine/laws.FnExactOneStep", spec := "fnExactOneStep", apart := false, narrowed := true }
def FnExactOneStepUptoSaid : Prop := fnExactOneStepUptoRow.holds Try.pinned (OpenSpec.upto fnExactOneStepSpec)

/-- 'laws.FnExactCountVotes', WHERE WHAT IT READS IS OF BULK AT MOST 1048576: true; the input reads as it did. -/
def fnExactCountVotesUptoRow : OpenClaim := { program := "ytobjcifoaejonaa", sum := "e70c243d15e9cc6c36e597255296fbcf94f2f51341a7540923de2f1dc7c073c8", func := "loop.example/processengine/laws.FnExactCountVotes", spec := "fnExactCountVotes", apart := false, narrowed := true }
def FnExactCountVotesUptoSaid : Prop := fnExactCountVotesUptoRow.holds Try.pinned (OpenSpec.upto fnExactCountVotesSpec)

/-- 'laws.FnCommitPoint', WHERE WHAT IT READS IS OF BULK AT MOST 1048576: true; the input reads as it did. -/
def fnCommitPointUptoRow : OpenClaim := { program := "ytobjcifoaejonaa", sum := "e70c243d15e9cc6c36e597255296fbcf94f2f51341a7540923de2f1dc7c073c8", func := "loop.example/processengine/laws.FnCommitPoint", spec := "fnCommitPoint", unfollowed := true, recurses := true, apart := false, narrowed := true }
def FnCommitPointUptoSaid : Prop := fnCommitPointUptoRow.holds Try.pinned (OpenSpec.upto fnCommitPointSpec)

/-- 'laws.FnCommitPointMore', WHERE WHAT IT READS IS OF BULK AT MOST 1048576: true; the input reads as it did. -/
def fnCommitPointMoreUptoRow : OpenClaim := { program := "ytobjcifoaejonaa", sum := "e70c243d15e9cc6c36e597255296fbcf94f2f51341a7540923de2f1dc7c073c8", func := "loop.example/processengine/laws.FnCommitPointMore", spec := "fnCommitPointMore", unfollowed := true, recurses := true, apart := false, narrowed := true }
def FnCommitPointMoreUptoSaid : Prop := fnCommitPointMoreUptoRow.holds Try.pinned (OpenSpec.upto fnCommitPointMoreSpec)

/-- 'laws.FnCommitPointGreatest', WHERE WHAT IT READS IS OF BULK AT MOST 1048576: true; the input reads as it did. -/
def fnCommitPointGreatestUptoRow : OpenClaim := { program := "ytobjcifoaejonaa", sum := "e70c243d15e9cc6c36e597255296fbcf94f2f51341a7540923de2f1dc7c073c8", func := "loop.example/processengine/laws.FnCommitPointGreatest", spec := "fnCommitPointGreatest", unfollowed := true, recurses := true, apart := false, narrowed := true }
def FnCommitPointGreatestUptoSaid : Prop := fnCommitPointGreatestUptoRow.holds Try.pinned (OpenSpec.upto fnCommitPointGreatestSpec)

end Rows
end Go.Proofs.Ytobjcifoaejonaa
