/-
  No cell of these rows narrows 'for every input' (looked for: loops, veiled, ifaces, maps, wideKeys, modest, calm, conditions, laid).
  DERIVED. THE GIVEN ROWS OF THIS SEAT. 12 by the template 'for every input the law returns true; each argument reads behind the call as it read before'; 0 by the template 'total and deterministic' (their statements: YtobjcifoaejonacTotals.lean).
  GIVEN WITH THE SEED: the statements are not yours to turn. If you find one false, say at which input.
  Laid BY PROGRAM, IN A SANDBOX (cutbox-rows.mjs): the forced cells as the released guide's own fill.sh prints them over the translation 8388fadf7baa855a… (all of the seat's roots in one cut). By AI agents, Wed Nov 11 2026. No macro, syntax, notation, axiom, sorry.
-/
import Derived.Test.YtobjcifoaejonacChecked
import GoSem.Claim
import GoSem.ClaimJoined
import GoSem.ClaimMapViews
import Derived.JoinedTies
import Derived.KernelRfl
namespace Go.Proofs.Ytobjcifoaejonac
/- THE CELL 'sum', in the pinned program and in every row, IS THE sha256 OF THE DUMP (.gsa) THAT YtobjcifoaejonacProg.lean LOADS. Nothing in Lean hashes anything: it is a label: what it is worth is what the hold of that sum in a sandbox is worth. -/
noncomputable def Try.pinned : Pinned := { name := "ytobjcifoaejonac", sum := "8388fadf7baa855aefb3f5a273e8703b3df86dc8e351459f36535fd87877dde9", checked := Try.checked }
namespace Rows
def none {H : Type} : Left H := { results := [], args := [] }

/-- 'laws.FnAskVote': WHATEVER THE INPUT: true; the input reads as it did. -/
def fnAskVoteSpec : ChangeSpec := { name := "fnAskVote", fn := fun _ => fun
  | [d] => { results := [.lit (.bool true)], args := [d] }
  | _ => none }
def fnAskVoteRow : OpenClaim := { program := "ytobjcifoaejonac", sum := "8388fadf7baa855aefb3f5a273e8703b3df86dc8e351459f36535fd87877dde9", func := "loop.example/processengine/laws.FnAskVote", spec := "fnAskVote", apart := false }
def FnAskVoteSaid : Prop := fnAskVoteRow.holds Try.pinned (OpenSpec.ofChange fnAskVoteSpec)

/-- ITS FALSE NEIGHBOUR: 'it returns false'. Refute it at one input. -/
def fnAskVoteWrong : ChangeSpec := { name := "fnAskVote", fn := fun _ => fun
  | [d] => { results := [.lit (.bool false)], args := [d] }
  | _ => none }
def FnAskVoteWrongFalsely : Prop := fnAskVoteRow.holds Try.pinned (OpenSpec.ofChange fnAskVoteWrong)

/-- 'laws.FnAskVoteTerm': WHATEVER THE INPUT: true; the input reads as it did. -/
def fnAskVoteTermSpec : ChangeSpec := { name := "fnAskVoteTerm", fn := fun _ => fun
  | [d] => { results := [.lit (.bool true)], args := [d] }
  | _ => none }
def fnAskVoteTermRow : OpenClaim := { program := "ytobjcifoaejonac", sum := "8388fadf7baa855aefb3f5a273e8703b3df86dc8e351459f36535fd87877dde9", func := "loop.example/processengine/laws.FnAskVoteTerm", spec := "fnAskVoteTerm", apart := false }
def FnAskVoteTermSaid : Prop := fnAskVoteTermRow.holds Try.pinned (OpenSpec.ofChange fnAskVoteTermSpec)

/-- ITS FALSE NEIGHBOUR: 'it returns false'. Refute it at one input. -/
def fnAskVoteTermWrong : ChangeSpec := { name := "fnAskVoteTerm", fn := fun _ => fun
  | [d] => { results := [.lit (.bool false)], args := [d] }
  | _ => none }
def FnAskVoteTermWrongFalsely : Prop := fnAskVoteTermRow.holds Try.pinned (OpenSpec.ofChange fnAskVoteTermWrong)

/-- 'laws.FnAskVoteNewer': WHATEVER THE INPUT: true; the input reads as it did. -/
def fnAskVoteNewerSpec : ChangeSpec := { name := "fnAskVoteNewer", fn := fun _ => fun
  | [d] => { results := [.lit (.bool true)], args := [d] }
  | _ => none }
def fnAskVoteNewerRow : OpenClaim := { program := "ytobjcifoaejonac", sum := "8388fadf7baa855aefb3f5a273e8703b3df86dc8e351459f36535fd87877dde9", func := "loop.example/processengine/laws.FnAskVoteNewer", spec := "fnAskVoteNewer", apart := false }
def FnAskVoteNewerSaid : Prop := fnAskVoteNewerRow.holds Try.pinned (OpenSpec.ofChange fnAskVoteNewerSpec)

/-- ITS FALSE NEIGHBOUR: 'it returns false'. Refute it at one input. -/
def fnAskVoteNewerWrong : ChangeSpec := { name := "fnAskVoteNewer", fn := fun _ => fun
  | [d] => { results := [.lit (.bool false)], args := [d] }
  | _ => none }
def FnAskVoteNewerWrongFalsely : Prop := fnAskVoteNewerRow.holds Try.pinned (OpenSpec.ofChange fnAskVoteNewerWrong)

/-- 'laws.FnIsQuorum': WHATEVER THE INPUT: true; the input reads as it did. -/
def fnIsQuorumSpec : ChangeSpec := { name := "fnIsQuorum", fn := fun _ => fun
  | [d] => { results := [.lit (.bool true)], args := [d] }
  | _ => none }
def fnIsQuorumRow : OpenClaim := { program := "ytobjcifoaejonac", sum := "8388fadf7baa855aefb3f5a273e8703b3df86dc8e351459f36535fd87877dde9", func := "loop.example/processengine/laws.FnIsQuorum", spec := "fnIsQuorum", apart := false }
def FnIsQuorumSaid : Prop := fnIsQuorumRow.holds Try.pinned (OpenSpec.ofChange fnIsQuorumSpec)

/-- ITS FALSE NEIGHBOUR: 'it returns false'. Refute it at one input. -/
def fnIsQuorumWrong : ChangeSpec := { name := "fnIsQuorum", fn := fun _ => fun
  | [d] => { results := [.lit (.bool false)], args := [d] }
  | _ => none }
def FnIsQuorumWrongFalsely : Prop := fnIsQuorumRow.holds Try.pinned (OpenSpec.ofChange fnIsQuorumWrong)

/-- 'laws.FnIsQuorumStep': WHATEVER THE INPUT: true; the input reads as it did. -/
def fnIsQuorumStepSpec : ChangeSpec := { name := "fnIsQuorumStep", fn := fun _ => fun
  | [d] => { results := [.lit (.bool true)], args := [d] }
  | _ => none }
def fnIsQuorumStepRow : OpenClaim := { program := "ytobjcifoaejonac", sum := "8388fadf7baa855aefb3f5a273e8703b3df86dc8e351459f36535fd87877dde9", func := "loop.example/processengine/laws.FnIsQuorumStep", spec := "fnIsQuorumStep", apart := false }
def FnIsQuorumStepSaid : Prop := fnIsQuorumStepRow.holds Try.pinned (OpenSpec.ofChange fnIsQuorumStepSpec)

/-- ITS FALSE NEIGHBOUR: 'it returns false'. Refute it at one input. -/
def fnIsQuorumStepWrong : ChangeSpec := { name := "fnIsQuorumStep", fn := fun _ => fun
  | [d] => { results := [.lit (.bool false)], args := [d] }
  | _ => none }
def FnIsQuorumStepWrongFalsely : Prop := fnIsQuorumStepRow.holds Try.pinned (OpenSpec.ofChange fnIsQuorumStepWrong)

/-- 'laws.FnOneStep': WHATEVER THE INPUT: true; the input reads as it did. -/
def fnOneStepSpec : ChangeSpec := { name := "fnOneStep", fn := fun _ => fun
  | [d] => { results := [.lit (.bool true)], args := [d] }
  | _ => none }
def fnOneStepRow : OpenClaim := { program := "ytobjcifoaejonac", sum := "8388fadf7baa855aefb3f5a273e8703b3df86dc8e351459f36535fd87877dde9", func := "loop.example/processengine/laws.FnOneStep", spec := "fnOneStep", apart := false }
def FnOneStepSaid : Prop := fnOneStepRow.holds Try.pinned (OpenSpec.ofChange fnOneStepSpec)

/-- ITS FALSE NEIGHBOUR: 'it returns false'. Refute it at one input. -/
def fnOneStepWrong : ChangeSpec := { name := "fnOneStep", fn := fun _ => fun
  | [d] => { results := [.lit (.bool false)], args := [d] }
  | _ => none }
def FnOneStepWrongFalsely : Prop := fnOneStepRow.holds Try.pinned (OpenSpec.ofChange fnOneStepWrong)

/-- 'laws.FnCountVotes': WHATEVER THE INPUT: true; the input reads as it did. -/
def fnCountVotesSpec : ChangeSpec := { name := "fnCountVotes", fn := fun _ => fun
  | [d] => { results := [.lit (.bool true)], args := [d] }
  | _ => none }
def fnCountVotesRow : OpenClaim := { program := "ytobjcifoaejonac", sum := "8388fadf7baa855aefb3f5a273e8703b3df86dc8e351459f36535fd87877dde9", func := "loop.example/processengine/laws.FnCountVotes", spec := "fnCountVotes", apart := false }
def FnCountVotesSaid : Prop := fnCountVotesRow.holds Try.pinned (OpenSpec.ofChange fnCountVotesSpec)

/-- ITS FALSE NEIGHBOUR: 'it returns false'. Refute it at one input. -/
def fnCountVotesWrong : ChangeSpec := { name := "fnCountVotes", fn := fun _ => fun
  | [d] => { results := [.lit (.bool false)], args := [d] }
  | _ => none }
def FnCountVotesWrongFalsely : Prop := fnCountVotesRow.holds Try.pinned (OpenSpec.ofChange fnCountVotesWrong)

/-- 'laws.FnCountVotesTwo': WHATEVER THE INPUT: true; the input reads as it did. -/
def fnCountVotesTwoSpec : ChangeSpec := { name := "fnCountVotesTwo", fn := fun _ => fun
  | [d] => { results := [.lit (.bool true)], args := [d] }
  | _ => none }
def fnCountVotesTwoRow : OpenClaim := { program := "ytobjcifoaejonac", sum := "8388fadf7baa855aefb3f5a273e8703b3df86dc8e351459f36535fd87877dde9", func := "loop.example/processengine/laws.FnCountVotesTwo", spec := "fnCountVotesTwo", apart := false }
def FnCountVotesTwoSaid : Prop := fnCountVotesTwoRow.holds Try.pinned (OpenSpec.ofChange fnCountVotesTwoSpec)

/-- ITS FALSE NEIGHBOUR: 'it returns false'. Refute it at one input. -/
def fnCountVotesTwoWrong : ChangeSpec := { name := "fnCountVotesTwo", fn := fun _ => fun
  | [d] => { results := [.lit (.bool false)], args := [d] }
  | _ => none }
def FnCountVotesTwoWrongFalsely : Prop := fnCountVotesTwoRow.holds Try.pinned (OpenSpec.ofChange fnCountVotesTwoWrong)

/-- 'laws.FnAskVoteOld': WHATEVER THE INPUT: true; the input reads as it did. -/
def fnAskVoteOldSpec : ChangeSpec := { name := "fnAskVoteOld", fn := fun _ => fun
  | [d] => { results := [.lit (.bool true)], args := [d] }
  | _ => none }
def fnAskVoteOldRow : OpenClaim := { program := "ytobjcifoaejonac", sum := "8388fadf7baa855aefb3f5a273e8703b3df86dc8e351459f36535fd87877dde9", func := "loop.example/processengine/laws.FnAskVoteOld", spec := "fnAskVoteOld", apart := false }
def FnAskVoteOldSaid : Prop := fnAskVoteOldRow.holds Try.pinned (OpenSpec.ofChange fnAskVoteOldSpec)

/-- ITS FALSE NEIGHBOUR: 'it returns false'. Refute it at one input. -/
def fnAskVoteOldWrong : ChangeSpec := { name := "fnAskVoteOld", fn := fun _ => fun
  | [d] => { results := [.lit (.bool false)], args := [d] }
  | _ => none }
def FnAskVoteOldWrongFalsely : Prop := fnAskVoteOldRow.holds Try.pinned (OpenSpec.ofChange fnAskVoteOldWrong)

/-- 'laws.FnIsQuorumMore': WHATEVER THE INPUT: true; the input reads as it did. -/
def fnIsQuorumMoreSpec : ChangeSpec := { name := "fnIsQuorumMore", fn := fun _ => fun
  | [d] => { results := [.lit (.bool true)], args := [d] }
  | _ => none }
def fnIsQuorumMoreRow : OpenClaim := { program := "ytobjcifoaejonac", sum := "8388fadf7baa855aefb3f5a273e8703b3df86dc8e351459f36535fd87877dde9", func := "loop.example/processengine/laws.FnIsQuorumMore", spec := "fnIsQuorumMore", apart := false }
def FnIsQuorumMoreSaid : Prop := fnIsQuorumMoreRow.holds Try.pinned (OpenSpec.ofChange fnIsQuorumMoreSpec)

/-- ITS FALSE NEIGHBOUR: 'it returns false'. Refute it at one input. -/
def fnIsQuorumMoreWrong : ChangeSpec := { name := "fnIsQuorumMore", fn := fun _ => fun
  | [d] => { results := [.lit (.bool false)], args := [d] }
  | _ => none }
def FnIsQuorumMoreWrongFalsely : Prop := fnIsQuorumMoreRow.holds Try.pinned (OpenSpec.ofChange fnIsQuorumMoreWrong)

/-- 'laws.FnCountVotesTerm': WHATEVER THE INPUT: true; the input reads as it did. -/
def fnCountVotesTermSpec : ChangeSpec := { name := "fnCountVotesTerm", fn := fun _ => fun
  | [d] => { results := [.lit (.bool true)], args := [d] }
  | _ => none }
def fnCountVotesTermRow : OpenClaim := { program := "ytobjcifoaejonac", sum := "8388fadf7baa855aefb3f5a273e8703b3df86dc8e351459f36535fd87877dde9", func := "loop.example/processengine/laws.FnCountVotesTerm", spec := "fnCountVotesTerm", apart := false }
def FnCountVotesTermSaid : Prop := fnCountVotesTermRow.holds Try.pinned (OpenSpec.ofChange fnCountVotesTermSpec)

/-- ITS FALSE NEIGHBOUR: 'it returns false'. Refute it at one input. -/
def fnCountVotesTermWrong : ChangeSpec := { name := "fnCountVotesTerm", fn := fun _ => fun
  | [d] => { results := [.lit (.bool false)], args := [d] }
  | _ => none }
def FnCountVotesTermWrongFalsely : Prop := fnCountVotesTermRow.holds Try.pinned (OpenSpec.ofChange fnCountVotesTermWrong)

/-- 'laws.FnOneStepGroups': WHATEVER THE INPUT: true; the input reads as it did. -/
def fnOneStepGroupsSpec : ChangeSpec := { name := "fnOneStepGroups", fn := fun _ => fun
  | [d] => { results := [.lit (.bool true)], args := [d] }
  | _ => none }
def fnOneStepGroupsRow : OpenClaim := { program := "ytobjcifoaejonac", sum := "8388fadf7baa855aefb3f5a273e8703b3df86dc8e351459f36535fd87877dde9", func := "loop.example/processengine/laws.FnOneStepGroups", spec := "fnOneStepGroups", apart := false }
def FnOneStepGroupsSaid : Prop := fnOneStepGroupsRow.holds Try.pinned (OpenSpec.ofChange fnOneStepGroupsSpec)

/-- ITS FALSE NEIGHBOUR: 'it returns false'. Refute it at one input. -/
def fnOneStepGroupsWrong : ChangeSpec := { name := "fnOneStepGroups", fn := fun _ => fun
  | [d] => { results := [.lit (.bool false)], args := [d] }
  | _ => none }
def FnOneStepGroupsWrongFalsely : Prop := fnOneStepGroupsRow.holds Try.pinned (OpenSpec.ofChange fnOneStepGroupsWrong)

/- THE SECOND FORM. 'bulk': how many values and letters a reading holds, each counted each time it is reached (what is shared counts as often as it is met; a slice's spare places count too). A statement '..UptoSaid' is the law's where the arguments, and the package variables that the reading takes, are together of bulk at most 1048576: NARROWER than '..Said'. Prove '..Said' where nothing that the law and all that it calls make is longer than what came in: it says more and counts as full. Else prove '..UptoSaid'. A law counts once. -/
mutual
def uptoBulk {H : Type} : DataW H → Nat
  | .lit (.string bytes) => bytes.length + 1
  | .lit _ => 1
  | .nil => 1
  | .ptr d => uptoBulk d + 1
  | .slice elems spare => uptoBulkAll elems + uptoBulkAll spare + 1
  | .agg parts => uptoBulkAll parts + 1
  | .iface _ d => uptoBulk d + 1
  | .map entries => uptoBulkEntries entries + 1
  | .held _ => 1
def uptoBulkAll {H : Type} : List (DataW H) → Nat
  | [] => 0
  | d :: r => uptoBulk d + uptoBulkAll r
def uptoBulkEntries {H : Type} : List (Lit × DataW H) → Nat
  | [] => 0
  | x :: r => uptoBulkEntry x + uptoBulkEntries r
def uptoBulkEntry {H : Type} : Lit × DataW H → Nat
  | (.string bytes, d) => bytes.length + uptoBulk d + 1
  | (_, d) => uptoBulk d + 1
 end
def uptoSmall : (H : Type) → List (DataW H) → Bool := fun _ ds => decide (uptoBulkAll ds ≤ 1048576)
def OpenSpec.upto (s : _root_.Go.ChangeSpec) : _root_.Go.OpenSpec := { _root_.Go.OpenSpec.ofChange s with cond := some uptoSmall }

/-- 'laws.FnAskVote', WHERE WHAT IT READS IS OF BULK AT MOST 1048576: true; the input reads as it did. -/
def fnAskVoteUptoRow : OpenClaim := { program := "ytobjcifoaejonac", sum := "8388fadf7baa855aefb3f5a273e8703b3df86dc8e351459f36535fd87877dde9", func := "loop.example/processengine/laws.FnAskVote", spec := "fnAskVote", apart := false, narrowed := true }
def FnAskVoteUptoSaid : Prop := fnAskVoteUptoRow.holds Try.pinned (OpenSpec.upto fnAskVoteSpec)

/-- 'laws.FnAskVoteTerm', WHERE WHAT IT READS IS OF BULK AT MOST 1048576: true; the input reads as it did. -/
def fnAskVoteTermUptoRow : OpenClaim := { program := "ytobjcifoaejonac", sum := "8388fadf7baa855aefb3f5a273e8703b3df86dc8e351459f36535fd87877dde9", func := "loop.example/processengine/laws.FnAskVoteTerm", spec := "fnAskVoteTerm", apart := false, narrowed := true }
def FnAskVoteTermUptoSaid : Prop := fnAskVoteTermUptoRow.holds Try.pinned (OpenSpec.upto fnAskVoteTermSpec)

/-- 'laws.FnAskVoteNewer', WHERE WHAT IT READS IS OF BULK AT MOST 1048576: true; the input reads as it did. -/
def fnAskVoteNewerUptoRow : OpenClaim := { program := "ytobjcifoaejonac", sum := "8388fadf7baa855aefb3f5a273e8703b3df86dc8e351459f36535fd87877dde9", func := "loop.example/processengine/laws.FnAskVoteNewer", spec := "fnAskVoteNewer", apart := false, narrowed := true }
def FnAskVoteNewerUptoSaid : Prop := fnAskVoteNewerUptoRow.holds Try.pinned (OpenSpec.upto fnAskVoteNewerSpec)

/-- 'laws.FnIsQuorum', WHERE WHAT IT READS IS OF BULK AT MOST 1048576: true; the input reads as it did. -/
def fnIsQuorumUptoRow : OpenClaim := { program := "ytobjcifoaejonac", sum := "8388fadf7baa855aefb3f5a273e8703b3df86dc8e351459f36535fd87877dde9", func := "loop.example/processengine/laws.FnIsQuorum", spec := "fnIsQuorum", apart := false, narrowed := true }
def FnIsQuorumUptoSaid : Prop := fnIsQuorumUptoRow.holds Try.pinned (OpenSpec.upto fnIsQuorumSpec)

/-- 'laws.FnIsQuorumStep', WHERE WHAT IT READS IS OF BULK AT MOST 1048576: true; the input reads as it did. -/
def fnIsQuorumStepUptoRow : OpenClaim := { program := "ytobjcifoaejonac", sum := "8388fadf7baa855aefb3f5a273e8703b3df86dc8e351459f36535fd87877dde9", func := "loop.example/processengine/laws.FnIsQuorumStep", spec := "fnIsQuorumStep", apart := false, narrowed := true }
def FnIsQuorumStepUptoSaid : Prop := fnIsQuorumStepUptoRow.holds Try.pinned (OpenSpec.upto fnIsQuorumStepSpec)

/-- 'laws.FnOneStep', WHERE WHAT IT READS IS OF BULK AT MOST 1048576: true; the input reads as it did. -/
def fnOneStepUptoRow : OpenClaim := { program := "ytobjcifoaejonac", sum := "8388fadf7baa855aefb3f5a273e8703b3df86dc8e351459f36535fd87877dde9", func := "loop.example/processengine/laws.FnOneStep", spec := "fnOneStep", apart := false, narrowed := true }
def FnOneStepUptoSaid : Prop := fnOneStepUptoRow.holds Try.pinned (OpenSpec.upto fnOneStepSpec)

/-- 'laws.FnCountVotes', WHERE WHAT IT READS IS OF BULK AT MOST 1048576: true; the input reads as it did. -/
def fnCountVotesUptoRow : OpenClaim := { program := "ytobjcifoaejonac", sum := "8388fadf7baa855aefb3f5a273e8703b3df86dc8e351459f36535fd87877dde9", func := "loop.example/processengine/laws.FnCountVotes", spec := "fnCountVotes", apart := false, narrowed := true }
def FnCountVotesUptoSaid : Prop := fnCountVotesUptoRow.holds Try.pinned (OpenSpec.upto fnCountVotesSpec)

/-- 'laws.FnCountVotesTwo', WHERE WHAT IT READS IS OF BULK AT MOST 1048576: true; the input reads as it did. -/
def fnCountVotesTwoUptoRow : OpenClaim := { program := "ytobjcifoaejonac", sum := "8388fadf7baa855aefb3f5a273e8703b3df86dc8e351459f36535fd87877dde9", func := "loop.example/processengine/laws.FnCountVotesTwo", spec := "fnCountVotesTwo", apart := false, narrowed := true }
def FnCountVotesTwoUptoSaid : Prop := fnCountVotesTwoUptoRow.holds Try.pinned (OpenSpec.upto fnCountVotesTwoSpec)

/-- 'laws.FnAskVoteOld', WHERE WHAT IT READS IS OF BULK AT MOST 1048576: true; the input reads as it did. -/
def fnAskVoteOldUptoRow : OpenClaim := { program := "ytobjcifoaejonac", sum := "8388fadf7baa855aefb3f5a273e8703b3df86dc8e351459f36535fd87877dde9", func := "loop.example/processengine/laws.FnAskVoteOld", spec := "fnAskVoteOld", apart := false, narrowed := true }
def FnAskVoteOldUptoSaid : Prop := fnAskVoteOldUptoRow.holds Try.pinned (OpenSpec.upto fnAskVoteOldSpec)

/-- 'laws.FnIsQuorumMore', WHERE WHAT IT READS IS OF BULK AT MOST 1048576: true; the input reads as it did. -/
def fnIsQuorumMoreUptoRow : OpenClaim := { program := "ytobjcifoaejonac", sum := "8388fadf7baa855aefb3f5a273e8703b3df86dc8e351459f36535fd87877dde9", func := "loop.example/processengine/laws.FnIsQuorumMore", spec := "fnIsQuorumMore", apart := false, narrowed := true }
def FnIsQuorumMoreUptoSaid : Prop := fnIsQuorumMoreUptoRow.holds Try.pinned (OpenSpec.upto fnIsQuorumMoreSpec)

/-- 'laws.FnCountVotesTerm', WHERE WHAT IT READS IS OF BULK AT MOST 1048576: true; the input reads as it did. -/
def fnCountVotesTermUptoRow : OpenClaim := { program := "ytobjcifoaejonac", sum := "8388fadf7baa855aefb3f5a273e8703b3df86dc8e351459f36535fd87877dde9", func := "loop.example/processengine/laws.FnCountVotesTerm", spec := "fnCountVotesTerm", apart := false, narrowed := true }
def FnCountVotesTermUptoSaid : Prop := fnCountVotesTermUptoRow.holds Try.pinned (OpenSpec.upto fnCountVotesTermSpec)

/-- 'laws.FnOneStepGroups', WHERE WHAT IT READS IS OF BULK AT MOST 1048576: true; the input reads as it did. -/
def fnOneStepGroupsUptoRow : OpenClaim := { program := "ytobjcifoaejonac", sum := "8388fadf7baa855aefb3f5a273e8703b3df86dc8e351459f36535fd87877dde9", func := "loop.example/processengine/laws.FnOneStepGroups", spec := "fnOneStepGroups", apart := false, narrowed := true }
def FnOneStepGroupsUptoSaid : Prop := fnOneStepGroupsUptoRow.holds Try.pinned (OpenSpec.upto fnOneStepGroupsSpec)

end Rows
end Go.Proofs.Ytobjcifoaejonac
