/-
  No cell of these rows narrows 'for every input' (looked for: loops, veiled, ifaces, maps, wideKeys, modest, calm, conditions, laid).
  DERIVED. THE GIVEN ROWS OF THIS SEAT. 8 by the template 'for every input the law returns true; each argument reads behind the call as it read before'; 0 by the template 'total and deterministic' (their statements: YtfpiejcfhdnjiaaTotals.lean).
  GIVEN WITH THE SEED: the statements are not yours to turn. If you find one false, say at which input.
  Laid BY PROGRAM, IN A SANDBOX (cutbox-rows.mjs): the forced cells as the released guide's own fill.sh prints them over the translation 05f1bb69a145fd2f… (all of the seat's roots in one cut). By AI agents, Wed Nov 11 2026. No macro, syntax, notation, axiom, sorry.
-/
import Derived.Test.YtfpiejcfhdnjiaaChecked
import GoSem.Claim
import GoSem.ClaimJoined
import GoSem.ClaimMapViews
import Derived.JoinedTies
import Derived.KernelRfl
namespace Go.Proofs.Ytfpiejcfhdnjiaa
/- THE CELL 'sum', in the pinned program and in every row, IS THE sha256 OF THE DUMP (.gsa) THAT YtfpiejcfhdnjiaaProg.lean LOADS. Nothing in Lean hashes anything: it is a label: what it is worth is what the hold of that sum in a sandbox is worth. -/
noncomputable def Try.pinned : Pinned := { name := "ytfpiejcfhdnjiaa", sum := "05f1bb69a145fd2fdde31aefda0f341256609d258f71796b0156a203018945f1", checked := Try.checked }
namespace Rows
def none {H : Type} : Left H := { results := [], args := [] }

/-- 'laws.FnCommitPoint': WHATEVER THE INPUT: true; the input reads as it did. -/
def fnCommitPointSpec : ChangeSpec := { name := "fnCommitPoint", fn := fun _ => fun
  | [d] => { results := [.lit (.bool true)], args := [d] }
  | _ => none }
def fnCommitPointRow : OpenClaim := { program := "ytfpiejcfhdnjiaa", sum := "05f1bb69a145fd2fdde31aefda0f341256609d258f71796b0156a203018945f1", func := "loop.example/processengine/laws.FnCommitPoint", spec := "fnCommitPoint", unfollowed := true, recurses := true, apart := false }
def FnCommitPointSaid : Prop := fnCommitPointRow.holds Try.pinned (OpenSpec.ofChange fnCommitPointSpec)

/-- ITS FALSE NEIGHBOUR: 'it returns false'. Refute it at one input. -/
def fnCommitPointWrong : ChangeSpec := { name := "fnCommitPoint", fn := fun _ => fun
  | [d] => { results := [.lit (.bool false)], args := [d] }
  | _ => none }
def FnCommitPointWrongFalsely : Prop := fnCommitPointRow.holds Try.pinned (OpenSpec.ofChange fnCommitPointWrong)

/-- 'laws.FnCommitPointMore': WHATEVER THE INPUT: true; the input reads as it did. -/
def fnCommitPointMoreSpec : ChangeSpec := { name := "fnCommitPointMore", fn := fun _ => fun
  | [d] => { results := [.lit (.bool true)], args := [d] }
  | _ => none }
def fnCommitPointMoreRow : OpenClaim := { program := "ytfpiejcfhdnjiaa", sum := "05f1bb69a145fd2fdde31aefda0f341256609d258f71796b0156a203018945f1", func := "loop.example/processengine/laws.FnCommitPointMore", spec := "fnCommitPointMore", unfollowed := true, recurses := true, apart := false }
def FnCommitPointMoreSaid : Prop := fnCommitPointMoreRow.holds Try.pinned (OpenSpec.ofChange fnCommitPointMoreSpec)

/-- ITS FALSE NEIGHBOUR: 'it returns false'. Refute it at one input. -/
def fnCommitPointMoreWrong : ChangeSpec := { name := "fnCommitPointMore", fn := fun _ => fun
  | [d] => { results := [.lit (.bool false)], args := [d] }
  | _ => none }
def FnCommitPointMoreWrongFalsely : Prop := fnCommitPointMoreRow.holds Try.pinned (OpenSpec.ofChange fnCommitPointMoreWrong)

/-- 'laws.FnCommitPointGreatest': WHATEVER THE INPUT: true; the input reads as it did. -/
def fnCommitPointGreatestSpec : ChangeSpec := { name := "fnCommitPointGreatest", fn := fun _ => fun
  | [d] => { results := [.lit (.bool true)], args := [d] }
  | _ => none }
def fnCommitPointGreatestRow : OpenClaim := { program := "ytfpiejcfhdnjiaa", sum := "05f1bb69a145fd2fdde31aefda0f341256609d258f71796b0156a203018945f1", func := "loop.example/processengine/laws.FnCommitPointGreatest", spec := "fnCommitPointGreatest", unfollowed := true, recurses := true, apart := false }
def FnCommitPointGreatestSaid : Prop := fnCommitPointGreatestRow.holds Try.pinned (OpenSpec.ofChange fnCommitPointGreatestSpec)

/-- ITS FALSE NEIGHBOUR: 'it returns false'. Refute it at one input. -/
def fnCommitPointGreatestWrong : ChangeSpec := { name := "fnCommitPointGreatest", fn := fun _ => fun
  | [d] => { results := [.lit (.bool false)], args := [d] }
  | _ => none }
def FnCommitPointGreatestWrongFalsely : Prop := fnCommitPointGreatestRow.holds Try.pinned (OpenSpec.ofChange fnCommitPointGreatestWrong)

/-- 'laws.FnInstallSnap': WHATEVER THE INPUT: true; the input reads as it did. -/
def fnInstallSnapSpec : ChangeSpec := { name := "fnInstallSnap", fn := fun _ => fun
  | [d] => { results := [.lit (.bool true)], args := [d] }
  | _ => none }
def fnInstallSnapRow : OpenClaim := { program := "ytfpiejcfhdnjiaa", sum := "05f1bb69a145fd2fdde31aefda0f341256609d258f71796b0156a203018945f1", func := "loop.example/processengine/laws.FnInstallSnap", spec := "fnInstallSnap", apart := false }
def FnInstallSnapSaid : Prop := fnInstallSnapRow.holds Try.pinned (OpenSpec.ofChange fnInstallSnapSpec)

/-- ITS FALSE NEIGHBOUR: 'it returns false'. Refute it at one input. -/
def fnInstallSnapWrong : ChangeSpec := { name := "fnInstallSnap", fn := fun _ => fun
  | [d] => { results := [.lit (.bool false)], args := [d] }
  | _ => none }
def FnInstallSnapWrongFalsely : Prop := fnInstallSnapRow.holds Try.pinned (OpenSpec.ofChange fnInstallSnapWrong)

/-- 'laws.FnCommitPointAll': WHATEVER THE INPUT: true; the input reads as it did. -/
def fnCommitPointAllSpec : ChangeSpec := { name := "fnCommitPointAll", fn := fun _ => fun
  | [d] => { results := [.lit (.bool true)], args := [d] }
  | _ => none }
def fnCommitPointAllRow : OpenClaim := { program := "ytfpiejcfhdnjiaa", sum := "05f1bb69a145fd2fdde31aefda0f341256609d258f71796b0156a203018945f1", func := "loop.example/processengine/laws.FnCommitPointAll", spec := "fnCommitPointAll", unfollowed := true, recurses := true, apart := false }
def FnCommitPointAllSaid : Prop := fnCommitPointAllRow.holds Try.pinned (OpenSpec.ofChange fnCommitPointAllSpec)

/-- ITS FALSE NEIGHBOUR: 'it returns false'. Refute it at one input. -/
def fnCommitPointAllWrong : ChangeSpec := { name := "fnCommitPointAll", fn := fun _ => fun
  | [d] => { results := [.lit (.bool false)], args := [d] }
  | _ => none }
def FnCommitPointAllWrongFalsely : Prop := fnCommitPointAllRow.holds Try.pinned (OpenSpec.ofChange fnCommitPointAllWrong)

/-- 'laws.FnInstallSnapOld': WHATEVER THE INPUT: true; the input reads as it did. -/
def fnInstallSnapOldSpec : ChangeSpec := { name := "fnInstallSnapOld", fn := fun _ => fun
  | [d] => { results := [.lit (.bool true)], args := [d] }
  | _ => none }
def fnInstallSnapOldRow : OpenClaim := { program := "ytfpiejcfhdnjiaa", sum := "05f1bb69a145fd2fdde31aefda0f341256609d258f71796b0156a203018945f1", func := "loop.example/processengine/laws.FnInstallSnapOld", spec := "fnInstallSnapOld", apart := false }
def FnInstallSnapOldSaid : Prop := fnInstallSnapOldRow.holds Try.pinned (OpenSpec.ofChange fnInstallSnapOldSpec)

/-- ITS FALSE NEIGHBOUR: 'it returns false'. Refute it at one input. -/
def fnInstallSnapOldWrong : ChangeSpec := { name := "fnInstallSnapOld", fn := fun _ => fun
  | [d] => { results := [.lit (.bool false)], args := [d] }
  | _ => none }
def FnInstallSnapOldWrongFalsely : Prop := fnInstallSnapOldRow.holds Try.pinned (OpenSpec.ofChange fnInstallSnapOldWrong)

/-- 'laws.FnExactCommitPoint': WHATEVER THE INPUT: true; the input reads as it did. -/
def fnExactCommitPointSpec : ChangeSpec := { name := "fnExactCommitPoint", fn := fun _ => fun
  | [d1, d2, d3] => { results := [.lit (.bool true)], args := [d1, d2, d3] }
  | _ => none }
def fnExactCommitPointRow : OpenClaim := { program := "ytfpiejcfhdnjiaa", sum := "05f1bb69a145fd2fdde31aefda0f341256609d258f71796b0156a203018945f1", func := "loop.example/processengine/laws.FnExactCommitPoint", spec := "fnExactCommitPoint", unfollowed := true, recurses := true, apart := false }
def FnExactCommitPointSaid : Prop := fnExactCommitPointRow.holds Try.pinned (OpenSpec.ofChange fnExactCommitPointSpec)

/-- ITS FALSE NEIGHBOUR: 'it returns false'. Refute it at one input. -/
def fnExactCommitPointWrong : ChangeSpec := { name := "fnExactCommitPoint", fn := fun _ => fun
  | [d1, d2, d3] => { results := [.lit (.bool false)], args := [d1, d2, d3] }
  | _ => none }
def FnExactCommitPointWrongFalsely : Prop := fnExactCommitPointRow.holds Try.pinned (OpenSpec.ofChange fnExactCommitPointWrong)

/-- 'laws.FnExactCountVotes': WHATEVER THE INPUT: true; the input reads as it did. -/
def fnExactCountVotesSpec : ChangeSpec := { name := "fnExactCountVotes", fn := fun _ => fun
  | [d1, d2, d3, d4] => { results := [.lit (.bool true)], args := [d1, d2, d3, d4] }
  | _ => none }
def fnExactCountVotesRow : OpenClaim := { program := "ytfpiejcfhdnjiaa", sum := "05f1bb69a145fd2fdde31aefda0f341256609d258f71796b0156a203018945f1", func := "loop.example/processengine/laws.FnExactCountVotes", spec := "fnExactCountVotes", apart := false }
def FnExactCountVotesSaid : Prop := fnExactCountVotesRow.holds Try.pinned (OpenSpec.ofChange fnExactCountVotesSpec)

/-- ITS FALSE NEIGHBOUR: 'it returns false'. Refute it at one input. -/
def fnExactCountVotesWrong : ChangeSpec := { name := "fnExactCountVotes", fn := fun _ => fun
  | [d1, d2, d3, d4] => { results := [.lit (.bool false)], args := [d1, d2, d3, d4] }
  | _ => none }
def FnExactCountVotesWrongFalsely : Prop := fnExactCountVotesRow.holds Try.pinned (OpenSpec.ofChange fnExactCountVotesWrong)

/- THE SECOND FORM. 'bulk': how many values and letters a reading holds, each counted each time it is reached (what is shared counts as often as it is met; a slice's spare places count too). A statement '..UptoSaid' is the law's where the arguments, and the package variables that the reading takes, are together of bulk at most 1048576: NARROWER than '..Said'. Prove '..Said' where nothing that the law and all that it calls make is longer than what came in: it says more and counts as full. Else prove '..UptoSaid'. A law counts once. -/
mutual
def uptoBulk {H : Type} : DataW H → Nat
  | .lit (.string bytes) => bytes.length + 1
  | .lit _ => 1
  | .nil => 1
  | .ptr d => uptoBulk d + 1
  | .slice elems spare => uptoBulkAll elems + uptoBulkAll spare + 1
  | .agg parts => uptoBulkAll parts + 1
  | .iface _ d => uptoBulk d + 1
  | .map entries => uptoBulkEntries entries + 1
  | .held _ => 1
def uptoBulkAll {H : Type} : List (DataW H) → Nat
  | [] => 0
  | d :: r => uptoBulk d + uptoBulkAll r
def uptoBulkEntries {H : Type} : List (Lit × DataW H) → Nat
  | [] => 0
  | x :: r => uptoBulkEntry x + uptoBulkEntries r
def uptoBulkEntry {H : Type} : Lit × DataW H → Nat
  | (.string bytes, d) => bytes.length + uptoBulk d + 1
  | (_, d) => uptoBulk d + 1
 end
def uptoSmall : (H : Type) → List (DataW H) → Bool := fun _ ds => decide (uptoBulkAll ds ≤ 1048576)
def OpenSpec.upto (s : _root_.Go.ChangeSpec) : _root_.Go.OpenSpec := { _root_.Go.OpenSpec.ofChange s with cond := some uptoSmall }

/-- 'laws.FnCommitPoint', WHERE WHAT IT READS IS OF BULK AT MOST 1048576: true; the input reads as it did. -/
def fnCommitPointUptoRow : OpenClaim := { program := "ytfpiejcfhdnjiaa", sum := "05f1bb69a145fd2fdde31aefda0f341256609d258f71796b0156a203018945f1", func := "loop.example/processengine/laws.FnCommitPoint", spec := "fnCommitPoint", unfollowed := true, recurses := true, apart := false, narrowed := true }
def FnCommitPointUptoSaid : Prop := fnCommitPointUptoRow.holds Try.pinned (OpenSpec.upto fnCommitPointSpec)

/-- 'laws.FnCommitPointMore', WHERE WHAT IT READS IS OF BULK AT MOST 1048576: true; the input reads as it did. -/
def fnCommitPointMoreUptoRow : OpenClaim := { program := "ytfpiejcfhdnjiaa", sum := "05f1bb69a145fd2fdde31aefda0f341256609d258f71796b0156a203018945f1", func := "loop.example/processengine/laws.FnCommitPointMore", spec := "fnCommitPointMore", unfollowed := true, recurses := true, apart := false, narrowed := true }
def FnCommitPointMoreUptoSaid : Prop := fnCommitPointMoreUptoRow.holds Try.pinned (OpenSpec.upto fnCommitPointMoreSpec)

/-- 'laws.FnCommitPointGreatest', WHERE WHAT IT READS IS OF BULK AT MOST 1048576: true; the input reads as it did. -/
def fnCommitPointGreatestUptoRow : OpenClaim := { program := "ytfpiejcfhdnjiaa", sum := "05f1bb69a145fd2fdde31aefda0f341256609d258f71796b0156a203018945f1", func := "loop.example/processengine/laws.FnCommitPointGreatest", spec := "fnCommitPointGreatest", unfollowed := true, recurses := true, apart := false, narrowed := true }
def FnCommitPointGreatestUptoSaid : Prop := fnCommitPointGreatestUptoRow.holds Try.pinned (OpenSpec.upto fnCommitPointGreatestSpec)

/-- 'laws.FnInstallSnap', WHERE WHAT IT READS IS OF BULK AT MOST 1048576: true; the input reads as it did. -/
def fnInstallSnapUptoRow : OpenClaim := { program := "ytfpiejcfhdnjiaa", sum := "05f1bb69a145fd2fdde31aefda0f341256609d258f71796b0156a203018945f1", func := "loop.example/processengine/laws.FnInstallSnap", spec := "fnInstallSnap", apart := false, narrowed := true }
def FnInstallSnapUptoSaid : Prop := fnInstallSnapUptoRow.holds Try.pinned (OpenSpec.upto fnInstallSnapSpec)

/-- 'laws.FnCommitPointAll', WHERE WHAT IT READS IS OF BULK AT MOST 1048576: true; the input reads as it did. -/
def fnCommitPointAllUptoRow : OpenClaim := { program := "ytfpiejcfhdnjiaa", sum := "05f1bb69a145fd2fdde31aefda0f341256609d258f71796b0156a203018945f1", func := "loop.example/processengine/laws.FnCommitPointAll", spec := "fnCommitPointAll", unfollowed := true, recurses := true, apart := false, narrowed := true }
def FnCommitPointAllUptoSaid : Prop := fnCommitPointAllUptoRow.holds Try.pinned (OpenSpec.upto fnCommitPointAllSpec)

/-- 'laws.FnInstallSnapOld', WHERE WHAT IT READS IS OF BULK AT MOST 1048576: true; the input reads as it did. -/
def fnInstallSnapOldUptoRow : OpenClaim := { program := "ytfpiejcfhdnjiaa", sum := "05f1bb69a145fd2fdde31aefda0f341256609d258f71796b0156a203018945f1", func := "loop.example/processengine/laws.FnInstallSnapOld", spec := "fnInstallSnapOld", apart := false, narrowed := true }
def FnInstallSnapOldUptoSaid : Prop := fnInstallSnapOldUptoRow.holds Try.pinned (OpenSpec.upto fnInstallSnapOldSpec)

/-- 'laws.FnExactCommitPoint', WHERE WHAT IT READS IS OF BULK AT MOST 1048576: true; the input reads as it did. -/
def fnExactCommitPointUptoRow : OpenClaim := { program := "ytfpiejcfhdnjiaa", sum := "05f1bb69a145fd2fdde31aefda0f341256609d258f71796b0156a203018945f1", func := "loop.example/processengine/laws.FnExactCommitPoint", spec := "fnExactCommitPoint", unfollowed := true, recurses := true, apart := false, narrowed := true }
def FnExactCommitPointUptoSaid : Prop := fnExactCommitPointUptoRow.holds Try.pinned (OpenSpec.upto fnExactCommitPointSpec)

/-- 'laws.FnExactCountVotes', WHERE WHAT IT READS IS OF BULK AT MOST 1048576: true; the input reads as it did. -/
def fnExactCountVotesUptoRow : OpenClaim := { program := "ytfpiejcfhdnjiaa", sum := "05f1bb69a145fd2fdde31aefda0f341256609d258f71796b0156a203018945f1", func := "loop.example/processengine/laws.FnExactCountVotes", spec := "fnExactCountVotes", apart := false, narrowed := true }
def FnExactCountVotesUptoSaid : Prop := fnExactCountVotesUptoRow.holds Try.pinned (OpenSpec.upto fnExactCountVotesSpec)

end Rows
end Go.Proofs.Ytfpiejcfhdnjiaa
