/-
  No cell of these rows narrows 'for every input' (looked for: loops, veiled, ifaces, maps, wideKeys, modest, calm, conditions, laid).
  DERIVED. THE GIVEN ROWS OF THIS SEAT. 6 by the template 'for every input the law returns true; each argument reads behind the call as it read before'; 0 by the template 'total and deterministic' (their statements: YtobjcifoaejonabTotals.lean).
  GIVEN WITH THE SEED: the statements are not yours to turn. If you find one false, say at which input.
  Laid BY PROGRAM, IN A SANDBOX (cutbox-rows.mjs): the forced cells as the released guide's own fill.sh prints them over the translation ee53e12568e85b5a… (all of the seat's roots in one cut). By AI agents, Wed Nov 11 2026. No macro, syntax, notation, axiom, sorry.
-/
import Derived.Test.YtobjcifoaejonabChecked
import GoSem.Claim
import GoSem.ClaimJoined
import GoSem.ClaimMapViews
import Derived.JoinedTies
import Derived.KernelRfl
namespace Go.Proofs.Ytobjcifoaejonab
/- THE CELL 'sum', in the pinned program and in every row, IS THE sha256 OF THE DUMP (.gsa) THAT YtobjcifoaejonabProg.lean LOADS. Nothing in Lean hashes anything: it is a label: what it is worth is what the hold of that sum in a sandbox is worth. -/
noncomputable def Try.pinned : Pinned := { name := "ytobjcifoaejonab", sum := "ee53e12568e85b5aee2f87ffdc5510ba80bb28fa295ceb2b8f967de7aefb6665", checked := Try.checked }
namespace Rows
def none {H : Type} : Left H := { results := [], args := [] }

/-- 'laws.FnValidLog': WHATEVER THE INPUT: true; the input reads as it did. -/
def fnValidLogSpec : ChangeSpec := { name := "fnValidLog", fn := fun _ => fun
  | [d] => { results := [.lit (.bool true)], args := [d] }
  | _ => none }
def fnValidLogRow : OpenClaim := { program := "ytobjcifoaejonab", sum := "ee53e12568e85b5aee2f87ffdc5510ba80bb28fa295ceb2b8f967de7aefb6665", func := "loop.example/processengine/laws.FnValidLog", spec := "fnValidLog", apart := false }
def FnValidLogSaid : Prop := fnValidLogRow.holds Try.pinned (OpenSpec.ofChange fnValidLogSpec)

/-- ITS FALSE NEIGHBOUR: 'it returns false'. Refute it at one input. -/
def fnValidLogWrong : ChangeSpec := { name := "fnValidLog", fn := fun _ => fun
  | [d] => { results := [.lit (.bool false)], args := [d] }
  | _ => none }
def FnValidLogWrongFalsely : Prop := fnValidLogRow.holds Try.pinned (OpenSpec.ofChange fnValidLogWrong)

/-- 'laws.FnNewerLog': WHATEVER THE INPUT: true; the input reads as it did. -/
def fnNewerLogSpec : ChangeSpec := { name := "fnNewerLog", fn := fun _ => fun
  | [d] => { results := [.lit (.bool true)], args := [d] }
  | _ => none }
def fnNewerLogRow : OpenClaim := { program := "ytobjcifoaejonab", sum := "ee53e12568e85b5aee2f87ffdc5510ba80bb28fa295ceb2b8f967de7aefb6665", func := "loop.example/processengine/laws.FnNewerLog", spec := "fnNewerLog", apart := false }
def FnNewerLogSaid : Prop := fnNewerLogRow.holds Try.pinned (OpenSpec.ofChange fnNewerLogSpec)

/-- ITS FALSE NEIGHBOUR: 'it returns false'. Refute it at one input. -/
def fnNewerLogWrong : ChangeSpec := { name := "fnNewerLog", fn := fun _ => fun
  | [d] => { results := [.lit (.bool false)], args := [d] }
  | _ => none }
def FnNewerLogWrongFalsely : Prop := fnNewerLogRow.holds Try.pinned (OpenSpec.ofChange fnNewerLogWrong)

/-- 'laws.FnNewerLogPrefix': WHATEVER THE INPUT: true; the input reads as it did. -/
def fnNewerLogPrefixSpec : ChangeSpec := { name := "fnNewerLogPrefix", fn := fun _ => fun
  | [d] => { results := [.lit (.bool true)], args := [d] }
  | _ => none }
def fnNewerLogPrefixRow : OpenClaim := { program := "ytobjcifoaejonab", sum := "ee53e12568e85b5aee2f87ffdc5510ba80bb28fa295ceb2b8f967de7aefb6665", func := "loop.example/processengine/laws.FnNewerLogPrefix", spec := "fnNewerLogPrefix", apart := false }
def FnNewerLogPrefixSaid : Prop := fnNewerLogPrefixRow.holds Try.pinned (OpenSpec.ofChange fnNewerLogPrefixSpec)

/-- ITS FALSE NEIGHBOUR: 'it returns false'. Refute it at one input. -/
def fnNewerLogPrefixWrong : ChangeSpec := { name := "fnNewerLogPrefix", fn := fun _ => fun
  | [d] => { results := [.lit (.bool false)], args := [d] }
  | _ => none }
def FnNewerLogPrefixWrongFalsely : Prop := fnNewerLogPrefixRow.holds Try.pinned (OpenSpec.ofChange fnNewerLogPrefixWrong)

/-- 'laws.FnCommonPart': WHATEVER THE INPUT: true; the input reads as it did. -/
def fnCommonPartSpec : ChangeSpec := { name := "fnCommonPart", fn := fun _ => fun
  | [d] => { results := [.lit (.bool true)], args := [d] }
  | _ => none }
def fnCommonPartRow : OpenClaim := { program := "ytobjcifoaejonab", sum := "ee53e12568e85b5aee2f87ffdc5510ba80bb28fa295ceb2b8f967de7aefb6665", func := "loop.example/processengine/laws.FnCommonPart", spec := "fnCommonPart", unfollowed := true, recurses := true, apart := false }
def FnCommonPartSaid : Prop := fnCommonPartRow.holds Try.pinned (OpenSpec.ofChange fnCommonPartSpec)

/-- ITS FALSE NEIGHBOUR: 'it returns false'. Refute it at one input. -/
def fnCommonPartWrong : ChangeSpec := { name := "fnCommonPart", fn := fun _ => fun
  | [d] => { results := [.lit (.bool false)], args := [d] }
  | _ => none }
def FnCommonPartWrongFalsely : Prop := fnCommonPartRow.holds Try.pinned (OpenSpec.ofChange fnCommonPartWrong)

/-- 'laws.FnNewerLogAppend': WHATEVER THE INPUT: true; the input reads as it did. -/
def fnNewerLogAppendSpec : ChangeSpec := { name := "fnNewerLogAppend", fn := fun _ => fun
  | [d] => { results := [.lit (.bool true)], args := [d] }
  | _ => none }
def fnNewerLogAppendRow : OpenClaim := { program := "ytobjcifoaejonab", sum := "ee53e12568e85b5aee2f87ffdc5510ba80bb28fa295ceb2b8f967de7aefb6665", func := "loop.example/processengine/laws.FnNewerLogAppend", spec := "fnNewerLogAppend", apart := false }
def FnNewerLogAppendSaid : Prop := fnNewerLogAppendRow.holds Try.pinned (OpenSpec.ofChange fnNewerLogAppendSpec)

/-- ITS FALSE NEIGHBOUR: 'it returns false'. Refute it at one input. -/
def fnNewerLogAppendWrong : ChangeSpec := { name := "fnNewerLogAppend", fn := fun _ => fun
  | [d] => { results := [.lit (.bool false)], args := [d] }
  | _ => none }
def FnNewerLogAppendWrongFalsely : Prop := fnNewerLogAppendRow.holds Try.pinned (OpenSpec.ofChange fnNewerLogAppendWrong)

/-- 'laws.FnCommitPointAll': WHATEVER THE INPUT: true; the input reads as it did. -/
def fnCommitPointAllSpec : ChangeSpec := { name := "fnCommitPointAll", fn := fun _ => fun
  | [d] => { results := [.lit (.bool true)], args := [d] }
  | _ => none }
def fnCommitPointAllRow : OpenClaim := { program := "ytobjcifoaejonab", sum := "ee53e12568e85b5aee2f87ffdc5510ba80bb28fa295ceb2b8f967de7aefb6665", func := "loop.example/processengine/laws.FnCommitPointAll", spec := "fnCommitPointAll", unfollowed := true, recurses := true, apart := false }
def FnCommitPointAllSaid : Prop := fnCommitPointAllRow.holds Try.pinned (OpenSpec.ofChange fnCommitPointAllSpec)

/-- ITS FALSE NEIGHBOUR: 'it returns false'. Refute it at one input. -/
def fnCommitPointAllWrong : ChangeSpec := { name := "fnCommitPointAll", fn := fun _ => fun
  | [d] => { results := [.lit (.bool false)], args := [d] }
  | _ => none }
def FnCommitPointAllWrongFalsely : Prop := fnCommitPointAllRow.holds Try.pinned (OpenSpec.ofChange fnCommitPointAllWrong)

/- THE SECOND FORM. 'bulk': how many values and letters a reading holds, each counted each time it is reached (what is shared counts as often as it is met; a slice's spare places count too). A statement '..UptoSaid' is the law's where the arguments, and the package variables that the reading takes, are together of bulk at most 1048576: NARROWER than '..Said'. Prove '..Said' where nothing that the law and all that it calls make is longer than what came in: it says more and counts as full. Else prove '..UptoSaid'. A law counts once. -/
mutual
def uptoBulk {H : Type} : DataW H → Nat
  | .lit (.string bytes) => bytes.length + 1
  | .lit _ => 1
  | .nil => 1
  | .ptr d => uptoBulk d + 1
  | .slice elems spare => uptoBulkAll elems + uptoBulkAll spare + 1
  | .agg parts => uptoBulkAll parts + 1
  | .iface _ d => uptoBulk d + 1
  | .map entries => uptoBulkEntries entries + 1
  | .held _ => 1
def uptoBulkAll {H : Type} : List (DataW H) → Nat
  | [] => 0
  | d :: r => uptoBulk d + uptoBulkAll r
def uptoBulkEntries {H : Type} : List (Lit × DataW H) → Nat
  | [] => 0
  | x :: r => uptoBulkEntry x + uptoBulkEntries r
def uptoBulkEntry {H : Type} : Lit × DataW H → Nat
  | (.string bytes, d) => bytes.length + uptoBulk d + 1
  | (_, d) => uptoBulk d + 1
 end
def uptoSmall : (H : Type) → List (DataW H) → Bool := fun _ ds => decide (uptoBulkAll ds ≤ 1048576)
def OpenSpec.upto (s : _root_.Go.ChangeSpec) : _root_.Go.OpenSpec := { _root_.Go.OpenSpec.ofChange s with cond := some uptoSmall }

/-- 'laws.FnValidLog', WHERE WHAT IT READS IS OF BULK AT MOST 1048576: true; the input reads as it did. -/
def fnValidLogUptoRow : OpenClaim := { program := "ytobjcifoaejonab", sum := "ee53e12568e85b5aee2f87ffdc5510ba80bb28fa295ceb2b8f967de7aefb6665", func := "loop.example/processengine/laws.FnValidLog", spec := "fnValidLog", apart := false, narrowed := true }
def FnValidLogUptoSaid : Prop := fnValidLogUptoRow.holds Try.pinned (OpenSpec.upto fnValidLogSpec)

/-- 'laws.FnNewerLog', WHERE WHAT IT READS IS OF BULK AT MOST 1048576: true; the input reads as it did. -/
def fnNewerLogUptoRow : OpenClaim := { program := "ytobjcifoaejonab", sum := "ee53e12568e85b5aee2f87ffdc5510ba80bb28fa295ceb2b8f967de7aefb6665", func := "loop.example/processengine/laws.FnNewerLog", spec := "fnNewerLog", apart := false, narrowed := true }
def FnNewerLogUptoSaid : Prop := fnNewerLogUptoRow.holds Try.pinned (OpenSpec.upto fnNewerLogSpec)

/-- 'laws.FnNewerLogPrefix', WHERE WHAT IT READS IS OF BULK AT MOST 1048576: true; the input reads as it did. -/
def fnNewerLogPrefixUptoRow : OpenClaim := { program := "ytobjcifoaejonab", sum := "ee53e12568e85b5aee2f87ffdc5510ba80bb28fa295ceb2b8f967de7aefb6665", func := "loop.example/processengine/laws.FnNewerLogPrefix", spec := "fnNewerLogPrefix", apart := false, narrowed := true }
def FnNewerLogPrefixUptoSaid : Prop := fnNewerLogPrefixUptoRow.holds Try.pinned (OpenSpec.upto fnNewerLogPrefixSpec)

/-- 'laws.FnCommonPart', WHERE WHAT IT READS IS OF BULK AT MOST 1048576: true; the input reads as it did. -/
def fnCommonPartUptoRow : OpenClaim := { program := "ytobjcifoaejonab", sum := "ee53e12568e85b5aee2f87ffdc5510ba80bb28fa295ceb2b8f967de7aefb6665", func := "loop.example/processengine/laws.FnCommonPart", spec := "fnCommonPart", unfollowed := true, recurses := true, apart := false, narrowed := true }
def FnCommonPartUptoSaid : Prop := fnCommonPartUptoRow.holds Try.pinned (OpenSpec.upto fnCommonPartSpec)

/-- 'laws.FnNewerLogAppend', WHERE WHAT IT READS IS OF BULK AT MOST 1048576: true; the input reads as it did. -/
def fnNewerLogAppendUptoRow : OpenClaim := { program := "ytobjcifoaejonab", sum := "ee53e12568e85b5aee2f87ffdc5510ba80bb28fa295ceb2b8f967de7aefb6665", func := "loop.example/processengine/laws.FnNewerLogAppend", spec := "fnNewerLogAppend", apart := false, narrowed := true }
def FnNewerLogAppendUptoSaid : Prop := fnNewerLogAppendUptoRow.holds Try.pinned (OpenSpec.upto fnNewerLogAppendSpec)

/-- 'laws.FnCommitPointAll', WHERE WHAT IT READS IS OF BULK AT MOST 1048576: true; the input reads as it did. -/
def fnCommitPointAllUptoRow : OpenClaim := { program := "ytobjcifoaejonab", sum := "ee53e12568e85b5aee2f87ffdc5510ba80bb28fa295ceb2b8f967de7aefb6665", func := "loop.example/processengine/laws.FnCommitPointAll", spec := "fnCommitPointAll", unfollowed := true, recurses := true, apart := false, narrowed := true }
def FnCommitPointAllUptoSaid : Prop := fnCommitPointAllUptoRow.holds Try.pinned (OpenSpec.upto fnCommitPointAllSpec)

end Rows
end Go.Proofs.Ytobjcifoaejonab
