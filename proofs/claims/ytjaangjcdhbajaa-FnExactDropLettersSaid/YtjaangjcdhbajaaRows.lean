/-
  No cell of these rows narrows 'for every input' (looked for: loops, veiled, ifaces, maps, wideKeys, modest, calm, conditions, laid).
  DERIVED. THE GIVEN ROWS OF THIS SEAT. 10 by the template 'for every input the law returns true; each argument reads behind the call as it read before'; 0 by the template 'total and deterministic' (their statements: YtjaangjcdhbajaaTotals.lean).
  GIVEN WITH THE SEED: the statements are not yours to turn. If you find one false, say at which input.
  Laid BY PROGRAM, IN A SANDBOX (cutbox-rows.mjs): the forced cells as the released guide's own fill.sh prints them over the translation 3f72cfe49b832b2f… (all of the seat's roots in one cut). By AI agents, Wed Nov 11 2026. No macro, syntax, notation, axiom, sorry.
-/
import Derived.Test.YtjaangjcdhbajaaChecked
import GoSem.Claim
import GoSem.ClaimJoined
import GoSem.ClaimMapViews
import Derived.JoinedTies
import Derived.KernelRfl
namespace Go.Proofs.Ytjaangjcdhbajaa
/- THE CELL 'sum', in the pinned program and in every row, IS THE sha256 OF THE DUMP (.gsa) THAT YtjaangjcdhbajaaProg.lean LOADS. Nothing in Lean hashes anything: it is a label: what it is worth is what the hold of that sum in a sandbox is worth. -/
noncomputable def Try.pinned : Pinned := { name := "ytjaangjcdhbajaa", sum := "3f72cfe49b832b2f2b7fdc054a60e76985606c8ab2c9f74fe38a359f63f0613a", checked := Try.checked }
namespace Rows
def none {H : Type} : Left H := { results := [], args := [] }

/-- 'laws.FnExactFireNode': WHATEVER THE INPUT: true; the input reads as it did. -/
def fnExactFireNodeSpec : ChangeSpec := { name := "fnExactFireNode", fn := fun _ => fun
  | [d1, d2, d3, d4] => { results := [.lit (.bool true)], args := [d1, d2, d3, d4] }
  | _ => none }
def fnExactFireNodeRow : OpenClaim := { program := "ytjaangjcdhbajaa", sum := "3f72cfe49b832b2f2b7fdc054a60e76985606c8ab2c9f74fe38a359f63f0613a", func := "loop.example/processengine/laws.FnExactFireNode", spec := "fnExactFireNode", inPlace := ["maps.clone"], unfollowed := true, recurses := true, plainKeys := false, apart := false }
def FnExactFireNodeSaid : Prop := fnExactFireNodeRow.holds Try.pinned (OpenSpec.ofChange fnExactFireNodeSpec)

/-- ITS FALSE NEIGHBOUR: 'it returns false'. Refute it at one input. -/
def fnExactFireNodeWrong : ChangeSpec := { name := "fnExactFireNode", fn := fun _ => fun
  | [d1, d2, d3, d4] => { results := [.lit (.bool false)], args := [d1, d2, d3, d4] }
  | _ => none }
def FnExactFireNodeWrongFalsely : Prop := fnExactFireNodeRow.holds Try.pinned (OpenSpec.ofChange fnExactFireNodeWrong)

/-- 'laws.FnFirstMarks': WHATEVER THE INPUT: true; the input reads as it did. -/
def fnFirstMarksSpec : ChangeSpec := { name := "fnFirstMarks", fn := fun _ => fun
  | [d] => { results := [.lit (.bool true)], args := [d] }
  | _ => none }
def fnFirstMarksRow : OpenClaim := { program := "ytjaangjcdhbajaa", sum := "3f72cfe49b832b2f2b7fdc054a60e76985606c8ab2c9f74fe38a359f63f0613a", func := "loop.example/processengine/laws.FnFirstMarks", spec := "fnFirstMarks", unfollowed := true, recurses := true, plainKeys := false, apart := false }
def FnFirstMarksSaid : Prop := fnFirstMarksRow.holds Try.pinned (OpenSpec.ofChange fnFirstMarksSpec)

/-- ITS FALSE NEIGHBOUR: 'it returns false'. Refute it at one input. -/
def fnFirstMarksWrong : ChangeSpec := { name := "fnFirstMarks", fn := fun _ => fun
  | [d] => { results := [.lit (.bool false)], args := [d] }
  | _ => none }
def FnFirstMarksWrongFalsely : Prop := fnFirstMarksRow.holds Try.pinned (OpenSpec.ofChange fnFirstMarksWrong)

/-- 'laws.FnFirstMarksReady': WHATEVER THE INPUT: true; the input reads as it did. -/
def fnFirstMarksReadySpec : ChangeSpec := { name := "fnFirstMarksReady", fn := fun _ => fun
  | [d] => { results := [.lit (.bool true)], args := [d] }
  | _ => none }
def fnFirstMarksReadyRow : OpenClaim := { program := "ytjaangjcdhbajaa", sum := "3f72cfe49b832b2f2b7fdc054a60e76985606c8ab2c9f74fe38a359f63f0613a", func := "loop.example/processengine/laws.FnFirstMarksReady", spec := "fnFirstMarksReady", unfollowed := true, recurses := true, plainKeys := false, apart := false }
def FnFirstMarksReadySaid : Prop := fnFirstMarksReadyRow.holds Try.pinned (OpenSpec.ofChange fnFirstMarksReadySpec)

/-- ITS FALSE NEIGHBOUR: 'it returns false'. Refute it at one input. -/
def fnFirstMarksReadyWrong : ChangeSpec := { name := "fnFirstMarksReady", fn := fun _ => fun
  | [d] => { results := [.lit (.bool false)], args := [d] }
  | _ => none }
def FnFirstMarksReadyWrongFalsely : Prop := fnFirstMarksReadyRow.holds Try.pinned (OpenSpec.ofChange fnFirstMarksReadyWrong)

/-- 'laws.FnExactValidInstance': WHATEVER THE INPUT: true; the input reads as it did. -/
def fnExactValidInstanceSpec : ChangeSpec := { name := "fnExactValidInstance", fn := fun _ => fun
  | [d1, d2] => { results := [.lit (.bool true)], args := [d1, d2] }
  | _ => none }
def fnExactValidInstanceRow : OpenClaim := { program := "ytjaangjcdhbajaa", sum := "3f72cfe49b832b2f2b7fdc054a60e76985606c8ab2c9f74fe38a359f63f0613a", func := "loop.example/processengine/laws.FnExactValidInstance", spec := "fnExactValidInstance", unfollowed := true, recurses := true, plainKeys := false, apart := false }
def FnExactValidInstanceSaid : Prop := fnExactValidInstanceRow.holds Try.pinned (OpenSpec.ofChange fnExactValidInstanceSpec)

/-- ITS FALSE NEIGHBOUR: 'it returns false'. Refute it at one input. -/
def fnExactValidInstanceWrong : ChangeSpec := { name := "fnExactValidInstance", fn := fun _ => fun
  | [d1, d2] => { results := [.lit (.bool false)], args := [d1, d2] }
  | _ => none }
def FnExactValidInstanceWrongFalsely : Prop := fnExactValidInstanceRow.holds Try.pinned (OpenSpec.ofChange fnExactValidInstanceWrong)

/-- 'laws.FnExactIsDone': WHATEVER THE INPUT: true; the input reads as it did. -/
def fnExactIsDoneSpec : ChangeSpec := { name := "fnExactIsDone", fn := fun _ => fun
  | [d1, d2] => { results := [.lit (.bool true)], args := [d1, d2] }
  | _ => none }
def fnExactIsDoneRow : OpenClaim := { program := "ytjaangjcdhbajaa", sum := "3f72cfe49b832b2f2b7fdc054a60e76985606c8ab2c9f74fe38a359f63f0613a", func := "loop.example/processengine/laws.FnExactIsDone", spec := "fnExactIsDone", unfollowed := true, recurses := true, plainKeys := false, apart := false }
def FnExactIsDoneSaid : Prop := fnExactIsDoneRow.holds Try.pinned (OpenSpec.ofChange fnExactIsDoneSpec)

/-- ITS FALSE NEIGHBOUR: 'it returns false'. Refute it at one input. -/
def fnExactIsDoneWrong : ChangeSpec := { name := "fnExactIsDone", fn := fun _ => fun
  | [d1, d2] => { results := [.lit (.bool false)], args := [d1, d2] }
  | _ => none }
def FnExactIsDoneWrongFalsely : Prop := fnExactIsDoneRow.holds Try.pinned (OpenSpec.ofChange fnExactIsDoneWrong)

/-- 'laws.FnExactNextDue': WHATEVER THE INPUT: true; the input reads as it did. -/
def fnExactNextDueSpec : ChangeSpec := { name := "fnExactNextDue", fn := fun _ => fun
  | [d1, d2] => { results := [.lit (.bool true)], args := [d1, d2] }
  | _ => none }
def fnExactNextDueRow : OpenClaim := { program := "ytjaangjcdhbajaa", sum := "3f72cfe49b832b2f2b7fdc054a60e76985606c8ab2c9f74fe38a359f63f0613a", func := "loop.example/processengine/laws.FnExactNextDue", spec := "fnExactNextDue", unfollowed := true, recurses := true, plainKeys := false, apart := false }
def FnExactNextDueSaid : Prop := fnExactNextDueRow.holds Try.pinned (OpenSpec.ofChange fnExactNextDueSpec)

/-- ITS FALSE NEIGHBOUR: 'it returns false'. Refute it at one input. -/
def fnExactNextDueWrong : ChangeSpec := { name := "fnExactNextDue", fn := fun _ => fun
  | [d1, d2] => { results := [.lit (.bool false)], args := [d1, d2] }
  | _ => none }
def FnExactNextDueWrongFalsely : Prop := fnExactNextDueRow.holds Try.pinned (OpenSpec.ofChange fnExactNextDueWrong)

/-- 'laws.FnExactValidPost': WHATEVER THE INPUT: true; the input reads as it did. -/
def fnExactValidPostSpec : ChangeSpec := { name := "fnExactValidPost", fn := fun _ => fun
  | [d] => { results := [.lit (.bool true)], args := [d] }
  | _ => none }
def fnExactValidPostRow : OpenClaim := { program := "ytjaangjcdhbajaa", sum := "3f72cfe49b832b2f2b7fdc054a60e76985606c8ab2c9f74fe38a359f63f0613a", func := "loop.example/processengine/laws.FnExactValidPost", spec := "fnExactValidPost", unfollowed := true, recurses := true, plainKeys := false, apart := false }
def FnExactValidPostSaid : Prop := fnExactValidPostRow.holds Try.pinned (OpenSpec.ofChange fnExactValidPostSpec)

/-- ITS FALSE NEIGHBOUR: 'it returns false'. Refute it at one input. -/
def fnExactValidPostWrong : ChangeSpec := { name := "fnExactValidPost", fn := fun _ => fun
  | [d] => { results := [.lit (.bool false)], args := [d] }
  | _ => none }
def FnExactValidPostWrongFalsely : Prop := fnExactValidPostRow.holds Try.pinned (OpenSpec.ofChange fnExactValidPostWrong)

/-- 'laws.FnExactDropLetters': WHATEVER THE INPUT: true; the input reads as it did. -/
def fnExactDropLettersSpec : ChangeSpec := { name := "fnExactDropLetters", fn := fun _ => fun
  | [d1, d2] => { results := [.lit (.bool true)], args := [d1, d2] }
  | _ => none }
def fnExactDropLettersRow : OpenClaim := { program := "ytjaangjcdhbajaa", sum := "3f72cfe49b832b2f2b7fdc054a60e76985606c8ab2c9f74fe38a359f63f0613a", func := "loop.example/processengine/laws.FnExactDropLetters", spec := "fnExactDropLetters", unfollowed := true, recurses := true, plainKeys := false, apart := false }
def FnExactDropLettersSaid : Prop := fnExactDropLettersRow.holds Try.pinned (OpenSpec.ofChange fnExactDropLettersSpec)

/-- ITS FALSE NEIGHBOUR: 'it returns false'. Refute it at one input. -/
def fnExactDropLettersWrong : ChangeSpec := { name := "fnExactDropLetters", fn := fun _ => fun
  | [d1, d2] => { results := [.lit (.bool false)], args := [d1, d2] }
  | _ => none }
def FnExactDropLettersWrongFalsely : Prop := fnExactDropLettersRow.holds Try.pinned (OpenSpec.ofChange fnExactDropLettersWrong)

/-- 'laws.FnExactSendLetter': WHATEVER THE INPUT: true; the input reads as it did. -/
def fnExactSendLetterSpec : ChangeSpec := { name := "fnExactSendLetter", fn := fun _ => fun
  | [d1, d2] => { results := [.lit (.bool true)], args := [d1, d2] }
  | _ => none }
def fnExactSendLetterRow : OpenClaim := { program := "ytjaangjcdhbajaa", sum := "3f72cfe49b832b2f2b7fdc054a60e76985606c8ab2c9f74fe38a359f63f0613a", func := "loop.example/processengine/laws.FnExactSendLetter", spec := "fnExactSendLetter", unfollowed := true, recurses := true, plainKeys := false, apart := false }
def FnExactSendLetterSaid : Prop := fnExactSendLetterRow.holds Try.pinned (OpenSpec.ofChange fnExactSendLetterSpec)

/-- ITS FALSE NEIGHBOUR: 'it returns false'. Refute it at one input. -/
def fnExactSendLetterWrong : ChangeSpec := { name := "fnExactSendLetter", fn := fun _ => fun
  | [d1, d2] => { results := [.lit (.bool false)], args := [d1, d2] }
  | _ => none }
def FnExactSendLetterWrongFalsely : Prop := fnExactSendLetterRow.holds Try.pinned (OpenSpec.ofChange fnExactSendLetterWrong)

/-- 'laws.FnExactWaitLetter': WHATEVER THE INPUT: true; the input reads as it did. -/
def fnExactWaitLetterSpec : ChangeSpec := { name := "fnExactWaitLetter", fn := fun _ => fun
  | [d1, d2] => { results := [.lit (.bool true)], args := [d1, d2] }
  | _ => none }
def fnExactWaitLetterRow : OpenClaim := { program := "ytjaangjcdhbajaa", sum := "3f72cfe49b832b2f2b7fdc054a60e76985606c8ab2c9f74fe38a359f63f0613a", func := "loop.example/processengine/laws.FnExactWaitLetter", spec := "fnExactWaitLetter", unfollowed := true, recurses := true, plainKeys := false, apart := false }
def FnExactWaitLetterSaid : Prop := fnExactWaitLetterRow.holds Try.pinned (OpenSpec.ofChange fnExactWaitLetterSpec)

/-- ITS FALSE NEIGHBOUR: 'it returns false'. Refute it at one input. -/
def fnExactWaitLetterWrong : ChangeSpec := { name := "fnExactWaitLetter", fn := fun _ => fun
  | [d1, d2] => { results := [.lit (.bool false)], args := [d1, d2] }
  | _ => none }
def FnExactWaitLetterWrongFalsely : Prop := fnExactWaitLetterRow.holds Try.pinned (OpenSpec.ofChange fnExactWaitLetterWrong)

/- THE SECOND FORM. 'bulk': how many values and letters a reading holds, each counted each time it is reached (what is shared counts as often as it is met; a slice's spare places count too). A statement '..UptoSaid' is the law's where the arguments, and the package variables that the reading takes, are together of bulk at most 1048576: NARROWER than '..Said'. Prove '..Said' where nothing that the law and all that it calls make is longer than what came in: it says more and counts as full. Else prove '..UptoSaid'. A law counts once. -/
mutual
def uptoBulk {H : Type} : DataW H → Nat
  | .lit (.string bytes) => bytes.length + 1
  | .lit _ => 1
  | .nil => 1
  | .ptr d => uptoBulk d + 1
  | .slice elems spare => uptoBulkAll elems + uptoBulkAll spare + 1
  | .agg parts => uptoBulkAll parts + 1
  | .iface _ d => uptoBulk d + 1
  | .map entries => uptoBulkEntries entries + 1
  | .held _ => 1
def uptoBulkAll {H : Type} : List (DataW H) → Nat
  | [] => 0
  | d :: r => uptoBulk d + uptoBulkAll r
def uptoBulkEntries {H : Type} : List (Lit × DataW H) → Nat
  | [] => 0
  | x :: r => uptoBulkEntry x + uptoBulkEntries r
def uptoBulkEntry {H : Type} : Lit × DataW H → Nat
  | (.string bytes, d) => bytes.length + uptoBulk d + 1
  | (_, d) => uptoBulk d + 1
 end
def uptoSmall : (H : Type) → List (DataW H) → Bool := fun _ ds => decide (uptoBulkAll ds ≤ 1048576)
def OpenSpec.upto (s : _root_.Go.ChangeSpec) : _root_.Go.OpenSpec := { _root_.Go.OpenSpec.ofChange s with cond := some uptoSmall }

/-- 'laws.FnExactFireNode', WHERE WHAT IT READS IS OF BULK AT MOST 1048576: true; the input reads as it did. -/
def fnExactFireNodeUptoRow : OpenClaim := { program := "ytjaangjcdhbajaa", sum := "3f72cfe49b832b2f2b7fdc054a60e76985606c8ab2c9f74fe38a359f63f0613a", func := "loop.example/processengine/laws.FnExactFireNode", spec := "fnExactFireNode", inPlace := ["maps.clone"], unfollowed := true, recurses := true, plainKeys := false, apart := false, narrowed := true }
def FnExactFireNodeUptoSaid : Prop := fnExactFireNodeUptoRow.holds Try.pinned (OpenSpec.upto fnExactFireNodeSpec)

/-- 'laws.FnFirstMarks', WHERE WHAT IT READS IS OF BULK AT MOST 1048576: true; the input reads as it did. -/
def fnFirstMarksUptoRow : OpenClaim := { program := "ytjaangjcdhbajaa", sum := "3f72cfe49b832b2f2b7fdc054a60e76985606c8ab2c9f74fe38a359f63f0613a", func := "loop.example/processengine/laws.FnFirstMarks", spec := "fnFirstMarks", unfollowed := true, recurses := true, plainKeys := false, apart := false, narrowed := true }
def FnFirstMarksUptoSaid : Prop := fnFirstMarksUptoRow.holds Try.pinned (OpenSpec.upto fnFirstMarksSpec)

/-- 'laws.FnFirstMarksReady', WHERE WHAT IT READS IS OF BULK AT MOST 1048576: true; the input reads as it did. -/
def fnFirstMarksReadyUptoRow : OpenClaim := { program := "ytjaangjcdhbajaa", sum := "3f72cfe49b832b2f2b7fdc054a60e76985606c8ab2c9f74fe38a359f63f0613a", func := "loop.example/processengine/laws.FnFirstMarksReady", spec := "fnFirstMarksReady", unfollowed := true, recurses := true, plainKeys := false, apart := false, narrowed := true }
def FnFirstMarksReadyUptoSaid : Prop := fnFirstMarksReadyUptoRow.holds Try.pinned (OpenSpec.upto fnFirstMarksReadySpec)

/-- 'laws.FnExactValidInstance', WHERE WHAT IT READS IS OF BULK AT MOST 1048576: true; the input reads as it did. -/
def fnExactValidInstanceUptoRow : OpenClaim := { program := "ytjaangjcdhbajaa", sum := "3f72cfe49b832b2f2b7fdc054a60e76985606c8ab2c9f74fe38a359f63f0613a", func := "loop.example/processengine/laws.FnExactValidInstance", spec := "fnExactValidInstance", unfollowed := true, recurses := true, plainKeys := false, apart := false, narrowed := true }
def FnExactValidInstanceUptoSaid : Prop := fnExactValidInstanceUptoRow.holds Try.pinned (OpenSpec.upto fnExactValidInstanceSpec)

/-- 'laws.FnExactIsDone', WHERE WHAT IT READS IS OF BULK AT MOST 1048576: true; the input reads as it did. -/
def fnExactIsDoneUptoRow : OpenClaim := { program := "ytjaangjcdhbajaa", sum := "3f72cfe49b832b2f2b7fdc054a60e76985606c8ab2c9f74fe38a359f63f0613a", func := "loop.example/processengine/laws.FnExactIsDone", spec := "fnExactIsDone", unfollowed := true, recurses := true, plainKeys := false, apart := false, narrowed := true }
def FnExactIsDoneUptoSaid : Prop := fnExactIsDoneUptoRow.holds Try.pinned (OpenSpec.upto fnExactIsDoneSpec)

/-- 'laws.FnExactNextDue', WHERE WHAT IT READS IS OF BULK AT MOST 1048576: true; the input reads as it did. -/
def fnExactNextDueUptoRow : OpenClaim := { program := "ytjaangjcdhbajaa", sum := "3f72cfe49b832b2f2b7fdc054a60e76985606c8ab2c9f74fe38a359f63f0613a", func := "loop.example/processengine/laws.FnExactNextDue", spec := "fnExactNextDue", unfollowed := true, recurses := true, plainKeys := false, apart := false, narrowed := true }
def FnExactNextDueUptoSaid : Prop := fnExactNextDueUptoRow.holds Try.pinned (OpenSpec.upto fnExactNextDueSpec)

/-- 'laws.FnExactValidPost', WHERE WHAT IT READS IS OF BULK AT MOST 1048576: true; the input reads as it did. -/
def fnExactValidPostUptoRow : OpenClaim := { program := "ytjaangjcdhbajaa", sum := "3f72cfe49b832b2f2b7fdc054a60e76985606c8ab2c9f74fe38a359f63f0613a", func := "loop.example/processengine/laws.FnExactValidPost", spec := "fnExactValidPost", unfollowed := true, recurses := true, plainKeys := false, apart := false, narrowed := true }
def FnExactValidPostUptoSaid : Prop := fnExactValidPostUptoRow.holds Try.pinned (OpenSpec.upto fnExactValidPostSpec)

/-- 'laws.FnExactDropLetters', WHERE WHAT IT READS IS OF BULK AT MOST 1048576: true; the input reads as it did. -/
def fnExactDropLettersUptoRow : OpenClaim := { program := "ytjaangjcdhbajaa", sum := "3f72cfe49b832b2f2b7fdc054a60e76985606c8ab2c9f74fe38a359f63f0613a", func := "loop.example/processengine/laws.FnExactDropLetters", spec := "fnExactDropLetters", unfollowed := true, recurses := true, plainKeys := false, apart := false, narrowed := true }
def FnExactDropLettersUptoSaid : Prop := fnExactDropLettersUptoRow.holds Try.pinned (OpenSpec.upto fnExactDropLettersSpec)

/-- 'laws.FnExactSendLetter', WHERE WHAT IT READS IS OF BULK AT MOST 1048576: true; the input reads as it did. -/
def fnExactSendLetterUptoRow : OpenClaim := { program := "ytjaangjcdhbajaa", sum := "3f72cfe49b832b2f2b7fdc054a60e76985606c8ab2c9f74fe38a359f63f0613a", func := "loop.example/processengine/laws.FnExactSendLetter", spec := "fnExactSendLetter", unfollowed := true, recurses := true, plainKeys := false, apart := false, narrowed := true }
def FnExactSendLetterUptoSaid : Prop := fnExactSendLetterUptoRow.holds Try.pinned (OpenSpec.upto fnExactSendLetterSpec)

/-- 'laws.FnExactWaitLetter', WHERE WHAT IT READS IS OF BULK AT MOST 1048576: true; the input reads as it did. -/
def fnExactWaitLetterUptoRow : OpenClaim := { program := "ytjaangjcdhbajaa", sum := "3f72cfe49b832b2f2b7fdc054a60e76985606c8ab2c9f74fe38a359f63f0613a", func := "loop.example/processengine/laws.FnExactWaitLetter", spec := "fnExactWaitLetter", unfollowed := true, recurses := true, plainKeys := false, apart := false, narrowed := true }
def FnExactWaitLetterUptoSaid : Prop := fnExactWaitLetterUptoRow.holds Try.pinned (OpenSpec.upto fnExactWaitLetterSpec)

end Rows
end Go.Proofs.Ytjaangjcdhbajaa
