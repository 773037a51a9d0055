/-
  No cell of these rows narrows 'for every input' (looked for: loops, veiled, ifaces, maps, wideKeys, modest, calm, conditions, laid).
  DERIVED. THE GIVEN ROWS OF THIS SEAT. 11 by the template 'for every input the law returns true; each argument reads behind the call as it read before'; 0 by the template 'total and deterministic' (their statements: YtlfflppjlmpklaaTotals.lean).
  GIVEN WITH THE SEED: the statements are not yours to turn. If you find one false, say at which input.
  Laid BY PROGRAM, IN A SANDBOX (cutbox-rows.mjs): the forced cells as the released guide's own fill.sh prints them over the translation c371f940ced46817… (all of the seat's roots in one cut). By AI agents, Wed Nov 11 2026. No macro, syntax, notation, axiom, sorry.
-/
import Derived.Test.YtlfflppjlmpklaaChecked
import GoSem.Claim
import GoSem.ClaimJoined
import GoSem.ClaimMapViews
import Derived.JoinedTies
import Derived.KernelRfl
namespace Go.Proofs.Ytlfflppjlmpklaa
/- THE CELL 'sum', in the pinned program and in every row, IS THE sha256 OF THE DUMP (.gsa) THAT YtlfflppjlmpklaaProg.lean LOADS. Nothing in Lean hashes anything: it is a label: what it is worth is what the hold of that sum in a sandbox is worth. -/
noncomputable def Try.pinned : Pinned := { name := "ytlfflppjlmpklaa", sum := "c371f940ced46817c70c9e2c377080796d225912c0cc6abef5c80a989d47459d", checked := Try.checked }
namespace Rows
def none {H : Type} : Left H := { results := [], args := [] }

/-- 'laws.FnValidPost': WHATEVER THE INPUT: true; the input reads as it did. -/
def fnValidPostSpec : ChangeSpec := { name := "fnValidPost", fn := fun _ => fun
  | [d] => { results := [.lit (.bool true)], args := [d] }
  | _ => none }
def fnValidPostRow : OpenClaim := { program := "ytlfflppjlmpklaa", sum := "c371f940ced46817c70c9e2c377080796d225912c0cc6abef5c80a989d47459d", func := "loop.example/processengine/laws.FnValidPost", spec := "fnValidPost", unfollowed := true, recurses := true, plainKeys := false, apart := false }
def FnValidPostSaid : Prop := fnValidPostRow.holds Try.pinned (OpenSpec.ofChange fnValidPostSpec)

/-- ITS FALSE NEIGHBOUR: 'it returns false'. Refute it at one input. -/
def fnValidPostWrong : ChangeSpec := { name := "fnValidPost", fn := fun _ => fun
  | [d] => { results := [.lit (.bool false)], args := [d] }
  | _ => none }
def FnValidPostWrongFalsely : Prop := fnValidPostRow.holds Try.pinned (OpenSpec.ofChange fnValidPostWrong)

/-- 'laws.FnSendLetter': WHATEVER THE INPUT: true; the input reads as it did. -/
def fnSendLetterSpec : ChangeSpec := { name := "fnSendLetter", fn := fun _ => fun
  | [d] => { results := [.lit (.bool true)], args := [d] }
  | _ => none }
def fnSendLetterRow : OpenClaim := { program := "ytlfflppjlmpklaa", sum := "c371f940ced46817c70c9e2c377080796d225912c0cc6abef5c80a989d47459d", func := "loop.example/processengine/laws.FnSendLetter", spec := "fnSendLetter", unfollowed := true, recurses := true, plainKeys := false, apart := false }
def FnSendLetterSaid : Prop := fnSendLetterRow.holds Try.pinned (OpenSpec.ofChange fnSendLetterSpec)

/-- ITS FALSE NEIGHBOUR: 'it returns false'. Refute it at one input. -/
def fnSendLetterWrong : ChangeSpec := { name := "fnSendLetter", fn := fun _ => fun
  | [d] => { results := [.lit (.bool false)], args := [d] }
  | _ => none }
def FnSendLetterWrongFalsely : Prop := fnSendLetterRow.holds Try.pinned (OpenSpec.ofChange fnSendLetterWrong)

/-- 'laws.FnSendLetterWait': WHATEVER THE INPUT: true; the input reads as it did. -/
def fnSendLetterWaitSpec : ChangeSpec := { name := "fnSendLetterWait", fn := fun _ => fun
  | [d] => { results := [.lit (.bool true)], args := [d] }
  | _ => none }
def fnSendLetterWaitRow : OpenClaim := { program := "ytlfflppjlmpklaa", sum := "c371f940ced46817c70c9e2c377080796d225912c0cc6abef5c80a989d47459d", func := "loop.example/processengine/laws.FnSendLetterWait", spec := "fnSendLetterWait", unfollowed := true, recurses := true, plainKeys := false, apart := false }
def FnSendLetterWaitSaid : Prop := fnSendLetterWaitRow.holds Try.pinned (OpenSpec.ofChange fnSendLetterWaitSpec)

/-- ITS FALSE NEIGHBOUR: 'it returns false'. Refute it at one input. -/
def fnSendLetterWaitWrong : ChangeSpec := { name := "fnSendLetterWait", fn := fun _ => fun
  | [d] => { results := [.lit (.bool false)], args := [d] }
  | _ => none }
def FnSendLetterWaitWrongFalsely : Prop := fnSendLetterWaitRow.holds Try.pinned (OpenSpec.ofChange fnSendLetterWaitWrong)

/-- 'laws.FnWaitLetter': WHATEVER THE INPUT: true; the input reads as it did. -/
def fnWaitLetterSpec : ChangeSpec := { name := "fnWaitLetter", fn := fun _ => fun
  | [d] => { results := [.lit (.bool true)], args := [d] }
  | _ => none }
def fnWaitLetterRow : OpenClaim := { program := "ytlfflppjlmpklaa", sum := "c371f940ced46817c70c9e2c377080796d225912c0cc6abef5c80a989d47459d", func := "loop.example/processengine/laws.FnWaitLetter", spec := "fnWaitLetter", unfollowed := true, recurses := true, plainKeys := false, apart := false }
def FnWaitLetterSaid : Prop := fnWaitLetterRow.holds Try.pinned (OpenSpec.ofChange fnWaitLetterSpec)

/-- ITS FALSE NEIGHBOUR: 'it returns false'. Refute it at one input. -/
def fnWaitLetterWrong : ChangeSpec := { name := "fnWaitLetter", fn := fun _ => fun
  | [d] => { results := [.lit (.bool false)], args := [d] }
  | _ => none }
def FnWaitLetterWrongFalsely : Prop := fnWaitLetterRow.holds Try.pinned (OpenSpec.ofChange fnWaitLetterWrong)

/-- 'laws.FnWaitLetterFirst': WHATEVER THE INPUT: true; the input reads as it did. -/
def fnWaitLetterFirstSpec : ChangeSpec := { name := "fnWaitLetterFirst", fn := fun _ => fun
  | [d] => { results := [.lit (.bool true)], args := [d] }
  | _ => none }
def fnWaitLetterFirstRow : OpenClaim := { program := "ytlfflppjlmpklaa", sum := "c371f940ced46817c70c9e2c377080796d225912c0cc6abef5c80a989d47459d", func := "loop.example/processengine/laws.FnWaitLetterFirst", spec := "fnWaitLetterFirst", unfollowed := true, recurses := true, plainKeys := false, apart := false }
def FnWaitLetterFirstSaid : Prop := fnWaitLetterFirstRow.holds Try.pinned (OpenSpec.ofChange fnWaitLetterFirstSpec)

/-- ITS FALSE NEIGHBOUR: 'it returns false'. Refute it at one input. -/
def fnWaitLetterFirstWrong : ChangeSpec := { name := "fnWaitLetterFirst", fn := fun _ => fun
  | [d] => { results := [.lit (.bool false)], args := [d] }
  | _ => none }
def FnWaitLetterFirstWrongFalsely : Prop := fnWaitLetterFirstRow.holds Try.pinned (OpenSpec.ofChange fnWaitLetterFirstWrong)

/-- 'laws.FnDropLetters': WHATEVER THE INPUT: true; the input reads as it did. -/
def fnDropLettersSpec : ChangeSpec := { name := "fnDropLetters", fn := fun _ => fun
  | [d] => { results := [.lit (.bool true)], args := [d] }
  | _ => none }
def fnDropLettersRow : OpenClaim := { program := "ytlfflppjlmpklaa", sum := "c371f940ced46817c70c9e2c377080796d225912c0cc6abef5c80a989d47459d", func := "loop.example/processengine/laws.FnDropLetters", spec := "fnDropLetters", unfollowed := true, recurses := true, plainKeys := false, apart := false }
def FnDropLettersSaid : Prop := fnDropLettersRow.holds Try.pinned (OpenSpec.ofChange fnDropLettersSpec)

/-- ITS FALSE NEIGHBOUR: 'it returns false'. Refute it at one input. -/
def fnDropLettersWrong : ChangeSpec := { name := "fnDropLetters", fn := fun _ => fun
  | [d] => { results := [.lit (.bool false)], args := [d] }
  | _ => none }
def FnDropLettersWrongFalsely : Prop := fnDropLettersRow.holds Try.pinned (OpenSpec.ofChange fnDropLettersWrong)

/-- 'laws.FnSendLetterMatch': WHATEVER THE INPUT: true; the input reads as it did. -/
def fnSendLetterMatchSpec : ChangeSpec := { name := "fnSendLetterMatch", fn := fun _ => fun
  | [d] => { results := [.lit (.bool true)], args := [d] }
  | _ => none }
def fnSendLetterMatchRow : OpenClaim := { program := "ytlfflppjlmpklaa", sum := "c371f940ced46817c70c9e2c377080796d225912c0cc6abef5c80a989d47459d", func := "loop.example/processengine/laws.FnSendLetterMatch", spec := "fnSendLetterMatch", unfollowed := true, recurses := true, plainKeys := false, apart := false }
def FnSendLetterMatchSaid : Prop := fnSendLetterMatchRow.holds Try.pinned (OpenSpec.ofChange fnSendLetterMatchSpec)

/-- ITS FALSE NEIGHBOUR: 'it returns false'. Refute it at one input. -/
def fnSendLetterMatchWrong : ChangeSpec := { name := "fnSendLetterMatch", fn := fun _ => fun
  | [d] => { results := [.lit (.bool false)], args := [d] }
  | _ => none }
def FnSendLetterMatchWrongFalsely : Prop := fnSendLetterMatchRow.holds Try.pinned (OpenSpec.ofChange fnSendLetterMatchWrong)

/-- 'laws.FnDropLettersMore': WHATEVER THE INPUT: true; the input reads as it did. -/
def fnDropLettersMoreSpec : ChangeSpec := { name := "fnDropLettersMore", fn := fun _ => fun
  | [d] => { results := [.lit (.bool true)], args := [d] }
  | _ => none }
def fnDropLettersMoreRow : OpenClaim := { program := "ytlfflppjlmpklaa", sum := "c371f940ced46817c70c9e2c377080796d225912c0cc6abef5c80a989d47459d", func := "loop.example/processengine/laws.FnDropLettersMore", spec := "fnDropLettersMore", unfollowed := true, recurses := true, plainKeys := false, apart := false }
def FnDropLettersMoreSaid : Prop := fnDropLettersMoreRow.holds Try.pinned (OpenSpec.ofChange fnDropLettersMoreSpec)

/-- ITS FALSE NEIGHBOUR: 'it returns false'. Refute it at one input. -/
def fnDropLettersMoreWrong : ChangeSpec := { name := "fnDropLettersMore", fn := fun _ => fun
  | [d] => { results := [.lit (.bool false)], args := [d] }
  | _ => none }
def FnDropLettersMoreWrongFalsely : Prop := fnDropLettersMoreRow.holds Try.pinned (OpenSpec.ofChange fnDropLettersMoreWrong)

/-- 'laws.FnWaitLetterTwice': WHATEVER THE INPUT: true; the input reads as it did. -/
def fnWaitLetterTwiceSpec : ChangeSpec := { name := "fnWaitLetterTwice", fn := fun _ => fun
  | [d] => { results := [.lit (.bool true)], args := [d] }
  | _ => none }
def fnWaitLetterTwiceRow : OpenClaim := { program := "ytlfflppjlmpklaa", sum := "c371f940ced46817c70c9e2c377080796d225912c0cc6abef5c80a989d47459d", func := "loop.example/processengine/laws.FnWaitLetterTwice", spec := "fnWaitLetterTwice", unfollowed := true, recurses := true, plainKeys := false, apart := false }
def FnWaitLetterTwiceSaid : Prop := fnWaitLetterTwiceRow.holds Try.pinned (OpenSpec.ofChange fnWaitLetterTwiceSpec)

/-- ITS FALSE NEIGHBOUR: 'it returns false'. Refute it at one input. -/
def fnWaitLetterTwiceWrong : ChangeSpec := { name := "fnWaitLetterTwice", fn := fun _ => fun
  | [d] => { results := [.lit (.bool false)], args := [d] }
  | _ => none }
def FnWaitLetterTwiceWrongFalsely : Prop := fnWaitLetterTwiceRow.holds Try.pinned (OpenSpec.ofChange fnWaitLetterTwiceWrong)

/-- 'laws.FnExactSendLetter': WHATEVER THE INPUT: true; the input reads as it did. -/
def fnExactSendLetterSpec : ChangeSpec := { name := "fnExactSendLetter", fn := fun _ => fun
  | [d1, d2] => { results := [.lit (.bool true)], args := [d1, d2] }
  | _ => none }
def fnExactSendLetterRow : OpenClaim := { program := "ytlfflppjlmpklaa", sum := "c371f940ced46817c70c9e2c377080796d225912c0cc6abef5c80a989d47459d", func := "loop.example/processengine/laws.FnExactSendLetter", spec := "fnExactSendLetter", unfollowed := true, recurses := true, plainKeys := false, apart := false }
def FnExactSendLetterSaid : Prop := fnExactSendLetterRow.holds Try.pinned (OpenSpec.ofChange fnExactSendLetterSpec)

/-- ITS FALSE NEIGHBOUR: 'it returns false'. Refute it at one input. -/
def fnExactSendLetterWrong : ChangeSpec := { name := "fnExactSendLetter", fn := fun _ => fun
  | [d1, d2] => { results := [.lit (.bool false)], args := [d1, d2] }
  | _ => none }
def FnExactSendLetterWrongFalsely : Prop := fnExactSendLetterRow.holds Try.pinned (OpenSpec.ofChange fnExactSendLetterWrong)

/-- 'laws.FnExactWaitLetter': WHATEVER THE INPUT: true; the input reads as it did. -/
def fnExactWaitLetterSpec : ChangeSpec := { name := "fnExactWaitLetter", fn := fun _ => fun
  | [d1, d2] => { results := [.lit (.bool true)], args := [d1, d2] }
  | _ => none }
def fnExactWaitLetterRow : OpenClaim := { program := "ytlfflppjlmpklaa", sum := "c371f940ced46817c70c9e2c377080796d225912c0cc6abef5c80a989d47459d", func := "loop.example/processengine/laws.FnExactWaitLetter", spec := "fnExactWaitLetter", unfollowed := true, recurses := true, plainKeys := false, apart := false }
def FnExactWaitLetterSaid : Prop := fnExactWaitLetterRow.holds Try.pinned (OpenSpec.ofChange fnExactWaitLetterSpec)

/-- ITS FALSE NEIGHBOUR: 'it returns false'. Refute it at one input. -/
def fnExactWaitLetterWrong : ChangeSpec := { name := "fnExactWaitLetter", fn := fun _ => fun
  | [d1, d2] => { results := [.lit (.bool false)], args := [d1, d2] }
  | _ => none }
def FnExactWaitLetterWrongFalsely : Prop := fnExactWaitLetterRow.holds Try.pinned (OpenSpec.ofChange fnExactWaitLetterWrong)

/- THE SECOND FORM. 'bulk': how many values and letters a reading holds, each counted each time it is reached (what is shared counts as often as it is met; a slice's spare places count too). A statement '..UptoSaid' is the law's where the arguments, and the package variables that the reading takes, are together of bulk at most 1048576: NARROWER than '..Said'. Prove '..Said' where nothing that the law and all that it calls make is longer than what came in: it says more and counts as full. Else prove '..UptoSaid'. A law counts once. -/
mutual
def uptoBulk {H : Type} : DataW H → Nat
  | .lit (.string bytes) => bytes.length + 1
  | .lit _ => 1
  | .nil => 1
  | .ptr d => uptoBulk d + 1
  | .slice elems spare => uptoBulkAll elems + uptoBulkAll spare + 1
  | .agg parts => uptoBulkAll parts + 1
  | .iface _ d => uptoBulk d + 1
  | .map entries => uptoBulkEntries entries + 1
  | .held _ => 1
def uptoBulkAll {H : Type} : List (DataW H) → Nat
  | [] => 0
  | d :: r => uptoBulk d + uptoBulkAll r
def uptoBulkEntries {H : Type} : List (Lit × DataW H) → Nat
  | [] => 0
  | x :: r => uptoBulkEntry x + uptoBulkEntries r
def uptoBulkEntry {H : Type} : Lit × DataW H → Nat
  | (.string bytes, d) => bytes.length + uptoBulk d + 1
  | (_, d) => uptoBulk d + 1
 end
def uptoSmall : (H : Type) → List (DataW H) → Bool := fun _ ds => decide (uptoBulkAll ds ≤ 1048576)
def OpenSpec.upto (s : _root_.Go.ChangeSpec) : _root_.Go.OpenSpec := { _root_.Go.OpenSpec.ofChange s with cond := some uptoSmall }

/-- 'laws.FnValidPost', WHERE WHAT IT READS IS OF BULK AT MOST 1048576: true; the input reads as it did. -/
def fnValidPostUptoRow : OpenClaim := { program := "ytlfflppjlmpklaa", sum := "c371f940ced46817c70c9e2c377080796d225912c0cc6abef5c80a989d47459d", func := "loop.example/processengine/laws.FnValidPost", spec := "fnValidPost", unfollowed := true, recurses := true, plainKeys := false, apart := false, narrowed := true }
def FnValidPostUptoSaid : Prop := fnValidPostUptoRow.holds Try.pinned (OpenSpec.upto fnValidPostSpec)

/-- 'laws.FnSendLetter', WHERE WHAT IT READS IS OF BULK AT MOST 1048576: true; the input reads as it did. -/
def fnSendLetterUptoRow : OpenClaim := { program := "ytlfflppjlmpklaa", sum := "c371f940ced46817c70c9e2c377080796d225912c0cc6abef5c80a989d47459d", func := "loop.example/processengine/laws.FnSendLetter", spec := "fnSendLetter", unfollowed := true, recurses := true, plainKeys := false, apart := false, narrowed := true }
def FnSendLetterUptoSaid : Prop := fnSendLetterUptoRow.holds Try.pinned (OpenSpec.upto fnSendLetterSpec)

/-- 'laws.FnSendLetterWait', WHERE WHAT IT READS IS OF BULK AT MOST 1048576: true; the input reads as it did. -/
def fnSendLetterWaitUptoRow : OpenClaim := { program := "ytlfflppjlmpklaa", sum := "c371f940ced46817c70c9e2c377080796d225912c0cc6abef5c80a989d47459d", func := "loop.example/processengine/laws.FnSendLetterWait", spec := "fnSendLetterWait", unfollowed := true, recurses := true, plainKeys := false, apart := false, narrowed := true }
def FnSendLetterWaitUptoSaid : Prop := fnSendLetterWaitUptoRow.holds Try.pinned (OpenSpec.upto fnSendLetterWaitSpec)

/-- 'laws.FnWaitLetter', WHERE WHAT IT READS IS OF BULK AT MOST 1048576: true; the input reads as it did. -/
def fnWaitLetterUptoRow : OpenClaim := { program := "ytlfflppjlmpklaa", sum := "c371f940ced46817c70c9e2c377080796d225912c0cc6abef5c80a989d47459d", func := "loop.example/processengine/laws.FnWaitLetter", spec := "fnWaitLetter", unfollowed := true, recurses := true, plainKeys := false, apart := false, narrowed := true }
def FnWaitLetterUptoSaid : Prop := fnWaitLetterUptoRow.holds Try.pinned (OpenSpec.upto fnWaitLetterSpec)

/-- 'laws.FnWaitLetterFirst', WHERE WHAT IT READS IS OF BULK AT MOST 1048576: true; the input reads as it did. -/
def fnWaitLetterFirstUptoRow : OpenClaim := { program := "ytlfflppjlmpklaa", sum := "c371f940ced46817c70c9e2c377080796d225912c0cc6abef5c80a989d47459d", func := "loop.example/processengine/laws.FnWaitLetterFirst", spec := "fnWaitLetterFirst", unfollowed := true, recurses := true, plainKeys := false, apart := false, narrowed := true }
def FnWaitLetterFirstUptoSaid : Prop := fnWaitLetterFirstUptoRow.holds Try.pinned (OpenSpec.upto fnWaitLetterFirstSpec)

/-- 'laws.FnDropLetters', WHERE WHAT IT READS IS OF BULK AT MOST 1048576: true; the input reads as it did. -/
def fnDropLettersUptoRow : OpenClaim := { program := "ytlfflppjlmpklaa", sum := "c371f940ced46817c70c9e2c377080796d225912c0cc6abef5c80a989d47459d", func := "loop.example/processengine/laws.FnDropLetters", spec := "fnDropLetters", unfollowed := true, recurses := true, plainKeys := false, apart := false, narrowed := true }
def FnDropLettersUptoSaid : Prop := fnDropLettersUptoRow.holds Try.pinned (OpenSpec.upto fnDropLettersSpec)

/-- 'laws.FnSendLetterMatch', WHERE WHAT IT READS IS OF BULK AT MOST 1048576: true; the input reads as it did. -/
def fnSendLetterMatchUptoRow : OpenClaim := { program := "ytlfflppjlmpklaa", sum := "c371f940ced46817c70c9e2c377080796d225912c0cc6abef5c80a989d47459d", func := "loop.example/processengine/laws.FnSendLetterMatch", spec := "fnSendLetterMatch", unfollowed := true, recurses := true, plainKeys := false, apart := false, narrowed := true }
def FnSendLetterMatchUptoSaid : Prop := fnSendLetterMatchUptoRow.holds Try.pinned (OpenSpec.upto fnSendLetterMatchSpec)

/-- 'laws.FnDropLettersMore', WHERE WHAT IT READS IS OF BULK AT MOST 1048576: true; the input reads as it did. -/
def fnDropLettersMoreUptoRow : OpenClaim := { program := "ytlfflppjlmpklaa", sum := "c371f940ced46817c70c9e2c377080796d225912c0cc6abef5c80a989d47459d", func := "loop.example/processengine/laws.FnDropLettersMore", spec := "fnDropLettersMore", unfollowed := true, recurses := true, plainKeys := false, apart := false, narrowed := true }
def FnDropLettersMoreUptoSaid : Prop := fnDropLettersMoreUptoRow.holds Try.pinned (OpenSpec.upto fnDropLettersMoreSpec)

/-- 'laws.FnWaitLetterTwice', WHERE WHAT IT READS IS OF BULK AT MOST 1048576: true; the input reads as it did. -/
def fnWaitLetterTwiceUptoRow : OpenClaim := { program := "ytlfflppjlmpklaa", sum := "c371f940ced46817c70c9e2c377080796d225912c0cc6abef5c80a989d47459d", func := "loop.example/processengine/laws.FnWaitLetterTwice", spec := "fnWaitLetterTwice", unfollowed := true, recurses := true, plainKeys := false, apart := false, narrowed := true }
def FnWaitLetterTwiceUptoSaid : Prop := fnWaitLetterTwiceUptoRow.holds Try.pinned (OpenSpec.upto fnWaitLetterTwiceSpec)

/-- 'laws.FnExactSendLetter', WHERE WHAT IT READS IS OF BULK AT MOST 1048576: true; the input reads as it did. -/
def fnExactSendLetterUptoRow : OpenClaim := { program := "ytlfflppjlmpklaa", sum := "c371f940ced46817c70c9e2c377080796d225912c0cc6abef5c80a989d47459d", func := "loop.example/processengine/laws.FnExactSendLetter", spec := "fnExactSendLetter", unfollowed := true, recurses := true, plainKeys := false, apart := false, narrowed := true }
def FnExactSendLetterUptoSaid : Prop := fnExactSendLetterUptoRow.holds Try.pinned (OpenSpec.upto fnExactSendLetterSpec)

/-- 'laws.FnExactWaitLetter', WHERE WHAT IT READS IS OF BULK AT MOST 1048576: true; the input reads as it did. -/
def fnExactWaitLetterUptoRow : OpenClaim := { program := "ytlfflppjlmpklaa", sum := "c371f940ced46817c70c9e2c377080796d225912c0cc6abef5c80a989d47459d", func := "loop.example/processengine/laws.FnExactWaitLetter", spec := "fnExactWaitLetter", unfollowed := true, recurses := true, plainKeys := false, apart := false, narrowed := true }
def FnExactWaitLetterUptoSaid : Prop := fnExactWaitLetterUptoRow.holds Try.pinned (OpenSpec.upto fnExactWaitLetterSpec)

end Rows
end Go.Proofs.Ytlfflppjlmpklaa
