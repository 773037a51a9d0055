/-
  No cell of these rows narrows 'for every input' (looked for: loops, veiled, ifaces, maps, wideKeys, modest, calm, conditions, laid).
  DERIVED. THE GIVEN ROWS OF THIS SEAT. 9 by the template 'for every input the law returns true; each argument reads behind the call as it read before'; 0 by the template 'total and deterministic' (their statements: YtgnffodnimafoaaTotals.lean).
  GIVEN WITH THE SEED: the statements are not yours to turn. If you find one false, say at which input.
  Laid BY PROGRAM, IN A SANDBOX (cutbox-rows.mjs): the forced cells as the released guide's own fill.sh prints them over the translation 502ce64f4bcca85b… (all of the seat's roots in one cut). By AI agents, Wed Nov 11 2026. No macro, syntax, notation, axiom, sorry.
-/
import Derived.Test.YtgnffodnimafoaaChecked
import GoSem.Claim
import GoSem.ClaimJoined
import GoSem.ClaimMapViews
import Derived.JoinedTies
import Derived.KernelRfl
namespace Go.Proofs.Ytgnffodnimafoaa
/- THE CELL 'sum', in the pinned program and in every row, IS THE sha256 OF THE DUMP (.gsa) THAT YtgnffodnimafoaaProg.lean LOADS. Nothing in Lean hashes anything: it is a label: what it is worth is what the hold of that sum in a sandbox is worth. -/
noncomputable def Try.pinned : Pinned := { name := "ytgnffodnimafoaa", sum := "502ce64f4bcca85b456f67b16ecfbeff33fff7aa300fe8739ec6db7b21490afc", checked := Try.checked }
namespace Rows
def none {H : Type} : Left H := { results := [], args := [] }

/-- 'laws.FnDropLetters': WHATEVER THE INPUT: true; the input reads as it did. -/
def fnDropLettersSpec : ChangeSpec := { name := "fnDropLetters", fn := fun _ => fun
  | [d] => { results := [.lit (.bool true)], args := [d] }
  | _ => none }
def fnDropLettersRow : OpenClaim := { program := "ytgnffodnimafoaa", sum := "502ce64f4bcca85b456f67b16ecfbeff33fff7aa300fe8739ec6db7b21490afc", func := "loop.example/processengine/laws.FnDropLetters", spec := "fnDropLetters", unfollowed := true, recurses := true, plainKeys := false, apart := false }
def FnDropLettersSaid : Prop := fnDropLettersRow.holds Try.pinned (OpenSpec.ofChange fnDropLettersSpec)

/-- ITS FALSE NEIGHBOUR: 'it returns false'. Refute it at one input. -/
def fnDropLettersWrong : ChangeSpec := { name := "fnDropLetters", fn := fun _ => fun
  | [d] => { results := [.lit (.bool false)], args := [d] }
  | _ => none }
def FnDropLettersWrongFalsely : Prop := fnDropLettersRow.holds Try.pinned (OpenSpec.ofChange fnDropLettersWrong)

/-- 'laws.FnDropLettersMore': WHATEVER THE INPUT: true; the input reads as it did. -/
def fnDropLettersMoreSpec : ChangeSpec := { name := "fnDropLettersMore", fn := fun _ => fun
  | [d] => { results := [.lit (.bool true)], args := [d] }
  | _ => none }
def fnDropLettersMoreRow : OpenClaim := { program := "ytgnffodnimafoaa", sum := "502ce64f4bcca85b456f67b16ecfbeff33fff7aa300fe8739ec6db7b21490afc", func := "loop.example/processengine/laws.FnDropLettersMore", spec := "fnDropLettersMore", unfollowed := true, recurses := true, plainKeys := false, apart := false }
def FnDropLettersMoreSaid : Prop := fnDropLettersMoreRow.holds Try.pinned (OpenSpec.ofChange fnDropLettersMoreSpec)

/-- ITS FALSE NEIGHBOUR: 'it returns false'. Refute it at one input. -/
def fnDropLettersMoreWrong : ChangeSpec := { name := "fnDropLettersMore", fn := fun _ => fun
  | [d] => { results := [.lit (.bool false)], args := [d] }
  | _ => none }
def FnDropLettersMoreWrongFalsely : Prop := fnDropLettersMoreRow.holds Try.pinned (OpenSpec.ofChange fnDropLettersMoreWrong)

/-- 'laws.FnSendLetter': WHATEVER THE INPUT: true; the input reads as it did. -/
def fnSendLetterSpec : ChangeSpec := { name := "fnSendLetter", fn := fun _ => fun
  | [d] => { results := [.lit (.bool true)], args := [d] }
  | _ => none }
def fnSendLetterRow : OpenClaim := { program := "ytgnffodnimafoaa", sum := "502ce64f4bcca85b456f67b16ecfbeff33fff7aa300fe8739ec6db7b21490afc", func := "loop.example/processengine/laws.FnSendLetter", spec := "fnSendLetter", unfollowed := true, recurses := true, plainKeys := false, apart := false }
def FnSendLetterSaid : Prop := fnSendLetterRow.holds Try.pinned (OpenSpec.ofChange fnSendLetterSpec)

/-- ITS FALSE NEIGHBOUR: 'it returns false'. Refute it at one input. -/
def fnSendLetterWrong : ChangeSpec := { name := "fnSendLetter", fn := fun _ => fun
  | [d] => { results := [.lit (.bool false)], args := [d] }
  | _ => none }
def FnSendLetterWrongFalsely : Prop := fnSendLetterRow.holds Try.pinned (OpenSpec.ofChange fnSendLetterWrong)

/-- 'laws.FnSendLetterMatch': WHATEVER THE INPUT: true; the input reads as it did. -/
def fnSendLetterMatchSpec : ChangeSpec := { name := "fnSendLetterMatch", fn := fun _ => fun
  | [d] => { results := [.lit (.bool true)], args := [d] }
  | _ => none }
def fnSendLetterMatchRow : OpenClaim := { program := "ytgnffodnimafoaa", sum := "502ce64f4bcca85b456f67b16ecfbeff33fff7aa300fe8739ec6db7b21490afc", func := "loop.example/processengine/laws.FnSendLetterMatch", spec := "fnSendLetterMatch", unfollowed := true, recurses := true, plainKeys := false, apart := false }
def FnSendLetterMatchSaid : Prop := fnSendLetterMatchRow.holds Try.pinned (OpenSpec.ofChange fnSendLetterMatchSpec)

/-- ITS FALSE NEIGHBOUR: 'it returns false'. Refute it at one input. -/
def fnSendLetterMatchWrong : ChangeSpec := { name := "fnSendLetterMatch", fn := fun _ => fun
  | [d] => { results := [.lit (.bool false)], args := [d] }
  | _ => none }
def FnSendLetterMatchWrongFalsely : Prop := fnSendLetterMatchRow.holds Try.pinned (OpenSpec.ofChange fnSendLetterMatchWrong)

/-- 'laws.FnSendLetterWait': WHATEVER THE INPUT: true; the input reads as it did. -/
def fnSendLetterWaitSpec : ChangeSpec := { name := "fnSendLetterWait", fn := fun _ => fun
  | [d] => { results := [.lit (.bool true)], args := [d] }
  | _ => none }
def fnSendLetterWaitRow : OpenClaim := { program := "ytgnffodnimafoaa", sum := "502ce64f4bcca85b456f67b16ecfbeff33fff7aa300fe8739ec6db7b21490afc", func := "loop.example/processengine/laws.FnSendLetterWait", spec := "fnSendLetterWait", unfollowed := true, recurses := true, plainKeys := false, apart := false }
def FnSendLetterWaitSaid : Prop := fnSendLetterWaitRow.holds Try.pinned (OpenSpec.ofChange fnSendLetterWaitSpec)

/-- ITS FALSE NEIGHBOUR: 'it returns false'. Refute it at one input. -/
def fnSendLetterWaitWrong : ChangeSpec := { name := "fnSendLetterWait", fn := fun _ => fun
  | [d] => { results := [.lit (.bool false)], args := [d] }
  | _ => none }
def FnSendLetterWaitWrongFalsely : Prop := fnSendLetterWaitRow.holds Try.pinned (OpenSpec.ofChange fnSendLetterWaitWrong)

/-- 'laws.FnValidPost': WHATEVER THE INPUT: true; the input reads as it did. -/
def fnValidPostSpec : ChangeSpec := { name := "fnValidPost", fn := fun _ => fun
  | [d] => { results := [.lit (.bool true)], args := [d] }
  | _ => none }
def fnValidPostRow : OpenClaim := { program := "ytgnffodnimafoaa", sum := "502ce64f4bcca85b456f67b16ecfbeff33fff7aa300fe8739ec6db7b21490afc", func := "loop.example/processengine/laws.FnValidPost", spec := "fnValidPost", unfollowed := true, recurses := true, plainKeys := false, apart := false }
def FnValidPostSaid : Prop := fnValidPostRow.holds Try.pinned (OpenSpec.ofChange fnValidPostSpec)

/-- ITS FALSE NEIGHBOUR: 'it returns false'. Refute it at one input. -/
def fnValidPostWrong : ChangeSpec := { name := "fnValidPost", fn := fun _ => fun
  | [d] => { results := [.lit (.bool false)], args := [d] }
  | _ => none }
def FnValidPostWrongFalsely : Prop := fnValidPostRow.holds Try.pinned (OpenSpec.ofChange fnValidPostWrong)

/-- 'laws.FnWaitLetter': WHATEVER THE INPUT: true; the input reads as it did. -/
def fnWaitLetterSpec : ChangeSpec := { name := "fnWaitLetter", fn := fun _ => fun
  | [d] => { results := [.lit (.bool true)], args := [d] }
  | _ => none }
def fnWaitLetterRow : OpenClaim := { program := "ytgnffodnimafoaa", sum := "502ce64f4bcca85b456f67b16ecfbeff33fff7aa300fe8739ec6db7b21490afc", func := "loop.example/processengine/laws.FnWaitLetter", spec := "fnWaitLetter", unfollowed := true, recurses := true, plainKeys := false, apart := false }
def FnWaitLetterSaid : Prop := fnWaitLetterRow.holds Try.pinned (OpenSpec.ofChange fnWaitLetterSpec)

/-- ITS FALSE NEIGHBOUR: 'it returns false'. Refute it at one input. -/
def fnWaitLetterWrong : ChangeSpec := { name := "fnWaitLetter", fn := fun _ => fun
  | [d] => { results := [.lit (.bool false)], args := [d] }
  | _ => none }
def FnWaitLetterWrongFalsely : Prop := fnWaitLetterRow.holds Try.pinned (OpenSpec.ofChange fnWaitLetterWrong)

/-- 'laws.FnWaitLetterFirst': WHATEVER THE INPUT: true; the input reads as it did. -/
def fnWaitLetterFirstSpec : ChangeSpec := { name := "fnWaitLetterFirst", fn := fun _ => fun
  | [d] => { results := [.lit (.bool true)], args := [d] }
  | _ => none }
def fnWaitLetterFirstRow : OpenClaim := { program := "ytgnffodnimafoaa", sum := "502ce64f4bcca85b456f67b16ecfbeff33fff7aa300fe8739ec6db7b21490afc", func := "loop.example/processengine/laws.FnWaitLetterFirst", spec := "fnWaitLetterFirst", unfollowed := true, recurses := true, plainKeys := false, apart := false }
def FnWaitLetterFirstSaid : Prop := fnWaitLetterFirstRow.holds Try.pinned (OpenSpec.ofChange fnWaitLetterFirstSpec)

/-- ITS FALSE NEIGHBOUR: 'it returns false'. Refute it at one input. -/
def fnWaitLetterFirstWrong : ChangeSpec := { name := "fnWaitLetterFirst", fn := fun _ => fun
  | [d] => { results := [.lit (.bool false)], args := [d] }
  | _ => none }
def FnWaitLetterFirstWrongFalsely : Prop := fnWaitLetterFirstRow.holds Try.pinned (OpenSpec.ofChange fnWaitLetterFirstWrong)

/-- 'laws.FnWaitLetterTwice': WHATEVER THE INPUT: true; the input reads as it did. -/
def fnWaitLetterTwiceSpec : ChangeSpec := { name := "fnWaitLetterTwice", fn := fun _ => fun
  | [d] => { results := [.lit (.bool true)], args := [d] }
  | _ => none }
def fnWaitLetterTwiceRow : OpenClaim := { program := "ytgnffodnimafoaa", sum := "502ce64f4bcca85b456f67b16ecfbeff33fff7aa300fe8739ec6db7b21490afc", func := "loop.example/processengine/laws.FnWaitLetterTwice", spec := "fnWaitLetterTwice", unfollowed := true, recurses := true, plainKeys := false, apart := false }
def FnWaitLetterTwiceSaid : Prop := fnWaitLetterTwiceRow.holds Try.pinned (OpenSpec.ofChange fnWaitLetterTwiceSpec)

/-- ITS FALSE NEIGHBOUR: 'it returns false'. Refute it at one input. -/
def fnWaitLetterTwiceWrong : ChangeSpec := { name := "fnWaitLetterTwice", fn := fun _ => fun
  | [d] => { results := [.lit (.bool false)], args := [d] }
  | _ => none }
def FnWaitLetterTwiceWrongFalsely : Prop := fnWaitLetterTwiceRow.holds Try.pinned (OpenSpec.ofChange fnWaitLetterTwiceWrong)

/- THE SECOND FORM. 'bulk': how many values and letters a reading holds, each counted each time it is reached (what is shared counts as often as it is met; a slice's spare places count too). A statement '..UptoSaid' is the law's where the arguments, and the package variables that the reading takes, are together of bulk at most 1048576: NARROWER than '..Said'. Prove '..Said' where nothing that the law and all that it calls make is longer than what came in: it says more and counts as full. Else prove '..UptoSaid'. A law counts once. -/
mutual
def uptoBulk {H : Type} : DataW H → Nat
  | .lit (.string bytes) => bytes.length + 1
  | .lit _ => 1
  | .nil => 1
  | .ptr d => uptoBulk d + 1
  | .slice elems spare => uptoBulkAll elems + uptoBulkAll spare + 1
  | .agg parts => uptoBulkAll parts + 1
  | .iface _ d => uptoBulk d + 1
  | .map entries => uptoBulkEntries entries + 1
  | .held _ => 1
def uptoBulkAll {H : Type} : List (DataW H) → Nat
  | [] => 0
  | d :: r => uptoBulk d + uptoBulkAll r
def uptoBulkEntries {H : Type} : List (Lit × DataW H) → Nat
  | [] => 0
  | x :: r => uptoBulkEntry x + uptoBulkEntries r
def uptoBulkEntry {H : Type} : Lit × DataW H → Nat
  | (.string bytes, d) => bytes.length + uptoBulk d + 1
  | (_, d) => uptoBulk d + 1
 end
def uptoSmall : (H : Type) → List (DataW H) → Bool := fun _ ds => decide (uptoBulkAll ds ≤ 1048576)
def OpenSpec.upto (s : _root_.Go.ChangeSpec) : _root_.Go.OpenSpec := { _root_.Go.OpenSpec.ofChange s with cond := some uptoSmall }

/-- 'laws.FnDropLetters', WHERE WHAT IT READS IS OF BULK AT MOST 1048576: true; the input reads as it did. -/
def fnDropLettersUptoRow : OpenClaim := { program := "ytgnffodnimafoaa", sum := "502ce64f4bcca85b456f67b16ecfbeff33fff7aa300fe8739ec6db7b21490afc", func := "loop.example/processengine/laws.FnDropLetters", spec := "fnDropLetters", unfollowed := true, recurses := true, plainKeys := false, apart := false, narrowed := true }
def FnDropLettersUptoSaid : Prop := fnDropLettersUptoRow.holds Try.pinned (OpenSpec.upto fnDropLettersSpec)

/-- 'laws.FnDropLettersMore', WHERE WHAT IT READS IS OF BULK AT MOST 1048576: true; the input reads as it did. -/
def fnDropLettersMoreUptoRow : OpenClaim := { program := "ytgnffodnimafoaa", sum := "502ce64f4bcca85b456f67b16ecfbeff33fff7aa300fe8739ec6db7b21490afc", func := "loop.example/processengine/laws.FnDropLettersMore", spec := "fnDropLettersMore", unfollowed := true, recurses := true, plainKeys := false, apart := false, narrowed := true }
def FnDropLettersMoreUptoSaid : Prop := fnDropLettersMoreUptoRow.holds Try.pinned (OpenSpec.upto fnDropLettersMoreSpec)

/-- 'laws.FnSendLetter', WHERE WHAT IT READS IS OF BULK AT MOST 1048576: true; the input reads as it did. -/
def fnSendLetterUptoRow : OpenClaim := { program := "ytgnffodnimafoaa", sum := "502ce64f4bcca85b456f67b16ecfbeff33fff7aa300fe8739ec6db7b21490afc", func := "loop.example/processengine/laws.FnSendLetter", spec := "fnSendLetter", unfollowed := true, recurses := true, plainKeys := false, apart := false, narrowed := true }
def FnSendLetterUptoSaid : Prop := fnSendLetterUptoRow.holds Try.pinned (OpenSpec.upto fnSendLetterSpec)

/-- 'laws.FnSendLetterMatch', WHERE WHAT IT READS IS OF BULK AT MOST 1048576: true; the input reads as it did. -/
def fnSendLetterMatchUptoRow : OpenClaim := { program := "ytgnffodnimafoaa", sum := "502ce64f4bcca85b456f67b16ecfbeff33fff7aa300fe8739ec6db7b21490afc", func := "loop.example/processengine/laws.FnSendLetterMatch", spec := "fnSendLetterMatch", unfollowed := true, recurses := true, plainKeys := false, apart := false, narrowed := true }
def FnSendLetterMatchUptoSaid : Prop := fnSendLetterMatchUptoRow.holds Try.pinned (OpenSpec.upto fnSendLetterMatchSpec)

/-- 'laws.FnSendLetterWait', WHERE WHAT IT READS IS OF BULK AT MOST 1048576: true; the input reads as it did. -/
def fnSendLetterWaitUptoRow : OpenClaim := { program := "ytgnffodnimafoaa", sum := "502ce64f4bcca85b456f67b16ecfbeff33fff7aa300fe8739ec6db7b21490afc", func := "loop.example/processengine/laws.FnSendLetterWait", spec := "fnSendLetterWait", unfollowed := true, recurses := true, plainKeys := false, apart := false, narrowed := true }
def FnSendLetterWaitUptoSaid : Prop := fnSendLetterWaitUptoRow.holds Try.pinned (OpenSpec.upto fnSendLetterWaitSpec)

/-- 'laws.FnValidPost', WHERE WHAT IT READS IS OF BULK AT MOST 1048576: true; the input reads as it did. -/
def fnValidPostUptoRow : OpenClaim := { program := "ytgnffodnimafoaa", sum := "502ce64f4bcca85b456f67b16ecfbeff33fff7aa300fe8739ec6db7b21490afc", func := "loop.example/processengine/laws.FnValidPost", spec := "fnValidPost", unfollowed := true, recurses := true, plainKeys := false, apart := false, narrowed := true }
def FnValidPostUptoSaid : Prop := fnValidPostUptoRow.holds Try.pinned (OpenSpec.upto fnValidPostSpec)

/-- 'laws.FnWaitLetter', WHERE WHAT IT READS IS OF BULK AT MOST 1048576: true; the input reads as it did. -/
def fnWaitLetterUptoRow : OpenClaim := { program := "ytgnffodnimafoaa", sum := "502ce64f4bcca85b456f67b16ecfbeff33fff7aa300fe8739ec6db7b21490afc", func := "loop.example/processengine/laws.FnWaitLetter", spec := "fnWaitLetter", unfollowed := true, recurses := true, plainKeys := false, apart := false, narrowed := true }
def FnWaitLetterUptoSaid : Prop := fnWaitLetterUptoRow.holds Try.pinned (OpenSpec.upto fnWaitLetterSpec)

/-- 'laws.FnWaitLetterFirst', WHERE WHAT IT READS IS OF BULK AT MOST 1048576: true; the input reads as it did. -/
def fnWaitLetterFirstUptoRow : OpenClaim := { program := "ytgnffodnimafoaa", sum := "502ce64f4bcca85b456f67b16ecfbeff33fff7aa300fe8739ec6db7b21490afc", func := "loop.example/processengine/laws.FnWaitLetterFirst", spec := "fnWaitLetterFirst", unfollowed := true, recurses := true, plainKeys := false, apart := false, narrowed := true }
def FnWaitLetterFirstUptoSaid : Prop := fnWaitLetterFirstUptoRow.holds Try.pinned (OpenSpec.upto fnWaitLetterFirstSpec)

/-- 'laws.FnWaitLetterTwice', WHERE WHAT IT READS IS OF BULK AT MOST 1048576: true; the input reads as it did. -/
def fnWaitLetterTwiceUptoRow : OpenClaim := { program := "ytgnffodnimafoaa", sum := "502ce64f4bcca85b456f67b16ecfbeff33fff7aa300fe8739ec6db7b21490afc", func := "loop.example/processengine/laws.FnWaitLetterTwice", spec := "fnWaitLetterTwice", unfollowed := true, recurses := true, plainKeys := false, apart := false, narrowed := true }
def FnWaitLetterTwiceUptoSaid : Prop := fnWaitLetterTwiceUptoRow.holds Try.pinned (OpenSpec.upto fnWaitLetterTwiceSpec)

end Rows
end Go.Proofs.Ytgnffodnimafoaa
