/-
  No cell of these rows narrows 'for every input' (looked for: loops, veiled, ifaces, maps, wideKeys, modest, calm, conditions, laid).
  DERIVED. THE GIVEN ROWS OF THIS SEAT. 10 by the template 'for every input the law returns true; each argument reads behind the call as it read before'; 0 by the template 'total and deterministic' (their statements: YtogocinmlanikaaTotals.lean).
  GIVEN WITH THE SEED: the statements are not yours to turn. If you find one false, say at which input.
  Laid BY PROGRAM, IN A SANDBOX (cutbox-rows.mjs): the forced cells as the released guide's own fill.sh prints them over the translation feba4c159466da09… (all of the seat's roots in one cut). By AI agents, Wed Nov 11 2026. No macro, syntax, notation, axiom, sorry.
-/
import Derived.Test.YtogocinmlanikaaChecked
import GoSem.Claim
import GoSem.ClaimJoined
import GoSem.ClaimMapViews
import Derived.JoinedTies
import Derived.KernelRfl
namespace Go.Proofs.Ytogocinmlanikaa
/- THE CELL 'sum', in the pinned program and in every row, IS THE sha256 OF THE DUMP (.gsa) THAT YtogocinmlanikaaProg.lean LOADS. Nothing in Lean hashes anything: it is a label: what it is worth is what the hold of that sum in a sandbox is worth. -/
noncomputable def Try.pinned : Pinned := { name := "ytogocinmlanikaa", sum := "feba4c159466da09cb0156a93567fd6d6ccabcbf9eb30bbb6c0166116d5dc7f6", checked := Try.checked }
namespace Rows
def none {H : Type} : Left H := { results := [], args := [] }

/-- 'laws.FnCanUndo': WHATEVER THE INPUT: true; the input reads as it did. -/
def fnCanUndoSpec : ChangeSpec := { name := "fnCanUndo", fn := fun _ => fun
  | [d] => { results := [.lit (.bool true)], args := [d] }
  | _ => none }
def fnCanUndoRow : OpenClaim := { program := "ytogocinmlanikaa", sum := "feba4c159466da09cb0156a93567fd6d6ccabcbf9eb30bbb6c0166116d5dc7f6", func := "loop.example/processengine/laws.FnCanUndo", spec := "fnCanUndo", apart := false }
def FnCanUndoSaid : Prop := fnCanUndoRow.holds Try.pinned (OpenSpec.ofChange fnCanUndoSpec)

/-- ITS FALSE NEIGHBOUR: 'it returns false'. Refute it at one input. -/
def fnCanUndoWrong : ChangeSpec := { name := "fnCanUndo", fn := fun _ => fun
  | [d] => { results := [.lit (.bool false)], args := [d] }
  | _ => none }
def FnCanUndoWrongFalsely : Prop := fnCanUndoRow.holds Try.pinned (OpenSpec.ofChange fnCanUndoWrong)

/-- 'laws.FnCanUndoOne': WHATEVER THE INPUT: true; the input reads as it did. -/
def fnCanUndoOneSpec : ChangeSpec := { name := "fnCanUndoOne", fn := fun _ => fun
  | [d] => { results := [.lit (.bool true)], args := [d] }
  | _ => none }
def fnCanUndoOneRow : OpenClaim := { program := "ytogocinmlanikaa", sum := "feba4c159466da09cb0156a93567fd6d6ccabcbf9eb30bbb6c0166116d5dc7f6", func := "loop.example/processengine/laws.FnCanUndoOne", spec := "fnCanUndoOne", apart := false }
def FnCanUndoOneSaid : Prop := fnCanUndoOneRow.holds Try.pinned (OpenSpec.ofChange fnCanUndoOneSpec)

/-- ITS FALSE NEIGHBOUR: 'it returns false'. Refute it at one input. -/
def fnCanUndoOneWrong : ChangeSpec := { name := "fnCanUndoOne", fn := fun _ => fun
  | [d] => { results := [.lit (.bool false)], args := [d] }
  | _ => none }
def FnCanUndoOneWrongFalsely : Prop := fnCanUndoOneRow.holds Try.pinned (OpenSpec.ofChange fnCanUndoOneWrong)

/-- 'laws.FnExactCanUndo': WHATEVER THE INPUT: true; the input reads as it did. -/
def fnExactCanUndoSpec : ChangeSpec := { name := "fnExactCanUndo", fn := fun _ => fun
  | [d] => { results := [.lit (.bool true)], args := [d] }
  | _ => none }
def fnExactCanUndoRow : OpenClaim := { program := "ytogocinmlanikaa", sum := "feba4c159466da09cb0156a93567fd6d6ccabcbf9eb30bbb6c0166116d5dc7f6", func := "loop.example/processengine/laws.FnExactCanUndo", spec := "fnExactCanUndo", apart := false }
def FnExactCanUndoSaid : Prop := fnExactCanUndoRow.holds Try.pinned (OpenSpec.ofChange fnExactCanUndoSpec)

/-- ITS FALSE NEIGHBOUR: 'it returns false'. Refute it at one input. -/
def fnExactCanUndoWrong : ChangeSpec := { name := "fnExactCanUndo", fn := fun _ => fun
  | [d] => { results := [.lit (.bool false)], args := [d] }
  | _ => none }
def FnExactCanUndoWrongFalsely : Prop := fnExactCanUndoRow.holds Try.pinned (OpenSpec.ofChange fnExactCanUndoWrong)

/-- 'laws.FnExactNetEffect': WHATEVER THE INPUT: true; the input reads as it did. -/
def fnExactNetEffectSpec : ChangeSpec := { name := "fnExactNetEffect", fn := fun _ => fun
  | [d] => { results := [.lit (.bool true)], args := [d] }
  | _ => none }
def fnExactNetEffectRow : OpenClaim := { program := "ytogocinmlanikaa", sum := "feba4c159466da09cb0156a93567fd6d6ccabcbf9eb30bbb6c0166116d5dc7f6", func := "loop.example/processengine/laws.FnExactNetEffect", spec := "fnExactNetEffect", apart := false }
def FnExactNetEffectSaid : Prop := fnExactNetEffectRow.holds Try.pinned (OpenSpec.ofChange fnExactNetEffectSpec)

/-- ITS FALSE NEIGHBOUR: 'it returns false'. Refute it at one input. -/
def fnExactNetEffectWrong : ChangeSpec := { name := "fnExactNetEffect", fn := fun _ => fun
  | [d] => { results := [.lit (.bool false)], args := [d] }
  | _ => none }
def FnExactNetEffectWrongFalsely : Prop := fnExactNetEffectRow.holds Try.pinned (OpenSpec.ofChange fnExactNetEffectWrong)

/-- 'laws.FnExactRunSaga': WHATEVER THE INPUT: true; the input reads as it did. -/
def fnExactRunSagaSpec : ChangeSpec := { name := "fnExactRunSaga", fn := fun _ => fun
  | [d1, d2] => { results := [.lit (.bool true)], args := [d1, d2] }
  | _ => none }
def fnExactRunSagaRow : OpenClaim := { program := "ytogocinmlanikaa", sum := "feba4c159466da09cb0156a93567fd6d6ccabcbf9eb30bbb6c0166116d5dc7f6", func := "loop.example/processengine/laws.FnExactRunSaga", spec := "fnExactRunSaga", unfollowed := true, recurses := true, apart := false }
def FnExactRunSagaSaid : Prop := fnExactRunSagaRow.holds Try.pinned (OpenSpec.ofChange fnExactRunSagaSpec)

/-- ITS FALSE NEIGHBOUR: 'it returns false'. Refute it at one input. -/
def fnExactRunSagaWrong : ChangeSpec := { name := "fnExactRunSaga", fn := fun _ => fun
  | [d1, d2] => { results := [.lit (.bool false)], args := [d1, d2] }
  | _ => none }
def FnExactRunSagaWrongFalsely : Prop := fnExactRunSagaRow.holds Try.pinned (OpenSpec.ofChange fnExactRunSagaWrong)

/-- 'laws.FnNetEffect': WHATEVER THE INPUT: true; the input reads as it did. -/
def fnNetEffectSpec : ChangeSpec := { name := "fnNetEffect", fn := fun _ => fun
  | [d] => { results := [.lit (.bool true)], args := [d] }
  | _ => none }
def fnNetEffectRow : OpenClaim := { program := "ytogocinmlanikaa", sum := "feba4c159466da09cb0156a93567fd6d6ccabcbf9eb30bbb6c0166116d5dc7f6", func := "loop.example/processengine/laws.FnNetEffect", spec := "fnNetEffect", apart := false }
def FnNetEffectSaid : Prop := fnNetEffectRow.holds Try.pinned (OpenSpec.ofChange fnNetEffectSpec)

/-- ITS FALSE NEIGHBOUR: 'it returns false'. Refute it at one input. -/
def fnNetEffectWrong : ChangeSpec := { name := "fnNetEffect", fn := fun _ => fun
  | [d] => { results := [.lit (.bool false)], args := [d] }
  | _ => none }
def FnNetEffectWrongFalsely : Prop := fnNetEffectRow.holds Try.pinned (OpenSpec.ofChange fnNetEffectWrong)

/-- 'laws.FnNetEffectBack': WHATEVER THE INPUT: true; the input reads as it did. -/
def fnNetEffectBackSpec : ChangeSpec := { name := "fnNetEffectBack", fn := fun _ => fun
  | [d] => { results := [.lit (.bool true)], args := [d] }
  | _ => none }
def fnNetEffectBackRow : OpenClaim := { program := "ytogocinmlanikaa", sum := "feba4c159466da09cb0156a93567fd6d6ccabcbf9eb30bbb6c0166116d5dc7f6", func := "loop.example/processengine/laws.FnNetEffectBack", spec := "fnNetEffectBack", apart := false }
def FnNetEffectBackSaid : Prop := fnNetEffectBackRow.holds Try.pinned (OpenSpec.ofChange fnNetEffectBackSpec)

/-- ITS FALSE NEIGHBOUR: 'it returns false'. Refute it at one input. -/
def fnNetEffectBackWrong : ChangeSpec := { name := "fnNetEffectBack", fn := fun _ => fun
  | [d] => { results := [.lit (.bool false)], args := [d] }
  | _ => none }
def FnNetEffectBackWrongFalsely : Prop := fnNetEffectBackRow.holds Try.pinned (OpenSpec.ofChange fnNetEffectBackWrong)

/-- 'laws.FnRunSaga': WHATEVER THE INPUT: true; the input reads as it did. -/
def fnRunSagaSpec : ChangeSpec := { name := "fnRunSaga", fn := fun _ => fun
  | [d] => { results := [.lit (.bool true)], args := [d] }
  | _ => none }
def fnRunSagaRow : OpenClaim := { program := "ytogocinmlanikaa", sum := "feba4c159466da09cb0156a93567fd6d6ccabcbf9eb30bbb6c0166116d5dc7f6", func := "loop.example/processengine/laws.FnRunSaga", spec := "fnRunSaga", unfollowed := true, recurses := true, apart := false }
def FnRunSagaSaid : Prop := fnRunSagaRow.holds Try.pinned (OpenSpec.ofChange fnRunSagaSpec)

/-- ITS FALSE NEIGHBOUR: 'it returns false'. Refute it at one input. -/
def fnRunSagaWrong : ChangeSpec := { name := "fnRunSaga", fn := fun _ => fun
  | [d] => { results := [.lit (.bool false)], args := [d] }
  | _ => none }
def FnRunSagaWrongFalsely : Prop := fnRunSagaRow.holds Try.pinned (OpenSpec.ofChange fnRunSagaWrong)

/-- 'laws.FnRunSagaNet': WHATEVER THE INPUT: true; the input reads as it did. -/
def fnRunSagaNetSpec : ChangeSpec := { name := "fnRunSagaNet", fn := fun _ => fun
  | [d] => { results := [.lit (.bool true)], args := [d] }
  | _ => none }
def fnRunSagaNetRow : OpenClaim := { program := "ytogocinmlanikaa", sum := "feba4c159466da09cb0156a93567fd6d6ccabcbf9eb30bbb6c0166116d5dc7f6", func := "loop.example/processengine/laws.FnRunSagaNet", spec := "fnRunSagaNet", unfollowed := true, recurses := true, apart := false }
def FnRunSagaNetSaid : Prop := fnRunSagaNetRow.holds Try.pinned (OpenSpec.ofChange fnRunSagaNetSpec)

/-- ITS FALSE NEIGHBOUR: 'it returns false'. Refute it at one input. -/
def fnRunSagaNetWrong : ChangeSpec := { name := "fnRunSagaNet", fn := fun _ => fun
  | [d] => { results := [.lit (.bool false)], args := [d] }
  | _ => none }
def FnRunSagaNetWrongFalsely : Prop := fnRunSagaNetRow.holds Try.pinned (OpenSpec.ofChange fnRunSagaNetWrong)

/-- 'laws.FnRunSagaNone': WHATEVER THE INPUT: true; the input reads as it did. -/
def fnRunSagaNoneSpec : ChangeSpec := { name := "fnRunSagaNone", fn := fun _ => fun
  | [d] => { results := [.lit (.bool true)], args := [d] }
  | _ => none }
def fnRunSagaNoneRow : OpenClaim := { program := "ytogocinmlanikaa", sum := "feba4c159466da09cb0156a93567fd6d6ccabcbf9eb30bbb6c0166116d5dc7f6", func := "loop.example/processengine/laws.FnRunSagaNone", spec := "fnRunSagaNone", unfollowed := true, recurses := true, apart := false }
def FnRunSagaNoneSaid : Prop := fnRunSagaNoneRow.holds Try.pinned (OpenSpec.ofChange fnRunSagaNoneSpec)

/-- ITS FALSE NEIGHBOUR: 'it returns false'. Refute it at one input. -/
def fnRunSagaNoneWrong : ChangeSpec := { name := "fnRunSagaNone", fn := fun _ => fun
  | [d] => { results := [.lit (.bool false)], args := [d] }
  | _ => none }
def FnRunSagaNoneWrongFalsely : Prop := fnRunSagaNoneRow.holds Try.pinned (OpenSpec.ofChange fnRunSagaNoneWrong)

/- THE SECOND FORM. 'bulk': how many values and letters a reading holds, each counted each time it is reached (what is shared counts as often as it is met; a slice's spare places count too). A statement '..UptoSaid' is the law's where the arguments, and the package variables that the reading takes, are together of bulk at most 1048576: NARROWER than '..Said'. Prove '..Said' where nothing that the law and all that it calls make is longer than what came in: it says more and counts as full. Else prove '..UptoSaid'. A law counts once. -/
mutual
def uptoBulk {H : Type} : DataW H → Nat
  | .lit (.string bytes) => bytes.length + 1
  | .lit _ => 1
  | .nil => 1
  | .ptr d => uptoBulk d + 1
  | .slice elems spare => uptoBulkAll elems + uptoBulkAll spare + 1
  | .agg parts => uptoBulkAll parts + 1
  | .iface _ d => uptoBulk d + 1
  | .map entries => uptoBulkEntries entries + 1
  | .held _ => 1
def uptoBulkAll {H : Type} : List (DataW H) → Nat
  | [] => 0
  | d :: r => uptoBulk d + uptoBulkAll r
def uptoBulkEntries {H : Type} : List (Lit × DataW H) → Nat
  | [] => 0
  | x :: r => uptoBulkEntry x + uptoBulkEntries r
def uptoBulkEntry {H : Type} : Lit × DataW H → Nat
  | (.string bytes, d) => bytes.length + uptoBulk d + 1
  | (_, d) => uptoBulk d + 1
 end
def uptoSmall : (H : Type) → List (DataW H) → Bool := fun _ ds => decide (uptoBulkAll ds ≤ 1048576)
def OpenSpec.upto (s : _root_.Go.ChangeSpec) : _root_.Go.OpenSpec := { _root_.Go.OpenSpec.ofChange s with cond := some uptoSmall }

/-- 'laws.FnCanUndo', WHERE WHAT IT READS IS OF BULK AT MOST 1048576: true; the input reads as it did. -/
def fnCanUndoUptoRow : OpenClaim := { program := "ytogocinmlanikaa", sum := "feba4c159466da09cb0156a93567fd6d6ccabcbf9eb30bbb6c0166116d5dc7f6", func := "loop.example/processengine/laws.FnCanUndo", spec := "fnCanUndo", apart := false, narrowed := true }
def FnCanUndoUptoSaid : Prop := fnCanUndoUptoRow.holds Try.pinned (OpenSpec.upto fnCanUndoSpec)

/-- 'laws.FnCanUndoOne', WHERE WHAT IT READS IS OF BULK AT MOST 1048576: true; the input reads as it did. -/
def fnCanUndoOneUptoRow : OpenClaim := { program := "ytogocinmlanikaa", sum := "feba4c159466da09cb0156a93567fd6d6ccabcbf9eb30bbb6c0166116d5dc7f6", func := "loop.example/processengine/laws.FnCanUndoOne", spec := "fnCanUndoOne", apart := false, narrowed := true }
def FnCanUndoOneUptoSaid : Prop := fnCanUndoOneUptoRow.holds Try.pinned (OpenSpec.upto fnCanUndoOneSpec)

/-- 'laws.FnExactCanUndo', WHERE WHAT IT READS IS OF BULK AT MOST 1048576: true; the input reads as it did. -/
def fnExactCanUndoUptoRow : OpenClaim := { program := "ytogocinmlanikaa", sum := "feba4c159466da09cb0156a93567fd6d6ccabcbf9eb30bbb6c0166116d5dc7f6", func := "loop.example/processengine/laws.FnExactCanUndo", spec := "fnExactCanUndo", apart := false, narrowed := true }
def FnExactCanUndoUptoSaid : Prop := fnExactCanUndoUptoRow.holds Try.pinned (OpenSpec.upto fnExactCanUndoSpec)

/-- 'laws.FnExactNetEffect', WHERE WHAT IT READS IS OF BULK AT MOST 1048576: true; the input reads as it did. -/
def fnExactNetEffectUptoRow : OpenClaim := { program := "ytogocinmlanikaa", sum := "feba4c159466da09cb0156a93567fd6d6ccabcbf9eb30bbb6c0166116d5dc7f6", func := "loop.example/processengine/laws.FnExactNetEffect", spec := "fnExactNetEffect", apart := false, narrowed := true }
def FnExactNetEffectUptoSaid : Prop := fnExactNetEffectUptoRow.holds Try.pinned (OpenSpec.upto fnExactNetEffectSpec)

/-- 'laws.FnExactRunSaga', WHERE WHAT IT READS IS OF BULK AT MOST 1048576: true; the input reads as it did. -/
def fnExactRunSagaUptoRow : OpenClaim := { program := "ytogocinmlanikaa", sum := "feba4c159466da09cb0156a93567fd6d6ccabcbf9eb30bbb6c0166116d5dc7f6", func := "loop.example/processengine/laws.FnExactRunSaga", spec := "fnExactRunSaga", unfollowed := true, recurses := true, apart := false, narrowed := true }
def FnExactRunSagaUptoSaid : Prop := fnExactRunSagaUptoRow.holds Try.pinned (OpenSpec.upto fnExactRunSagaSpec)

/-- 'laws.FnNetEffect', WHERE WHAT IT READS IS OF BULK AT MOST 1048576: true; the input reads as it did. -/
def fnNetEffectUptoRow : OpenClaim := { program := "ytogocinmlanikaa", sum := "feba4c159466da09cb0156a93567fd6d6ccabcbf9eb30bbb6c0166116d5dc7f6", func := "loop.example/processengine/laws.FnNetEffect", spec := "fnNetEffect", apart := false, narrowed := true }
def FnNetEffectUptoSaid : Prop := fnNetEffectUptoRow.holds Try.pinned (OpenSpec.upto fnNetEffectSpec)

/-- 'laws.FnNetEffectBack', WHERE WHAT IT READS IS OF BULK AT MOST 1048576: true; the input reads as it did. -/
def fnNetEffectBackUptoRow : OpenClaim := { program := "ytogocinmlanikaa", sum := "feba4c159466da09cb0156a93567fd6d6ccabcbf9eb30bbb6c0166116d5dc7f6", func := "loop.example/processengine/laws.FnNetEffectBack", spec := "fnNetEffectBack", apart := false, narrowed := true }
def FnNetEffectBackUptoSaid : Prop := fnNetEffectBackUptoRow.holds Try.pinned (OpenSpec.upto fnNetEffectBackSpec)

/-- 'laws.FnRunSaga', WHERE WHAT IT READS IS OF BULK AT MOST 1048576: true; the input reads as it did. -/
def fnRunSagaUptoRow : OpenClaim := { program := "ytogocinmlanikaa", sum := "feba4c159466da09cb0156a93567fd6d6ccabcbf9eb30bbb6c0166116d5dc7f6", func := "loop.example/processengine/laws.FnRunSaga", spec := "fnRunSaga", unfollowed := true, recurses := true, apart := false, narrowed := true }
def FnRunSagaUptoSaid : Prop := fnRunSagaUptoRow.holds Try.pinned (OpenSpec.upto fnRunSagaSpec)

/-- 'laws.FnRunSagaNet', WHERE WHAT IT READS IS OF BULK AT MOST 1048576: true; the input reads as it did. -/
def fnRunSagaNetUptoRow : OpenClaim := { program := "ytogocinmlanikaa", sum := "feba4c159466da09cb0156a93567fd6d6ccabcbf9eb30bbb6c0166116d5dc7f6", func := "loop.example/processengine/laws.FnRunSagaNet", spec := "fnRunSagaNet", unfollowed := true, recurses := true, apart := false, narrowed := true }
def FnRunSagaNetUptoSaid : Prop := fnRunSagaNetUptoRow.holds Try.pinned (OpenSpec.upto fnRunSagaNetSpec)

/-- 'laws.FnRunSagaNone', WHERE WHAT IT READS IS OF BULK AT MOST 1048576: true; the input reads as it did. -/
def fnRunSagaNoneUptoRow : OpenClaim := { program := "ytogocinmlanikaa", sum := "feba4c159466da09cb0156a93567fd6d6ccabcbf9eb30bbb6c0166116d5dc7f6", func := "loop.example/processengine/laws.FnRunSagaNone", spec := "fnRunSagaNone", unfollowed := true, recurses := true, apart := false, narrowed := true }
def FnRunSagaNoneUptoSaid : Prop := fnRunSagaNoneUptoRow.holds Try.pinned (OpenSpec.upto fnRunSagaNoneSpec)

end Rows
end Go.Proofs.Ytogocinmlanikaa
