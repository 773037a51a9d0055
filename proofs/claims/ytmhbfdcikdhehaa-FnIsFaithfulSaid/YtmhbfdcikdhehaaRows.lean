/-
  No cell of these rows narrows 'for every input' (looked for: loops, veiled, ifaces, maps, wideKeys, modest, calm, conditions, laid).
  DERIVED. THE GIVEN ROWS OF THIS SEAT. 6 by the template 'for every input the law returns true; each argument reads behind the call as it read before'; 0 by the template 'total and deterministic' (their statements: YtmhbfdcikdhehaaTotals.lean).
  GIVEN WITH THE SEED: the statements are not yours to turn. If you find one false, say at which input.
  Laid BY PROGRAM, IN A SANDBOX (cutbox-rows.mjs): the forced cells as the released guide's own fill.sh prints them over the translation 5ada99a913fc3d9f… (all of the seat's roots in one cut). By AI agents, Wed Nov 11 2026. No macro, syntax, notation, axiom, sorry.
-/
import Derived.Test.YtmhbfdcikdhehaaChecked
import GoSem.Claim
import GoSem.ClaimJoined
import GoSem.ClaimMapViews
import Derived.JoinedTies
import Derived.KernelRfl
namespace Go.Proofs.Ytmhbfdcikdhehaa
/- THE CELL 'sum', in the pinned program and in every row, IS THE sha256 OF THE DUMP (.gsa) THAT YtmhbfdcikdhehaaProg.lean LOADS. Nothing in Lean hashes anything: it is a label: what it is worth is what the hold of that sum in a sandbox is worth. -/
noncomputable def Try.pinned : Pinned := { name := "ytmhbfdcikdhehaa", sum := "5ada99a913fc3d9f4096ce152f7cc60473175513ad31d2ab3f398483ba8a5ac8", checked := Try.checked }
namespace Rows
def none {H : Type} : Left H := { results := [], args := [] }

/-- 'laws.FnMoveMarks': WHATEVER THE INPUT: true; the input reads as it did. -/
def fnMoveMarksSpec : ChangeSpec := { name := "fnMoveMarks", fn := fun _ => fun
  | [d] => { results := [.lit (.bool true)], args := [d] }
  | _ => none }
def fnMoveMarksRow : OpenClaim := { program := "ytmhbfdcikdhehaa", sum := "5ada99a913fc3d9f4096ce152f7cc60473175513ad31d2ab3f398483ba8a5ac8", func := "loop.example/processengine/laws.FnMoveMarks", spec := "fnMoveMarks", unfollowed := true, recurses := true, apart := false }
def FnMoveMarksSaid : Prop := fnMoveMarksRow.holds Try.pinned (OpenSpec.ofChange fnMoveMarksSpec)

/-- ITS FALSE NEIGHBOUR: 'it returns false'. Refute it at one input. -/
def fnMoveMarksWrong : ChangeSpec := { name := "fnMoveMarks", fn := fun _ => fun
  | [d] => { results := [.lit (.bool false)], args := [d] }
  | _ => none }
def FnMoveMarksWrongFalsely : Prop := fnMoveMarksRow.holds Try.pinned (OpenSpec.ofChange fnMoveMarksWrong)

/-- 'laws.FnMoveMarksSame': WHATEVER THE INPUT: true; the input reads as it did. -/
def fnMoveMarksSameSpec : ChangeSpec := { name := "fnMoveMarksSame", fn := fun _ => fun
  | [d] => { results := [.lit (.bool true)], args := [d] }
  | _ => none }
def fnMoveMarksSameRow : OpenClaim := { program := "ytmhbfdcikdhehaa", sum := "5ada99a913fc3d9f4096ce152f7cc60473175513ad31d2ab3f398483ba8a5ac8", func := "loop.example/processengine/laws.FnMoveMarksSame", spec := "fnMoveMarksSame", unfollowed := true, recurses := true, apart := false }
def FnMoveMarksSameSaid : Prop := fnMoveMarksSameRow.holds Try.pinned (OpenSpec.ofChange fnMoveMarksSameSpec)

/-- ITS FALSE NEIGHBOUR: 'it returns false'. Refute it at one input. -/
def fnMoveMarksSameWrong : ChangeSpec := { name := "fnMoveMarksSame", fn := fun _ => fun
  | [d] => { results := [.lit (.bool false)], args := [d] }
  | _ => none }
def FnMoveMarksSameWrongFalsely : Prop := fnMoveMarksSameRow.holds Try.pinned (OpenSpec.ofChange fnMoveMarksSameWrong)

/-- 'laws.FnIsFaithful': WHATEVER THE INPUT: true; the input reads as it did. -/
def fnIsFaithfulSpec : ChangeSpec := { name := "fnIsFaithful", fn := fun _ => fun
  | [d] => { results := [.lit (.bool true)], args := [d] }
  | _ => none }
def fnIsFaithfulRow : OpenClaim := { program := "ytmhbfdcikdhehaa", sum := "5ada99a913fc3d9f4096ce152f7cc60473175513ad31d2ab3f398483ba8a5ac8", func := "loop.example/processengine/laws.FnIsFaithful", spec := "fnIsFaithful", unfollowed := true, recurses := true, apart := false }
def FnIsFaithfulSaid : Prop := fnIsFaithfulRow.holds Try.pinned (OpenSpec.ofChange fnIsFaithfulSpec)

/-- ITS FALSE NEIGHBOUR: 'it returns false'. Refute it at one input. -/
def fnIsFaithfulWrong : ChangeSpec := { name := "fnIsFaithful", fn := fun _ => fun
  | [d] => { results := [.lit (.bool false)], args := [d] }
  | _ => none }
def FnIsFaithfulWrongFalsely : Prop := fnIsFaithfulRow.holds Try.pinned (OpenSpec.ofChange fnIsFaithfulWrong)

/-- 'laws.FnMoveMarksNone': WHATEVER THE INPUT: true; the input reads as it did. -/
def fnMoveMarksNoneSpec : ChangeSpec := { name := "fnMoveMarksNone", fn := fun _ => fun
  | [d] => { results := [.lit (.bool true)], args := [d] }
  | _ => none }
def fnMoveMarksNoneRow : OpenClaim := { program := "ytmhbfdcikdhehaa", sum := "5ada99a913fc3d9f4096ce152f7cc60473175513ad31d2ab3f398483ba8a5ac8", func := "loop.example/processengine/laws.FnMoveMarksNone", spec := "fnMoveMarksNone", unfollowed := true, recurses := true, apart := false }
def FnMoveMarksNoneSaid : Prop := fnMoveMarksNoneRow.holds Try.pinned (OpenSpec.ofChange fnMoveMarksNoneSpec)

/-- ITS FALSE NEIGHBOUR: 'it returns false'. Refute it at one input. -/
def fnMoveMarksNoneWrong : ChangeSpec := { name := "fnMoveMarksNone", fn := fun _ => fun
  | [d] => { results := [.lit (.bool false)], args := [d] }
  | _ => none }
def FnMoveMarksNoneWrongFalsely : Prop := fnMoveMarksNoneRow.holds Try.pinned (OpenSpec.ofChange fnMoveMarksNoneWrong)

/-- 'laws.FnExactMoveMarks': WHATEVER THE INPUT: true; the input reads as it did. -/
def fnExactMoveMarksSpec : ChangeSpec := { name := "fnExactMoveMarks", fn := fun _ => fun
  | [d1, d2, d3, d4] => { results := [.lit (.bool true)], args := [d1, d2, d3, d4] }
  | _ => none }
def fnExactMoveMarksRow : OpenClaim := { program := "ytmhbfdcikdhehaa", sum := "5ada99a913fc3d9f4096ce152f7cc60473175513ad31d2ab3f398483ba8a5ac8", func := "loop.example/processengine/laws.FnExactMoveMarks", spec := "fnExactMoveMarks", unfollowed := true, recurses := true, apart := false }
def FnExactMoveMarksSaid : Prop := fnExactMoveMarksRow.holds Try.pinned (OpenSpec.ofChange fnExactMoveMarksSpec)

/-- ITS FALSE NEIGHBOUR: 'it returns false'. Refute it at one input. -/
def fnExactMoveMarksWrong : ChangeSpec := { name := "fnExactMoveMarks", fn := fun _ => fun
  | [d1, d2, d3, d4] => { results := [.lit (.bool false)], args := [d1, d2, d3, d4] }
  | _ => none }
def FnExactMoveMarksWrongFalsely : Prop := fnExactMoveMarksRow.holds Try.pinned (OpenSpec.ofChange fnExactMoveMarksWrong)

/-- 'laws.FnExactIsFaithful': WHATEVER THE INPUT: true; the input reads as it did. -/
def fnExactIsFaithfulSpec : ChangeSpec := { name := "fnExactIsFaithful", fn := fun _ => fun
  | [d1, d2, d3] => { results := [.lit (.bool true)], args := [d1, d2, d3] }
  | _ => none }
def fnExactIsFaithfulRow : OpenClaim := { program := "ytmhbfdcikdhehaa", sum := "5ada99a913fc3d9f4096ce152f7cc60473175513ad31d2ab3f398483ba8a5ac8", func := "loop.example/processengine/laws.FnExactIsFaithful", spec := "fnExactIsFaithful", unfollowed := true, recurses := true, apart := false }
def FnExactIsFaithfulSaid : Prop := fnExactIsFaithfulRow.holds Try.pinned (OpenSpec.ofChange fnExactIsFaithfulSpec)

/-- ITS FALSE NEIGHBOUR: 'it returns false'. Refute it at one input. -/
def fnExactIsFaithfulWrong : ChangeSpec := { name := "fnExactIsFaithful", fn := fun _ => fun
  | [d1, d2, d3] => { results := [.lit (.bool false)], args := [d1, d2, d3] }
  | _ => none }
def FnExactIsFaithfulWrongFalsely : Prop := fnExactIsFaithfulRow.holds Try.pinned (OpenSpec.ofChange fnExactIsFaithfulWrong)

/- THE SECOND FORM. 'bulk': how many values and letters a reading holds, each counted each time it is reached (what is shared counts as often as it is met; a slice's spare places count too). A statement '..UptoSaid' is the law's where the arguments, and the package variables that the reading takes, are together of bulk at most 1048576: NARROWER than '..Said'. Prove '..Said' where nothing that the law and all that it calls make is longer than what came in: it says more and counts as full. Else prove '..UptoSaid'. A law counts once. -/
mutual
def uptoBulk {H : Type} : DataW H → Nat
  | .lit (.string bytes) => bytes.length + 1
  | .lit _ => 1
  | .nil => 1
  | .ptr d => uptoBulk d + 1
  | .slice elems spare => uptoBulkAll elems + uptoBulkAll spare + 1
  | .agg parts => uptoBulkAll parts + 1
  | .iface _ d => uptoBulk d + 1
  | .map entries => uptoBulkEntries entries + 1
  | .held _ => 1
def uptoBulkAll {H : Type} : List (DataW H) → Nat
  | [] => 0
  | d :: r => uptoBulk d + uptoBulkAll r
def uptoBulkEntries {H : Type} : List (Lit × DataW H) → Nat
  | [] => 0
  | x :: r => uptoBulkEntry x + uptoBulkEntries r
def uptoBulkEntry {H : Type} : Lit × DataW H → Nat
  | (.string bytes, d) => bytes.length + uptoBulk d + 1
  | (_, d) => uptoBulk d + 1
 end
def uptoSmall : (H : Type) → List (DataW H) → Bool := fun _ ds => decide (uptoBulkAll ds ≤ 1048576)
def OpenSpec.upto (s : _root_.Go.ChangeSpec) : _root_.Go.OpenSpec := { _root_.Go.OpenSpec.ofChange s with cond := some uptoSmall }

/-- 'laws.FnMoveMarks', WHERE WHAT IT READS IS OF BULK AT MOST 1048576: true; the input reads as it did. -/
def fnMoveMarksUptoRow : OpenClaim := { program := "ytmhbfdcikdhehaa", sum := "5ada99a913fc3d9f4096ce152f7cc60473175513ad31d2ab3f398483ba8a5ac8", func := "loop.example/processengine/laws.FnMoveMarks", spec := "fnMoveMarks", unfollowed := true, recurses := true, apart := false, narrowed := true }
def FnMoveMarksUptoSaid : Prop := fnMoveMarksUptoRow.holds Try.pinned (OpenSpec.upto fnMoveMarksSpec)

/-- 'laws.FnMoveMarksSame', WHERE WHAT IT READS IS OF BULK AT MOST 1048576: true; the input reads as it did. -/
def fnMoveMarksSameUptoRow : OpenClaim := { program := "ytmhbfdcikdhehaa", sum := "5ada99a913fc3d9f4096ce152f7cc60473175513ad31d2ab3f398483ba8a5ac8", func := "loop.example/processengine/laws.FnMoveMarksSame", spec := "fnMoveMarksSame", unfollowed := true, recurses := true, apart := false, narrowed := true }
def FnMoveMarksSameUptoSaid : Prop := fnMoveMarksSameUptoRow.holds Try.pinned (OpenSpec.upto fnMoveMarksSameSpec)

/-- 'laws.FnIsFaithful', WHERE WHAT IT READS IS OF BULK AT MOST 1048576: true; the input reads as it did. -/
def fnIsFaithfulUptoRow : OpenClaim := { program := "ytmhbfdcikdhehaa", sum := "5ada99a913fc3d9f4096ce152f7cc60473175513ad31d2ab3f398483ba8a5ac8", func := "loop.example/processengine/laws.FnIsFaithful", spec := "fnIsFaithful", unfollowed := true, recurses := true, apart := false, narrowed := true }
def FnIsFaithfulUptoSaid : Prop := fnIsFaithfulUptoRow.holds Try.pinned (OpenSpec.upto fnIsFaithfulSpec)

/-- 'laws.FnMoveMarksNone', WHERE WHAT IT READS IS OF BULK AT MOST 1048576: true; the input reads as it did. -/
def fnMoveMarksNoneUptoRow : OpenClaim := { program := "ytmhbfdcikdhehaa", sum := "5ada99a913fc3d9f4096ce152f7cc60473175513ad31d2ab3f398483ba8a5ac8", func := "loop.example/processengine/laws.FnMoveMarksNone", spec := "fnMoveMarksNone", unfollowed := true, recurses := true, apart := false, narrowed := true }
def FnMoveMarksNoneUptoSaid : Prop := fnMoveMarksNoneUptoRow.holds Try.pinned (OpenSpec.upto fnMoveMarksNoneSpec)

/-- 'laws.FnExactMoveMarks', WHERE WHAT IT READS IS OF BULK AT MOST 1048576: true; the input reads as it did. -/
def fnExactMoveMarksUptoRow : OpenClaim := { program := "ytmhbfdcikdhehaa", sum := "5ada99a913fc3d9f4096ce152f7cc60473175513ad31d2ab3f398483ba8a5ac8", func := "loop.example/processengine/laws.FnExactMoveMarks", spec := "fnExactMoveMarks", unfollowed := true, recurses := true, apart := false, narrowed := true }
def FnExactMoveMarksUptoSaid : Prop := fnExactMoveMarksUptoRow.holds Try.pinned (OpenSpec.upto fnExactMoveMarksSpec)

/-- 'laws.FnExactIsFaithful', WHERE WHAT IT READS IS OF BULK AT MOST 1048576: true; the input reads as it did. -/
def fnExactIsFaithfulUptoRow : OpenClaim := { program := "ytmhbfdcikdhehaa", sum := "5ada99a913fc3d9f4096ce152f7cc60473175513ad31d2ab3f398483ba8a5ac8", func := "loop.example/processengine/laws.FnExactIsFaithful", spec := "fnExactIsFaithful", unfollowed := true, recurses := true, apart := false, narrowed := true }
def FnExactIsFaithfulUptoSaid : Prop := fnExactIsFaithfulUptoRow.holds Try.pinned (OpenSpec.upto fnExactIsFaithfulSpec)

end Rows
end Go.Proofs.Ytmhbfdcikdhehaa
