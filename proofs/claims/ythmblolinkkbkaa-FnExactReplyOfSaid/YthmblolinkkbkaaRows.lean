/-
  No cell of these rows narrows 'for every input' (looked for: loops, veiled, ifaces, maps, wideKeys, modest, calm, conditions, laid).
  DERIVED. THE GIVEN ROWS OF THIS SEAT. 11 by the template 'for every input the law returns true; each argument reads behind the call as it read before'; 0 by the template 'total and deterministic' (their statements: YthmblolinkkbkaaTotals.lean).
  GIVEN WITH THE SEED: the statements are not yours to turn. If you find one false, say at which input.
  Laid BY PROGRAM, IN A SANDBOX (cutbox-rows.mjs): the forced cells as the released guide's own fill.sh prints them over the translation e90c7e80e94c2fcd… (all of the seat's roots in one cut). By AI agents, Wed Nov 11 2026. No macro, syntax, notation, axiom, sorry.
-/
import Derived.Test.YthmblolinkkbkaaChecked
import GoSem.Claim
import GoSem.ClaimJoined
import GoSem.ClaimMapViews
import Derived.JoinedTies
import Derived.KernelRfl
namespace Go.Proofs.Ythmblolinkkbkaa
/- THE CELL 'sum', in the pinned program and in every row, IS THE sha256 OF THE DUMP (.gsa) THAT YthmblolinkkbkaaProg.lean LOADS. Nothing in Lean hashes anything: it is a label: what it is worth is what the hold of that sum in a sandbox is worth. -/
noncomputable def Try.pinned : Pinned := { name := "ythmblolinkkbkaa", sum := "e90c7e80e94c2fcdc5ba7a15b65c78274c6ceed984e568a569f9a2a6d68551be", checked := Try.checked }
namespace Rows
def none {H : Type} : Left H := { results := [], args := [] }

/-- 'laws.FnExactValidClients': WHATEVER THE INPUT: true; the input reads as it did. -/
def fnExactValidClientsSpec : ChangeSpec := { name := "fnExactValidClients", fn := fun _ => fun
  | [d] => { results := [.lit (.bool true)], args := [d] }
  | _ => none }
def fnExactValidClientsRow : OpenClaim := { program := "ythmblolinkkbkaa", sum := "e90c7e80e94c2fcdc5ba7a15b65c78274c6ceed984e568a569f9a2a6d68551be", func := "loop.example/processengine/laws.FnExactValidClients", spec := "fnExactValidClients", unfollowed := true, recurses := true, apart := false }
def FnExactValidClientsSaid : Prop := fnExactValidClientsRow.holds Try.pinned (OpenSpec.ofChange fnExactValidClientsSpec)

/-- ITS FALSE NEIGHBOUR: 'it returns false'. Refute it at one input. -/
def fnExactValidClientsWrong : ChangeSpec := { name := "fnExactValidClients", fn := fun _ => fun
  | [d] => { results := [.lit (.bool false)], args := [d] }
  | _ => none }
def FnExactValidClientsWrongFalsely : Prop := fnExactValidClientsRow.holds Try.pinned (OpenSpec.ofChange fnExactValidClientsWrong)

/-- 'laws.FnExactCheckCall': WHATEVER THE INPUT: true; the input reads as it did. -/
def fnExactCheckCallSpec : ChangeSpec := { name := "fnExactCheckCall", fn := fun _ => fun
  | [d1, d2, d3] => { results := [.lit (.bool true)], args := [d1, d2, d3] }
  | _ => none }
def fnExactCheckCallRow : OpenClaim := { program := "ythmblolinkkbkaa", sum := "e90c7e80e94c2fcdc5ba7a15b65c78274c6ceed984e568a569f9a2a6d68551be", func := "loop.example/processengine/laws.FnExactCheckCall", spec := "fnExactCheckCall", unfollowed := true, recurses := true, apart := false }
def FnExactCheckCallSaid : Prop := fnExactCheckCallRow.holds Try.pinned (OpenSpec.ofChange fnExactCheckCallSpec)

/-- ITS FALSE NEIGHBOUR: 'it returns false'. Refute it at one input. -/
def fnExactCheckCallWrong : ChangeSpec := { name := "fnExactCheckCall", fn := fun _ => fun
  | [d1, d2, d3] => { results := [.lit (.bool false)], args := [d1, d2, d3] }
  | _ => none }
def FnExactCheckCallWrongFalsely : Prop := fnExactCheckCallRow.holds Try.pinned (OpenSpec.ofChange fnExactCheckCallWrong)

/-- 'laws.FnExactRecordCall': WHATEVER THE INPUT: true; the input reads as it did. -/
def fnExactRecordCallSpec : ChangeSpec := { name := "fnExactRecordCall", fn := fun _ => fun
  | [d1, d2, d3, d4, d5] => { results := [.lit (.bool true)], args := [d1, d2, d3, d4, d5] }
  | _ => none }
def fnExactRecordCallRow : OpenClaim := { program := "ythmblolinkkbkaa", sum := "e90c7e80e94c2fcdc5ba7a15b65c78274c6ceed984e568a569f9a2a6d68551be", func := "loop.example/processengine/laws.FnExactRecordCall", spec := "fnExactRecordCall", unfollowed := true, recurses := true, apart := false }
def FnExactRecordCallSaid : Prop := fnExactRecordCallRow.holds Try.pinned (OpenSpec.ofChange fnExactRecordCallSpec)

/-- ITS FALSE NEIGHBOUR: 'it returns false'. Refute it at one input. -/
def fnExactRecordCallWrong : ChangeSpec := { name := "fnExactRecordCall", fn := fun _ => fun
  | [d1, d2, d3, d4, d5] => { results := [.lit (.bool false)], args := [d1, d2, d3, d4, d5] }
  | _ => none }
def FnExactRecordCallWrongFalsely : Prop := fnExactRecordCallRow.holds Try.pinned (OpenSpec.ofChange fnExactRecordCallWrong)

/-- 'laws.FnExactReplyOf': WHATEVER THE INPUT: true; the input reads as it did. -/
def fnExactReplyOfSpec : ChangeSpec := { name := "fnExactReplyOf", fn := fun _ => fun
  | [d1, d2, d3] => { results := [.lit (.bool true)], args := [d1, d2, d3] }
  | _ => none }
def fnExactReplyOfRow : OpenClaim := { program := "ythmblolinkkbkaa", sum := "e90c7e80e94c2fcdc5ba7a15b65c78274c6ceed984e568a569f9a2a6d68551be", func := "loop.example/processengine/laws.FnExactReplyOf", spec := "fnExactReplyOf", unfollowed := true, recurses := true, apart := false }
def FnExactReplyOfSaid : Prop := fnExactReplyOfRow.holds Try.pinned (OpenSpec.ofChange fnExactReplyOfSpec)

/-- ITS FALSE NEIGHBOUR: 'it returns false'. Refute it at one input. -/
def fnExactReplyOfWrong : ChangeSpec := { name := "fnExactReplyOf", fn := fun _ => fun
  | [d1, d2, d3] => { results := [.lit (.bool false)], args := [d1, d2, d3] }
  | _ => none }
def FnExactReplyOfWrongFalsely : Prop := fnExactReplyOfRow.holds Try.pinned (OpenSpec.ofChange fnExactReplyOfWrong)

/-- 'laws.FnExactForgetClients': WHATEVER THE INPUT: true; the input reads as it did. -/
def fnExactForgetClientsSpec : ChangeSpec := { name := "fnExactForgetClients", fn := fun _ => fun
  | [d1, d2] => { results := [.lit (.bool true)], args := [d1, d2] }
  | _ => none }
def fnExactForgetClientsRow : OpenClaim := { program := "ythmblolinkkbkaa", sum := "e90c7e80e94c2fcdc5ba7a15b65c78274c6ceed984e568a569f9a2a6d68551be", func := "loop.example/processengine/laws.FnExactForgetClients", spec := "fnExactForgetClients", unfollowed := true, recurses := true, apart := false }
def FnExactForgetClientsSaid : Prop := fnExactForgetClientsRow.holds Try.pinned (OpenSpec.ofChange fnExactForgetClientsSpec)

/-- ITS FALSE NEIGHBOUR: 'it returns false'. Refute it at one input. -/
def fnExactForgetClientsWrong : ChangeSpec := { name := "fnExactForgetClients", fn := fun _ => fun
  | [d1, d2] => { results := [.lit (.bool false)], args := [d1, d2] }
  | _ => none }
def FnExactForgetClientsWrongFalsely : Prop := fnExactForgetClientsRow.holds Try.pinned (OpenSpec.ofChange fnExactForgetClientsWrong)

/-- 'laws.FnExactValidWork': WHATEVER THE INPUT: true; the input reads as it did. -/
def fnExactValidWorkSpec : ChangeSpec := { name := "fnExactValidWork", fn := fun _ => fun
  | [d] => { results := [.lit (.bool true)], args := [d] }
  | _ => none }
def fnExactValidWorkRow : OpenClaim := { program := "ythmblolinkkbkaa", sum := "e90c7e80e94c2fcdc5ba7a15b65c78274c6ceed984e568a569f9a2a6d68551be", func := "loop.example/processengine/laws.FnExactValidWork", spec := "fnExactValidWork", unfollowed := true, recurses := true, apart := false }
def FnExactValidWorkSaid : Prop := fnExactValidWorkRow.holds Try.pinned (OpenSpec.ofChange fnExactValidWorkSpec)

/-- ITS FALSE NEIGHBOUR: 'it returns false'. Refute it at one input. -/
def fnExactValidWorkWrong : ChangeSpec := { name := "fnExactValidWork", fn := fun _ => fun
  | [d] => { results := [.lit (.bool false)], args := [d] }
  | _ => none }
def FnExactValidWorkWrongFalsely : Prop := fnExactValidWorkRow.holds Try.pinned (OpenSpec.ofChange fnExactValidWorkWrong)

/-- 'laws.FnExactOfferItem': WHATEVER THE INPUT: true; the input reads as it did. -/
def fnExactOfferItemSpec : ChangeSpec := { name := "fnExactOfferItem", fn := fun _ => fun
  | [d1, d2] => { results := [.lit (.bool true)], args := [d1, d2] }
  | _ => none }
def fnExactOfferItemRow : OpenClaim := { program := "ythmblolinkkbkaa", sum := "e90c7e80e94c2fcdc5ba7a15b65c78274c6ceed984e568a569f9a2a6d68551be", func := "loop.example/processengine/laws.FnExactOfferItem", spec := "fnExactOfferItem", unfollowed := true, recurses := true, apart := false }
def FnExactOfferItemSaid : Prop := fnExactOfferItemRow.holds Try.pinned (OpenSpec.ofChange fnExactOfferItemSpec)

/-- ITS FALSE NEIGHBOUR: 'it returns false'. Refute it at one input. -/
def fnExactOfferItemWrong : ChangeSpec := { name := "fnExactOfferItem", fn := fun _ => fun
  | [d1, d2] => { results := [.lit (.bool false)], args := [d1, d2] }
  | _ => none }
def FnExactOfferItemWrongFalsely : Prop := fnExactOfferItemRow.holds Try.pinned (OpenSpec.ofChange fnExactOfferItemWrong)

/-- 'laws.FnExactClaimItem': WHATEVER THE INPUT: true; the input reads as it did. -/
def fnExactClaimItemSpec : ChangeSpec := { name := "fnExactClaimItem", fn := fun _ => fun
  | [d1, d2, d3, d4] => { results := [.lit (.bool true)], args := [d1, d2, d3, d4] }
  | _ => none }
def fnExactClaimItemRow : OpenClaim := { program := "ythmblolinkkbkaa", sum := "e90c7e80e94c2fcdc5ba7a15b65c78274c6ceed984e568a569f9a2a6d68551be", func := "loop.example/processengine/laws.FnExactClaimItem", spec := "fnExactClaimItem", unfollowed := true, recurses := true, apart := false }
def FnExactClaimItemSaid : Prop := fnExactClaimItemRow.holds Try.pinned (OpenSpec.ofChange fnExactClaimItemSpec)

/-- ITS FALSE NEIGHBOUR: 'it returns false'. Refute it at one input. -/
def fnExactClaimItemWrong : ChangeSpec := { name := "fnExactClaimItem", fn := fun _ => fun
  | [d1, d2, d3, d4] => { results := [.lit (.bool false)], args := [d1, d2, d3, d4] }
  | _ => none }
def FnExactClaimItemWrongFalsely : Prop := fnExactClaimItemRow.holds Try.pinned (OpenSpec.ofChange fnExactClaimItemWrong)

/-- 'laws.FnExactReleaseItem': WHATEVER THE INPUT: true; the input reads as it did. -/
def fnExactReleaseItemSpec : ChangeSpec := { name := "fnExactReleaseItem", fn := fun _ => fun
  | [d1, d2, d3] => { results := [.lit (.bool true)], args := [d1, d2, d3] }
  | _ => none }
def fnExactReleaseItemRow : OpenClaim := { program := "ythmblolinkkbkaa", sum := "e90c7e80e94c2fcdc5ba7a15b65c78274c6ceed984e568a569f9a2a6d68551be", func := "loop.example/processengine/laws.FnExactReleaseItem", spec := "fnExactReleaseItem", unfollowed := true, recurses := true, apart := false }
def FnExactReleaseItemSaid : Prop := fnExactReleaseItemRow.holds Try.pinned (OpenSpec.ofChange fnExactReleaseItemSpec)

/-- ITS FALSE NEIGHBOUR: 'it returns false'. Refute it at one input. -/
def fnExactReleaseItemWrong : ChangeSpec := { name := "fnExactReleaseItem", fn := fun _ => fun
  | [d1, d2, d3] => { results := [.lit (.bool false)], args := [d1, d2, d3] }
  | _ => none }
def FnExactReleaseItemWrongFalsely : Prop := fnExactReleaseItemRow.holds Try.pinned (OpenSpec.ofChange fnExactReleaseItemWrong)

/-- 'laws.FnExactFinishItem': WHATEVER THE INPUT: true; the input reads as it did. -/
def fnExactFinishItemSpec : ChangeSpec := { name := "fnExactFinishItem", fn := fun _ => fun
  | [d1, d2, d3] => { results := [.lit (.bool true)], args := [d1, d2, d3] }
  | _ => none }
def fnExactFinishItemRow : OpenClaim := { program := "ythmblolinkkbkaa", sum := "e90c7e80e94c2fcdc5ba7a15b65c78274c6ceed984e568a569f9a2a6d68551be", func := "loop.example/processengine/laws.FnExactFinishItem", spec := "fnExactFinishItem", unfollowed := true, recurses := true, apart := false }
def FnExactFinishItemSaid : Prop := fnExactFinishItemRow.holds Try.pinned (OpenSpec.ofChange fnExactFinishItemSpec)

/-- ITS FALSE NEIGHBOUR: 'it returns false'. Refute it at one input. -/
def fnExactFinishItemWrong : ChangeSpec := { name := "fnExactFinishItem", fn := fun _ => fun
  | [d1, d2, d3] => { results := [.lit (.bool false)], args := [d1, d2, d3] }
  | _ => none }
def FnExactFinishItemWrongFalsely : Prop := fnExactFinishItemRow.holds Try.pinned (OpenSpec.ofChange fnExactFinishItemWrong)

/-- 'laws.FnExactItemsFor': WHATEVER THE INPUT: true; the input reads as it did. -/
def fnExactItemsForSpec : ChangeSpec := { name := "fnExactItemsFor", fn := fun _ => fun
  | [d1, d2, d3] => { results := [.lit (.bool true)], args := [d1, d2, d3] }
  | _ => none }
def fnExactItemsForRow : OpenClaim := { program := "ythmblolinkkbkaa", sum := "e90c7e80e94c2fcdc5ba7a15b65c78274c6ceed984e568a569f9a2a6d68551be", func := "loop.example/processengine/laws.FnExactItemsFor", spec := "fnExactItemsFor", unfollowed := true, recurses := true, apart := false }
def FnExactItemsForSaid : Prop := fnExactItemsForRow.holds Try.pinned (OpenSpec.ofChange fnExactItemsForSpec)

/-- ITS FALSE NEIGHBOUR: 'it returns false'. Refute it at one input. -/
def fnExactItemsForWrong : ChangeSpec := { name := "fnExactItemsFor", fn := fun _ => fun
  | [d1, d2, d3] => { results := [.lit (.bool false)], args := [d1, d2, d3] }
  | _ => none }
def FnExactItemsForWrongFalsely : Prop := fnExactItemsForRow.holds Try.pinned (OpenSpec.ofChange fnExactItemsForWrong)

/- THE SECOND FORM. 'bulk': how many values and letters a reading holds, each counted each time it is reached (what is shared counts as often as it is met; a slice's spare places count too). A statement '..UptoSaid' is the law's where the arguments, and the package variables that the reading takes, are together of bulk at most 1048576: NARROWER than '..Said'. Prove '..Said' where nothing that the law and all that it calls make is longer than what came in: it says more and counts as full. Else prove '..UptoSaid'. A law counts once. -/
mutual
def uptoBulk {H : Type} : DataW H → Nat
  | .lit (.string bytes) => bytes.length + 1
  | .lit _ => 1
  | .nil => 1
  | .ptr d => uptoBulk d + 1
  | .slice elems spare => uptoBulkAll elems + uptoBulkAll spare + 1
  | .agg parts => uptoBulkAll parts + 1
  | .iface _ d => uptoBulk d + 1
  | .map entries => uptoBulkEntries entries + 1
  | .held _ => 1
def uptoBulkAll {H : Type} : List (DataW H) → Nat
  | [] => 0
  | d :: r => uptoBulk d + uptoBulkAll r
def uptoBulkEntries {H : Type} : List (Lit × DataW H) → Nat
  | [] => 0
  | x :: r => uptoBulkEntry x + uptoBulkEntries r
def uptoBulkEntry {H : Type} : Lit × DataW H → Nat
  | (.string bytes, d) => bytes.length + uptoBulk d + 1
  | (_, d) => uptoBulk d + 1
 end
def uptoSmall : (H : Type) → List (DataW H) → Bool := fun _ ds => decide (uptoBulkAll ds ≤ 1048576)
def OpenSpec.upto (s : _root_.Go.ChangeSpec) : _root_.Go.OpenSpec := { _root_.Go.OpenSpec.ofChange s with cond := some uptoSmall }

/-- 'laws.FnExactValidClients', WHERE WHAT IT READS IS OF BULK AT MOST 1048576: true; the input reads as it did. -/
def fnExactValidClientsUptoRow : OpenClaim := { program := "ythmblolinkkbkaa", sum := "e90c7e80e94c2fcdc5ba7a15b65c78274c6ceed984e568a569f9a2a6d68551be", func := "loop.example/processengine/laws.FnExactValidClients", spec := "fnExactValidClients", unfollowed := true, recurses := true, apart := false, narrowed := true }
def FnExactValidClientsUptoSaid : Prop := fnExactValidClientsUptoRow.holds Try.pinned (OpenSpec.upto fnExactValidClientsSpec)

/-- 'laws.FnExactCheckCall', WHERE WHAT IT READS IS OF BULK AT MOST 1048576: true; the input reads as it did. -/
def fnExactCheckCallUptoRow : OpenClaim := { program := "ythmblolinkkbkaa", sum := "e90c7e80e94c2fcdc5ba7a15b65c78274c6ceed984e568a569f9a2a6d68551be", func := "loop.example/processengine/laws.FnExactCheckCall", spec := "fnExactCheckCall", unfollowed := true, recurses := true, apart := false, narrowed := true }
def FnExactCheckCallUptoSaid : Prop := fnExactCheckCallUptoRow.holds Try.pinned (OpenSpec.upto fnExactCheckCallSpec)

/-- 'laws.FnExactRecordCall', WHERE WHAT IT READS IS OF BULK AT MOST 1048576: true; the input reads as it did. -/
def fnExactRecordCallUptoRow : OpenClaim := { program := "ythmblolinkkbkaa", sum := "e90c7e80e94c2fcdc5ba7a15b65c78274c6ceed984e568a569f9a2a6d68551be", func := "loop.example/processengine/laws.FnExactRecordCall", spec := "fnExactRecordCall", unfollowed := true, recurses := true, apart := false, narrowed := true }
def FnExactRecordCallUptoSaid : Prop := fnExactRecordCallUptoRow.holds Try.pinned (OpenSpec.upto fnExactRecordCallSpec)

/-- 'laws.FnExactReplyOf', WHERE WHAT IT READS IS OF BULK AT MOST 1048576: true; the input reads as it did. -/
def fnExactReplyOfUptoRow : OpenClaim := { program := "ythmblolinkkbkaa", sum := "e90c7e80e94c2fcdc5ba7a15b65c78274c6ceed984e568a569f9a2a6d68551be", func := "loop.example/processengine/laws.FnExactReplyOf", spec := "fnExactReplyOf", unfollowed := true, recurses := true, apart := false, narrowed := true }
def FnExactReplyOfUptoSaid : Prop := fnExactReplyOfUptoRow.holds Try.pinned (OpenSpec.upto fnExactReplyOfSpec)

/-- 'laws.FnExactForgetClients', WHERE WHAT IT READS IS OF BULK AT MOST 1048576: true; the input reads as it did. -/
def fnExactForgetClientsUptoRow : OpenClaim := { program := "ythmblolinkkbkaa", sum := "e90c7e80e94c2fcdc5ba7a15b65c78274c6ceed984e568a569f9a2a6d68551be", func := "loop.example/processengine/laws.FnExactForgetClients", spec := "fnExactForgetClients", unfollowed := true, recurses := true, apart := false, narrowed := true }
def FnExactForgetClientsUptoSaid : Prop := fnExactForgetClientsUptoRow.holds Try.pinned (OpenSpec.upto fnExactForgetClientsSpec)

/-- 'laws.FnExactValidWork', WHERE WHAT IT READS IS OF BULK AT MOST 1048576: true; the input reads as it did. -/
def fnExactValidWorkUptoRow : OpenClaim := { program := "ythmblolinkkbkaa", sum := "e90c7e80e94c2fcdc5ba7a15b65c78274c6ceed984e568a569f9a2a6d68551be", func := "loop.example/processengine/laws.FnExactValidWork", spec := "fnExactValidWork", unfollowed := true, recurses := true, apart := false, narrowed := true }
def FnExactValidWorkUptoSaid : Prop := fnExactValidWorkUptoRow.holds Try.pinned (OpenSpec.upto fnExactValidWorkSpec)

/-- 'laws.FnExactOfferItem', WHERE WHAT IT READS IS OF BULK AT MOST 1048576: true; the input reads as it did. -/
def fnExactOfferItemUptoRow : OpenClaim := { program := "ythmblolinkkbkaa", sum := "e90c7e80e94c2fcdc5ba7a15b65c78274c6ceed984e568a569f9a2a6d68551be", func := "loop.example/processengine/laws.FnExactOfferItem", spec := "fnExactOfferItem", unfollowed := true, recurses := true, apart := false, narrowed := true }
def FnExactOfferItemUptoSaid : Prop := fnExactOfferItemUptoRow.holds Try.pinned (OpenSpec.upto fnExactOfferItemSpec)

/-- 'laws.FnExactClaimItem', WHERE WHAT IT READS IS OF BULK AT MOST 1048576: true; the input reads as it did. -/
def fnExactClaimItemUptoRow : OpenClaim := { program := "ythmblolinkkbkaa", sum := "e90c7e80e94c2fcdc5ba7a15b65c78274c6ceed984e568a569f9a2a6d68551be", func := "loop.example/processengine/laws.FnExactClaimItem", spec := "fnExactClaimItem", unfollowed := true, recurses := true, apart := false, narrowed := true }
def FnExactClaimItemUptoSaid : Prop := fnExactClaimItemUptoRow.holds Try.pinned (OpenSpec.upto fnExactClaimItemSpec)

/-- 'laws.FnExactReleaseItem', WHERE WHAT IT READS IS OF BULK AT MOST 1048576: true; the input reads as it did. -/
def fnExactReleaseItemUptoRow : OpenClaim := { program := "ythmblolinkkbkaa", sum := "e90c7e80e94c2fcdc5ba7a15b65c78274c6ceed984e568a569f9a2a6d68551be", func := "loop.example/processengine/laws.FnExactReleaseItem", spec := "fnExactReleaseItem", unfollowed := true, recurses := true, apart := false, narrowed := true }
def FnExactReleaseItemUptoSaid : Prop := fnExactReleaseItemUptoRow.holds Try.pinned (OpenSpec.upto fnExactReleaseItemSpec)

/-- 'laws.FnExactFinishItem', WHERE WHAT IT READS IS OF BULK AT MOST 1048576: true; the input reads as it did. -/
def fnExactFinishItemUptoRow : OpenClaim := { program := "ythmblolinkkbkaa", sum := "e90c7e80e94c2fcdc5ba7a15b65c78274c6ceed984e568a569f9a2a6d68551be", func := "loop.example/processengine/laws.FnExactFinishItem", spec := "fnExactFinishItem", unfollowed := true, recurses := true, apart := false, narrowed := true }
def FnExactFinishItemUptoSaid : Prop := fnExactFinishItemUptoRow.holds Try.pinned (OpenSpec.upto fnExactFinishItemSpec)

/-- 'laws.FnExactItemsFor', WHERE WHAT IT READS IS OF BULK AT MOST 1048576: true; the input reads as it did. -/
def fnExactItemsForUptoRow : OpenClaim := { program := "ythmblolinkkbkaa", sum := "e90c7e80e94c2fcdc5ba7a15b65c78274c6ceed984e568a569f9a2a6d68551be", func := "loop.example/processengine/laws.FnExactItemsFor", spec := "fnExactItemsFor", unfollowed := true, recurses := true, apart := false, narrowed := true }
def FnExactItemsForUptoSaid : Prop := fnExactItemsForUptoRow.holds Try.pinned (OpenSpec.upto fnExactItemsForSpec)

end Rows
end Go.Proofs.Ythmblolinkkbkaa
