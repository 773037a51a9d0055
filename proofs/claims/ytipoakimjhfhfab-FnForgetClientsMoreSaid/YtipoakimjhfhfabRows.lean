/-
  No cell of these rows narrows 'for every input' (looked for: loops, veiled, ifaces, maps, wideKeys, modest, calm, conditions, laid).
  DERIVED. THE GIVEN ROWS OF THIS SEAT. 12 by the template 'for every input the law returns true; each argument reads behind the call as it read before'; 0 by the template 'total and deterministic' (their statements: YtipoakimjhfhfabTotals.lean).
  GIVEN WITH THE SEED: the statements are not yours to turn. If you find one false, say at which input.
  Laid BY PROGRAM, IN A SANDBOX (cutbox-rows.mjs): the forced cells as the released guide's own fill.sh prints them over the translation 16c9b00ca65f7355… (all of the seat's roots in one cut). By AI agents, Wed Nov 11 2026. No macro, syntax, notation, axiom, sorry.
-/
import Derived.Test.YtipoakimjhfhfabChecked
import GoSem.Claim
import GoSem.ClaimJoined
import GoSem.ClaimMapViews
import Derived.JoinedTies
import Derived.KernelRfl
namespace Go.Proofs.Ytipoakimjhfhfab
/- THE CELL 'sum', in the pinned program and in every row, IS THE sha256 OF THE DUMP (.gsa) THAT YtipoakimjhfhfabProg.lean LOADS. Nothing in Lean hashes anything: it is a label: what it is worth is what the hold of that sum in a sandbox is worth. -/
noncomputable def Try.pinned : Pinned := { name := "ytipoakimjhfhfab", sum := "16c9b00ca65f7355a604773af28ce3fdbe3a6b14beaf0749a61132741f239c91", checked := Try.checked }
namespace Rows
def none {H : Type} : Left H := { results := [], args := [] }

/-- 'laws.FnFinishItem': WHATEVER THE INPUT: true; the input reads as it did. -/
def fnFinishItemSpec : ChangeSpec := { name := "fnFinishItem", fn := fun _ => fun
  | [d] => { results := [.lit (.bool true)], args := [d] }
  | _ => none }
def fnFinishItemRow : OpenClaim := { program := "ytipoakimjhfhfab", sum := "16c9b00ca65f7355a604773af28ce3fdbe3a6b14beaf0749a61132741f239c91", func := "loop.example/processengine/laws.FnFinishItem", spec := "fnFinishItem", unfollowed := true, recurses := true, apart := false }
def FnFinishItemSaid : Prop := fnFinishItemRow.holds Try.pinned (OpenSpec.ofChange fnFinishItemSpec)

/-- ITS FALSE NEIGHBOUR: 'it returns false'. Refute it at one input. -/
def fnFinishItemWrong : ChangeSpec := { name := "fnFinishItem", fn := fun _ => fun
  | [d] => { results := [.lit (.bool false)], args := [d] }
  | _ => none }
def FnFinishItemWrongFalsely : Prop := fnFinishItemRow.holds Try.pinned (OpenSpec.ofChange fnFinishItemWrong)

/-- 'laws.FnFinishItemOwner': WHATEVER THE INPUT: true; the input reads as it did. -/
def fnFinishItemOwnerSpec : ChangeSpec := { name := "fnFinishItemOwner", fn := fun _ => fun
  | [d] => { results := [.lit (.bool true)], args := [d] }
  | _ => none }
def fnFinishItemOwnerRow : OpenClaim := { program := "ytipoakimjhfhfab", sum := "16c9b00ca65f7355a604773af28ce3fdbe3a6b14beaf0749a61132741f239c91", func := "loop.example/processengine/laws.FnFinishItemOwner", spec := "fnFinishItemOwner", unfollowed := true, recurses := true, apart := false }
def FnFinishItemOwnerSaid : Prop := fnFinishItemOwnerRow.holds Try.pinned (OpenSpec.ofChange fnFinishItemOwnerSpec)

/-- ITS FALSE NEIGHBOUR: 'it returns false'. Refute it at one input. -/
def fnFinishItemOwnerWrong : ChangeSpec := { name := "fnFinishItemOwner", fn := fun _ => fun
  | [d] => { results := [.lit (.bool false)], args := [d] }
  | _ => none }
def FnFinishItemOwnerWrongFalsely : Prop := fnFinishItemOwnerRow.holds Try.pinned (OpenSpec.ofChange fnFinishItemOwnerWrong)

/-- 'laws.FnFinishItemNumber': WHATEVER THE INPUT: true; the input reads as it did. -/
def fnFinishItemNumberSpec : ChangeSpec := { name := "fnFinishItemNumber", fn := fun _ => fun
  | [d] => { results := [.lit (.bool true)], args := [d] }
  | _ => none }
def fnFinishItemNumberRow : OpenClaim := { program := "ytipoakimjhfhfab", sum := "16c9b00ca65f7355a604773af28ce3fdbe3a6b14beaf0749a61132741f239c91", func := "loop.example/processengine/laws.FnFinishItemNumber", spec := "fnFinishItemNumber", unfollowed := true, recurses := true, apart := false }
def FnFinishItemNumberSaid : Prop := fnFinishItemNumberRow.holds Try.pinned (OpenSpec.ofChange fnFinishItemNumberSpec)

/-- ITS FALSE NEIGHBOUR: 'it returns false'. Refute it at one input. -/
def fnFinishItemNumberWrong : ChangeSpec := { name := "fnFinishItemNumber", fn := fun _ => fun
  | [d] => { results := [.lit (.bool false)], args := [d] }
  | _ => none }
def FnFinishItemNumberWrongFalsely : Prop := fnFinishItemNumberRow.holds Try.pinned (OpenSpec.ofChange fnFinishItemNumberWrong)

/-- 'laws.FnReleaseItemClaim': WHATEVER THE INPUT: true; the input reads as it did. -/
def fnReleaseItemClaimSpec : ChangeSpec := { name := "fnReleaseItemClaim", fn := fun _ => fun
  | [d] => { results := [.lit (.bool true)], args := [d] }
  | _ => none }
def fnReleaseItemClaimRow : OpenClaim := { program := "ytipoakimjhfhfab", sum := "16c9b00ca65f7355a604773af28ce3fdbe3a6b14beaf0749a61132741f239c91", func := "loop.example/processengine/laws.FnReleaseItemClaim", spec := "fnReleaseItemClaim", unfollowed := true, recurses := true, apart := false }
def FnReleaseItemClaimSaid : Prop := fnReleaseItemClaimRow.holds Try.pinned (OpenSpec.ofChange fnReleaseItemClaimSpec)

/-- ITS FALSE NEIGHBOUR: 'it returns false'. Refute it at one input. -/
def fnReleaseItemClaimWrong : ChangeSpec := { name := "fnReleaseItemClaim", fn := fun _ => fun
  | [d] => { results := [.lit (.bool false)], args := [d] }
  | _ => none }
def FnReleaseItemClaimWrongFalsely : Prop := fnReleaseItemClaimRow.holds Try.pinned (OpenSpec.ofChange fnReleaseItemClaimWrong)

/-- 'laws.FnValidClients': WHATEVER THE INPUT: true; the input reads as it did. -/
def fnValidClientsSpec : ChangeSpec := { name := "fnValidClients", fn := fun _ => fun
  | [d] => { results := [.lit (.bool true)], args := [d] }
  | _ => none }
def fnValidClientsRow : OpenClaim := { program := "ytipoakimjhfhfab", sum := "16c9b00ca65f7355a604773af28ce3fdbe3a6b14beaf0749a61132741f239c91", func := "loop.example/processengine/laws.FnValidClients", spec := "fnValidClients", unfollowed := true, recurses := true, apart := false }
def FnValidClientsSaid : Prop := fnValidClientsRow.holds Try.pinned (OpenSpec.ofChange fnValidClientsSpec)

/-- ITS FALSE NEIGHBOUR: 'it returns false'. Refute it at one input. -/
def fnValidClientsWrong : ChangeSpec := { name := "fnValidClients", fn := fun _ => fun
  | [d] => { results := [.lit (.bool false)], args := [d] }
  | _ => none }
def FnValidClientsWrongFalsely : Prop := fnValidClientsRow.holds Try.pinned (OpenSpec.ofChange fnValidClientsWrong)

/-- 'laws.FnCheckCall': WHATEVER THE INPUT: true; the input reads as it did. -/
def fnCheckCallSpec : ChangeSpec := { name := "fnCheckCall", fn := fun _ => fun
  | [d] => { results := [.lit (.bool true)], args := [d] }
  | _ => none }
def fnCheckCallRow : OpenClaim := { program := "ytipoakimjhfhfab", sum := "16c9b00ca65f7355a604773af28ce3fdbe3a6b14beaf0749a61132741f239c91", func := "loop.example/processengine/laws.FnCheckCall", spec := "fnCheckCall", unfollowed := true, recurses := true, apart := false }
def FnCheckCallSaid : Prop := fnCheckCallRow.holds Try.pinned (OpenSpec.ofChange fnCheckCallSpec)

/-- ITS FALSE NEIGHBOUR: 'it returns false'. Refute it at one input. -/
def fnCheckCallWrong : ChangeSpec := { name := "fnCheckCall", fn := fun _ => fun
  | [d] => { results := [.lit (.bool false)], args := [d] }
  | _ => none }
def FnCheckCallWrongFalsely : Prop := fnCheckCallRow.holds Try.pinned (OpenSpec.ofChange fnCheckCallWrong)

/-- 'laws.FnRecordCall': WHATEVER THE INPUT: true; the input reads as it did. -/
def fnRecordCallSpec : ChangeSpec := { name := "fnRecordCall", fn := fun _ => fun
  | [d] => { results := [.lit (.bool true)], args := [d] }
  | _ => none }
def fnRecordCallRow : OpenClaim := { program := "ytipoakimjhfhfab", sum := "16c9b00ca65f7355a604773af28ce3fdbe3a6b14beaf0749a61132741f239c91", func := "loop.example/processengine/laws.FnRecordCall", spec := "fnRecordCall", unfollowed := true, recurses := true, apart := false }
def FnRecordCallSaid : Prop := fnRecordCallRow.holds Try.pinned (OpenSpec.ofChange fnRecordCallSpec)

/-- ITS FALSE NEIGHBOUR: 'it returns false'. Refute it at one input. -/
def fnRecordCallWrong : ChangeSpec := { name := "fnRecordCall", fn := fun _ => fun
  | [d] => { results := [.lit (.bool false)], args := [d] }
  | _ => none }
def FnRecordCallWrongFalsely : Prop := fnRecordCallRow.holds Try.pinned (OpenSpec.ofChange fnRecordCallWrong)

/-- 'laws.FnRecordCallOthers': WHATEVER THE INPUT: true; the input reads as it did. -/
def fnRecordCallOthersSpec : ChangeSpec := { name := "fnRecordCallOthers", fn := fun _ => fun
  | [d] => { results := [.lit (.bool true)], args := [d] }
  | _ => none }
def fnRecordCallOthersRow : OpenClaim := { program := "ytipoakimjhfhfab", sum := "16c9b00ca65f7355a604773af28ce3fdbe3a6b14beaf0749a61132741f239c91", func := "loop.example/processengine/laws.FnRecordCallOthers", spec := "fnRecordCallOthers", unfollowed := true, recurses := true, apart := false }
def FnRecordCallOthersSaid : Prop := fnRecordCallOthersRow.holds Try.pinned (OpenSpec.ofChange fnRecordCallOthersSpec)

/-- ITS FALSE NEIGHBOUR: 'it returns false'. Refute it at one input. -/
def fnRecordCallOthersWrong : ChangeSpec := { name := "fnRecordCallOthers", fn := fun _ => fun
  | [d] => { results := [.lit (.bool false)], args := [d] }
  | _ => none }
def FnRecordCallOthersWrongFalsely : Prop := fnRecordCallOthersRow.holds Try.pinned (OpenSpec.ofChange fnRecordCallOthersWrong)

/-- 'laws.FnReplyOf': WHATEVER THE INPUT: true; the input reads as it did. -/
def fnReplyOfSpec : ChangeSpec := { name := "fnReplyOf", fn := fun _ => fun
  | [d] => { results := [.lit (.bool true)], args := [d] }
  | _ => none }
def fnReplyOfRow : OpenClaim := { program := "ytipoakimjhfhfab", sum := "16c9b00ca65f7355a604773af28ce3fdbe3a6b14beaf0749a61132741f239c91", func := "loop.example/processengine/laws.FnReplyOf", spec := "fnReplyOf", unfollowed := true, recurses := true, apart := false }
def FnReplyOfSaid : Prop := fnReplyOfRow.holds Try.pinned (OpenSpec.ofChange fnReplyOfSpec)

/-- ITS FALSE NEIGHBOUR: 'it returns false'. Refute it at one input. -/
def fnReplyOfWrong : ChangeSpec := { name := "fnReplyOf", fn := fun _ => fun
  | [d] => { results := [.lit (.bool false)], args := [d] }
  | _ => none }
def FnReplyOfWrongFalsely : Prop := fnReplyOfRow.holds Try.pinned (OpenSpec.ofChange fnReplyOfWrong)

/-- 'laws.FnForgetClients': WHATEVER THE INPUT: true; the input reads as it did. -/
def fnForgetClientsSpec : ChangeSpec := { name := "fnForgetClients", fn := fun _ => fun
  | [d] => { results := [.lit (.bool true)], args := [d] }
  | _ => none }
def fnForgetClientsRow : OpenClaim := { program := "ytipoakimjhfhfab", sum := "16c9b00ca65f7355a604773af28ce3fdbe3a6b14beaf0749a61132741f239c91", func := "loop.example/processengine/laws.FnForgetClients", spec := "fnForgetClients", unfollowed := true, recurses := true, apart := false }
def FnForgetClientsSaid : Prop := fnForgetClientsRow.holds Try.pinned (OpenSpec.ofChange fnForgetClientsSpec)

/-- ITS FALSE NEIGHBOUR: 'it returns false'. Refute it at one input. -/
def fnForgetClientsWrong : ChangeSpec := { name := "fnForgetClients", fn := fun _ => fun
  | [d] => { results := [.lit (.bool false)], args := [d] }
  | _ => none }
def FnForgetClientsWrongFalsely : Prop := fnForgetClientsRow.holds Try.pinned (OpenSpec.ofChange fnForgetClientsWrong)

/-- 'laws.FnRecordCallFirst': WHATEVER THE INPUT: true; the input reads as it did. -/
def fnRecordCallFirstSpec : ChangeSpec := { name := "fnRecordCallFirst", fn := fun _ => fun
  | [d] => { results := [.lit (.bool true)], args := [d] }
  | _ => none }
def fnRecordCallFirstRow : OpenClaim := { program := "ytipoakimjhfhfab", sum := "16c9b00ca65f7355a604773af28ce3fdbe3a6b14beaf0749a61132741f239c91", func := "loop.example/processengine/laws.FnRecordCallFirst", spec := "fnRecordCallFirst", unfollowed := true, recurses := true, apart := false }
def FnRecordCallFirstSaid : Prop := fnRecordCallFirstRow.holds Try.pinned (OpenSpec.ofChange fnRecordCallFirstSpec)

/-- ITS FALSE NEIGHBOUR: 'it returns false'. Refute it at one input. -/
def fnRecordCallFirstWrong : ChangeSpec := { name := "fnRecordCallFirst", fn := fun _ => fun
  | [d] => { results := [.lit (.bool false)], args := [d] }
  | _ => none }
def FnRecordCallFirstWrongFalsely : Prop := fnRecordCallFirstRow.holds Try.pinned (OpenSpec.ofChange fnRecordCallFirstWrong)

/-- 'laws.FnForgetClientsMore': WHATEVER THE INPUT: true; the input reads as it did. -/
def fnForgetClientsMoreSpec : ChangeSpec := { name := "fnForgetClientsMore", fn := fun _ => fun
  | [d] => { results := [.lit (.bool true)], args := [d] }
  | _ => none }
def fnForgetClientsMoreRow : OpenClaim := { program := "ytipoakimjhfhfab", sum := "16c9b00ca65f7355a604773af28ce3fdbe3a6b14beaf0749a61132741f239c91", func := "loop.example/processengine/laws.FnForgetClientsMore", spec := "fnForgetClientsMore", unfollowed := true, recurses := true, apart := false }
def FnForgetClientsMoreSaid : Prop := fnForgetClientsMoreRow.holds Try.pinned (OpenSpec.ofChange fnForgetClientsMoreSpec)

/-- ITS FALSE NEIGHBOUR: 'it returns false'. Refute it at one input. -/
def fnForgetClientsMoreWrong : ChangeSpec := { name := "fnForgetClientsMore", fn := fun _ => fun
  | [d] => { results := [.lit (.bool false)], args := [d] }
  | _ => none }
def FnForgetClientsMoreWrongFalsely : Prop := fnForgetClientsMoreRow.holds Try.pinned (OpenSpec.ofChange fnForgetClientsMoreWrong)

/- THE SECOND FORM. 'bulk': how many values and letters a reading holds, each counted each time it is reached (what is shared counts as often as it is met; a slice's spare places count too). A statement '..UptoSaid' is the law's where the arguments, and the package variables that the reading takes, are together of bulk at most 1048576: NARROWER than '..Said'. Prove '..Said' where nothing that the law and all that it calls make is longer than what came in: it says more and counts as full. Else prove '..UptoSaid'. A law counts once. -/
mutual
def uptoBulk {H : Type} : DataW H → Nat
  | .lit (.string bytes) => bytes.length + 1
  | .lit _ => 1
  | .nil => 1
  | .ptr d => uptoBulk d + 1
  | .slice elems spare => uptoBulkAll elems + uptoBulkAll spare + 1
  | .agg parts => uptoBulkAll parts + 1
  | .iface _ d => uptoBulk d + 1
  | .map entries => uptoBulkEntries entries + 1
  | .held _ => 1
def uptoBulkAll {H : Type} : List (DataW H) → Nat
  | [] => 0
  | d :: r => uptoBulk d + uptoBulkAll r
def uptoBulkEntries {H : Type} : List (Lit × DataW H) → Nat
  | [] => 0
  | x :: r => uptoBulkEntry x + uptoBulkEntries r
def uptoBulkEntry {H : Type} : Lit × DataW H → Nat
  | (.string bytes, d) => bytes.length + uptoBulk d + 1
  | (_, d) => uptoBulk d + 1
 end
def uptoSmall : (H : Type) → List (DataW H) → Bool := fun _ ds => decide (uptoBulkAll ds ≤ 1048576)
def OpenSpec.upto (s : _root_.Go.ChangeSpec) : _root_.Go.OpenSpec := { _root_.Go.OpenSpec.ofChange s with cond := some uptoSmall }

/-- 'laws.FnFinishItem', WHERE WHAT IT READS IS OF BULK AT MOST 1048576: true; the input reads as it did. -/
def fnFinishItemUptoRow : OpenClaim := { program := "ytipoakimjhfhfab", sum := "16c9b00ca65f7355a604773af28ce3fdbe3a6b14beaf0749a61132741f239c91", func := "loop.example/processengine/laws.FnFinishItem", spec := "fnFinishItem", unfollowed := true, recurses := true, apart := false, narrowed := true }
def FnFinishItemUptoSaid : Prop := fnFinishItemUptoRow.holds Try.pinned (OpenSpec.upto fnFinishItemSpec)

/-- 'laws.FnFinishItemOwner', WHERE WHAT IT READS IS OF BULK AT MOST 1048576: true; the input reads as it did. -/
def fnFinishItemOwnerUptoRow : OpenClaim := { program := "ytipoakimjhfhfab", sum := "16c9b00ca65f7355a604773af28ce3fdbe3a6b14beaf0749a61132741f239c91", func := "loop.example/processengine/laws.FnFinishItemOwner", spec := "fnFinishItemOwner", unfollowed := true, recurses := true, apart := false, narrowed := true }
def FnFinishItemOwnerUptoSaid : Prop := fnFinishItemOwnerUptoRow.holds Try.pinned (OpenSpec.upto fnFinishItemOwnerSpec)

/-- 'laws.FnFinishItemNumber', WHERE WHAT IT READS IS OF BULK AT MOST 1048576: true; the input reads as it did. -/
def fnFinishItemNumberUptoRow : OpenClaim := { program := "ytipoakimjhfhfab", sum := "16c9b00ca65f7355a604773af28ce3fdbe3a6b14beaf0749a61132741f239c91", func := "loop.example/processengine/laws.FnFinishItemNumber", spec := "fnFinishItemNumber", unfollowed := true, recurses := true, apart := false, narrowed := true }
def FnFinishItemNumberUptoSaid : Prop := fnFinishItemNumberUptoRow.holds Try.pinned (OpenSpec.upto fnFinishItemNumberSpec)

/-- 'laws.FnReleaseItemClaim', WHERE WHAT IT READS IS OF BULK AT MOST 1048576: true; the input reads as it did. -/
def fnReleaseItemClaimUptoRow : OpenClaim := { program := "ytipoakimjhfhfab", sum := "16c9b00ca65f7355a604773af28ce3fdbe3a6b14beaf0749a61132741f239c91", func := "loop.example/processengine/laws.FnReleaseItemClaim", spec := "fnReleaseItemClaim", unfollowed := true, recurses := true, apart := false, narrowed := true }
def FnReleaseItemClaimUptoSaid : Prop := fnReleaseItemClaimUptoRow.holds Try.pinned (OpenSpec.upto fnReleaseItemClaimSpec)

/-- 'laws.FnValidClients', WHERE WHAT IT READS IS OF BULK AT MOST 1048576: true; the input reads as it did. -/
def fnValidClientsUptoRow : OpenClaim := { program := "ytipoakimjhfhfab", sum := "16c9b00ca65f7355a604773af28ce3fdbe3a6b14beaf0749a61132741f239c91", func := "loop.example/processengine/laws.FnValidClients", spec := "fnValidClients", unfollowed := true, recurses := true, apart := false, narrowed := true }
def FnValidClientsUptoSaid : Prop := fnValidClientsUptoRow.holds Try.pinned (OpenSpec.upto fnValidClientsSpec)

/-- 'laws.FnCheckCall', WHERE WHAT IT READS IS OF BULK AT MOST 1048576: true; the input reads as it did. -/
def fnCheckCallUptoRow : OpenClaim := { program := "ytipoakimjhfhfab", sum := "16c9b00ca65f7355a604773af28ce3fdbe3a6b14beaf0749a61132741f239c91", func := "loop.example/processengine/laws.FnCheckCall", spec := "fnCheckCall", unfollowed := true, recurses := true, apart := false, narrowed := true }
def FnCheckCallUptoSaid : Prop := fnCheckCallUptoRow.holds Try.pinned (OpenSpec.upto fnCheckCallSpec)

/-- 'laws.FnRecordCall', WHERE WHAT IT READS IS OF BULK AT MOST 1048576: true; the input reads as it did. -/
def fnRecordCallUptoRow : OpenClaim := { program := "ytipoakimjhfhfab", sum := "16c9b00ca65f7355a604773af28ce3fdbe3a6b14beaf0749a61132741f239c91", func := "loop.example/processengine/laws.FnRecordCall", spec := "fnRecordCall", unfollowed := true, recurses := true, apart := false, narrowed := true }
def FnRecordCallUptoSaid : Prop := fnRecordCallUptoRow.holds Try.pinned (OpenSpec.upto fnRecordCallSpec)

/-- 'laws.FnRecordCallOthers', WHERE WHAT IT READS IS OF BULK AT MOST 1048576: true; the input reads as it did. -/
def fnRecordCallOthersUptoRow : OpenClaim := { program := "ytipoakimjhfhfab", sum := "16c9b00ca65f7355a604773af28ce3fdbe3a6b14beaf0749a61132741f239c91", func := "loop.example/processengine/laws.FnRecordCallOthers", spec := "fnRecordCallOthers", unfollowed := true, recurses := true, apart := false, narrowed := true }
def FnRecordCallOthersUptoSaid : Prop := fnRecordCallOthersUptoRow.holds Try.pinned (OpenSpec.upto fnRecordCallOthersSpec)

/-- 'laws.FnReplyOf', WHERE WHAT IT READS IS OF BULK AT MOST 1048576: true; the input reads as it did. -/
def fnReplyOfUptoRow : OpenClaim := { program := "ytipoakimjhfhfab", sum := "16c9b00ca65f7355a604773af28ce3fdbe3a6b14beaf0749a61132741f239c91", func := "loop.example/processengine/laws.FnReplyOf", spec := "fnReplyOf", unfollowed := true, recurses := true, apart := false, narrowed := true }
def FnReplyOfUptoSaid : Prop := fnReplyOfUptoRow.holds Try.pinned (OpenSpec.upto fnReplyOfSpec)

/-- 'laws.FnForgetClients', WHERE WHAT IT READS IS OF BULK AT MOST 1048576: true; the input reads as it did. -/
def fnForgetClientsUptoRow : OpenClaim := { program := "ytipoakimjhfhfab", sum := "16c9b00ca65f7355a604773af28ce3fdbe3a6b14beaf0749a61132741f239c91", func := "loop.example/processengine/laws.FnForgetClients", spec := "fnForgetClients", unfollowed := true, recurses := true, apart := false, narrowed := true }
def FnForgetClientsUptoSaid : Prop := fnForgetClientsUptoRow.holds Try.pinned (OpenSpec.upto fnForgetClientsSpec)

/-- 'laws.FnRecordCallFirst', WHERE WHAT IT READS IS OF BULK AT MOST 1048576: true; the input reads as it did. -/
def fnRecordCallFirstUptoRow : OpenClaim := { program := "ytipoakimjhfhfab", sum := "16c9b00ca65f7355a604773af28ce3fdbe3a6b14beaf0749a61132741f239c91", func := "loop.example/processengine/laws.FnRecordCallFirst", spec := "fnRecordCallFirst", unfollowed := true, recurses := true, apart := false, narrowed := true }
def FnRecordCallFirstUptoSaid : Prop := fnRecordCallFirstUptoRow.holds Try.pinned (OpenSpec.upto fnRecordCallFirstSpec)

/-- 'laws.FnForgetClientsMore', WHERE WHAT IT READS IS OF BULK AT MOST 1048576: true; the input reads as it did. -/
def fnForgetClientsMoreUptoRow : OpenClaim := { program := "ytipoakimjhfhfab", sum := "16c9b00ca65f7355a604773af28ce3fdbe3a6b14beaf0749a61132741f239c91", func := "loop.example/processengine/laws.FnForgetClientsMore", spec := "fnForgetClientsMore", unfollowed := true, recurses := true, apart := false, narrowed := true }
def FnForgetClientsMoreUptoSaid : Prop := fnForgetClientsMoreUptoRow.holds Try.pinned (OpenSpec.upto fnForgetClientsMoreSpec)

end Rows
end Go.Proofs.Ytipoakimjhfhfab
