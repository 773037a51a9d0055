/-
  No cell of these rows narrows 'for every input' (looked for: loops, veiled, ifaces, maps, wideKeys, modest, calm, conditions, laid).
  DERIVED. THE GIVEN ROWS OF THIS SEAT. 12 by the template 'for every input the law returns true; each argument reads behind the call as it read before'; 0 by the template 'total and deterministic' (their statements: YtipoakimjhfhfaaTotals.lean).
  GIVEN WITH THE SEED: the statements are not yours to turn. If you find one false, say at which input.
  Laid BY PROGRAM, IN A SANDBOX (cutbox-rows.mjs): the forced cells as the released guide's own fill.sh prints them over the translation 442cb787b7439234… (all of the seat's roots in one cut). By AI agents, Wed Nov 11 2026. No macro, syntax, notation, axiom, sorry.
-/
import Derived.Test.YtipoakimjhfhfaaChecked
import GoSem.Claim
import GoSem.ClaimJoined
import GoSem.ClaimMapViews
import Derived.JoinedTies
import Derived.KernelRfl
namespace Go.Proofs.Ytipoakimjhfhfaa
/- THE CELL 'sum', in the pinned program and in every row, IS THE sha256 OF THE DUMP (.gsa) THAT YtipoakimjhfhfaaProg.lean LOADS. Nothing in Lean hashes anything: it is a label: what it is worth is what the hold of that sum in a sandbox is worth. -/
noncomputable def Try.pinned : Pinned := { name := "ytipoakimjhfhfaa", sum := "442cb787b7439234289bef4c597f0654d883519e2bdc6a586911794300fc5ee8", checked := Try.checked }
namespace Rows
def none {H : Type} : Left H := { results := [], args := [] }

/-- 'laws.FnValidWork': WHATEVER THE INPUT: true; the input reads as it did. -/
def fnValidWorkSpec : ChangeSpec := { name := "fnValidWork", fn := fun _ => fun
  | [d] => { results := [.lit (.bool true)], args := [d] }
  | _ => none }
def fnValidWorkRow : OpenClaim := { program := "ytipoakimjhfhfaa", sum := "442cb787b7439234289bef4c597f0654d883519e2bdc6a586911794300fc5ee8", func := "loop.example/processengine/laws.FnValidWork", spec := "fnValidWork", unfollowed := true, recurses := true, apart := false }
def FnValidWorkSaid : Prop := fnValidWorkRow.holds Try.pinned (OpenSpec.ofChange fnValidWorkSpec)

/-- ITS FALSE NEIGHBOUR: 'it returns false'. Refute it at one input. -/
def fnValidWorkWrong : ChangeSpec := { name := "fnValidWork", fn := fun _ => fun
  | [d] => { results := [.lit (.bool false)], args := [d] }
  | _ => none }
def FnValidWorkWrongFalsely : Prop := fnValidWorkRow.holds Try.pinned (OpenSpec.ofChange fnValidWorkWrong)

/-- 'laws.FnOfferItem': WHATEVER THE INPUT: true; the input reads as it did. -/
def fnOfferItemSpec : ChangeSpec := { name := "fnOfferItem", fn := fun _ => fun
  | [d] => { results := [.lit (.bool true)], args := [d] }
  | _ => none }
def fnOfferItemRow : OpenClaim := { program := "ytipoakimjhfhfaa", sum := "442cb787b7439234289bef4c597f0654d883519e2bdc6a586911794300fc5ee8", func := "loop.example/processengine/laws.FnOfferItem", spec := "fnOfferItem", unfollowed := true, recurses := true, apart := false }
def FnOfferItemSaid : Prop := fnOfferItemRow.holds Try.pinned (OpenSpec.ofChange fnOfferItemSpec)

/-- ITS FALSE NEIGHBOUR: 'it returns false'. Refute it at one input. -/
def fnOfferItemWrong : ChangeSpec := { name := "fnOfferItem", fn := fun _ => fun
  | [d] => { results := [.lit (.bool false)], args := [d] }
  | _ => none }
def FnOfferItemWrongFalsely : Prop := fnOfferItemRow.holds Try.pinned (OpenSpec.ofChange fnOfferItemWrong)

/-- 'laws.FnOfferItemFor': WHATEVER THE INPUT: true; the input reads as it did. -/
def fnOfferItemForSpec : ChangeSpec := { name := "fnOfferItemFor", fn := fun _ => fun
  | [d] => { results := [.lit (.bool true)], args := [d] }
  | _ => none }
def fnOfferItemForRow : OpenClaim := { program := "ytipoakimjhfhfaa", sum := "442cb787b7439234289bef4c597f0654d883519e2bdc6a586911794300fc5ee8", func := "loop.example/processengine/laws.FnOfferItemFor", spec := "fnOfferItemFor", unfollowed := true, recurses := true, apart := false }
def FnOfferItemForSaid : Prop := fnOfferItemForRow.holds Try.pinned (OpenSpec.ofChange fnOfferItemForSpec)

/-- ITS FALSE NEIGHBOUR: 'it returns false'. Refute it at one input. -/
def fnOfferItemForWrong : ChangeSpec := { name := "fnOfferItemFor", fn := fun _ => fun
  | [d] => { results := [.lit (.bool false)], args := [d] }
  | _ => none }
def FnOfferItemForWrongFalsely : Prop := fnOfferItemForRow.holds Try.pinned (OpenSpec.ofChange fnOfferItemForWrong)

/-- 'laws.FnOfferItemTwice': WHATEVER THE INPUT: true; the input reads as it did. -/
def fnOfferItemTwiceSpec : ChangeSpec := { name := "fnOfferItemTwice", fn := fun _ => fun
  | [d] => { results := [.lit (.bool true)], args := [d] }
  | _ => none }
def fnOfferItemTwiceRow : OpenClaim := { program := "ytipoakimjhfhfaa", sum := "442cb787b7439234289bef4c597f0654d883519e2bdc6a586911794300fc5ee8", func := "loop.example/processengine/laws.FnOfferItemTwice", spec := "fnOfferItemTwice", unfollowed := true, recurses := true, apart := false }
def FnOfferItemTwiceSaid : Prop := fnOfferItemTwiceRow.holds Try.pinned (OpenSpec.ofChange fnOfferItemTwiceSpec)

/-- ITS FALSE NEIGHBOUR: 'it returns false'. Refute it at one input. -/
def fnOfferItemTwiceWrong : ChangeSpec := { name := "fnOfferItemTwice", fn := fun _ => fun
  | [d] => { results := [.lit (.bool false)], args := [d] }
  | _ => none }
def FnOfferItemTwiceWrongFalsely : Prop := fnOfferItemTwiceRow.holds Try.pinned (OpenSpec.ofChange fnOfferItemTwiceWrong)

/-- 'laws.FnClaimItem': WHATEVER THE INPUT: true; the input reads as it did. -/
def fnClaimItemSpec : ChangeSpec := { name := "fnClaimItem", fn := fun _ => fun
  | [d] => { results := [.lit (.bool true)], args := [d] }
  | _ => none }
def fnClaimItemRow : OpenClaim := { program := "ytipoakimjhfhfaa", sum := "442cb787b7439234289bef4c597f0654d883519e2bdc6a586911794300fc5ee8", func := "loop.example/processengine/laws.FnClaimItem", spec := "fnClaimItem", unfollowed := true, recurses := true, apart := false }
def FnClaimItemSaid : Prop := fnClaimItemRow.holds Try.pinned (OpenSpec.ofChange fnClaimItemSpec)

/-- ITS FALSE NEIGHBOUR: 'it returns false'. Refute it at one input. -/
def fnClaimItemWrong : ChangeSpec := { name := "fnClaimItem", fn := fun _ => fun
  | [d] => { results := [.lit (.bool false)], args := [d] }
  | _ => none }
def FnClaimItemWrongFalsely : Prop := fnClaimItemRow.holds Try.pinned (OpenSpec.ofChange fnClaimItemWrong)

/-- 'laws.FnClaimItemRelease': WHATEVER THE INPUT: true; the input reads as it did. -/
def fnClaimItemReleaseSpec : ChangeSpec := { name := "fnClaimItemRelease", fn := fun _ => fun
  | [d] => { results := [.lit (.bool true)], args := [d] }
  | _ => none }
def fnClaimItemReleaseRow : OpenClaim := { program := "ytipoakimjhfhfaa", sum := "442cb787b7439234289bef4c597f0654d883519e2bdc6a586911794300fc5ee8", func := "loop.example/processengine/laws.FnClaimItemRelease", spec := "fnClaimItemRelease", unfollowed := true, recurses := true, apart := false }
def FnClaimItemReleaseSaid : Prop := fnClaimItemReleaseRow.holds Try.pinned (OpenSpec.ofChange fnClaimItemReleaseSpec)

/-- ITS FALSE NEIGHBOUR: 'it returns false'. Refute it at one input. -/
def fnClaimItemReleaseWrong : ChangeSpec := { name := "fnClaimItemRelease", fn := fun _ => fun
  | [d] => { results := [.lit (.bool false)], args := [d] }
  | _ => none }
def FnClaimItemReleaseWrongFalsely : Prop := fnClaimItemReleaseRow.holds Try.pinned (OpenSpec.ofChange fnClaimItemReleaseWrong)

/-- 'laws.FnClaimItemFor': WHATEVER THE INPUT: true; the input reads as it did. -/
def fnClaimItemForSpec : ChangeSpec := { name := "fnClaimItemFor", fn := fun _ => fun
  | [d] => { results := [.lit (.bool true)], args := [d] }
  | _ => none }
def fnClaimItemForRow : OpenClaim := { program := "ytipoakimjhfhfaa", sum := "442cb787b7439234289bef4c597f0654d883519e2bdc6a586911794300fc5ee8", func := "loop.example/processengine/laws.FnClaimItemFor", spec := "fnClaimItemFor", unfollowed := true, recurses := true, apart := false }
def FnClaimItemForSaid : Prop := fnClaimItemForRow.holds Try.pinned (OpenSpec.ofChange fnClaimItemForSpec)

/-- ITS FALSE NEIGHBOUR: 'it returns false'. Refute it at one input. -/
def fnClaimItemForWrong : ChangeSpec := { name := "fnClaimItemFor", fn := fun _ => fun
  | [d] => { results := [.lit (.bool false)], args := [d] }
  | _ => none }
def FnClaimItemForWrongFalsely : Prop := fnClaimItemForRow.holds Try.pinned (OpenSpec.ofChange fnClaimItemForWrong)

/-- 'laws.FnReleaseItem': WHATEVER THE INPUT: true; the input reads as it did. -/
def fnReleaseItemSpec : ChangeSpec := { name := "fnReleaseItem", fn := fun _ => fun
  | [d] => { results := [.lit (.bool true)], args := [d] }
  | _ => none }
def fnReleaseItemRow : OpenClaim := { program := "ytipoakimjhfhfaa", sum := "442cb787b7439234289bef4c597f0654d883519e2bdc6a586911794300fc5ee8", func := "loop.example/processengine/laws.FnReleaseItem", spec := "fnReleaseItem", unfollowed := true, recurses := true, apart := false }
def FnReleaseItemSaid : Prop := fnReleaseItemRow.holds Try.pinned (OpenSpec.ofChange fnReleaseItemSpec)

/-- ITS FALSE NEIGHBOUR: 'it returns false'. Refute it at one input. -/
def fnReleaseItemWrong : ChangeSpec := { name := "fnReleaseItem", fn := fun _ => fun
  | [d] => { results := [.lit (.bool false)], args := [d] }
  | _ => none }
def FnReleaseItemWrongFalsely : Prop := fnReleaseItemRow.holds Try.pinned (OpenSpec.ofChange fnReleaseItemWrong)

/-- 'laws.FnItemsFor': WHATEVER THE INPUT: true; the input reads as it did. -/
def fnItemsForSpec : ChangeSpec := { name := "fnItemsFor", fn := fun _ => fun
  | [d] => { results := [.lit (.bool true)], args := [d] }
  | _ => none }
def fnItemsForRow : OpenClaim := { program := "ytipoakimjhfhfaa", sum := "442cb787b7439234289bef4c597f0654d883519e2bdc6a586911794300fc5ee8", func := "loop.example/processengine/laws.FnItemsFor", spec := "fnItemsFor", unfollowed := true, recurses := true, apart := false }
def FnItemsForSaid : Prop := fnItemsForRow.holds Try.pinned (OpenSpec.ofChange fnItemsForSpec)

/-- ITS FALSE NEIGHBOUR: 'it returns false'. Refute it at one input. -/
def fnItemsForWrong : ChangeSpec := { name := "fnItemsFor", fn := fun _ => fun
  | [d] => { results := [.lit (.bool false)], args := [d] }
  | _ => none }
def FnItemsForWrongFalsely : Prop := fnItemsForRow.holds Try.pinned (OpenSpec.ofChange fnItemsForWrong)

/-- 'laws.FnItemsForRoles': WHATEVER THE INPUT: true; the input reads as it did. -/
def fnItemsForRolesSpec : ChangeSpec := { name := "fnItemsForRoles", fn := fun _ => fun
  | [d] => { results := [.lit (.bool true)], args := [d] }
  | _ => none }
def fnItemsForRolesRow : OpenClaim := { program := "ytipoakimjhfhfaa", sum := "442cb787b7439234289bef4c597f0654d883519e2bdc6a586911794300fc5ee8", func := "loop.example/processengine/laws.FnItemsForRoles", spec := "fnItemsForRoles", unfollowed := true, recurses := true, apart := false }
def FnItemsForRolesSaid : Prop := fnItemsForRolesRow.holds Try.pinned (OpenSpec.ofChange fnItemsForRolesSpec)

/-- ITS FALSE NEIGHBOUR: 'it returns false'. Refute it at one input. -/
def fnItemsForRolesWrong : ChangeSpec := { name := "fnItemsForRoles", fn := fun _ => fun
  | [d] => { results := [.lit (.bool false)], args := [d] }
  | _ => none }
def FnItemsForRolesWrongFalsely : Prop := fnItemsForRolesRow.holds Try.pinned (OpenSpec.ofChange fnItemsForRolesWrong)

/-- 'laws.FnItemsForNobody': WHATEVER THE INPUT: true; the input reads as it did. -/
def fnItemsForNobodySpec : ChangeSpec := { name := "fnItemsForNobody", fn := fun _ => fun
  | [d] => { results := [.lit (.bool true)], args := [d] }
  | _ => none }
def fnItemsForNobodyRow : OpenClaim := { program := "ytipoakimjhfhfaa", sum := "442cb787b7439234289bef4c597f0654d883519e2bdc6a586911794300fc5ee8", func := "loop.example/processengine/laws.FnItemsForNobody", spec := "fnItemsForNobody", unfollowed := true, recurses := true, apart := false }
def FnItemsForNobodySaid : Prop := fnItemsForNobodyRow.holds Try.pinned (OpenSpec.ofChange fnItemsForNobodySpec)

/-- ITS FALSE NEIGHBOUR: 'it returns false'. Refute it at one input. -/
def fnItemsForNobodyWrong : ChangeSpec := { name := "fnItemsForNobody", fn := fun _ => fun
  | [d] => { results := [.lit (.bool false)], args := [d] }
  | _ => none }
def FnItemsForNobodyWrongFalsely : Prop := fnItemsForNobodyRow.holds Try.pinned (OpenSpec.ofChange fnItemsForNobodyWrong)

/-- 'laws.FnClaimItemRole': WHATEVER THE INPUT: true; the input reads as it did. -/
def fnClaimItemRoleSpec : ChangeSpec := { name := "fnClaimItemRole", fn := fun _ => fun
  | [d] => { results := [.lit (.bool true)], args := [d] }
  | _ => none }
def fnClaimItemRoleRow : OpenClaim := { program := "ytipoakimjhfhfaa", sum := "442cb787b7439234289bef4c597f0654d883519e2bdc6a586911794300fc5ee8", func := "loop.example/processengine/laws.FnClaimItemRole", spec := "fnClaimItemRole", unfollowed := true, recurses := true, apart := false }
def FnClaimItemRoleSaid : Prop := fnClaimItemRoleRow.holds Try.pinned (OpenSpec.ofChange fnClaimItemRoleSpec)

/-- ITS FALSE NEIGHBOUR: 'it returns false'. Refute it at one input. -/
def fnClaimItemRoleWrong : ChangeSpec := { name := "fnClaimItemRole", fn := fun _ => fun
  | [d] => { results := [.lit (.bool false)], args := [d] }
  | _ => none }
def FnClaimItemRoleWrongFalsely : Prop := fnClaimItemRoleRow.holds Try.pinned (OpenSpec.ofChange fnClaimItemRoleWrong)

/- THE SECOND FORM. 'bulk': how many values and letters a reading holds, each counted each time it is reached (what is shared counts as often as it is met; a slice's spare places count too). A statement '..UptoSaid' is the law's where the arguments, and the package variables that the reading takes, are together of bulk at most 1048576: NARROWER than '..Said'. Prove '..Said' where nothing that the law and all that it calls make is longer than what came in: it says more and counts as full. Else prove '..UptoSaid'. A law counts once. -/
mutual
def uptoBulk {H : Type} : DataW H → Nat
  | .lit (.string bytes) => bytes.length + 1
  | .lit _ => 1
  | .nil => 1
  | .ptr d => uptoBulk d + 1
  | .slice elems spare => uptoBulkAll elems + uptoBulkAll spare + 1
  | .agg parts => uptoBulkAll parts + 1
  | .iface _ d => uptoBulk d + 1
  | .map entries => uptoBulkEntries entries + 1
  | .held _ => 1
def uptoBulkAll {H : Type} : List (DataW H) → Nat
  | [] => 0
  | d :: r => uptoBulk d + uptoBulkAll r
def uptoBulkEntries {H : Type} : List (Lit × DataW H) → Nat
  | [] => 0
  | x :: r => uptoBulkEntry x + uptoBulkEntries r
def uptoBulkEntry {H : Type} : Lit × DataW H → Nat
  | (.string bytes, d) => bytes.length + uptoBulk d + 1
  | (_, d) => uptoBulk d + 1
 end
def uptoSmall : (H : Type) → List (DataW H) → Bool := fun _ ds => decide (uptoBulkAll ds ≤ 1048576)
def OpenSpec.upto (s : _root_.Go.ChangeSpec) : _root_.Go.OpenSpec := { _root_.Go.OpenSpec.ofChange s with cond := some uptoSmall }

/-- 'laws.FnValidWork', WHERE WHAT IT READS IS OF BULK AT MOST 1048576: true; the input reads as it did. -/
def fnValidWorkUptoRow : OpenClaim := { program := "ytipoakimjhfhfaa", sum := "442cb787b7439234289bef4c597f0654d883519e2bdc6a586911794300fc5ee8", func := "loop.example/processengine/laws.FnValidWork", spec := "fnValidWork", unfollowed := true, recurses := true, apart := false, narrowed := true }
def FnValidWorkUptoSaid : Prop := fnValidWorkUptoRow.holds Try.pinned (OpenSpec.upto fnValidWorkSpec)

/-- 'laws.FnOfferItem', WHERE WHAT IT READS IS OF BULK AT MOST 1048576: true; the input reads as it did. -/
def fnOfferItemUptoRow : OpenClaim := { program := "ytipoakimjhfhfaa", sum := "442cb787b7439234289bef4c597f0654d883519e2bdc6a586911794300fc5ee8", func := "loop.example/processengine/laws.FnOfferItem", spec := "fnOfferItem", unfollowed := true, recurses := true, apart := false, narrowed := true }
def FnOfferItemUptoSaid : Prop := fnOfferItemUptoRow.holds Try.pinned (OpenSpec.upto fnOfferItemSpec)

/-- 'laws.FnOfferItemFor', WHERE WHAT IT READS IS OF BULK AT MOST 1048576: true; the input reads as it did. -/
def fnOfferItemForUptoRow : OpenClaim := { program := "ytipoakimjhfhfaa", sum := "442cb787b7439234289bef4c597f0654d883519e2bdc6a586911794300fc5ee8", func := "loop.example/processengine/laws.FnOfferItemFor", spec := "fnOfferItemFor", unfollowed := true, recurses := true, apart := false, narrowed := true }
def FnOfferItemForUptoSaid : Prop := fnOfferItemForUptoRow.holds Try.pinned (OpenSpec.upto fnOfferItemForSpec)

/-- 'laws.FnOfferItemTwice', WHERE WHAT IT READS IS OF BULK AT MOST 1048576: true; the input reads as it did. -/
def fnOfferItemTwiceUptoRow : OpenClaim := { program := "ytipoakimjhfhfaa", sum := "442cb787b7439234289bef4c597f0654d883519e2bdc6a586911794300fc5ee8", func := "loop.example/processengine/laws.FnOfferItemTwice", spec := "fnOfferItemTwice", unfollowed := true, recurses := true, apart := false, narrowed := true }
def FnOfferItemTwiceUptoSaid : Prop := fnOfferItemTwiceUptoRow.holds Try.pinned (OpenSpec.upto fnOfferItemTwiceSpec)

/-- 'laws.FnClaimItem', WHERE WHAT IT READS IS OF BULK AT MOST 1048576: true; the input reads as it did. -/
def fnClaimItemUptoRow : OpenClaim := { program := "ytipoakimjhfhfaa", sum := "442cb787b7439234289bef4c597f0654d883519e2bdc6a586911794300fc5ee8", func := "loop.example/processengine/laws.FnClaimItem", spec := "fnClaimItem", unfollowed := true, recurses := true, apart := false, narrowed := true }
def FnClaimItemUptoSaid : Prop := fnClaimItemUptoRow.holds Try.pinned (OpenSpec.upto fnClaimItemSpec)

/-- 'laws.FnClaimItemRelease', WHERE WHAT IT READS IS OF BULK AT MOST 1048576: true; the input reads as it did. -/
def fnClaimItemReleaseUptoRow : OpenClaim := { program := "ytipoakimjhfhfaa", sum := "442cb787b7439234289bef4c597f0654d883519e2bdc6a586911794300fc5ee8", func := "loop.example/processengine/laws.FnClaimItemRelease", spec := "fnClaimItemRelease", unfollowed := true, recurses := true, apart := false, narrowed := true }
def FnClaimItemReleaseUptoSaid : Prop := fnClaimItemReleaseUptoRow.holds Try.pinned (OpenSpec.upto fnClaimItemReleaseSpec)

/-- 'laws.FnClaimItemFor', WHERE WHAT IT READS IS OF BULK AT MOST 1048576: true; the input reads as it did. -/
def fnClaimItemForUptoRow : OpenClaim := { program := "ytipoakimjhfhfaa", sum := "442cb787b7439234289bef4c597f0654d883519e2bdc6a586911794300fc5ee8", func := "loop.example/processengine/laws.FnClaimItemFor", spec := "fnClaimItemFor", unfollowed := true, recurses := true, apart := false, narrowed := true }
def FnClaimItemForUptoSaid : Prop := fnClaimItemForUptoRow.holds Try.pinned (OpenSpec.upto fnClaimItemForSpec)

/-- 'laws.FnReleaseItem', WHERE WHAT IT READS IS OF BULK AT MOST 1048576: true; the input reads as it did. -/
def fnReleaseItemUptoRow : OpenClaim := { program := "ytipoakimjhfhfaa", sum := "442cb787b7439234289bef4c597f0654d883519e2bdc6a586911794300fc5ee8", func := "loop.example/processengine/laws.FnReleaseItem", spec := "fnReleaseItem", unfollowed := true, recurses := true, apart := false, narrowed := true }
def FnReleaseItemUptoSaid : Prop := fnReleaseItemUptoRow.holds Try.pinned (OpenSpec.upto fnReleaseItemSpec)

/-- 'laws.FnItemsFor', WHERE WHAT IT READS IS OF BULK AT MOST 1048576: true; the input reads as it did. -/
def fnItemsForUptoRow : OpenClaim := { program := "ytipoakimjhfhfaa", sum := "442cb787b7439234289bef4c597f0654d883519e2bdc6a586911794300fc5ee8", func := "loop.example/processengine/laws.FnItemsFor", spec := "fnItemsFor", unfollowed := true, recurses := true, apart := false, narrowed := true }
def FnItemsForUptoSaid : Prop := fnItemsForUptoRow.holds Try.pinned (OpenSpec.upto fnItemsForSpec)

/-- 'laws.FnItemsForRoles', WHERE WHAT IT READS IS OF BULK AT MOST 1048576: true; the input reads as it did. -/
def fnItemsForRolesUptoRow : OpenClaim := { program := "ytipoakimjhfhfaa", sum := "442cb787b7439234289bef4c597f0654d883519e2bdc6a586911794300fc5ee8", func := "loop.example/processengine/laws.FnItemsForRoles", spec := "fnItemsForRoles", unfollowed := true, recurses := true, apart := false, narrowed := true }
def FnItemsForRolesUptoSaid : Prop := fnItemsForRolesUptoRow.holds Try.pinned (OpenSpec.upto fnItemsForRolesSpec)

/-- 'laws.FnItemsForNobody', WHERE WHAT IT READS IS OF BULK AT MOST 1048576: true; the input reads as it did. -/
def fnItemsForNobodyUptoRow : OpenClaim := { program := "ytipoakimjhfhfaa", sum := "442cb787b7439234289bef4c597f0654d883519e2bdc6a586911794300fc5ee8", func := "loop.example/processengine/laws.FnItemsForNobody", spec := "fnItemsForNobody", unfollowed := true, recurses := true, apart := false, narrowed := true }
def FnItemsForNobodyUptoSaid : Prop := fnItemsForNobodyUptoRow.holds Try.pinned (OpenSpec.upto fnItemsForNobodySpec)

/-- 'laws.FnClaimItemRole', WHERE WHAT IT READS IS OF BULK AT MOST 1048576: true; the input reads as it did. -/
def fnClaimItemRoleUptoRow : OpenClaim := { program := "ytipoakimjhfhfaa", sum := "442cb787b7439234289bef4c597f0654d883519e2bdc6a586911794300fc5ee8", func := "loop.example/processengine/laws.FnClaimItemRole", spec := "fnClaimItemRole", unfollowed := true, recurses := true, apart := false, narrowed := true }
def FnClaimItemRoleUptoSaid : Prop := fnClaimItemRoleUptoRow.holds Try.pinned (OpenSpec.upto fnClaimItemRoleSpec)

end Rows
end Go.Proofs.Ytipoakimjhfhfaa
