/- The program's groups: sets of servers as bits; IsQuorum, OneStep. -/
import Derived.Test.YtfpiejcfhdnjiaaVoteMath
import Derived.Test.YtfpiejcfhdnjiaaExInt
import Derived.BigQuiet
import Derived.Laws.BitsAllLaws
import Derived.Laws.BitsLemmas
import Derived.Shelf.Small.Bits
import Derived.Shelf.SlSorted.IsSorted
import Derived.Shelf.Lay
import Derived.Ground.SlsoProg
import Derived.Ground.NamesProg
set_option linter.unusedSimpArgs false
set_option linter.unusedVariables false
namespace Go.Proofs.Ytfpiejcfhdnjiaa
open Go.RowKit Go.Shelf

theorem isServer_any (x : Int) (w : World) : Calls Try.prog 74 #[.int .i64 x] w fun e w' => e = .returned (.bool (inR x 0 6)) ∧ w = w' := by
  by_cases h : 0 ≤ x
  · have hd : decide (0 ≤ x) = true := decide_eq_true h
    have HX := Lib.hid (show inR x 0 6 = decide (x < 7) by rw [inR, hd, Bool.true_and, Bool.eq_iff_iff]; simp; omega)
    go_enter Try.func74, Try.ntmps74
    go_wp2
    go_ret
    exact ⟨by rw [HX.out]; rfl, rfl⟩
  · have hd : decide (0 ≤ x) = false := decide_eq_false h
    have HX := Lib.hid (show inR x 0 6 = false by rw [inR, hd]; rfl)
    go_enter Try.func74, Try.ntmps74
    go_wp2
    go_ret
    exact ⟨by rw [HX.out]; rfl, rfl⟩
theorem maskOf_snoc {xs : List Int} {k : Nat} {x : Int} (hg : xs[k]? = some x) : maskOf (xs.take (k + 1)) = maskStep (maskOf (xs.take k)) x := by
  rw [take_snoc hg, maskOf, List.foldl_append]; rfl
end Go.Proofs.Ytfpiejcfhdnjiaa
