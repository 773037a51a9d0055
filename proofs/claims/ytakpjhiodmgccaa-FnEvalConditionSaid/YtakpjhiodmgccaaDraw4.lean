/- The drawn conditions. -/
import Derived.Test.YtakpjhiodmgccaaDraw3
namespace Go.Proofs.Ytakpjhiodmgccaa
open Go.RowKit

/-- A drawn condition, in memory of the call's own. -/
def DrawC (w : World) (e : Ending) (w' : World) : Prop :=
  ∃ A n c ps, e = .returned (.slice A n c) ∧ n ≤ 16 ∧ n ≤ c ∧ c ≤ 9223372036854775807 ∧ Rd w' w.heap.size w'.heap.size 2 A n (pvs ps) ∧ Below w.heap.size w w'

theorem drawUsed_any (n c : Nat) (A : Option Addr) (xs : List Int) (w : World) (hr : Rd w 0 w.heap.size 1 A n (bvs xs)) (hby : Bytes xs) (hn : n ≤ 1048576) (hc : n ≤ c) (hc2 : c ≤ 9223372036854775807) :
    Calls Try.prog 21 #[.slice A n c] w (DrawC w) := by
  go_enter Try.func21, Try.ntmps21
  go_wp2_with (fail)
  (with_reducible refine (newReader_any n c A xs w hr hby hn hc hc2).mono ?_)
  rintro e w1 ⟨r, n', c', xs', rfl, hrw, hR1, hb1⟩
  go_wp2_with (fail)
  (with_reducible refine (anyCondition_any r A n' c' xs' 0 w1 hR1 (by omega)).mono ?_)
  rintro e w2 ⟨A2, n2, c2, ps, p2, rfl, hn2, hc3, hc4, hrd, _, _, hG⟩
  go_wp2
  go_ret
  exact ⟨A2, n2, c2, ps, rfl, hn2, hc3, hc4, hrd.wide hb1.size (Nat.le_refl _), hb1.grown hG hb1.size (fun k e => by injection e with e; omega)⟩

theorem drawNot_any (n c : Nat) (A : Option Addr) (xs : List Int) (w : World) (hr : Rd w 0 w.heap.size 1 A n (bvs xs)) (hby : Bytes xs) (hn : n ≤ 1048576) (hc : n ≤ c) (hc2 : c ≤ 9223372036854775807) :
    Calls Try.prog 24 #[.slice A n c] w (DrawC w) := by
  go_enter Try.func24, Try.ntmps24
  go_wp2_with (fail)
  (with_reducible refine (newReader_any n c A xs w hr hby hn hc hc2).mono ?_)
  rintro e w1 ⟨r, n', c', xs', rfl, hrw, hR1, hb1⟩
  go_wp2_with (fail)
  (with_reducible refine (anyCondition_any r A n' c' xs' 0 w1 hR1 (by omega)).mono ?_)
  rintro e w2 ⟨A2, n2, c2, ps, p2, rfl, hn2, hc3, hc4, hrd, _, _, hG⟩
  go_wp2
  go_ret
  exact ⟨A2, n2, c2, ps, rfl, hn2, hc3, hc4, hrd.wide hb1.size (Nat.le_refl _), hb1.grown hG hb1.size (fun k e => by injection e with e; omega)⟩

end Go.Proofs.Ytakpjhiodmgccaa
