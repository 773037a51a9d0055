/- The laws' equalPost. -/
import Derived.Test.YtgnffodnimafoaaEqLists
set_option linter.unusedSimpArgs false
set_option linter.unusedVariables false
namespace Go.Proofs.Ytgnffodnimafoaa
open Go.RowKit

set_option maxRecDepth 100000 in
set_option maxHeartbeats 1600000 in
theorem equalPost_any (l1 u1 n1 c1 l2 u2 n2 c2 l3 u3 n3 c3 l4 u4 n4 c4 : Nat) (A1 A2 A3 A4 : Option Addr) (xs ys xs' ys' : List Tri) (w : World)
    (h1 : Rd w l1 u1 3 A1 n1 (tvs xs)) (b1 : u1 ≤ w.heap.size) (m1 : n1 ≤ 1048576) (h2 : Rd w l2 u2 3 A2 n2 (tvs ys)) (b2 : u2 ≤ w.heap.size) (m2 : n2 ≤ 1048576)
    (h3 : Rd w l3 u3 3 A3 n3 (tvs xs')) (b3 : u3 ≤ w.heap.size) (m3 : n3 ≤ 1048576) (h4 : Rd w l4 u4 3 A4 n4 (tvs ys')) (b4 : u4 ≤ w.heap.size) (m4 : n4 ≤ 1048576) :
    Calls Try.prog 14 #[.agg #[.slice A1 n1 c1, .slice A2 n2 c2], .agg #[.slice A3 n3 c3, .slice A4 n4 c4]] w fun e w' => e = .returned (.bool (xs == xs' && ys == ys')) ∧ Below w.heap.size w w' := by
  have hbb := up_alloc (up_alloc (Below.refl _ w) (.cells #[.slice A1 n1 c1, .slice A2 n2 c2] 26)) (.cells #[.slice A3 n3 c3, .slice A4 n4 c4] 26)
  have hsz := hbb.size
  have HX := Lib.hid (fun wx (hb : Below w.heap.size w wx) => equalSubs_any l1 u1 n1 c1 l3 u3 n3 c3 A1 A3 xs xs' wx (h1.keep hb b1) (Nat.le_trans b1 hb.size) m1 (h3.keep hb b3) (Nat.le_trans b3 hb.size) m3)
  have HY := Lib.hid (fun wx (hb : Below w.heap.size w wx) => equalLetters_any l2 u2 n2 c2 l4 u4 n4 c4 A2 A4 ys ys' wx (h2.keep hb b2) (Nat.le_trans b2 hb.size) m2 (h4.keep hb b4) (Nat.le_trans b4 hb.size) m4)
  have HB := Lib.hid hbb
  have HP1 := Lib.hid ((Blk.new w 26 #[.slice A1 n1 c1, .slice A2 n2 c2]).alloc (.cells #[.slice A3 n3 c3, .slice A4 n4 c4] 26))
  have HP2 := Lib.hid (show Blk ((w.alloc (.cells #[.slice A1 n1 c1, .slice A2 n2 c2] 26)).alloc (.cells #[.slice A3 n3 c3, .slice A4 n4 c4] 26)) (w.heap.size + 1) 26 #[.slice A3 n3 c3, .slice A4 n4 c4] from by
    have h := Blk.new (w.alloc (.cells #[.slice A1 n1 c1, .slice A2 n2 c2] 26)) 26 #[.slice A3 n3 c3, .slice A4 n4 c4]; rwa [World.size_alloc] at h)
  clear hbb h1 h2 h3 h4
  cases hx : (xs == xs') with
  | false =>
    have HXE := Lib.hid hx
    clear hx
    go_enter Try.func14, Try.ntmps14
    go_wp2_with (fail)
    (with_reducible refine (HX.out _ HB.out).mono ?_)
    rintro e w1 ⟨rfl, hb1⟩
    rw [HXE.out]
    have HB1 := Lib.hid (up HB.out hb1)
    clear hb1
    go_wp2
    go_ret
    exact ⟨rfl, HB1.out⟩
  | true =>
    have HXE := Lib.hid hx
    clear hx
    generalize hy : (ys == ys') = by'
    have HYE := Lib.hid hy
    clear hy
    go_enter Try.func14, Try.ntmps14
    go_wp2_with (fail)
    (with_reducible refine (HX.out _ HB.out).mono ?_)
    rintro e w1 ⟨rfl, hb1⟩
    rw [HXE.out]
    have HB1 := Lib.hid (up HB.out hb1)
    have hp1 := HP1.out.below hb1 HP1.out.lt
    have hp2 := HP2.out.below hb1 HP2.out.lt
    have k0 := hp1.cell 1
    have k1 := hp2.cell 1
    clear hb1 hp1 hp2
    go_wp2_with (fail)
    (with_reducible refine (HY.out _ HB1.out).mono ?_)
    rintro e w2 ⟨rfl, hb2⟩
    rw [HYE.out]
    have HB2 := Lib.hid (up HB1.out hb2)
    clear hb2 k0 k1
    go_wp2
    go_ret
    exact ⟨rfl, HB2.out⟩
theorem equalPost_same (l1 u1 n1 c1 l2 u2 n2 c2 l3 u3 c3 l4 u4 c4 : Nat) (A1 A2 A3 A4 : Option Addr) (xs ys : List Tri) (w : World)
    (h1 : Rd w l1 u1 3 A1 n1 (tvs xs)) (b1 : u1 ≤ w.heap.size) (m1 : n1 ≤ 1048576) (h2 : Rd w l2 u2 3 A2 n2 (tvs ys)) (b2 : u2 ≤ w.heap.size) (m2 : n2 ≤ 1048576)
    (h3 : Rd w l3 u3 3 A3 n1 (tvs xs)) (b3 : u3 ≤ w.heap.size) (h4 : Rd w l4 u4 3 A4 n2 (tvs ys)) (b4 : u4 ≤ w.heap.size) :
    Calls Try.prog 14 #[.agg #[.slice A1 n1 c1, .slice A2 n2 c2], .agg #[.slice A3 n1 c3, .slice A4 n2 c4]] w fun e w' => e = .returned (.bool true) ∧ Below w.heap.size w w' := by
  have := equalPost_any l1 u1 n1 c1 l2 u2 n2 c2 l3 u3 n1 c3 l4 u4 n2 c4 A1 A2 A3 A4 xs ys xs ys w h1 b1 m1 h2 b2 m2 h3 b3 m1 h4 b4 m2
  rwa [beq_self_eq_true, beq_self_eq_true, Bool.and_self] at this
end Go.Proofs.Ytgnffodnimafoaa
