/- The arguments of the laws on worklists. (Written by gen/draww.py.) -/
import Derived.Test.YtipoakimjhfhfabDrawW3
set_option linter.unusedSimpArgs false
set_option linter.unusedVariables false
namespace Go.Proofs.Ytipoakimjhfhfab
open Go.RowKit

/-- Behind a reader of its own, whatever changed below is the reader's. -/
theorem but_mine {r : Nat} {w w1 w2 : World} (h : Below w.heap.size w w1) (hG : But r w1 w2) (hr : w.heap.size ≤ r) : Below w.heap.size w w2 :=
  h.grown hG h.size (fun j hj => by injection hj with hj; omega)
def DrawT (w : World) (e : Ending) (w' : World) : Prop :=
  ∃ (A1 : Option Addr) (m c1 : Nat) (ps : List Tri), e = .returned (.slice A1 m c1) ∧ m ≤ 20 ∧ m ≤ c1 ∧ SmallT ps ∧ Rd w' 0 w'.heap.size 3 A1 m (tvs ps) ∧ Below w.heap.size w w'
def DrawTI (w : World) (e : Ending) (w' : World) : Prop :=
  ∃ (A1 : Option Addr) (m c1 : Nat) (ps : List Tri) (z0 : Int), e = .returned (.tuple #[.slice A1 m c1, .int .i64 z0]) ∧ m ≤ 20 ∧ m ≤ c1 ∧ SmallT ps ∧ Rd w' 0 w'.heap.size 3 A1 m (tvs ps) ∧ (-10000 ≤ z0 ∧ z0 ≤ 10000) ∧ Below w.heap.size w w'
def DrawTII (w : World) (e : Ending) (w' : World) : Prop :=
  ∃ (A1 : Option Addr) (m c1 : Nat) (ps : List Tri) (z0 : Int) (z1 : Int), e = .returned (.tuple #[.slice A1 m c1, .int .i64 z0, .int .i64 z1]) ∧ m ≤ 20 ∧ m ≤ c1 ∧ SmallT ps ∧ Rd w' 0 w'.heap.size 3 A1 m (tvs ps) ∧ (-10000 ≤ z0 ∧ z0 ≤ 10000) ∧ (-10000 ≤ z1 ∧ z1 ≤ 10000) ∧ Below w.heap.size w w'
def DrawTIS (w : World) (e : Ending) (w' : World) : Prop :=
  ∃ (A1 : Option Addr) (m c1 : Nat) (ps : List Tri) (z0 : Int) (A3 : Option Addr) (n3 c3 : Nat) (rs : List Int), e = .returned (.tuple #[.slice A1 m c1, .int .i64 z0, .slice A3 n3 c3]) ∧ m ≤ 20 ∧ m ≤ c1 ∧ SmallT ps ∧ Rd w' 0 w'.heap.size 3 A1 m (tvs ps) ∧ (-10000 ≤ z0 ∧ z0 ≤ 10000) ∧ n3 ≤ 5 ∧ Rd w' 0 w'.heap.size 1 A3 n3 (ivs rs) ∧ Below w.heap.size w w'
def DrawTIIS (w : World) (e : Ending) (w' : World) : Prop :=
  ∃ (A1 : Option Addr) (m c1 : Nat) (ps : List Tri) (z0 : Int) (z1 : Int) (A3 : Option Addr) (n3 c3 : Nat) (rs : List Int), e = .returned (.tuple #[.slice A1 m c1, .int .i64 z0, .int .i64 z1, .slice A3 n3 c3]) ∧ m ≤ 20 ∧ m ≤ c1 ∧ SmallT ps ∧ Rd w' 0 w'.heap.size 3 A1 m (tvs ps) ∧ (-10000 ≤ z0 ∧ z0 ≤ 10000) ∧ (-10000 ≤ z1 ∧ z1 ≤ 10000) ∧ n3 ≤ 5 ∧ Rd w' 0 w'.heap.size 1 A3 n3 (ivs rs) ∧ Below w.heap.size w w'
set_option maxRecDepth 100000 in
set_option maxHeartbeats 1600000 in
theorem drawReleaseItem_any (n c : Nat) (A : Option Addr) (xs : List Int) (w : World) (hr : Rd w 0 w.heap.size 1 A n (bvs xs)) (hby : Bytes xs) (hn : n ≤ 1048576) (hc : n ≤ c) (hc2 : c ≤ 9223372036854775807) :
    Calls Try.prog 24 #[.slice A n c] w (DrawTII w) := by
  go_enter Try.func24, Try.ntmps24
  go_wp2_with (fail)
  (with_reducible refine (newReader_any n c A xs _ hr hby hn hc hc2).mono ?_)
  rintro e w1 ⟨r, n', c', xs', rfl, hrw, hR1, hb1⟩
  have hrl := hR1.lt
  have HB1 := Lib.hid hb1
  clear hr hb1
  go_wp2_with (fail)
  (with_reducible refine (anyWork_any r A n' c' xs' 0 w1 hR1 (by omega)).mono ?_)
  rintro e w2 ⟨v, m, ps, p2, rfl, ho2, hs, hm, hR2, hp2, hG2⟩
  have HO2 := Lib.hid ho2
  have HS := Lib.hid hs
  have HR2 := Lib.hid hR2
  have HG2 := Lib.hid hG2
  have hz2 := hG2.size
  clear hR1 ho2 hs hR2 hG2
  obtain ⟨A1, c1, rfl, hc1, _⟩ := own_cap HO2.out
  go_wp2_with (fail)
  (with_reducible refine (someNumber_any r A n' c' xs' p2 _ _ m c1 A1 ps w2 HR2.out (by omega) (Rd.of_own HO2.out) (Nat.le_refl _) hrl hm HS.out).mono ?_)
  rintro e w3 ⟨z, p3, rfl, za, zb, hR3, hp3, hG3⟩
  have HO3 := Lib.hid (own_but HO2.out hG3 hrl)
  have HR3 := Lib.hid hR3
  have HG3 := Lib.hid (but_trans HG2.out hG3)
  have hz3 := HG3.out.size
  have hy3 := hG3.size
  clear hR3 hG3 HO2 HR2 HG2
  go_wp2_with (fail)
  (with_reducible refine (someOwner_any r A n' c' xs' p3 _ _ m c1 A1 ps z w3 HR3.out (by omega) (Rd.of_own HO3.out) (Nat.le_refl _) (by omega) hm HS.out).mono ?_)
  rintro e w4 ⟨y, p4, rfl, ya, yb, hR4, hp4, hG4⟩
  have HO4 := Lib.hid (own_but HO3.out hG4 hrl)
  have HR4 := Lib.hid hR4
  have HG4 := Lib.hid (but_trans HG3.out hG4)
  have hz4 := HG4.out.size
  have hy4 := hG4.size
  clear hR4 hG4 HO3 HR3 HG3
  have HRD := Lib.hid ((Rd.of_own HO4.out).wide (Nat.zero_le _) (Nat.le_refl _))
  have HBL := Lib.hid (but_mine HB1.out HG4.out hrw)
  go_wp2
  exact bodyPost_ret (v := .tuple #[.slice A1 m c1, .int .i64 z, .int .i64 y]) (by simp [results, Try.results24, go_sem]) rfl ⟨A1, m, c1, ps, z, y, rfl, hm, hc1, HS.out, HRD.out, ⟨za, zb⟩, ⟨ya, yb⟩, HBL.out⟩
set_option maxRecDepth 100000 in
theorem drawFinishItem_any (n c : Nat) (A : Option Addr) (xs : List Int) (w : World) (hr : Rd w 0 w.heap.size 1 A n (bvs xs)) (hby : Bytes xs) (hn : n ≤ 1048576) (hc : n ≤ c) (hc2 : c ≤ 9223372036854775807) :
    Calls Try.prog 15 #[.slice A n c] w (DrawTII w) := by
  go_enter Try.func15, Try.ntmps15
  go_wp2_with (fail)
  (with_reducible refine (drawReleaseItem_any n c A xs _ hr hby hn hc hc2).mono ?_)
  rintro e w1 ⟨A1, m, c1, ps, z0, z1, rfl, hm, hc1, hs, hrd, hz0, hz1, hb⟩
  have HS := Lib.hid hs
  have HRD := Lib.hid hrd
  have HB := Lib.hid hb
  have HZ := Lib.hid (And.intro hz0 hz1)
  clear hs hrd hb hz0 hz1 hr
  go_wp2
  exact bodyPost_ret (v := .tuple #[.slice A1 m c1, .int .i64 z0, .int .i64 z1]) (by simp [results, Try.results15, go_sem]) rfl ⟨A1, m, c1, ps, z0, z1, rfl, hm, hc1, HS.out, HRD.out, HZ.out.1, HZ.out.2, HB.out⟩
end Go.Proofs.Ytipoakimjhfhfab
