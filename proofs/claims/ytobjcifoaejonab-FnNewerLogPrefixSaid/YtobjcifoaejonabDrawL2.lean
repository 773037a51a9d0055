/- The arguments of the laws on logs. (Written by gen/drawl2.py.) -/
import Derived.Test.YtobjcifoaejonabDrawL1
set_option linter.unusedSimpArgs false
set_option linter.unusedVariables false
namespace Go.Proofs.Ytobjcifoaejonab
open Go.RowKit

/-- A drawn log. -/
def DrawE (w : World) (e : Ending) (w' : World) : Prop :=
  ∃ (A1 : Option Addr) (m c1 : Nat) (ps : List En), e = .returned (.slice A1 m c1) ∧ m ≤ 20 ∧ m ≤ c1 ∧ SmallE ps ∧ Rd w' w.heap.size w'.heap.size 2 A1 m (pvs ps) ∧ Below w.heap.size w w'
/-- Two drawn logs. -/
def DrawEE (w : World) (e : Ending) (w' : World) : Prop :=
  ∃ (A1 : Option Addr) (m c1 : Nat) (ps : List En) (A2 : Option Addr) (m2 c2 : Nat) (qs : List En), e = .returned (.tuple #[.slice A1 m c1, .slice A2 m2 c2]) ∧ m ≤ 20 ∧ m ≤ c1 ∧ SmallE ps ∧ Rd w' w.heap.size w'.heap.size 2 A1 m (pvs ps) ∧ m2 ≤ 20 ∧ m2 ≤ c2 ∧ SmallE qs ∧ Rd w' w.heap.size w'.heap.size 2 A2 m2 (pvs qs) ∧ Below w.heap.size w w'
set_option maxRecDepth 100000 in
set_option maxHeartbeats 1600000 in
theorem drawValidLog_any (n c : Nat) (A : Option Addr) (xs : List Int) (w : World) (hr : Rd w 0 w.heap.size 1 A n (bvs xs)) (hby : Bytes xs) (hn : n ≤ 1048576) (hc : n ≤ c) (hc2 : c ≤ 9223372036854775807) :
    Calls Try.prog 9 #[.slice A n c] w (DrawE w) := by
  go_enter Try.func9, Try.ntmps9
  go_wp2_with (fail)
  (with_reducible refine (newReader_any n c A xs _ hr hby hn hc hc2).mono ?_)
  rintro e w1 ⟨r, n', c', xs', rfl, hrw, hR1, hb1⟩
  have hrl := hR1.lt
  have HB1 := Lib.hid hb1
  have hz1 := hb1.size
  clear hr hb1
  go_wp2_with (fail)
  (with_reducible refine (anyLog_any r A n' c' xs' 0 w1 hR1 (by omega)).mono ?_)
  rintro e w2 ⟨v, m, ps, p2, rfl, ho2, hs, hm, hR2, hp2, hG2⟩
  have HO2 := Lib.hid ho2
  have HS := Lib.hid hs
  have HR2 := Lib.hid hR2
  have HG2 := Lib.hid hG2
  have hz2 := hG2.size
  clear hR1 ho2 hs hR2 hG2
  obtain ⟨A1, c1, rfl, hk1, _⟩ := own_cap HO2.out
  have HRD := Lib.hid ((Rd.of_own HO2.out).wide HB1.out.size (Nat.le_refl _))
  have HBL := Lib.hid (but_mineK HB1.out HG2.out hrw)
  go_wp2
  go_ret
  exact ⟨A1, m, c1, ps, rfl, by omega, hk1, HS.out, HRD.out, HBL.out⟩
set_option maxRecDepth 100000 in
set_option maxHeartbeats 1600000 in
theorem drawNewerLog_any (n c : Nat) (A : Option Addr) (xs : List Int) (w : World) (hr : Rd w 0 w.heap.size 1 A n (bvs xs)) (hby : Bytes xs) (hn : n ≤ 1048576) (hc : n ≤ c) (hc2 : c ≤ 9223372036854775807) :
    Calls Try.prog 12 #[.slice A n c] w (DrawEE w) := by
  go_enter Try.func12, Try.ntmps12
  go_wp2_with (fail)
  (with_reducible refine (newReader_any n c A xs _ hr hby hn hc hc2).mono ?_)
  rintro e w1 ⟨r, n', c', xs', rfl, hrw, hR1, hb1⟩
  have hrl := hR1.lt
  have HB1 := Lib.hid hb1
  have hz1 := hb1.size
  clear hr hb1
  go_wp2_with (fail)
  (with_reducible refine (anyLog_any r A n' c' xs' 0 w1 hR1 (by omega)).mono ?_)
  rintro e w2 ⟨v, m, ps, p2, rfl, ho2, hs, hm, hR2, hp2, hG2⟩
  have HO2 := Lib.hid ho2
  have HS := Lib.hid hs
  have HR2 := Lib.hid hR2
  have HG2 := Lib.hid hG2
  have hz2 := hG2.size
  clear hR1 ho2 hs hR2 hG2
  obtain ⟨A1, c1, rfl, hk1, _⟩ := own_cap HO2.out
  go_wp2_with (fail)
  (with_reducible refine (nearLog_any r A n' c' xs' p2 w1.heap.size w2.heap.size m c1 A1 ps w2 HR2.out (by omega) (Rd.of_own HO2.out) (Nat.le_refl _) hrl hm hk1 HS.out).mono ?_)
  rintro e w3 ⟨v3, m3, qs, p3, rfl, ho3, hs3, hm3, hR3, hp3, hG3⟩
  obtain ⟨A3, c3, rfl, hk3, _⟩ := own_cap ho3
  have HRD := Lib.hid ((Rd.of_own (own_but HO2.out hG3 hrl)).wide HB1.out.size (Nat.le_refl _))
  have HRD3 := Lib.hid ((Rd.of_own ho3).wide (lo' := w.heap.size) (by omega) (Nat.le_refl _)) 
  have HS3 := Lib.hid hs3
  have HBL := Lib.hid (but_mineK HB1.out (but_trans HG2.out hG3) hrw)
  clear ho3 hs3 hR3 hG3
  go_wp2
  exact bodyPost_ret (v := .tuple #[.slice A1 m c1, .slice A3 m3 c3]) (by simp [results, Try.results12, go_sem]) rfl ⟨A1, m, c1, ps, A3, m3, c3, qs, rfl, by omega, hk1, HS.out, HRD.out, hm3, hk3, HS3.out, HRD3.out, HBL.out⟩
set_option maxRecDepth 100000 in
theorem drawCommonPart_any (n c : Nat) (A : Option Addr) (xs : List Int) (w : World) (hr : Rd w 0 w.heap.size 1 A n (bvs xs)) (hby : Bytes xs) (hn : n ≤ 1048576) (hc : n ≤ c) (hc2 : c ≤ 9223372036854775807) :
    Calls Try.prog 15 #[.slice A n c] w (DrawEE w) := by
  go_enter Try.func15, Try.ntmps15
  go_wp2_with (fail)
  (with_reducible refine (drawNewerLog_any n c A xs _ hr hby hn hc hc2).mono ?_)
  rintro e w1 ⟨A1, m, c1, ps, A2, m2, c3, qs, rfl, hm, hk1, hs, hrd, hm2, hk2, hs2, hrd2, hb⟩
  have HS := Lib.hid (And.intro hs hs2)
  have HRD := Lib.hid (And.intro hrd hrd2)
  have HB := Lib.hid hb
  clear hs hs2 hrd hrd2 hb hr
  go_wp2
  exact bodyPost_ret (v := .tuple #[.slice A1 m c1, .slice A2 m2 c3]) (by simp [results, Try.results15, go_sem]) rfl ⟨A1, m, c1, ps, A2, m2, c3, qs, rfl, hm, hk1, HS.out.1, HRD.out.1, hm2, hk2, HS.out.2, HRD.out.2, HB.out⟩
end Go.Proofs.Ytobjcifoaejonab
