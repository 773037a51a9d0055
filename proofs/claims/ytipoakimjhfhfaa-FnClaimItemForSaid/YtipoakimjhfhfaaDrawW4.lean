/- The arguments of the laws on worklists. (Written by gen/draww.py.) -/
import Derived.Test.YtipoakimjhfhfaaDrawW3
set_option linter.unusedSimpArgs false
set_option linter.unusedVariables false
namespace Go.Proofs.Ytipoakimjhfhfaa
open Go.RowKit

/-- Behind a reader of its own, whatever changed below is the reader's. -/
theorem but_mine {r : Nat} {w w1 w2 : World} (h : Below w.heap.size w w1) (hG : But r w1 w2) (hr : w.heap.size ≤ r) : Below w.heap.size w w2 :=
  h.grown hG h.size (fun j hj => by injection hj with hj; omega)
def DrawT (w : World) (e : Ending) (w' : World) : Prop :=
  ∃ (A1 : Option Addr) (m c1 : Nat) (ps : List Tri), e = .returned (.slice A1 m c1) ∧ m ≤ 20 ∧ m ≤ c1 ∧ SmallT ps ∧ Rd w' 0 w'.heap.size 3 A1 m (tvs ps) ∧ Below w.heap.size w w'
def DrawTI (w : World) (e : Ending) (w' : World) : Prop :=
  ∃ (A1 : Option Addr) (m c1 : Nat) (ps : List Tri) (z0 : Int), e = .returned (.tuple #[.slice A1 m c1, .int .i64 z0]) ∧ m ≤ 20 ∧ m ≤ c1 ∧ SmallT ps ∧ Rd w' 0 w'.heap.size 3 A1 m (tvs ps) ∧ (-10000 ≤ z0 ∧ z0 ≤ 10000) ∧ Below w.heap.size w w'
def DrawTII (w : World) (e : Ending) (w' : World) : Prop :=
  ∃ (A1 : Option Addr) (m c1 : Nat) (ps : List Tri) (z0 : Int) (z1 : Int), e = .returned (.tuple #[.slice A1 m c1, .int .i64 z0, .int .i64 z1]) ∧ m ≤ 20 ∧ m ≤ c1 ∧ SmallT ps ∧ Rd w' 0 w'.heap.size 3 A1 m (tvs ps) ∧ (-10000 ≤ z0 ∧ z0 ≤ 10000) ∧ (-10000 ≤ z1 ∧ z1 ≤ 10000) ∧ Below w.heap.size w w'
def DrawTIS (w : World) (e : Ending) (w' : World) : Prop :=
  ∃ (A1 : Option Addr) (m c1 : Nat) (ps : List Tri) (z0 : Int) (A3 : Option Addr) (n3 c3 : Nat) (rs : List Int), e = .returned (.tuple #[.slice A1 m c1, .int .i64 z0, .slice A3 n3 c3]) ∧ m ≤ 20 ∧ m ≤ c1 ∧ SmallT ps ∧ Rd w' 0 w'.heap.size 3 A1 m (tvs ps) ∧ (-10000 ≤ z0 ∧ z0 ≤ 10000) ∧ n3 ≤ 5 ∧ Rd w' 0 w'.heap.size 1 A3 n3 (ivs rs) ∧ Below w.heap.size w w'
def DrawTIIS (w : World) (e : Ending) (w' : World) : Prop :=
  ∃ (A1 : Option Addr) (m c1 : Nat) (ps : List Tri) (z0 : Int) (z1 : Int) (A3 : Option Addr) (n3 c3 : Nat) (rs : List Int), e = .returned (.tuple #[.slice A1 m c1, .int .i64 z0, .int .i64 z1, .slice A3 n3 c3]) ∧ m ≤ 20 ∧ m ≤ c1 ∧ SmallT ps ∧ Rd w' 0 w'.heap.size 3 A1 m (tvs ps) ∧ (-10000 ≤ z0 ∧ z0 ≤ 10000) ∧ (-10000 ≤ z1 ∧ z1 ≤ 10000) ∧ n3 ≤ 5 ∧ Rd w' 0 w'.heap.size 1 A3 n3 (ivs rs) ∧ Below w.heap.size w w'
set_option maxRecDepth 100000 in
set_option maxHeartbeats 1600000 in
theorem drawValidWork_any (n c : Nat) (A : Option Addr) (xs : List Int) (w : World) (hr : Rd w 0 w.heap.size 1 A n (bvs xs)) (hby : Bytes xs) (hn : n ≤ 1048576) (hc : n ≤ c) (hc2 : c ≤ 9223372036854775807) :
    Calls Try.prog 15 #[.slice A n c] w (DrawT w) := by
  go_enter Try.func15, Try.ntmps15
  go_wp2_with (fail)
  (with_reducible refine (newReader_any n c A xs _ hr hby hn hc hc2).mono ?_)
  rintro e w1 ⟨r, n', c', xs', rfl, hrw, hR1, hb1⟩
  have hrl := hR1.lt
  have HB1 := Lib.hid hb1
  clear hr hb1
  go_wp2_with (fail)
  (with_reducible refine (anyWork_any r A n' c' xs' 0 w1 hR1 (by omega)).mono ?_)
  rintro e w2 ⟨v, m, ps, p2, rfl, ho2, hs, hm, hR2, hp2, hG2⟩
  have HO2 := Lib.hid ho2
  have HS := Lib.hid hs
  have HR2 := Lib.hid hR2
  have HG2 := Lib.hid hG2
  have hz2 := hG2.size
  clear hR1 ho2 hs hR2 hG2
  obtain ⟨A1, c1, rfl, hc1, _⟩ := own_cap HO2.out
  have HRD := Lib.hid ((Rd.of_own HO2.out).wide (Nat.zero_le _) (Nat.le_refl _))
  have HBL := Lib.hid (but_mine HB1.out HG2.out hrw)
  go_wp2
  go_ret
  exact ⟨A1, m, c1, ps, rfl, hm, hc1, HS.out, HRD.out, HBL.out⟩
set_option maxRecDepth 100000 in
set_option maxHeartbeats 1600000 in
theorem drawOfferItem_any (n c : Nat) (A : Option Addr) (xs : List Int) (w : World) (hr : Rd w 0 w.heap.size 1 A n (bvs xs)) (hby : Bytes xs) (hn : n ≤ 1048576) (hc : n ≤ c) (hc2 : c ≤ 9223372036854775807) :
    Calls Try.prog 18 #[.slice A n c] w (DrawTI w) := by
  go_enter Try.func18, Try.ntmps18
  go_wp2_with (fail)
  (with_reducible refine (newReader_any n c A xs _ hr hby hn hc hc2).mono ?_)
  rintro e w1 ⟨r, n', c', xs', rfl, hrw, hR1, hb1⟩
  have hrl := hR1.lt
  have HB1 := Lib.hid hb1
  clear hr hb1
  go_wp2_with (fail)
  (with_reducible refine (anyWork_any r A n' c' xs' 0 w1 hR1 (by omega)).mono ?_)
  rintro e w2 ⟨v, m, ps, p2, rfl, ho2, hs, hm, hR2, hp2, hG2⟩
  have HO2 := Lib.hid ho2
  have HS := Lib.hid hs
  have HR2 := Lib.hid hR2
  have HG2 := Lib.hid hG2
  have hz2 := hG2.size
  clear hR1 ho2 hs hR2 hG2
  obtain ⟨A1, c1, rfl, hc1, _⟩ := own_cap HO2.out
  go_wp2_with (fail)
  (with_reducible refine (one_lits r A n' c' xs' p2 [0, 1, 5, 6, -1, 2] 6 _ _ w2 HR2.out (by omega) rfl (by omega) (by omega) (by simp) rfl (by simp)).mono ?_)
  rintro e w3 ⟨z, p3, rfl, za, zb, hR3, hp3, hG3⟩
  have HO3 := Lib.hid (own_but HO2.out hG3 hrl)
  have HR3 := Lib.hid hR3
  have HG3 := Lib.hid (but_trans HG2.out hG3)
  have hz3 := HG3.out.size
  have hy3 := hG3.size
  clear hR3 hG3 HO2 HR2 HG2
  have HRD := Lib.hid ((Rd.of_own HO3.out).wide (Nat.zero_le _) (Nat.le_refl _))
  have HBL := Lib.hid (but_mine HB1.out HG3.out hrw)
  go_wp2
  exact bodyPost_ret (v := .tuple #[.slice A1 m c1, .int .i64 z]) (by simp [results, Try.results18, go_sem]) rfl ⟨A1, m, c1, ps, z, rfl, hm, hc1, HS.out, HRD.out, ⟨za, zb⟩, HBL.out⟩
set_option maxRecDepth 100000 in
set_option maxHeartbeats 1600000 in
theorem drawReleaseItem_any (n c : Nat) (A : Option Addr) (xs : List Int) (w : World) (hr : Rd w 0 w.heap.size 1 A n (bvs xs)) (hby : Bytes xs) (hn : n ≤ 1048576) (hc : n ≤ c) (hc2 : c ≤ 9223372036854775807) :
    Calls Try.prog 28 #[.slice A n c] w (DrawTII w) := by
  go_enter Try.func28, Try.ntmps28
  go_wp2_with (fail)
  (with_reducible refine (newReader_any n c A xs _ hr hby hn hc hc2).mono ?_)
  rintro e w1 ⟨r, n', c', xs', rfl, hrw, hR1, hb1⟩
  have hrl := hR1.lt
  have HB1 := Lib.hid hb1
  clear hr hb1
  go_wp2_with (fail)
  (with_reducible refine (anyWork_any r A n' c' xs' 0 w1 hR1 (by omega)).mono ?_)
  rintro e w2 ⟨v, m, ps, p2, rfl, ho2, hs, hm, hR2, hp2, hG2⟩
  have HO2 := Lib.hid ho2
  have HS := Lib.hid hs
  have HR2 := Lib.hid hR2
  have HG2 := Lib.hid hG2
  have hz2 := hG2.size
  clear hR1 ho2 hs hR2 hG2
  obtain ⟨A1, c1, rfl, hc1, _⟩ := own_cap HO2.out
  go_wp2_with (fail)
  (with_reducible refine (someNumber_any r A n' c' xs' p2 _ _ m c1 A1 ps w2 HR2.out (by omega) (Rd.of_own HO2.out) (Nat.le_refl _) hrl hm HS.out).mono ?_)
  rintro e w3 ⟨z, p3, rfl, za, zb, hR3, hp3, hG3⟩
  have HO3 := Lib.hid (own_but HO2.out hG3 hrl)
  have HR3 := Lib.hid hR3
  have HG3 := Lib.hid (but_trans HG2.out hG3)
  have hz3 := HG3.out.size
  have hy3 := hG3.size
  clear hR3 hG3 HO2 HR2 HG2
  go_wp2_with (fail)
  (with_reducible refine (someOwner_any r A n' c' xs' p3 _ _ m c1 A1 ps z w3 HR3.out (by omega) (Rd.of_own HO3.out) (Nat.le_refl _) (by omega) hm HS.out).mono ?_)
  rintro e w4 ⟨y, p4, rfl, ya, yb, hR4, hp4, hG4⟩
  have HO4 := Lib.hid (own_but HO3.out hG4 hrl)
  have HR4 := Lib.hid hR4
  have HG4 := Lib.hid (but_trans HG3.out hG4)
  have hz4 := HG4.out.size
  have hy4 := hG4.size
  clear hR4 hG4 HO3 HR3 HG3
  have HRD := Lib.hid ((Rd.of_own HO4.out).wide (Nat.zero_le _) (Nat.le_refl _))
  have HBL := Lib.hid (but_mine HB1.out HG4.out hrw)
  go_wp2
  exact bodyPost_ret (v := .tuple #[.slice A1 m c1, .int .i64 z, .int .i64 y]) (by simp [results, Try.results28, go_sem]) rfl ⟨A1, m, c1, ps, z, y, rfl, hm, hc1, HS.out, HRD.out, ⟨za, zb⟩, ⟨ya, yb⟩, HBL.out⟩
set_option maxRecDepth 100000 in
set_option maxHeartbeats 1600000 in
theorem drawItemsFor_any (n c : Nat) (A : Option Addr) (xs : List Int) (w : World) (hr : Rd w 0 w.heap.size 1 A n (bvs xs)) (hby : Bytes xs) (hn : n ≤ 1048576) (hc : n ≤ c) (hc2 : c ≤ 9223372036854775807) :
    Calls Try.prog 30 #[.slice A n c] w (DrawTIS w) := by
  go_enter Try.func30, Try.ntmps30
  go_wp2_with (fail)
  (with_reducible refine (newReader_any n c A xs _ hr hby hn hc hc2).mono ?_)
  rintro e w1 ⟨r, n', c', xs', rfl, hrw, hR1, hb1⟩
  have hrl := hR1.lt
  have HB1 := Lib.hid hb1
  clear hr hb1
  go_wp2_with (fail)
  (with_reducible refine (anyWork_any r A n' c' xs' 0 w1 hR1 (by omega)).mono ?_)
  rintro e w2 ⟨v, m, ps, p2, rfl, ho2, hs, hm, hR2, hp2, hG2⟩
  have HO2 := Lib.hid ho2
  have HS := Lib.hid hs
  have HR2 := Lib.hid hR2
  have HG2 := Lib.hid hG2
  have hz2 := hG2.size
  clear hR1 ho2 hs hR2 hG2
  obtain ⟨A1, c1, rfl, hc1, _⟩ := own_cap HO2.out
  go_wp2_with (fail)
  (with_reducible refine (one_lits r A n' c' xs' p2 [1, 2, 3, 0, -1] 5 _ _ w2 HR2.out (by omega) rfl (by omega) (by omega) (by simp) rfl (by simp)).mono ?_)
  rintro e w3 ⟨z, p3, rfl, za, zb, hR3, hp3, hG3⟩
  have HO3 := Lib.hid (own_but HO2.out hG3 hrl)
  have HR3 := Lib.hid hR3
  have HG3 := Lib.hid (but_trans HG2.out hG3)
  have hz3 := HG3.out.size
  have hy3 := hG3.size
  clear hR3 hG3 HO2 HR2 HG2
  go_wp2_with (fail)
  (with_reducible refine (someRoles_any r A n' c' xs' p3 w3 HR3.out (by omega)).mono ?_)
  rintro e w4 ⟨vr, nr, rs, p4, rfl, hor, hnr, hR4, hp4, hG4⟩
  have HQ4 := Lib.hid hor
  clear hor
  have HO4 := Lib.hid (own_but HO3.out hG4 hrl)
  have HR4 := Lib.hid hR4
  have HG4 := Lib.hid (but_trans HG3.out hG4)
  have hz4 := HG4.out.size
  have hy4 := hG4.size
  clear hR4 hG4 HO3 HR3 HG3
  obtain ⟨A3, c3, rfl, _, _⟩ := own_cap HQ4.out
  have HRR := Lib.hid ((Rd.of_own HQ4.out).wide (Nat.zero_le _) (Nat.le_refl _))
  have HRD := Lib.hid ((Rd.of_own HO4.out).wide (Nat.zero_le _) (Nat.le_refl _))
  have HBL := Lib.hid (but_mine HB1.out HG4.out hrw)
  go_wp2
  exact bodyPost_ret (v := .tuple #[.slice A1 m c1, .int .i64 z, .slice A3 nr c3]) (by simp [results, Try.results30, go_sem]) rfl ⟨A1, m, c1, ps, z, A3, nr, c3, rs, rfl, hm, hc1, HS.out, HRD.out, ⟨za, zb⟩, by omega, HRR.out, HBL.out⟩
set_option maxRecDepth 100000 in
set_option maxHeartbeats 1600000 in
theorem drawClaimItem_any (n c : Nat) (A : Option Addr) (xs : List Int) (w : World) (hr : Rd w 0 w.heap.size 1 A n (bvs xs)) (hby : Bytes xs) (hn : n ≤ 1048576) (hc : n ≤ c) (hc2 : c ≤ 9223372036854775807) :
    Calls Try.prog 24 #[.slice A n c] w (DrawTIIS w) := by
  go_enter Try.func24, Try.ntmps24
  go_wp2_with (fail)
  (with_reducible refine (newReader_any n c A xs _ hr hby hn hc hc2).mono ?_)
  rintro e w1 ⟨r, n', c', xs', rfl, hrw, hR1, hb1⟩
  have hrl := hR1.lt
  have HB1 := Lib.hid hb1
  clear hr hb1
  go_wp2_with (fail)
  (with_reducible refine (anyWork_any r A n' c' xs' 0 w1 hR1 (by omega)).mono ?_)
  rintro e w2 ⟨v, m, ps, p2, rfl, ho2, hs, hm, hR2, hp2, hG2⟩
  have HO2 := Lib.hid ho2
  have HS := Lib.hid hs
  have HR2 := Lib.hid hR2
  have HG2 := Lib.hid hG2
  have hz2 := hG2.size
  clear hR1 ho2 hs hR2 hG2
  obtain ⟨A1, c1, rfl, hc1, _⟩ := own_cap HO2.out
  go_wp2_with (fail)
  (with_reducible refine (someNumber_any r A n' c' xs' p2 _ _ m c1 A1 ps w2 HR2.out (by omega) (Rd.of_own HO2.out) (Nat.le_refl _) hrl hm HS.out).mono ?_)
  rintro e w3 ⟨z, p3, rfl, za, zb, hR3, hp3, hG3⟩
  have HO3 := Lib.hid (own_but HO2.out hG3 hrl)
  have HR3 := Lib.hid hR3
  have HG3 := Lib.hid (but_trans HG2.out hG3)
  have hz3 := HG3.out.size
  have hy3 := hG3.size
  clear hR3 hG3 HO2 HR2 HG2
  go_wp2_with (fail)
  (with_reducible refine (one_lits r A n' c' xs' p3 [1, 2, 3, 0, 9, 10, 1] 7 _ _ w3 HR3.out (by omega) rfl (by omega) (by omega) (by simp) rfl (by simp)).mono ?_)
  rintro e w4 ⟨y, p4, rfl, ya, yb, hR4, hp4, hG4⟩
  have HO4 := Lib.hid (own_but HO3.out hG4 hrl)
  have HR4 := Lib.hid hR4
  have HG4 := Lib.hid (but_trans HG3.out hG4)
  have hz4 := HG4.out.size
  have hy4 := hG4.size
  clear hR4 hG4 HO3 HR3 HG3
  have HX4 := Lib.hid (Rd.of_own HO4.out)
  go_wp2_with (fail)
  (with_reducible refine (someRoles_any r A n' c' xs' p4 w4 HR4.out (by omega)).mono ?_)
  rintro e w5 ⟨vr, nr, rs, p5, rfl, hor, hnr, hR5, hp5, hG5⟩
  have HQ5 := Lib.hid hor
  have HX := Lib.hid (HX4.out.but hG5 (Nat.le_refl _) hrl)
  clear hor HX4
  have HO5 := Lib.hid (own_but HO4.out hG5 hrl)
  have HR5 := Lib.hid hR5
  have HG5 := Lib.hid (but_trans HG4.out hG5)
  have hz5 := HG5.out.size
  have hy5 := hG5.size
  clear hR5 hG5 HO4 HR4 HG4
  obtain ⟨A3, c3, rfl, _, _⟩ := own_cap HQ5.out
  have HQ := Lib.hid HQ5.out
  clear HQ5
  have hm2 : m ≤ 1048576 := by omega
  have HL := Lib.hid (Rd.of_own HO5.out).len3
  obtain ⟨i0, hi0, hq0, hq1, hq2⟩ := info_parts infoIntD
  go_wp2_with (fail)
  (with_reducible refine (itemAtS_any _ _ m c1 A1 ps z _ (Rd.of_own HO5.out) hm2).mono ?_)
  rintro e w0 ⟨q, rfl, hq, rfl⟩
  rcases hq with ⟨rfl, hat⟩ | ⟨k, pp, rfl, hk, hat, hpz⟩
  · clear hat
    have HRD := Lib.hid ((Rd.of_own HO5.out).wide (Nat.zero_le _) (Nat.le_refl _))
    have HRR := Lib.hid ((Rd.of_own HQ.out).wide (Nat.zero_le _) (Nat.le_refl _))
    have HBL := Lib.hid (but_mine HB1.out HG5.out hrw)
    go_wp2
    exact bodyPost_ret (v := .tuple #[.slice A1 m c1, .int .i64 z, .int .i64 y, .slice A3 nr c3]) (by simp [results, Try.results24, go_sem]) rfl ⟨A1, m, c1, ps, z, y, A3, nr, c3, rs, rfl, hm, hc1, HS.out, HRD.out, ⟨za, zb⟩, ⟨ya, yb⟩, by omega, HRR.out, HBL.out⟩
  have hkn : k < m := by rw [← HL.out]; exact (List.getElem?_eq_some_iff.1 hk).1
  have hkz : (k : Int) < (m : Int) := by omega
  have hk0 : (0 : Int) ≤ (k : Int) := by omega
  have hkd : decide ((0 : Int) ≤ (k : Int)) = true := decide_eq_true (by omega)
  clear hat hk hpz
  go_wp2_with (fail)
  (with_reducible refine (pick_any r A n' c' xs' p5 4 _ HR5.out (by omega) (by omega)).mono ?_)
  rintro e w6 ⟨q, rfl, q0, q1, _, hR6, hG6⟩
  have HQ6 := Lib.hid (own_but HQ.out hG6 (by omega))
  have HX6 := Lib.hid (HX.out.but hG6 (by omega) hrl)
  clear HX
  have HO6 := Lib.hid (own_but HO5.out hG6 hrl)
  have HR6 := Lib.hid hR6
  have HG6 := Lib.hid (but_trans HG5.out hG6)
  have hz6 := HG6.out.size
  have hy6 := hG6.size
  clear hR6 hG6 HO5 HR5 HG5
  clear q1
  by_cases hq : 0 < q
  case neg =>
    have hqd : decide (0 < q) = false := decide_eq_false hq
    have HRD := Lib.hid ((Rd.of_own HO6.out).wide (Nat.zero_le _) (Nat.le_refl _))
    have HRR := Lib.hid ((Rd.of_own HQ6.out).wide (Nat.zero_le _) (Nat.le_refl _))
    have HBL := Lib.hid (but_mine HB1.out HG6.out hrw)
    go_wp2
    exact bodyPost_ret (v := .tuple #[.slice A1 m c1, .int .i64 z, .int .i64 y, .slice A3 nr c3]) (by simp [results, Try.results24, go_sem]) rfl ⟨A1, m, c1, ps, z, y, A3, nr, c3, rs, rfl, hm, hc1, HS.out, HRD.out, ⟨za, zb⟩, ⟨ya, yb⟩, by omega, HRR.out, HBL.out⟩
  have hqd : decide (0 < q) = true := decide_eq_true hq
  obtain ⟨b, off, x, t, u, rfl, hbB, _, hg, hc0, hc1', hc2'⟩ := HX6.out.trip hkn
  clear hg
  go_wp2_with (at_builtin; refine wpList_append_own _ rfl _ _ 35 rfl w4.heap.size 3 i0 _ 1 8 Try.underlying35 hi0 hq0 hq1 hq2 rfl (by decide) _ _ _ rfl (HQ6.out.alloc _) _ 1 1 [.int .i64 t] rfl rfl (World.news_of_block (heap_alloc_new _ _)) ?d2 ?d3 ?d4 ?d5 ?_)
  case d2 => first | (intro v hv; simp at hv; subst hv; rfl) | rfl
  case d3 => unfold maxLen; omega
  case d4 => omega
  case d5 => first | omega | (simp; omega)
  intro v7 w7 hown7 hg7 _
  have HG7 := Lib.hid (but_grown (but_alloc HG6.out _) (HQ6.out.alloc _) hg7 (by omega))
  have HBL := Lib.hid (but_mine HB1.out HG7.out hrw)
  have hz7 := HG7.out.size
  have hy7 := hg7.size
  simp only [World.size_alloc] at hy7
  have HO7 := Lib.hid (show w7.ownsRow w4.heap.size 3 1 v7 (nr + 1) (ivs (rs ++ [t])) by rw [ivs_append]; exact hown7)
  have HRD := Lib.hid (show Rd w7 0 w7.heap.size 3 (some ⟨b, off, none⟩) m (tvs ps) from
    (((HX6.out.keep (up_alloc (Below.refl _ _) _) (by omega)).far hg7 (by simp only [World.size_alloc]; omega) (fun g e => .inr (by have := (HQ6.out.lt g e).1; omega))).wide (Nat.zero_le _) (by omega)))
  obtain ⟨A4, c4, rfl, _, _⟩ := own_cap HO7.out
  have HRR := Lib.hid ((Rd.of_own HO7.out).wide (Nat.zero_le _) (Nat.le_refl _))
  clear hown7 hg7
  go_wp2
  exact bodyPost_ret (v := .tuple #[.slice (some ⟨b, off, none⟩) m c1, .int .i64 z, .int .i64 y, .slice A4 (nr + 1) c4]) (by simp [results, Try.results24, go_sem]) rfl ⟨some ⟨b, off, none⟩, m, c1, ps, z, y, A4, nr + 1, c4, rs ++ [t], rfl, hm, hc1, HS.out, HRD.out, ⟨za, zb⟩, ⟨ya, yb⟩, by omega, HRR.out, HBL.out⟩
end Go.Proofs.Ytipoakimjhfhfaa
