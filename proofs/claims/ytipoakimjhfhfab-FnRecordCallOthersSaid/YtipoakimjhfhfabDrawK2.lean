/- The arguments of the laws on clients. (Written by gen/drawk.py.) -/
import Derived.Test.YtipoakimjhfhfabDrawK1
set_option linter.unusedSimpArgs false
set_option linter.unusedVariables false
namespace Go.Proofs.Ytipoakimjhfhfab
open Go.RowKit

/-- Behind a reader of its own, whatever changed below is the reader's. -/
theorem but_mineK {r : Nat} {w w1 w2 : World} (h : Below w.heap.size w w1) (hG : But r w1 w2) (hr : w.heap.size ≤ r) : Below w.heap.size w w2 :=
  h.grown hG h.size (fun j hj => by injection hj with hj; omega)
/-- One of a block of numbers that stands. -/
theorem one_at (r : Nat) (A : Option Addr) (n c : Nat) (xs : List Int) (p : Int) (ys : List Int) (k g : Nat) (cs : Array Value) (w : World) (h : Rdr w r A n c xs p) (hp : p ≤ 900000) (hk : ys.length = k) (hk1 : 1 ≤ k) (hk2 : k ≤ 1000) (hs : ∀ y ∈ ys, -10000 ≤ y ∧ y ≤ 10000) (hb : Blk w g 3 cs) (hg : r < g) (hcs : cs = (ys.map (Value.int .i64)).toArray) :
    Calls Try.prog 62 #[.pointer (some ⟨r, 0, none⟩), .slice (some ⟨g, 0, none⟩) k k] w (IntPost 1 r A n c xs p w) := by
  subst hcs
  refine (one_any r A n c xs p _ _ k k _ ys _ h (by omega) (show Rd _ g (g + 1) 1 _ k (ivs ys) from by have := Rd.of_blk hb (n := k) (size := 1) (by simp [hk]); simpa [ivs] using this) (by have := hb.lt; omega) hk1 (by omega) (.inl hg)).mono ?_
  rintro e w1 ⟨q, rfl, hq, hR, hG⟩
  exact ⟨q, p + 1, rfl, (hs q hq).1, (hs q hq).2, hR, by omega, hG⟩
def DrawQ (w : World) (e : Ending) (w' : World) : Prop :=
  ∃ (A1 : Option Addr) (m c1 : Nat) (ps : List Qd), e = .returned (.slice A1 m c1) ∧ m ≤ 20 ∧ m ≤ c1 ∧ SmallQ ps ∧ Rd w' w.heap.size w'.heap.size 4 A1 m (qvs ps) ∧ Below w.heap.size w w'
def DrawQI (w : World) (e : Ending) (w' : World) : Prop :=
  ∃ (A1 : Option Addr) (m c1 : Nat) (ps : List Qd) (z0 : Int), e = .returned (.tuple #[.slice A1 m c1, .int .i64 z0]) ∧ m ≤ 20 ∧ m ≤ c1 ∧ SmallQ ps ∧ Rd w' w.heap.size w'.heap.size 4 A1 m (qvs ps) ∧ (-20000 ≤ z0 ∧ z0 ≤ 20000) ∧ Below w.heap.size w w'
def DrawQII (w : World) (e : Ending) (w' : World) : Prop :=
  ∃ (A1 : Option Addr) (m c1 : Nat) (ps : List Qd) (z0 : Int) (z1 : Int), e = .returned (.tuple #[.slice A1 m c1, .int .i64 z0, .int .i64 z1]) ∧ m ≤ 20 ∧ m ≤ c1 ∧ SmallQ ps ∧ Rd w' w.heap.size w'.heap.size 4 A1 m (qvs ps) ∧ (-20000 ≤ z0 ∧ z0 ≤ 20000) ∧ (-20000 ≤ z1 ∧ z1 ≤ 20000) ∧ Below w.heap.size w w'
def DrawQIIII (w : World) (e : Ending) (w' : World) : Prop :=
  ∃ (A1 : Option Addr) (m c1 : Nat) (ps : List Qd) (z0 : Int) (z1 : Int) (z2 : Int) (z3 : Int), e = .returned (.tuple #[.slice A1 m c1, .int .i64 z0, .int .i64 z1, .int .i64 z2, .int .i64 z3]) ∧ m ≤ 20 ∧ m ≤ c1 ∧ SmallQ ps ∧ Rd w' w.heap.size w'.heap.size 4 A1 m (qvs ps) ∧ (-20000 ≤ z0 ∧ z0 ≤ 20000) ∧ (-20000 ≤ z1 ∧ z1 ≤ 20000) ∧ (-20000 ≤ z2 ∧ z2 ≤ 20000) ∧ (-20000 ≤ z3 ∧ z3 ≤ 20000) ∧ Below w.heap.size w w'
set_option maxRecDepth 100000 in
set_option maxHeartbeats 1600000 in
theorem drawValidClients_any (n c : Nat) (A : Option Addr) (xs : List Int) (w : World) (hr : Rd w 0 w.heap.size 1 A n (bvs xs)) (hby : Bytes xs) (hn : n ≤ 1048576) (hc : n ≤ c) (hc2 : c ≤ 9223372036854775807) :
    Calls Try.prog 27 #[.slice A n c] w (DrawQ w) := by
  go_enter Try.func27, Try.ntmps27
  go_wp2_with (fail)
  (with_reducible refine (newReader_any n c A xs _ hr hby hn hc hc2).mono ?_)
  rintro e w1 ⟨r, n', c', xs', rfl, hrw, hR1, hb1⟩
  have hrl := hR1.lt
  have HB1 := Lib.hid hb1
  clear hr hb1
  go_wp2_with (fail)
  (with_reducible refine (anyClients_any r A n' c' xs' 0 w1 hR1 (by omega)).mono ?_)
  rintro e w2 ⟨v, m, ps, p2, rfl, ho2, hs, hm, hR2, hp2, hG2⟩
  have HO2 := Lib.hid ho2
  have HS := Lib.hid hs
  have HR2 := Lib.hid hR2
  have HG2 := Lib.hid hG2
  have hz2 := hG2.size
  clear hR1 ho2 hs hR2 hG2
  obtain ⟨A1, c1, rfl, hk1, _⟩ := own_cap HO2.out
  have HRD := Lib.hid ((Rd.of_own HO2.out).wide HB1.out.size (Nat.le_refl _))
  have HBL := Lib.hid (but_mineK HB1.out HG2.out hrw)
  go_wp2
  go_ret
  exact ⟨A1, m, c1, ps, rfl, hm, hk1, HS.out, HRD.out, HBL.out⟩
set_option maxRecDepth 100000 in
set_option maxHeartbeats 1600000 in
theorem drawForgetClients_any (n c : Nat) (A : Option Addr) (xs : List Int) (w : World) (hr : Rd w 0 w.heap.size 1 A n (bvs xs)) (hby : Bytes xs) (hn : n ≤ 1048576) (hc : n ≤ c) (hc2 : c ≤ 9223372036854775807) :
    Calls Try.prog 40 #[.slice A n c] w (DrawQI w) := by
  go_enter Try.func40, Try.ntmps40
  go_wp2_with (fail)
  (with_reducible refine (newReader_any n c A xs _ hr hby hn hc hc2).mono ?_)
  rintro e w1 ⟨r, n', c', xs', rfl, hrw, hR1, hb1⟩
  have hrl := hR1.lt
  have HB1 := Lib.hid hb1
  clear hr hb1
  go_wp2_with (fail)
  (with_reducible refine (anyClients_any r A n' c' xs' 0 w1 hR1 (by omega)).mono ?_)
  rintro e w2 ⟨v, m, ps, p2, rfl, ho2, hs, hm, hR2, hp2, hG2⟩
  have HO2 := Lib.hid ho2
  have HS := Lib.hid hs
  have HR2 := Lib.hid hR2
  have HG2 := Lib.hid hG2
  have hz2 := hG2.size
  clear hR1 ho2 hs hR2 hG2
  obtain ⟨A1, c1, rfl, hk1, _⟩ := own_cap HO2.out
  go_wp2_with (fail)
  (with_reducible refine (one_lits r A n' c' xs' p2 [0, 20, 50, 80, 100, -1] 6 _ _ w2 HR2.out (by omega) rfl (by omega) (by omega) (by simp) rfl (by simp)).mono ?_)
  rintro e w3 ⟨z, p3, rfl, za, zb, hR3, hp3, hG3⟩
  have HO3 := Lib.hid (own_but HO2.out hG3 hrl)
  have HR3 := Lib.hid hR3
  have HG3 := Lib.hid (but_trans HG2.out hG3)
  have hz3 := HG3.out.size
  have hy3 := hG3.size
  clear hR3 hG3 HO2 HR2 HG2
  have HRD := Lib.hid ((Rd.of_own HO3.out).wide HB1.out.size (Nat.le_refl _))
  have HBL := Lib.hid (but_mineK HB1.out HG3.out hrw)
  go_wp2
  exact bodyPost_ret (v := .tuple #[.slice A1 m c1, .int .i64 z]) (by simp [results, Try.results40, go_sem]) rfl ⟨A1, m, c1, ps, z, rfl, hm, hk1, HS.out, HRD.out, ⟨by omega, by omega⟩, HBL.out⟩
set_option maxRecDepth 100000 in
set_option maxHeartbeats 1600000 in
theorem drawCheckCall_any (n c : Nat) (A : Option Addr) (xs : List Int) (w : World) (hr : Rd w 0 w.heap.size 1 A n (bvs xs)) (hby : Bytes xs) (hn : n ≤ 1048576) (hc : n ≤ c) (hc2 : c ≤ 9223372036854775807) :
    Calls Try.prog 30 #[.slice A n c] w (DrawQII w) := by
  go_enter Try.func30, Try.ntmps30
  go_wp2_with (fail)
  (with_reducible refine (newReader_any n c A xs _ hr hby hn hc hc2).mono ?_)
  rintro e w1 ⟨r, n', c', xs', rfl, hrw, hR1, hb1⟩
  have hrl := hR1.lt
  have HB1 := Lib.hid hb1
  clear hr hb1
  go_wp2_with (fail)
  (with_reducible refine (anyClients_any r A n' c' xs' 0 w1 hR1 (by omega)).mono ?_)
  rintro e w2 ⟨v, m, ps, p2, rfl, ho2, hs, hm, hR2, hp2, hG2⟩
  have HO2 := Lib.hid ho2
  have HS := Lib.hid hs
  have HR2 := Lib.hid hR2
  have HG2 := Lib.hid hG2
  have hz2 := hG2.size
  clear hR1 ho2 hs hR2 hG2
  obtain ⟨A1, c1, rfl, hk1, _⟩ := own_cap HO2.out
  by_cases hmz : m = 0
  · subst hmz
    go_wp2_with (fail)
    (with_reducible refine (one_lits r A n' c' xs' p2 [0, 5, 9, 10, -1] 5 _ _ w2 HR2.out (by omega) rfl (by omega) (by omega) (by simp) rfl (by simp)).mono ?_)
    rintro e w3 ⟨z, p3, rfl, za, zb, hR3, hp3, hG3⟩
    have HO3 := Lib.hid (own_but HO2.out hG3 hrl)
    have HR3 := Lib.hid hR3
    have HG3 := Lib.hid (but_trans HG2.out hG3)
    have hz3 := HG3.out.size
    have hy3 := hG3.size
    clear hR3 hG3 HO2 HR2 HG2
    go_wp2_with (fail)
    (with_reducible refine (one_lits r A n' c' xs' p3 [1, 2, 0, 999, 1000] 5 _ _ w3 HR3.out (by omega) rfl (by omega) (by omega) (by simp) rfl (by simp)).mono ?_)
    rintro e w4 ⟨y, p4, rfl, ya, yb, hR4, hp4, hG4⟩
    have HO4 := Lib.hid (own_but HO3.out hG4 hrl)
    have HR4 := Lib.hid hR4
    have HG4 := Lib.hid (but_trans HG3.out hG4)
    have hz4 := HG4.out.size
    have hy4 := hG4.size
    clear hR4 hG4 HO3 HR3 HG3
    have HRD := Lib.hid ((Rd.of_own HO4.out).wide HB1.out.size (Nat.le_refl _))
    have HBL := Lib.hid (but_mineK HB1.out HG4.out hrw)
    go_wp2
    exact bodyPost_ret (v := .tuple #[.slice A1 0 c1, .int .i64 z, .int .i64 y]) (by simp [results, Try.results30, go_sem]) rfl ⟨A1, 0, c1, ps, z, y, rfl, hm, hk1, HS.out, HRD.out, ⟨by omega, by omega⟩, ⟨by omega, by omega⟩, HBL.out⟩
  have hm0 : (0 : Int) < (m : Int) := by omega
  have hmd : decide (0 < m) = true := decide_eq_true (by omega)
  go_wp2_with (fail)
  (with_reducible refine (pick_any r A n' c' xs' p2 3 _ HR2.out (by omega) (by omega)).mono ?_)
  rintro e w3 ⟨q, rfl, q0, q1, _, hR3, hG3⟩
  have HO3 := Lib.hid (own_but HO2.out hG3 hrl)
  have HR3 := Lib.hid hR3
  have HG3 := Lib.hid (but_trans HG2.out hG3)
  have hz3 := HG3.out.size
  have hy3 := hG3.size
  clear hR3 hG3 HO2 HR2 HG2
  clear q1
  by_cases hq : 0 < q
  case neg =>
    have hqd : decide (0 < q) = false := decide_eq_false hq
    go_wp2_with (fail)
    (with_reducible refine (one_lits r A n' c' xs' (p2 + 1) [0, 5, 9, 10, -1] 5 _ _ w3 HR3.out (by omega) rfl (by omega) (by omega) (by simp) rfl (by simp)).mono ?_)
    rintro e w4 ⟨z, p4, rfl, za, zb, hR4, hp4, hG4⟩
    have HO4 := Lib.hid (own_but HO3.out hG4 hrl)
    have HR4 := Lib.hid hR4
    have HG4 := Lib.hid (but_trans HG3.out hG4)
    have hz4 := HG4.out.size
    have hy4 := hG4.size
    clear hR4 hG4 HO3 HR3 HG3
    go_wp2_with (fail)
    (with_reducible refine (one_lits r A n' c' xs' p4 [1, 2, 0, 999, 1000] 5 _ _ w4 HR4.out (by omega) rfl (by omega) (by omega) (by simp) rfl (by simp)).mono ?_)
    rintro e w5 ⟨y, p5, rfl, ya, yb, hR5, hp5, hG5⟩
    have HO5 := Lib.hid (own_but HO4.out hG5 hrl)
    have HR5 := Lib.hid hR5
    have HG5 := Lib.hid (but_trans HG4.out hG5)
    have hz5 := HG5.out.size
    have hy5 := hG5.size
    clear hR5 hG5 HO4 HR4 HG4
    have HRD := Lib.hid ((Rd.of_own HO5.out).wide HB1.out.size (Nat.le_refl _))
    have HBL := Lib.hid (but_mineK HB1.out HG5.out hrw)
    go_wp2
    exact bodyPost_ret (v := .tuple #[.slice A1 m c1, .int .i64 z, .int .i64 y]) (by simp [results, Try.results30, go_sem]) rfl ⟨A1, m, c1, ps, z, y, rfl, hm, hk1, HS.out, HRD.out, ⟨by omega, by omega⟩, ⟨by omega, by omega⟩, HBL.out⟩
  have hqd : decide (0 < q) = true := decide_eq_true hq
  go_wp2_with (fail)
  (with_reducible refine (pick_any r A n' c' xs' (p2 + 1) m _ HR3.out (by omega) (by omega)).mono ?_)
  rintro e w4 ⟨y, rfl, y0, y1, _, hR4, hG4⟩
  have y2 := y1 (by omega)
  obtain ⟨k, rfl⟩ := Int.eq_ofNat_of_zero_le y0
  have hk : k < m := by omega
  have HO4 := Lib.hid (own_but HO3.out hG4 hrl)
  have HR4 := Lib.hid hR4
  have HG4 := Lib.hid (but_trans HG3.out hG4)
  have hz4 := HG4.out.size
  have hy4 := hG4.size
  clear hR4 hG4 HO3 HR3 HG3
  clear y1
  obtain ⟨b, off, x, y, u, t, rfl, hbB, _, hg, hc0, hc1', hc2', hc3'⟩ := (Rd.of_own HO4.out).quad hk
  have hxy := HS.out _ (List.mem_of_getElem? hg)
  have x0 : -10000 ≤ x := hxy.1.1
  have x1 : x ≤ 10000 := hxy.1.2
  have y3 : -10000 ≤ y := hxy.2.1
  have y4 : y ≤ 10000 := hxy.2.2
  clear hg hxy
  have HE := Lib.hid (Blk.new w4 45 #[.int .i64 x, .int .i64 y, .int .i64 u, .int .i64 t])
  have HO5 := Lib.hid (HO4.out.alloc (.cells #[.int .i64 x, .int .i64 y, .int .i64 u, .int .i64 t] 45))
  have HR5 := Lib.hid (rdr_alloc HR4.out (.cells #[.int .i64 x, .int .i64 y, .int .i64 u, .int .i64 t] 45))
  have HG5 := Lib.hid (but_alloc HG4.out (.cells #[.int .i64 x, .int .i64 y, .int .i64 u, .int .i64 t] 45))
  go_upto_region 5 with fail
  clear hc0 hc1' hc2' hc3' HO4 HR4 HG4
  generalize hw5 : w4.alloc (.cells #[.int .i64 x, .int .i64 y, .int .i64 u, .int .i64 t] 45) = w5 at *
  clear hw5
  have d0 : w5.cell? ⟨w4.heap.size, 0, none⟩ = some (.int .i64 x) := HE.out.cell 0
  have d1 : w5.cell? ⟨w4.heap.size, 1, none⟩ = some (.int .i64 y) := HE.out.cell 1
  have HLT := Lib.hid HE.out.lt
  have HSB := Lib.hid ((Blk.new w5 3 #[.int .i64 1, .int .i64 0, .int .i64 (-1), .int .i64 2, .int .i64 1]).drew)
  have HEB := Lib.hid ((HE.out.alloc (.cells #[.int .i64 1, .int .i64 0, .int .i64 (-1), .int .i64 2, .int .i64 1] 3)).drew)
  have HRB := Lib.hid (rdr_drew (rdr_alloc HR5.out (.cells #[.int .i64 1, .int .i64 0, .int .i64 (-1), .int .i64 2, .int .i64 1] 3)))
  have HOB := Lib.hid (own_drew (HO5.out.alloc (.cells #[.int .i64 1, .int .i64 0, .int .i64 (-1), .int .i64 2, .int .i64 1] 3)))
  have HGB := Lib.hid (but_drew (but_alloc HG5.out (.cells #[.int .i64 1, .int .i64 0, .int .i64 (-1), .int .i64 2, .int .i64 1] 3)))
  have hr5 : r < w5.heap.size := by have := HLT.out; omega
  go_region_held3 (fun w' => w'.cell? ⟨w4.heap.size, 0, none⟩ = some (.int .i64 x) ∧ w'.cell? ⟨w4.heap.size, 1, none⟩ = some (.int .i64 y))
    (first | exact ⟨d0, d1⟩ | exact ⟨HEB.out.cell 0, HEB.out.cell 1⟩ | exact ⟨hE6.cell 0, hE6.cell 1⟩)
    ((first
      | (go_at_call 62; (with_reducible refine (one_at r A n' c' xs' (p2 + 1 + 1) [1, 0, -1, 2, 1] 5 _ _ _ HRB.out (by omega) rfl (by omega) (by omega) (by simp) HSB.out hr5 (by simp)).mono ?_)
         rintro e w6 ⟨d, p6, rfl, da, db, hR6, hp6, hG6⟩
         have hE6 := HEB.out.but hG6 (by omega)
         have hwd : IntKind.i64.wrap (y + d) = y + d := IntWalk.i64_in _ (by omega))))
  have HRD := Lib.hid ((Rd.of_own (own_but HOB.out hG6 hrl)).wide HB1.out.size (Nat.le_refl _))
  have HBL := Lib.hid (but_mineK HB1.out (but_trans HGB.out hG6) hrw)
  go_wp2
  exact bodyPost_ret (v := .tuple #[.slice (some ⟨b, off, none⟩) m c1, .int .i64 x, .int .i64 (y + d)]) (by simp [results, Try.results30, go_sem]) rfl ⟨_, m, c1, ps, x, y + d, rfl, hm, hk1, HS.out, HRD.out, ⟨by omega, by omega⟩, ⟨by omega, by omega⟩, HBL.out⟩
set_option maxRecDepth 100000 in
theorem drawReplyOf_any (n c : Nat) (A : Option Addr) (xs : List Int) (w : World) (hr : Rd w 0 w.heap.size 1 A n (bvs xs)) (hby : Bytes xs) (hn : n ≤ 1048576) (hc : n ≤ c) (hc2 : c ≤ 9223372036854775807) :
    Calls Try.prog 38 #[.slice A n c] w (DrawQII w) := by
  go_enter Try.func38, Try.ntmps38
  go_wp2_with (fail)
  (with_reducible refine (drawCheckCall_any n c A xs _ hr hby hn hc hc2).mono ?_)
  rintro e w1 ⟨A1, m, c1, ps, z0, z1, rfl, hm, hk1, hs, hrd, hz0, hz1, hb⟩
  have HS := Lib.hid hs
  have HRD := Lib.hid hrd
  have HB := Lib.hid hb
  have HZ := Lib.hid (And.intro hz0 hz1)
  clear hs hrd hb hz0 hz1 hr
  go_wp2
  exact bodyPost_ret (v := .tuple #[.slice A1 m c1, .int .i64 z0, .int .i64 z1]) (by simp [results, Try.results38, go_sem]) rfl ⟨A1, m, c1, ps, z0, z1, rfl, hm, hk1, HS.out, HRD.out, HZ.out.1, HZ.out.2, HB.out⟩
set_option maxRecDepth 100000 in
set_option maxHeartbeats 1600000 in
theorem drawRecordCall_any (n c : Nat) (A : Option Addr) (xs : List Int) (w : World) (hr : Rd w 0 w.heap.size 1 A n (bvs xs)) (hby : Bytes xs) (hn : n ≤ 1048576) (hc : n ≤ c) (hc2 : c ≤ 9223372036854775807) :
    Calls Try.prog 33 #[.slice A n c] w (DrawQIIII w) := by
  go_enter Try.func33, Try.ntmps33
  go_wp2_with (fail)
  (with_reducible refine (newReader_any n c A xs _ hr hby hn hc hc2).mono ?_)
  rintro e w1 ⟨r, n', c', xs', rfl, hrw, hR1, hb1⟩
  have hrl := hR1.lt
  have HB1 := Lib.hid hb1
  have HRN := Lib.hid (hr.keep hb1 (Nat.le_refl _))
  clear hr hb1
  go_wp2_with (fail)
  (with_reducible refine (drawCheckCall_any n c A xs w1 (HRN.out.wide (Nat.le_refl _) HB1.out.size) hby hn hc hc2).mono ?_)
  rintro e w2 ⟨A1, m, c1, ps, z0, z1, rfl, hm, hk1, hs, hrd, ⟨z0a, z0b⟩, ⟨z1a, z1b⟩, hb2⟩
  have HS := Lib.hid hs
  have HX2 := Lib.hid hrd
  have HR2 := Lib.hid (hR1.below hb2)
  have HB2 := Lib.hid (up HB1.out hb2)
  have hz2 := hb2.size
  clear hs hrd hb2 hR1 HRN
  go_wp2_with (fail)
  (with_reducible refine (pick_any r A n' c' xs' 0 100 _ HR2.out (by omega) (by omega)).mono ?_)
  rintro e w3 ⟨q, rfl, q0, q1, _, hR3, hG3⟩
  have q2 := q1 (by omega)
  have hwq : IntKind.i64.wrap (q - 50) = q - 50 := IntWalk.i64_in _ (by omega)
  have HX3 := Lib.hid (HX2.out.but hG3 (Nat.le_refl _) hrl)
  have HR3 := Lib.hid hR3
  have HG3 := Lib.hid hG3
  have hz3 := hG3.size
  clear hR3 hG3 q1 HR2 HX2
  go_wp2_with (fail)
  (with_reducible refine (one_lits r A n' c' xs' (0 + 1) [5, 50, 9999, 10000, -1, 20] 6 _ _ w3 HR3.out (by omega) rfl (by omega) (by omega) (by simp) rfl (by simp)).mono ?_)
  rintro e w4 ⟨y, p4, rfl, ya, yb, hR4, hp4, hG4⟩
  have HX4 := Lib.hid ((HX3.out.but hG4 (by omega) hrl).wide HB1.out.size (hi' := w4.heap.size) (by have := hG4.size; omega))
  have HBL := Lib.hid (but_mineK HB2.out (but_trans HG3.out hG4) hrw)
  clear hR4 hG4
  go_wp2
  exact bodyPost_ret (v := .tuple #[.slice A1 m c1, .int .i64 z0, .int .i64 z1, .int .i64 (q - 50), .int .i64 y]) (by simp [results, Try.results33, go_sem]) rfl ⟨A1, m, c1, ps, z0, z1, q - 50, y, rfl, hm, hk1, HS.out, HX4.out, ⟨z0a, z0b⟩, ⟨z1a, z1b⟩, ⟨by omega, by omega⟩, ⟨by omega, by omega⟩, HBL.out⟩
end Go.Proofs.Ytipoakimjhfhfab
