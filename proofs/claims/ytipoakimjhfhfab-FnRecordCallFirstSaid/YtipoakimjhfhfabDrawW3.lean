/- Drawing worklists: anyWork, someNumber, someOwner; the arguments of the laws on worklists. -/
import Derived.Test.YtipoakimjhfhfabDrawW2
set_option linter.unusedSimpArgs false
set_option linter.unusedVariables false
namespace Go.Proofs.Ytipoakimjhfhfab
open Go.RowKit

/-- A drawn number. -/
def IntPost (d : Int) (r : Nat) (A : Option Addr) (n c : Nat) (xs : List Int) (p : Int) (w : World) (e : Ending) (w' : World) : Prop :=
  ∃ q p' : Int, e = .returned (.int .i64 q) ∧ -10000 ≤ q ∧ q ≤ 10000 ∧ Rdr w' r A n c xs p' ∧ p' ≤ p + d ∧ But r w w'
theorem Rd.but {w w' : World} {lo hi size n r : Nat} {A : Option Addr} {xs : List Value} (h : Rd w lo hi size A n xs) (hG : But r w w') (hB : hi ≤ w.heap.size) (hr : r < lo) : Rd w' lo hi size A n xs :=
  h.far hG hB (fun g e => by injection e with e; omega)
theorem one_lits (r : Nat) (A : Option Addr) (n c : Nat) (xs : List Int) (p : Int) (ys : List Int) (k g : Nat) (cs : Array Value) (w : World) (h : Rdr w r A n c xs p) (hp : p ≤ 900000) (hk : ys.length = k) (hk1 : 1 ≤ k) (hk2 : k ≤ 1000) (hs : ∀ y ∈ ys, -10000 ≤ y ∧ y ≤ 10000) (hg : g = w.heap.size) (hcs : cs = (ys.map (Value.int .i64)).toArray) :
    Calls Try.prog 62 #[.pointer (some ⟨r, 0, none⟩), .slice (some ⟨g, 0, none⟩) k k] (w.alloc (.cells cs 3)) (IntPost 1 r A n c xs p w) := by
  subst hg; subst hcs
  have hb := Blk.new w 3 (ys.map (Value.int .i64)).toArray
  refine (one_any r A n c xs p _ _ k k _ ys _ (rdr_alloc h _) (by omega) (show Rd _ w.heap.size (w.heap.size + 1) 1 _ k (ivs ys) from by have := Rd.of_blk hb (n := k) (size := 1) (by simp [hk]); simpa [ivs] using this) (by simp) hk1 (by omega) (.inl h.lt)).mono ?_
  rintro e w1 ⟨q, rfl, hq, hR, hG⟩
  exact ⟨q, p + 1, rfl, (hs q hq).1, (hs q hq).2, hR, by omega, but_trans (but_alloc (but_refl r w) _) hG⟩
set_option maxRecDepth 100000 in
set_option maxHeartbeats 1600000 in
theorem anyWork_any (r : Nat) (A : Option Addr) (n c : Nat) (xs : List Int) (p : Int) (w : World) (h : Rdr w r A n c xs p) (hp : p ≤ 700000) :
    Calls Try.prog 52 #[.pointer (some ⟨r, 0, none⟩)] w (WkPost SmallT 160 r A n c xs p w) := by
  have hrl := h.lt
  obtain ⟨i0, hi0, hz0, hz1, hz2⟩ := info_parts infoItem
  go_enter Try.func52, Try.ntmps52
  go_wp2_with (fail)
  (with_reducible refine (someWork_any r A n c xs p _ h (by omega)).mono ?_)
  rintro e w1 ⟨v, m, ps, p1, rfl, ho, hv, hm, hR, hp1, hG⟩
  have HO := Lib.hid ho
  have HV := Lib.hid hv
  have hG01 := hG
  have hs1 := hG.size
  clear ho hv hG
  go_wp2_with (fail)
  (with_reducible refine (pick_any r A n c xs p1 20 _ hR (by omega) (by omega)).mono ?_)
  rintro e w2 ⟨q, rfl, q0, q1, _, hR2, hG2⟩
  have HO2 := Lib.hid (own_but HO.out hG2 hrl)
  have hG02 := but_trans hG01 hG2
  have hs2 := hG2.size
  clear hR hG01 hG2 q1 HO
  by_cases hq : q = 0
  case neg =>
    have hq1 : (q == 0) = false := by simpa using hq
    have HR2 := Lib.hid hR2
    have HG2 := Lib.hid hG02
    clear hR2 hG02 hq
    go_wp2
    go_ret
    exact ⟨v, m, ps, p1 + 1, rfl, HO2.out, SmallT.valid HV.out, hm, HR2.out, by omega, HG2.out⟩
  subst hq
  clear q0
  go_wp2_with (fail)
  (with_reducible refine (one_lits r A n c xs (p1 + 1) [0, 1, 999, 1000] 4 _ _ w2 hR2 (by omega) rfl (by omega) (by omega) (by simp) rfl (by simp)).mono ?_)
  rintro e w3 ⟨x, p3, rfl, x0, x1, hR3, hp3, hG3⟩
  have HO3 := Lib.hid (own_but HO2.out hG3 hrl)
  have hG03 := but_trans hG02 hG3
  have hs3 := hG3.size
  clear hR2 hG02 hG3 HO2
  go_wp2_with (fail)
  (with_reducible refine (one_lits r A n c xs p3 [0, -1, 6] 3 _ _ w3 hR3 (by omega) rfl (by omega) (by omega) (by simp) rfl (by simp)).mono ?_)
  rintro e w4 ⟨y, p4, rfl, y0, y1, hR4, hp4, hG4⟩
  have HO4 := Lib.hid (own_but HO3.out hG4 hrl)
  have hG04 := but_trans hG03 hG4
  have hs4 := hG4.size
  clear hR3 hG03 hG4 HO3
  go_wp2_with (fail)
  (with_reducible refine (one_lits r A n c xs p4 [0, 10, -1] 3 _ _ w4 hR4 (by omega) rfl (by omega) (by omega) (by simp) rfl (by simp)).mono ?_)
  rintro e w5 ⟨u, p5, rfl, u0, u1, hR5, hp5, hG5⟩
  have HO5 := Lib.hid (own_but HO4.out hG5 hrl)
  have HG5 := Lib.hid (but_trans hG04 hG5)
  have HR5 := Lib.hid hR5
  have hs5 := hG5.size
  clear hR4 hG04 hG5 HO4 hR5
  go_wp2_with (at_builtin; refine wpList_append_own _ rfl _ _ 23 rfl w.heap.size 30 i0 _ 3 24 Try.underlying23 hi0 hz0 hz1 hz2 rfl (by decide) _ _ _ rfl (HO5.out.alloc _) _ 1 1 [.int .i64 x, .int .i64 y, .int .i64 u] rfl rfl (World.news_of_block (heap_alloc_new _ _)) ?d2 ?d3 ?d4 ?d5 ?_)
  case d2 => first | exact ⟨rfl, rfl, rfl⟩ | (intro u hu; simp at hu; rcases hu with rfl | rfl | rfl <;> rfl)
  case d3 => unfold maxLen; omega
  case d4 => omega
  case d5 => first | omega | (simp; omega)
  intro v6 w6 hown6 hg6 _
  have HR6 := Lib.hid (rdr_grown (rdr_alloc HR5.out _) (HO5.out.alloc _) hg6 hrl)
  have HG6 := Lib.hid (but_grown (but_alloc HG5.out _) (HO5.out.alloc _) hg6 (Nat.le_refl _))
  have HO6 := Lib.hid (show w6.ownsRow w.heap.size 30 3 v6 (m + 1) (tvs (ps ++ [(x, y, u)])) by rw [tvs_append]; exact hown6)
  have HLM := Lib.hid (show m ≤ 12 by
    have h1 := vWork_len HV.out
    have h2 := HO5.out.1
    rw [tvs_length] at h2
    omega)
  clear hown6 hg6 HO5 HR5 HG5
  go_wp2
  go_ret
  refine ⟨v6, m + 1, _, p5, rfl, HO6.out, ?_, by have := HLM.out; omega, HR6.out, by omega, HG6.out⟩
  intro q hq
  rcases List.mem_append.1 hq with h1 | h1
  · exact SmallT.valid HV.out q h1
  · obtain rfl := List.mem_singleton.1 h1
    exact ⟨⟨x0, x1⟩, ⟨y0, y1⟩, ⟨u0, u1⟩⟩
set_option maxRecDepth 100000 in
set_option maxHeartbeats 800000 in
theorem someNumber_any (r : Nat) (A : Option Addr) (n c : Nat) (xs : List Int) (p : Int) (lo hi m1 c1 : Nat) (A1 : Option Addr) (ps : List Tri) (w : World) (h : Rdr w r A n c xs p) (hp : p ≤ 800000) (hr : Rd w lo hi 3 A1 m1 (tvs ps)) (hB : hi ≤ w.heap.size) (hlo : r < lo) (hm : m1 ≤ 20) (hs : SmallT ps) :
    Calls Try.prog 53 #[.pointer (some ⟨r, 0, none⟩), .slice A1 m1 c1] w (IntPost 3 r A n c xs p w) := by
  have HS := Lib.hid hs
  have HRW := Lib.hid hr
  clear hs hr
  by_cases hz : m1 = 0
  · subst hz
    go_enter Try.func53, Try.ntmps53
    go_wp2_with (fail)
    (with_reducible refine (one_lits r A n c xs p [0, 1, 5, 999, -1] 5 _ _ w h (by omega) rfl (by omega) (by omega) (by simp) rfl (by simp)).mono ?_)
    rintro e w1 ⟨x, p1, rfl, x0, x1, hR1, hp1, hG1⟩
    go_wp2
    go_ret
    exact ⟨x, p1, rfl, x0, x1, hR1, by omega, hG1⟩
  have hmz : (0 : Int) < (m1 : Int) := by omega
  have hmd : decide (0 < m1) = true := decide_eq_true (by omega)
  go_enter Try.func53, Try.ntmps53
  go_wp2_with (fail)
  (with_reducible refine (pick_any r A n c xs p 6 _ h (by omega) (by omega)).mono ?_)
  rintro e w1 ⟨q, rfl, q0, q1, _, hR1, hG1⟩
  have HR1 := Lib.hid (HRW.out.but hG1 hB hlo)
  have hs1 := hG1.size
  by_cases hq : 0 < q
  · have hqd : decide (0 < q) = true := decide_eq_true hq
    clear q1
    go_wp2_with (fail)
    (with_reducible refine (pick_any r A n c xs (p + 1) m1 _ hR1 (by omega) (by omega)).mono ?_)
    rintro e w2 ⟨y, rfl, y0, y1, _, hR2, hG2⟩
    have y2 := y1 (by omega)
    obtain ⟨k, rfl⟩ := Int.eq_ofNat_of_zero_le y0
    have hk : k < m1 := by omega
    obtain ⟨b, off, x, y, u, rfl, hbB, _, hg, hc0, hc1, hc2⟩ := (HR1.out.but hG2 (by omega) hlo).trip hk
    have hx := (HS.out _ (List.mem_of_getElem? hg)).1
    have x0 : -10000 ≤ x := hx.1
    have x1 : x ≤ 10000 := hx.2
    have HG := Lib.hid (but_trans hG1 hG2)
    have HR := Lib.hid hR2
    clear hg hx hG1 hG2 hR1 hR2 y1
    go_wp2
    go_ret
    exact ⟨x, p + 1 + 1, rfl, x0, x1, HR.out, by omega, HG.out⟩
  · have hqd : decide (0 < q) = false := decide_eq_false hq
    clear q1
    go_wp2_with (fail)
    (with_reducible refine (one_lits r A n c xs (p + 1) [0, 1, 5, 999, -1] 5 _ _ w1 hR1 (by omega) rfl (by omega) (by omega) (by simp) rfl (by simp)).mono ?_)
    rintro e w2 ⟨x, p2, rfl, x0, x1, hR2, hp2, hG2⟩
    have HG := Lib.hid (but_trans hG1 hG2)
    have HR := Lib.hid hR2
    clear hG1 hG2 hR1 hR2
    go_wp2
    go_ret
    exact ⟨x, p2, rfl, x0, x1, HR.out, by omega, HG.out⟩
set_option maxRecDepth 100000 in
set_option maxHeartbeats 800000 in
theorem someOwner_any (r : Nat) (A : Option Addr) (n c : Nat) (xs : List Int) (p : Int) (lo hi m1 c1 : Nat) (A1 : Option Addr) (ps : List Tri) (z : Int) (w : World) (h : Rdr w r A n c xs p) (hp : p ≤ 800000) (hr : Rd w lo hi 3 A1 m1 (tvs ps)) (hB : hi ≤ w.heap.size) (hlo : r < lo) (hm : m1 ≤ 20) (hs : SmallT ps) :
    Calls Try.prog 54 #[.pointer (some ⟨r, 0, none⟩), .slice A1 m1 c1, .int .i64 z] w (IntPost 3 r A n c xs p w) := by
  have HS := Lib.hid hs
  have HRW := Lib.hid hr
  have HL := Lib.hid hr.len3
  clear hs hr
  go_enter Try.func54, Try.ntmps54
  go_wp2_with (fail)
  (with_reducible refine (itemAtS_any lo hi m1 c1 A1 ps z _ HRW.out (by omega)).mono ?_)
  rintro e w0 ⟨q, rfl, hq, rfl⟩
  rcases hq with ⟨rfl, hat⟩ | ⟨k, pp, rfl, hk, hat, hpz⟩
  · clear hat
    go_wp2_with (fail)
    (with_reducible refine (one_lits r A n c xs p [1, 2, 3, 0, 9, 10] 6 _ _ w h (by omega) rfl (by omega) (by omega) (by simp) rfl (by simp)).mono ?_)
    rintro e w1 ⟨x, p1, rfl, x0, x1, hR1, hp1, hG1⟩
    go_wp2
    go_ret
    exact ⟨x, p1, rfl, x0, x1, hR1, by omega, hG1⟩
  have hkn : k < m1 := by rw [← HL.out]; exact (List.getElem?_eq_some_iff.1 hk).1
  have hkz : (k : Int) < (m1 : Int) := by omega
  have hk0 : (0 : Int) ≤ (k : Int) := by omega
  have hkd : decide ((0 : Int) ≤ (k : Int)) = true := decide_eq_true (by omega)
  clear hat hk hpz
  go_wp2_with (fail)
  (with_reducible refine (pick_any r A n c xs p 4 _ h (by omega) (by omega)).mono ?_)
  rintro e w1 ⟨q, rfl, q0, q1, _, hR1, hG1⟩
  have hs1 := hG1.size
  by_cases hq : 0 < q
  · have hqd : decide (0 < q) = true := decide_eq_true hq
    obtain ⟨b, off, x, y, u, rfl, hbB, _, hg, hc0, hc1, hc2⟩ := (HRW.out.but hG1 hB hlo).trip hkn
    have hu := (HS.out _ (List.mem_of_getElem? hg)).2.2
    have u0 : -10000 ≤ u := hu.1
    have u1 : u ≤ 10000 := hu.2
    have HG := Lib.hid hG1
    have HR := Lib.hid hR1
    clear hg hu hG1 hR1 q1
    go_wp2
    go_ret
    exact ⟨u, p + 1, rfl, u0, u1, HR.out, by omega, HG.out⟩
  · have hqd : decide (0 < q) = false := decide_eq_false hq
    clear q1
    go_wp2_with (fail)
    (with_reducible refine (one_lits r A n c xs (p + 1) [1, 2, 3, 0, 9, 10] 6 _ _ w1 hR1 (by omega) rfl (by omega) (by omega) (by simp) rfl (by simp)).mono ?_)
    rintro e w2 ⟨x, p2, rfl, x0, x1, hR2, hp2, hG2⟩
    have HG := Lib.hid (but_trans hG1 hG2)
    have HR := Lib.hid hR2
    clear hG1 hG2 hR1 hR2
    go_wp2
    go_ret
    exact ⟨x, p2, rfl, x0, x1, HR.out, by omega, HG.out⟩
end Go.Proofs.Ytipoakimjhfhfab
