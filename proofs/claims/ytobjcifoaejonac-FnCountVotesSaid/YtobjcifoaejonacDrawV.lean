/- Drawing voters: anyVoter; the arguments of AskVote. (Written by gen/drawv.py.) -/
import Derived.Test.YtobjcifoaejonacDrawL1
import Derived.Test.YtobjcifoaejonacDelRun
set_option linter.unusedSimpArgs false
set_option linter.unusedVariables false
namespace Go.Proofs.Ytobjcifoaejonac
open Go.RowKit

theorem Blk.butV {w w' : World} {g r : Nat} {t : TypeId} {cs : Array Value} (h : Blk w g t cs) (hG : But r w w') (hne : g ≠ r) : Blk w' g t cs := h.grown hG (fun e => hne (by injection e))
theorem rdr_setV {w : World} {r : Nat} {A : Option Addr} {n c : Nat} {xs : List Int} {p : Int} (h : Rdr w r A n c xs p) {q : Addr} (hq : r < q.block) (u : Value) : Rdr (w.setCell q u) r A n c xs p :=
  ⟨h.1.far (by omega) u, h.2.1.setCell (.inr (by omega)) u, h.2.2⟩
/-- A drawn voter. -/
def VtrPost (d : Int) (r : Nat) (A : Option Addr) (n c : Nat) (xs : List Int) (p : Int) (w : World) (e : Ending) (w' : World) : Prop :=
  ∃ (x y : Int) (A1 : Option Addr) (m c1 : Nat) (ps : List En) (p' : Int), e = .returned (.agg #[.int .i64 x, .int .i64 y, .slice A1 m c1]) ∧ (-10000 ≤ x ∧ x ≤ 10000) ∧ (-10000 ≤ y ∧ y ≤ 10000) ∧ m ≤ 17 ∧ m ≤ c1 ∧ SmallE ps ∧ w'.ownsRow w.heap.size 57 2 (.slice A1 m c1) m (pvs ps) ∧ Rdr w' r A n c xs p' ∧ p' ≤ p + d ∧ But r w w'
/-- A voter that is being drawn: it stands in block g, block q is for the answer. -/
structure DVot (w : World) (r : Nat) (A : Option Addr) (n c : Nat) (xs : List Int) (q g : Nat) (p x y : Int) (A1 : Option Addr) (m c1 : Nat) (ps : List En) (wx : World) : Prop where
  E : Blk wx g 25 #[.int .i64 x, .int .i64 y, .slice A1 m c1]
  Q : Blk wx q 25 #[.int .i64 0, .int .i64 0, .slice none 0 0]
  O : wx.ownsRow w.heap.size 57 2 (.slice A1 m c1) m (pvs ps)
  R : Rdr wx r A n c xs p
  G : But r w wx
  hg : w.heap.size ≤ g
  hq : w.heap.size ≤ q
  hqg : q ≠ g
  hr : r < w.heap.size
  ne : ∀ k, (Value.slice A1 m c1).ownBlock = some k → k ≠ g ∧ k ≠ q
section
variable {w wx wy : World} {r : Nat} {A : Option Addr} {n c : Nat} {xs : List Int} {q g : Nat} {p p' x y : Int} {A1 : Option Addr} {m c1 : Nat} {ps : List En}
theorem DVot.but (h : DVot w r A n c xs q g p x y A1 m c1 ps wx) (hG : But r wx wy) (hR : Rdr wy r A n c xs p') : DVot w r A n c xs q g p' x y A1 m c1 ps wy :=
  ⟨h.E.butV hG (by have := h.hg; have := h.hr; omega), h.Q.butV hG (by have := h.hq; have := h.hr; omega), own_but h.O hG h.hr, hR, but_trans h.G hG, h.hg, h.hq, h.hqg, h.hr, h.ne⟩
theorem DVot.put0 (h : DVot w r A n c xs q g p x y A1 m c1 ps wx) (z : Int) : DVot w r A n c xs q g p z y A1 m c1 ps (wx.setCell ⟨g, 0, none⟩ (.int .i64 z)) :=
  ⟨by simpa using h.E.put 0 (.int .i64 z), h.Q.far (p := ⟨g, 0, none⟩) h.hqg _, own_set h.O _ (fun k hk => (h.ne k hk).1), rdr_setV h.R (q := ⟨g, 0, none⟩) (by have := h.hg; have := h.hr; show r < g; omega) _, but_put h.G (p := ⟨g, 0, none⟩) (.inr h.hg) _, h.hg, h.hq, h.hqg, h.hr, h.ne⟩
theorem DVot.put1 (h : DVot w r A n c xs q g p x y A1 m c1 ps wx) (z : Int) : DVot w r A n c xs q g p x z A1 m c1 ps (wx.setCell ⟨g, 1, none⟩ (.int .i64 z)) :=
  ⟨by simpa using h.E.put 1 (.int .i64 z), h.Q.far (p := ⟨g, 1, none⟩) h.hqg _, own_set h.O _ (fun k hk => (h.ne k hk).1), rdr_setV h.R (q := ⟨g, 1, none⟩) (by have := h.hg; have := h.hr; show r < g; omega) _, but_put h.G (p := ⟨g, 1, none⟩) (.inr h.hg) _, h.hg, h.hq, h.hqg, h.hr, h.ne⟩
theorem DVot.put2 (h : DVot w r A n c xs q g p x y A1 m c1 ps wx) {A2 : Option Addr} {m2 c2 base : Nat} {qs : List En} (ho : wx.ownsRow base 57 2 (.slice A2 m2 c2) m2 (pvs qs)) (hb1 : g < base) (hb2 : q < base) : DVot w r A n c xs q g p x y A2 m2 c2 qs (wx.setCell ⟨g, 2, none⟩ (.slice A2 m2 c2)) :=
  have hne : ∀ k, (Value.slice A2 m2 c2).ownBlock = some k → k ≠ g ∧ k ≠ q := fun k hk => by have := ho.lt k hk; omega
  ⟨by simpa using h.E.put 2 (.slice A2 m2 c2), h.Q.far (p := ⟨g, 2, none⟩) h.hqg _, own_base (own_set ho _ (fun k hk => (hne k hk).1)) (by have := h.hg; omega), rdr_setV h.R (q := ⟨g, 2, none⟩) (by have := h.hg; have := h.hr; show r < g; omega) _, but_put h.G (p := ⟨g, 2, none⟩) (.inr h.hg) _, h.hg, h.hq, h.hqg, h.hr, hne⟩
/-- It is laid into the answer's block. -/
theorem DVot.fin (h : DVot w r A n c xs q g p x y A1 m c1 ps wx) :
    (((wx.setCell ⟨q, 0, none⟩ (.int .i64 x)).setCell ⟨q, 1, none⟩ (.int .i64 y)).setCell ⟨q, 2, none⟩ (.slice A1 m c1)).cell? ⟨q, 0, none⟩ = some (.int .i64 x) ∧
    (((wx.setCell ⟨q, 0, none⟩ (.int .i64 x)).setCell ⟨q, 1, none⟩ (.int .i64 y)).setCell ⟨q, 2, none⟩ (.slice A1 m c1)).cell? ⟨q, 1, none⟩ = some (.int .i64 y) ∧
    (((wx.setCell ⟨q, 0, none⟩ (.int .i64 x)).setCell ⟨q, 1, none⟩ (.int .i64 y)).setCell ⟨q, 2, none⟩ (.slice A1 m c1)).cell? ⟨q, 2, none⟩ = some (.slice A1 m c1) ∧
    (((wx.setCell ⟨q, 0, none⟩ (.int .i64 x)).setCell ⟨q, 1, none⟩ (.int .i64 y)).setCell ⟨q, 2, none⟩ (.slice A1 m c1)).ownsRow w.heap.size 57 2 (.slice A1 m c1) m (pvs ps) ∧
    Rdr (((wx.setCell ⟨q, 0, none⟩ (.int .i64 x)).setCell ⟨q, 1, none⟩ (.int .i64 y)).setCell ⟨q, 2, none⟩ (.slice A1 m c1)) r A n c xs p ∧
    But r w (((wx.setCell ⟨q, 0, none⟩ (.int .i64 x)).setCell ⟨q, 1, none⟩ (.int .i64 y)).setCell ⟨q, 2, none⟩ (.slice A1 m c1)) := by
  have hz := ((h.Q.put 0 (.int .i64 x)).put 1 (.int .i64 y)).put 2 (.slice A1 m c1)
  have h1 : r < q := by have := h.hq; have := h.hr; omega
  refine ⟨by simpa using hz.cell 0, by simpa using hz.cell 1, by simpa using hz.cell 2, own_set (own_set (own_set h.O _ (fun k hk => (h.ne k hk).2)) _ (fun k hk => (h.ne k hk).2)) _ (fun k hk => (h.ne k hk).2), ?_, ?_⟩
  · exact rdr_setV (q := ⟨q, 2, none⟩) (rdr_setV (q := ⟨q, 1, none⟩) (rdr_setV (q := ⟨q, 0, none⟩) h.R h1 _) h1 _) h1 _
  · exact but_put (p := ⟨q, 2, none⟩) (but_put (p := ⟨q, 1, none⟩) (but_put (p := ⟨q, 0, none⟩) h.G (.inr h.hq) _) (.inr h.hq) _) (.inr h.hq) _
end
set_option maxRecDepth 100000 in
set_option maxHeartbeats 1600000 in
theorem anyVoter_any (r : Nat) (A : Option Addr) (n c : Nat) (xs : List Int) (p : Int) (w : World) (h : Rdr w r A n c xs p) (hp : p ≤ 600000) :
    Calls Try.prog 33 #[.pointer (some ⟨r, 0, none⟩)] w (VtrPost 100 r A n c xs p w) := by
  have hrl := h.lt
  have HQ0 := Lib.hid (Blk.new w 25 #[.int .i64 0, .int .i64 0, .slice none 0 0])
  have HR0 := Lib.hid (rdr_alloc h (.cells #[.int .i64 0, .int .i64 0, .slice none 0 0] 25))
  have HG0 := Lib.hid (but_alloc (but_refl r w) (.cells #[.int .i64 0, .int .i64 0, .slice none 0 0] 25))
  have hz0 : (w.alloc (.cells #[.int .i64 0, .int .i64 0, .slice none 0 0] 25)).heap.size = w.heap.size + 1 := by simp
  clear h
  go_enter Try.func33, Try.ntmps33
  go_wp2_with (fail)
  generalize w.alloc (.cells #[.int .i64 0, .int .i64 0, .slice none 0 0] 25) = w0 at *
  (with_reducible refine (pick_any r A n c xs p 6 _ HR0.out (by omega) (by omega)).mono ?_)
  rintro e w1 ⟨x, rfl, x0, x1, _, hR1, hG1⟩
  have x2 := x1 (by omega)
  have HQ1 := Lib.hid (HQ0.out.butV hG1 (by omega))
  have HR1 := Lib.hid hR1
  have HG1 := Lib.hid (but_trans HG0.out hG1)
  have hz1 := hG1.size
  clear hR1 hG1 x1 HQ0 HR0 HG0
  go_wp2_with (fail)
  (with_reducible refine (one_lits r A n c xs (p + 1) [-1, 0, 1, 2, -1] 5 _ _ w1 HR1.out (by omega) rfl (by omega) (by omega) (by simp) rfl (by simp)).mono ?_)
  rintro e w2 ⟨y, p2, rfl, y0, y1, hR2, hp2, hG2⟩
  have HQ2 := Lib.hid (HQ1.out.butV hG2 (by omega))
  have HR2 := Lib.hid hR2
  have HG2 := Lib.hid (but_trans HG1.out hG2)
  have hz2 := hG2.size
  clear hR2 hG2 HQ1 HR1 HG1
  go_wp2_with (fail)
  (with_reducible refine (someLog_any r A n c xs p2 _ HR2.out (by omega)).mono ?_)
  rintro e w3 ⟨v3, m, ps, p3, rfl, ho3, hs3, hm3, hR3, hp3, hG3⟩
  obtain ⟨A1, c1, rfl, hk1, _⟩ := own_cap ho3
  have hz3 := hG3.size
  have HS := Lib.hid hs3
  have HQ3 := Lib.hid (HQ2.out.butV hG3 (by omega))
  have HV := Lib.hid (show DVot w r A n c xs w.heap.size w3.heap.size p3 x y A1 m c1 ps (w3.alloc (.cells #[.int .i64 x, .int .i64 y, .slice A1 m c1] 25)) from by
    have hne : ∀ k, (Value.slice A1 m c1).ownBlock = some k → k ≠ w3.heap.size ∧ k ≠ w.heap.size := fun k hk => by have := ho3.lt k hk; omega
    exact ⟨Blk.new _ _ _, HQ3.out.alloc _, own_base (ho3.alloc _) (by omega), rdr_alloc hR3 _, but_alloc (but_trans HG2.out hG3) _, by omega, Nat.le_refl _, by omega, by omega, hne⟩)
  have hy : -10000 ≤ y ∧ y ≤ 10000 := ⟨y0, y1⟩
  clear ho3 hs3 hR3 hG3 HQ2 HQ3 HR2 HG2 y0 y1
  go_wp2_with (fail)
  generalize w3.alloc (.cells #[.int .i64 x, .int .i64 y, .slice A1 m c1] 25) = w4 at *
  obtain ⟨g, hgg⟩ : ∃ g, g = w3.heap.size := ⟨_, rfl⟩
  rw [← hgg] at HV ⊢
  clear hgg
  (with_reducible refine (pick_any r A n c xs p3 24 _ HV.out.R (by omega) (by omega)).mono ?_)
  rintro e w5 ⟨k, rfl, k0, k1, _, hR5, hG5⟩
  have HV5 := Lib.hid (HV.out.but hG5 hR5)
  have hgw := HV5.out.E.lt
  have hqw := HV5.out.Q.lt
  clear hR5 hG5 HV k1
  rcases (show k = 0 ∨ k = 1 ∨ k = 2 ∨ 3 ≤ k by omega) with rfl | rfl | rfl | hk
  · clear k0
    go_wp2_with (fail)
    (with_reducible refine (one_lits r A n c xs (p3 + 1) [-1, 9, 10] 3 _ _ w5 HV5.out.R (by omega) rfl (by omega) (by omega) (by simp) rfl (by simp)).mono ?_)
    rintro e w6 ⟨z, p6, rfl, z0', z1', hR6, hp6, hG6⟩
    have HV6a := Lib.hid (HV5.out.but hG6 hR6)
    have HV6 := Lib.hid (HV6a.out.put0 z)
    have t0 := HV6a.out.E.cell 0
    have s0 := HV6a.out.E.soft 0
    clear hR6 hG6 HV5
    have e0 := HV6.out.E.cell 0
    have e1 := HV6.out.E.cell 1
    have e2 := HV6.out.E.cell 2
    have g0 := HV6.out.E.soft 0
    have g1 := HV6.out.E.soft 1
    have g2 := HV6.out.E.soft 2
    obtain ⟨z0, z1, z2, hoz, hrz, hgz⟩ := HV6.out.fin
    have HOZ := Lib.hid hoz
    have HRZ := Lib.hid hrz
    have HGZ := Lib.hid hgz
    have q0 := HV6.out.Q.cell 0
    have q1 := HV6.out.Q.cell 1
    have q2 := HV6.out.Q.cell 2
    have f0 := HV6.out.Q.soft 0
    have f1 := HV6.out.Q.soft 1
    have f2 := HV6.out.Q.soft 2
    clear hoz hrz hgz
    go_wp2
    exact bodyPost_ret (v := .agg #[.int .i64 z, .int .i64 y, .slice A1 m c1]) (by simp [results, Try.results33, go_sem, z0, z1, z2]) rfl ⟨z, y, A1, m, c1, ps, p6, rfl, ⟨z0', z1'⟩, hy, by omega, hk1, HS.out, HOZ.out, HRZ.out, by omega, HGZ.out⟩
  · clear k0
    go_wp2_with (fail)
    (with_reducible refine (one_lits r A n c xs (p3 + 1) [-2, 6, 7] 3 _ _ w5 HV5.out.R (by omega) rfl (by omega) (by omega) (by simp) rfl (by simp)).mono ?_)
    rintro e w6 ⟨z, p6, rfl, z0', z1', hR6, hp6, hG6⟩
    have HV6a := Lib.hid (HV5.out.but hG6 hR6)
    have HV6 := Lib.hid (HV6a.out.put1 z)
    have t0 := HV6a.out.E.cell 1
    have s0 := HV6a.out.E.soft 1
    clear hR6 hG6 HV5
    have e0 := HV6.out.E.cell 0
    have e1 := HV6.out.E.cell 1
    have e2 := HV6.out.E.cell 2
    have g0 := HV6.out.E.soft 0
    have g1 := HV6.out.E.soft 1
    have g2 := HV6.out.E.soft 2
    obtain ⟨z0, z1, z2, hoz, hrz, hgz⟩ := HV6.out.fin
    have HOZ := Lib.hid hoz
    have HRZ := Lib.hid hrz
    have HGZ := Lib.hid hgz
    have q0 := HV6.out.Q.cell 0
    have q1 := HV6.out.Q.cell 1
    have q2 := HV6.out.Q.cell 2
    have f0 := HV6.out.Q.soft 0
    have f1 := HV6.out.Q.soft 1
    have f2 := HV6.out.Q.soft 2
    clear hoz hrz hgz
    go_wp2
    exact bodyPost_ret (v := .agg #[.int .i64 x, .int .i64 z, .slice A1 m c1]) (by simp [results, Try.results33, go_sem, z0, z1, z2]) rfl ⟨x, z, A1, m, c1, ps, p6, rfl, ⟨by omega, by omega⟩, ⟨z0', z1'⟩, by omega, hk1, HS.out, HOZ.out, HRZ.out, by omega, HGZ.out⟩
  · clear k0
    go_wp2_with (fail)
    (with_reducible refine (anyLog_any r A n c xs (p3 + 1) w5 HV5.out.R (by omega)).mono ?_)
    rintro e w6 ⟨v6, m6, ps6, p6, rfl, ho6, hs6, hm6, hR6, hp6, hG6⟩
    obtain ⟨A6, c6, rfl, hk6, _⟩ := own_cap ho6
    have HV6a := Lib.hid (HV5.out.but hG6 hR6)
    have HV6 := Lib.hid (HV6a.out.put2 ho6 hgw hqw)
    have HS6 := Lib.hid hs6
    have t0 := HV6a.out.E.cell 2
    have s0 := HV6a.out.E.soft 2
    clear hR6 hG6 HV5 ho6 hs6
    have e0 := HV6.out.E.cell 0
    have e1 := HV6.out.E.cell 1
    have e2 := HV6.out.E.cell 2
    have g0 := HV6.out.E.soft 0
    have g1 := HV6.out.E.soft 1
    have g2 := HV6.out.E.soft 2
    obtain ⟨z0, z1, z2, hoz, hrz, hgz⟩ := HV6.out.fin
    have HOZ := Lib.hid hoz
    have HRZ := Lib.hid hrz
    have HGZ := Lib.hid hgz
    have q0 := HV6.out.Q.cell 0
    have q1 := HV6.out.Q.cell 1
    have q2 := HV6.out.Q.cell 2
    have f0 := HV6.out.Q.soft 0
    have f1 := HV6.out.Q.soft 1
    have f2 := HV6.out.Q.soft 2
    clear hoz hrz hgz
    go_wp2
    exact bodyPost_ret (v := .agg #[.int .i64 x, .int .i64 y, .slice A6 m6 c6]) (by simp [results, Try.results33, go_sem, z0, z1, z2]) rfl ⟨x, y, A6, m6, c6, ps6, p6, rfl, ⟨by omega, by omega⟩, hy, hm6, hk6, HS6.out, HOZ.out, HRZ.out, by omega, HGZ.out⟩
  · have g0 : (k == 0) = false := by simp; omega
    have g1' : (k == 1) = false := by simp; omega
    have g2' : (k == 2) = false := by simp; omega
    have e0 := HV5.out.E.cell 0
    have e1 := HV5.out.E.cell 1
    have e2 := HV5.out.E.cell 2
    have g0 := HV5.out.E.soft 0
    have g1 := HV5.out.E.soft 1
    have g2 := HV5.out.E.soft 2
    obtain ⟨z0, z1, z2, hoz, hrz, hgz⟩ := HV5.out.fin
    have HOZ := Lib.hid hoz
    have HRZ := Lib.hid hrz
    have HGZ := Lib.hid hgz
    have q0 := HV5.out.Q.cell 0
    have q1 := HV5.out.Q.cell 1
    have q2 := HV5.out.Q.cell 2
    have f0 := HV5.out.Q.soft 0
    have f1 := HV5.out.Q.soft 1
    have f2 := HV5.out.Q.soft 2
    clear hoz hrz hgz
    go_wp2
    exact bodyPost_ret (v := .agg #[.int .i64 x, .int .i64 y, .slice A1 m c1]) (by simp [results, Try.results33, go_sem, z0, z1, z2]) rfl ⟨x, y, A1, m, c1, ps, (p3 + 1), rfl, ⟨by omega, by omega⟩, hy, by omega, hk1, HS.out, HOZ.out, HRZ.out, by omega, HGZ.out⟩
/-- A drawn voter, a candidate, a term, and the candidate's log. -/
def DrawA (w : World) (e : Ending) (w' : World) : Prop :=
  ∃ (x y : Int) (A1 : Option Addr) (m c1 : Nat) (ps : List En) (cand term : Int) (A2 : Option Addr) (m2 c2 : Nat) (qs : List En), e = .returned (.tuple #[.agg #[.int .i64 x, .int .i64 y, .slice A1 m c1], .int .i64 cand, .int .i64 term, .slice A2 m2 c2]) ∧ (-10000 ≤ x ∧ x ≤ 10000) ∧ (-10000 ≤ y ∧ y ≤ 10000) ∧ m ≤ 20 ∧ m ≤ c1 ∧ Rd w' w.heap.size w'.heap.size 2 A1 m (pvs ps) ∧ (-10000 ≤ cand ∧ cand ≤ 10000) ∧ (-20000 ≤ term ∧ term ≤ 20000) ∧ m2 ≤ 20 ∧ m2 ≤ c2 ∧ Rd w' w.heap.size w'.heap.size 2 A2 m2 (pvs qs) ∧ Below w.heap.size w w'
set_option maxRecDepth 100000 in
set_option maxHeartbeats 3200000 in
theorem drawAskVote_any (n c : Nat) (A : Option Addr) (xs : List Int) (w : World) (hr : Rd w 0 w.heap.size 1 A n (bvs xs)) (hby : Bytes xs) (hn : n ≤ 1048576) (hc : n ≤ c) (hc2 : c ≤ 9223372036854775807) :
    Calls Try.prog 15 #[.slice A n c] w (DrawA w) := by
  have HQ0 := Lib.hid (Blk.new w 25 #[.int .i64 0, .int .i64 0, .slice none 0 0])
  have hb0 := up_alloc (Below.refl _ w) (.cells #[.int .i64 0, .int .i64 0, .slice none 0 0] 25)
  have HB0 := Lib.hid hb0
  have HR0 := Lib.hid ((hr.keep hb0 (Nat.le_refl _)).wide (Nat.le_refl _) hb0.size)
  have hz0 : (w.alloc (.cells #[.int .i64 0, .int .i64 0, .slice none 0 0] 25)).heap.size = w.heap.size + 1 := by simp
  clear hr hb0
  go_enter Try.func15, Try.ntmps15
  go_wp2_with (fail)
  generalize w.alloc (.cells #[.int .i64 0, .int .i64 0, .slice none 0 0] 25) = w0 at *
  (with_reducible refine (newReader_any n c A xs _ HR0.out hby hn hc hc2).mono ?_)
  rintro e w1 ⟨r, n', c', xs', rfl, hrw, hR1, hb1⟩
  have hrl := hR1.lt
  have HR1 := Lib.hid hR1
  have HB1 := Lib.hid (up HB0.out hb1)
  have HQ1 := Lib.hid (HQ0.out.below hb1 HQ0.out.lt)
  have hz1 := hb1.size
  clear hR1 hb1 HQ0 HB0 HR0
  go_wp2_with (fail)
  (with_reducible refine (anyVoter_any r A n' c' xs' 0 w1 HR1.out (by omega)).mono ?_)
  rintro e w2 ⟨x, y, A1, m, c1, ps, p2, rfl, hx, hy, hm, hk1, hs2, ho2, hR2, hp2, hG2⟩
  have HS2 := Lib.hid hs2
  have HE3 := Lib.hid (Blk.new w2 25 #[.int .i64 x, .int .i64 y, .slice A1 m c1])
  have HQ3 := Lib.hid ((HQ1.out.butV hG2 (by omega)).alloc (.cells #[.int .i64 x, .int .i64 y, .slice A1 m c1] 25))
  have HO3 := Lib.hid (ho2.alloc (.cells #[.int .i64 x, .int .i64 y, .slice A1 m c1] 25))
  have HR3 := Lib.hid (rdr_alloc hR2 (.cells #[.int .i64 x, .int .i64 y, .slice A1 m c1] 25))
  have HG3 := Lib.hid (but_alloc hG2 (.cells #[.int .i64 x, .int .i64 y, .slice A1 m c1] 25))
  have hz2 := hG2.size
  have hz3 : (w2.alloc (.cells #[.int .i64 x, .int .i64 y, .slice A1 m c1] 25)).heap.size = w2.heap.size + 1 := by simp
  clear hs2 ho2 hR2 hG2 HQ1 HR1
  go_wp2_with (fail)
  generalize w2.alloc (.cells #[.int .i64 x, .int .i64 y, .slice A1 m c1] 25) = w3 at *
  obtain ⟨g, hgg⟩ : ∃ g, g = w2.heap.size := ⟨_, rfl⟩
  rw [← hgg] at HE3 ⊢
  have hg1 : w1.heap.size ≤ g := by omega
  have hg2 : g + 1 = w3.heap.size := by omega
  clear hgg
  (with_reducible refine (one_lits r A n' c' xs' p2 [0, 1, 2, 6, 7, -1, 1] 7 (g + 1) _ w3 HR3.out (by omega) rfl (by omega) (by omega) (by simp) hg2 (by simp)).mono ?_)
  rintro e w4 ⟨cand, p4, rfl, a0, a1, hR4, hp4, hG4⟩
  have HE4 := Lib.hid (HE3.out.butV hG4 (by omega))
  have HQ4 := Lib.hid (HQ3.out.butV hG4 (by omega))
  have HO4 := Lib.hid (own_but HO3.out hG4 hrl)
  have HR4 := Lib.hid hR4
  have HG4 := Lib.hid (but_trans HG3.out hG4)
  have hz4 := hG4.size
  have hw1 : IntKind.i64.wrap (x + 1) = x + 1 := IntWalk.i64_in _ (by omega)
  have e0 := HE4.out.cell 0
  have e1 := HE4.out.cell 1
  have e2 := HE4.out.cell 2
  clear hR4 hG4 HE3 HQ3 HO3 HR3 HG3
  go_wp2_with (fail)
  (with_reducible refine (one_mem r A n' c' xs' p4 [x, x + 1, 1, 5, 10, 0, x] 7 _ _ w4 HR4.out (by omega) rfl (by omega) (by omega) rfl (by simp)).mono ?_)
  rintro e w5 ⟨term, rfl, ht, hR5, hG5⟩
  have ht2 : -20000 ≤ term ∧ term ≤ 20000 := by
    simp at ht
    omega
  have HE5 := Lib.hid (HE4.out.butV hG5 (by omega))
  have HQ5 := Lib.hid (HQ4.out.butV hG5 (by omega))
  have HO5 := Lib.hid (own_but HO4.out hG5 hrl)
  have HR5 := Lib.hid hR5
  have HG5 := Lib.hid (but_trans HG4.out hG5)
  have hz5 := hG5.size
  have hgl := HE5.out.lt
  clear hR5 hG5 HE4 HQ4 HO4 HR4 HG4 e0 e1 e2 ht
  have HS := Lib.hid (show ∀ wx, Blk wx g 25 #[.int .i64 x, .int .i64 y, .slice A1 m c1] → wx.cell? ⟨g, 0, none⟩ = some (.int .i64 x) ∧ wx.cell? ⟨g, 1, none⟩ = some (.int .i64 y) ∧ wx.cell? ⟨g, 2, none⟩ = some (.slice A1 m c1) from fun wx hB => ⟨hB.cell 0, hB.cell 1, hB.cell 2⟩)
  have hgq : g ≠ w.heap.size := by omega
  have HN := Lib.hid (show ∀ wx, Below w5.heap.size w5 wx → Calls Try.prog 35 #[.pointer (some ⟨r, 0, none⟩), .slice A1 m c1] wx fun e w' => ∃ (A2 : Option Addr) (m2 c2 : Nat) (qs : List En), e = .returned (.slice A2 m2 c2) ∧ w'.ownsRow w5.heap.size 57 2 (.slice A2 m2 c2) m2 (pvs qs) ∧ m2 ≤ 20 ∧ m2 ≤ c2 ∧ But r w5 w' from fun wx hb => (nearLog_any r A n' c' xs' (p4 + 1) w1.heap.size wx.heap.size m c1 A1 ps wx (HR5.out.below hb) (by omega) (Rd.of_own (own_keep HO5.out hb)) (Nat.le_refl _) hrl hm hk1 HS2.out).mono (by
    rintro e w' ⟨v, m2, qs, p', rfl, ho, _, hm2, _, _, hG⟩
    obtain ⟨A2, c2, rfl, hk2, _⟩ := own_cap ho
    exact ⟨A2, m2, c2, qs, rfl, own_base ho hb.size, hm2, hk2, but_trans (but_below (but_refl _ _) hb) hG⟩))
  go_wp2_with (fail)
  go_region_held3 (fun wx => wx.cell? ⟨g, 0, none⟩ = some (.int .i64 x) ∧ wx.cell? ⟨g, 1, none⟩ = some (.int .i64 y) ∧ wx.cell? ⟨g, 2, none⟩ = some (.slice A1 m c1))
    (first | exact HS.out _ HE5.out | exact HS.out _ HE5.out.drew | exact HS.out _ HE6.out | exact HS.out _ (((HE6.out.far (p := ⟨w.heap.size, 0, none⟩) hgq _).far (p := ⟨w.heap.size, 1, none⟩) hgq _).far (p := ⟨w.heap.size, 2, none⟩) hgq _))
    ((first
      | (go_at_call 35; (with_reducible refine (HN.out _ (up_drew (Below.refl _ _))).mono ?_); rintro e w6 ⟨A2, m2, c2, qs, rfl, ho6, hm2, hk2, hG6⟩; have HE6 := Lib.hid (HE5.out.butV hG6 (by omega)); have HQ6 := Lib.hid (HQ5.out.butV hG6 (by omega)); have q0 := HQ6.out.cell 0; have q1 := HQ6.out.cell 1; have q2 := HQ6.out.cell 2; have f0 := HQ6.out.soft 0; have f1 := HQ6.out.soft 1; have f2 := HQ6.out.soft 2; have HG6 := Lib.hid hG6; have HO6 := Lib.hid ho6; clear ho6 hG6)
      | fail "no arm"))
  all_goals
    clear HN HS
    have HO1 := Lib.hid (own_but HO5.out HG6.out hrl)
    have hz6 := HG6.out.size
    have hzz := ((HQ6.out.put 0 (.int .i64 x)).put 1 (.int .i64 y)).put 2 (.slice A1 m c1)
    have z0 := hzz.cell 0
    have z1 := hzz.cell 1
    have z2 := hzz.cell 2
    simp at z0 z1 z2
    have HB6 := Lib.hid (but_mineK HB1.out (but_trans HG5.out HG6.out) (by omega))
    have hne1 : ∀ k, (Value.slice A1 m c1).ownBlock = some k → k ≠ w.heap.size := fun k hk => by have := HO1.out.lt k hk; omega
    have hne2 : ∀ k, (Value.slice A2 m2 c2).ownBlock = some k → k ≠ w.heap.size := fun k hk => by have := HO6.out.lt k hk; omega
    have HO1z := Lib.hid (own_set (p := ⟨w.heap.size, 2, none⟩) (own_set (p := ⟨w.heap.size, 1, none⟩) (own_set (p := ⟨w.heap.size, 0, none⟩) HO1.out (.int .i64 x) hne1) (.int .i64 y) hne1) (.slice A1 m c1) hne1)
    have HO6z := Lib.hid (own_set (p := ⟨w.heap.size, 2, none⟩) (own_set (p := ⟨w.heap.size, 1, none⟩) (own_set (p := ⟨w.heap.size, 0, none⟩) HO6.out (.int .i64 x) hne2) (.int .i64 y) hne2) (.slice A1 m c1) hne2)
    have HBz := Lib.hid (((HB6.out.setCell (p := ⟨w.heap.size, 0, none⟩) (Nat.le_refl _) (.int .i64 x)).setCell (p := ⟨w.heap.size, 1, none⟩) (Nat.le_refl _) (.int .i64 y)).setCell (p := ⟨w.heap.size, 2, none⟩) (Nat.le_refl _) (.slice A1 m c1))
    clear hzz HG6 HO6 HO1 HB6
    go_wp2
    exact bodyPost_ret (v := .tuple #[.agg #[.int .i64 x, .int .i64 y, .slice A1 m c1], .int .i64 cand, .int .i64 term, .slice A2 m2 c2]) (by simp [results, Try.results15, go_sem, z0, z1, z2]) rfl ⟨x, y, A1, m, c1, ps, cand, term, A2, m2, c2, qs, rfl, hx, hy, by omega, hk1, (Rd.of_own HO1z.out).wide (by omega) (Nat.le_refl _), ⟨a0, a1⟩, ht2, hm2, hk2, (Rd.of_own HO6z.out).wide (by omega) (Nat.le_refl _), HBz.out⟩
end Go.Proofs.Ytobjcifoaejonac
