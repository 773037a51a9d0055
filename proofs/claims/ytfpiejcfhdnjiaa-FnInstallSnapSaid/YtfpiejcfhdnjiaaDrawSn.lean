/- Drawing snapshots: anySnap. (Written by gen/drawsn.py.) -/
import Derived.Test.YtfpiejcfhdnjiaaDrawL1
import Derived.Test.YtfpiejcfhdnjiaaDelRun
import Derived.Test.YtfpiejcfhdnjiaaSnapMath
set_option linter.unusedSimpArgs false
set_option linter.unusedVariables false
namespace Go.Proofs.Ytfpiejcfhdnjiaa
open Go.RowKit

theorem Blk.butS {w w' : World} {g r : Nat} {t : TypeId} {cs : Array Value} (h : Blk w g t cs) (hG : But r w w') (hne : g ≠ r) : Blk w' g t cs := h.grown hG (fun e => hne (by injection e))
theorem rdr_setS {w : World} {r : Nat} {A : Option Addr} {n c : Nat} {xs : List Int} {p : Int} (h : Rdr w r A n c xs p) {q : Addr} (hq : r < q.block) (u : Value) : Rdr (w.setCell q u) r A n c xs p :=
  ⟨h.1.far (by omega) u, h.2.1.setCell (.inr (by omega)) u, h.2.2⟩
def Sm (x : Int) : Prop := -20000 ≤ x ∧ x ≤ 20000
/-- A drawn snapshot. -/
def SnrPost (d : Int) (r : Nat) (A : Option Addr) (n c : Nat) (xs : List Int) (p : Int) (w : World) (e : Ending) (w' : World) : Prop :=
  ∃ (N T S : Int) (A1 : Option Addr) (m c1 : Nat) (ps : List En) (p' : Int), e = .returned (.agg #[.int .i64 N, .int .i64 T, .int .i64 S, .slice A1 m c1]) ∧ Sm N ∧ Sm T ∧ Sm S ∧ m ≤ 17 ∧ m ≤ c1 ∧ c1 ≤ 9223372036854775807 ∧ w'.ownsRow w.heap.size 29 2 (.slice A1 m c1) m (pvs ps) ∧ Rdr w' r A n c xs p' ∧ p' ≤ p + d ∧ But r w w'
/-- A snapshot that is being drawn: it stands in block g, block q is for the answer. -/
structure DSn (w : World) (r : Nat) (A : Option Addr) (n c : Nat) (xs : List Int) (q g : Nat) (p N T S : Int) (A1 : Option Addr) (m c1 : Nat) (ps : List En) (wx : World) : Prop where
  E : Blk wx g 32 #[.int .i64 N, .int .i64 T, .int .i64 S, .slice A1 m c1]
  Q : Blk wx q 32 #[.int .i64 0, .int .i64 0, .int .i64 0, .slice none 0 0]
  O : wx.ownsRow w.heap.size 29 2 (.slice A1 m c1) m (pvs ps)
  R : Rdr wx r A n c xs p
  G : But r w wx
  hg : w.heap.size ≤ g
  hq : w.heap.size ≤ q
  hqg : q ≠ g
  hr : r < w.heap.size
  ne : ∀ k, (Value.slice A1 m c1).ownBlock = some k → k ≠ g ∧ k ≠ q
section
variable {w wx wy : World} {r : Nat} {A : Option Addr} {n c : Nat} {xs : List Int} {q g : Nat} {p p' N T S : Int} {A1 : Option Addr} {m c1 : Nat} {ps : List En}
theorem DSn.but (h : DSn w r A n c xs q g p N T S A1 m c1 ps wx) (hG : But r wx wy) (hR : Rdr wy r A n c xs p') : DSn w r A n c xs q g p' N T S A1 m c1 ps wy :=
  ⟨h.E.butS hG (by have := h.hg; have := h.hr; omega), h.Q.butS hG (by have := h.hq; have := h.hr; omega), own_but h.O hG h.hr, hR, but_trans h.G hG, h.hg, h.hq, h.hqg, h.hr, h.ne⟩
theorem DSn.put0 (h : DSn w r A n c xs q g p N T S A1 m c1 ps wx) (z : Int) : DSn w r A n c xs q g p z T S A1 m c1 ps (wx.setCell ⟨g, 0, none⟩ (.int .i64 z)) :=
  ⟨by simpa using h.E.put 0 (.int .i64 z), h.Q.far (p := ⟨g, 0, none⟩) h.hqg _, own_set h.O _ (fun k hk => (h.ne k hk).1), rdr_setS h.R (q := ⟨g, 0, none⟩) (by have := h.hg; have := h.hr; show r < g; omega) _, but_put h.G (p := ⟨g, 0, none⟩) (.inr h.hg) _, h.hg, h.hq, h.hqg, h.hr, h.ne⟩
theorem DSn.put1 (h : DSn w r A n c xs q g p N T S A1 m c1 ps wx) (z : Int) : DSn w r A n c xs q g p N z S A1 m c1 ps (wx.setCell ⟨g, 1, none⟩ (.int .i64 z)) :=
  ⟨by simpa using h.E.put 1 (.int .i64 z), h.Q.far (p := ⟨g, 1, none⟩) h.hqg _, own_set h.O _ (fun k hk => (h.ne k hk).1), rdr_setS h.R (q := ⟨g, 1, none⟩) (by have := h.hg; have := h.hr; show r < g; omega) _, but_put h.G (p := ⟨g, 1, none⟩) (.inr h.hg) _, h.hg, h.hq, h.hqg, h.hr, h.ne⟩
theorem DSn.put2 (h : DSn w r A n c xs q g p N T S A1 m c1 ps wx) (z : Int) : DSn w r A n c xs q g p N T z A1 m c1 ps (wx.setCell ⟨g, 2, none⟩ (.int .i64 z)) :=
  ⟨by simpa using h.E.put 2 (.int .i64 z), h.Q.far (p := ⟨g, 2, none⟩) h.hqg _, own_set h.O _ (fun k hk => (h.ne k hk).1), rdr_setS h.R (q := ⟨g, 2, none⟩) (by have := h.hg; have := h.hr; show r < g; omega) _, but_put h.G (p := ⟨g, 2, none⟩) (.inr h.hg) _, h.hg, h.hq, h.hqg, h.hr, h.ne⟩
theorem DSn.put3 (h : DSn w r A n c xs q g p N T S A1 m c1 ps wx) {A2 : Option Addr} {m2 c2 base : Nat} {qs : List En} (ho : wx.ownsRow base 29 2 (.slice A2 m2 c2) m2 (pvs qs)) (hb1 : g < base) (hb2 : q < base) : DSn w r A n c xs q g p N T S A2 m2 c2 qs (wx.setCell ⟨g, 3, none⟩ (.slice A2 m2 c2)) :=
  have hne : ∀ k, (Value.slice A2 m2 c2).ownBlock = some k → k ≠ g ∧ k ≠ q := fun k hk => by have := ho.lt k hk; omega
  ⟨by simpa using h.E.put 3 (.slice A2 m2 c2), h.Q.far (p := ⟨g, 3, none⟩) h.hqg _, own_base (own_set ho _ (fun k hk => (hne k hk).1)) (by have := h.hg; omega), rdr_setS h.R (q := ⟨g, 3, none⟩) (by have := h.hg; have := h.hr; show r < g; omega) _, but_put h.G (p := ⟨g, 3, none⟩) (.inr h.hg) _, h.hg, h.hq, h.hqg, h.hr, hne⟩
/-- It is laid into the answer's block. -/
theorem DSn.fin (h : DSn w r A n c xs q g p N T S A1 m c1 ps wx) :
    ((((wx.setCell ⟨q, 0, none⟩ (.int .i64 N)).setCell ⟨q, 1, none⟩ (.int .i64 T)).setCell ⟨q, 2, none⟩ (.int .i64 S)).setCell ⟨q, 3, none⟩ (.slice A1 m c1)).cell? ⟨q, 0, none⟩ = some (.int .i64 N) ∧
    ((((wx.setCell ⟨q, 0, none⟩ (.int .i64 N)).setCell ⟨q, 1, none⟩ (.int .i64 T)).setCell ⟨q, 2, none⟩ (.int .i64 S)).setCell ⟨q, 3, none⟩ (.slice A1 m c1)).cell? ⟨q, 1, none⟩ = some (.int .i64 T) ∧
    ((((wx.setCell ⟨q, 0, none⟩ (.int .i64 N)).setCell ⟨q, 1, none⟩ (.int .i64 T)).setCell ⟨q, 2, none⟩ (.int .i64 S)).setCell ⟨q, 3, none⟩ (.slice A1 m c1)).cell? ⟨q, 2, none⟩ = some (.int .i64 S) ∧
    ((((wx.setCell ⟨q, 0, none⟩ (.int .i64 N)).setCell ⟨q, 1, none⟩ (.int .i64 T)).setCell ⟨q, 2, none⟩ (.int .i64 S)).setCell ⟨q, 3, none⟩ (.slice A1 m c1)).cell? ⟨q, 3, none⟩ = some (.slice A1 m c1) ∧
    ((((wx.setCell ⟨q, 0, none⟩ (.int .i64 N)).setCell ⟨q, 1, none⟩ (.int .i64 T)).setCell ⟨q, 2, none⟩ (.int .i64 S)).setCell ⟨q, 3, none⟩ (.slice A1 m c1)).ownsRow w.heap.size 29 2 (.slice A1 m c1) m (pvs ps) ∧
    Rdr ((((wx.setCell ⟨q, 0, none⟩ (.int .i64 N)).setCell ⟨q, 1, none⟩ (.int .i64 T)).setCell ⟨q, 2, none⟩ (.int .i64 S)).setCell ⟨q, 3, none⟩ (.slice A1 m c1)) r A n c xs p ∧
    But r w ((((wx.setCell ⟨q, 0, none⟩ (.int .i64 N)).setCell ⟨q, 1, none⟩ (.int .i64 T)).setCell ⟨q, 2, none⟩ (.int .i64 S)).setCell ⟨q, 3, none⟩ (.slice A1 m c1)) := by
  have hz := (((h.Q.put 0 (.int .i64 N)).put 1 (.int .i64 T)).put 2 (.int .i64 S)).put 3 (.slice A1 m c1)
  have h1 : r < q := by have := h.hq; have := h.hr; omega
  refine ⟨by simpa using hz.cell 0, by simpa using hz.cell 1, by simpa using hz.cell 2, by simpa using hz.cell 3, own_set (own_set (own_set (own_set h.O _ (fun k hk => (h.ne k hk).2)) _ (fun k hk => (h.ne k hk).2)) _ (fun k hk => (h.ne k hk).2)) _ (fun k hk => (h.ne k hk).2), ?_, ?_⟩
  · exact rdr_setS (q := ⟨q, 3, none⟩) (rdr_setS (q := ⟨q, 2, none⟩) (rdr_setS (q := ⟨q, 1, none⟩) (rdr_setS (q := ⟨q, 0, none⟩) h.R h1 _) h1 _) h1 _) h1 _
  · exact but_put (p := ⟨q, 3, none⟩) (but_put (p := ⟨q, 2, none⟩) (but_put (p := ⟨q, 1, none⟩) (but_put (p := ⟨q, 0, none⟩) h.G (.inr h.hq) _) (.inr h.hq) _) (.inr h.hq) _) (.inr h.hq) _
end
set_option maxRecDepth 100000 in
set_option maxHeartbeats 12800000 in
theorem anySnap_any (r : Nat) (A : Option Addr) (n c : Nat) (xs : List Int) (p : Int) (w : World) (h : Rdr w r A n c xs p) (hp : p ≤ 600000) :
    Calls Try.prog 48 #[.pointer (some ⟨r, 0, none⟩)] w (SnrPost 130 r A n c xs p w) := by
  have hrl := h.lt
  have HQ0 := Lib.hid (Blk.new w 32 #[.int .i64 0, .int .i64 0, .int .i64 0, .slice none 0 0])
  have HR0 := Lib.hid (rdr_alloc h (.cells #[.int .i64 0, .int .i64 0, .int .i64 0, .slice none 0 0] 32))
  have HG0 := Lib.hid (but_alloc (but_refl r w) (.cells #[.int .i64 0, .int .i64 0, .int .i64 0, .slice none 0 0] 32))
  have hz0 : (w.alloc (.cells #[.int .i64 0, .int .i64 0, .int .i64 0, .slice none 0 0] 32)).heap.size = w.heap.size + 1 := by simp
  clear h
  go_enter Try.func48, Try.ntmps48
  go_wp2_with (fail)
  generalize w.alloc (.cells #[.int .i64 0, .int .i64 0, .int .i64 0, .slice none 0 0] 32) = w0 at *
  (with_reducible refine (someLog_any r A n c xs p _ HR0.out (by omega)).mono ?_)
  rintro e w1 ⟨v3, m, ps, p1, rfl, ho1, hs1, hm1, hR1, hp1, hG1⟩
  obtain ⟨A1, c1, rfl, hk1, hcx1⟩ := own_cap ho1
  have HQ1 := Lib.hid (HQ0.out.butS hG1 (by omega))
  have HSM := Lib.hid hs1
  have HO1 := Lib.hid ho1
  have HR1 := Lib.hid hR1
  have HG1 := Lib.hid (but_trans HG0.out hG1)
  have hz1 := hG1.size
  clear ho1 hs1 hR1 hG1 HQ0 HR0 HG0
  go_wp2_with (fail)
  (with_reducible refine (pick_any r A n c xs p1 6 _ HR1.out (by omega) (by omega)).mono ?_)
  rintro e w2 ⟨N, rfl, N0, N1', _, hR2, hG2⟩
  have N1 := N1' (by omega)
  have HQ2 := Lib.hid (HQ1.out.butS hG2 (by omega))
  have HO2 := Lib.hid (own_but HO1.out hG2 (by omega))
  have HR2 := Lib.hid hR2
  have HG2 := Lib.hid (but_trans HG1.out hG2)
  have hz2 := hG2.size
  clear hR2 hG2 N1' HQ1 HO1 HR1 HG1
  go_wp2_with (fail)
  (with_reducible refine (pick_any r A n c xs (p1 + 1) 250 _ HR2.out (by omega) (by omega)).mono ?_)
  rintro e w3 ⟨S0, rfl, S00, S01', _, hR3, hG3⟩
  have S01 := S01' (by omega)
  have hws : IntKind.i64.wrap (S0 * 40) = S0 * 40 := IntWalk.i64_in _ (by omega)
  have HQ3 := Lib.hid (HQ2.out.butS hG3 (by omega))
  have HO3 := Lib.hid (own_but HO2.out hG3 (by omega))
  have HR3 := Lib.hid hR3
  have HG3 := Lib.hid (but_trans HG2.out hG3)
  have hz3 := hG3.size
  clear hR3 hG3 S01' HQ2 HO2 HR2 HG2
  have HV := Lib.hid (show DSn w r A n c xs w.heap.size w3.heap.size (p1 + 1 + 1) N 0 (S0 * 40) A1 m c1 ps (w3.alloc (.cells #[.int .i64 N, .int .i64 0, .int .i64 (S0 * 40), .slice A1 m c1] 32)) from by
    have hne : ∀ k, (Value.slice A1 m c1).ownBlock = some k → k ≠ w3.heap.size ∧ k ≠ w.heap.size := fun k hk => by have := HO3.out.lt k hk; have := HO3.out.lt k hk; omega
    exact ⟨Blk.new _ _ _, HQ3.out.alloc _, own_base (HO3.out.alloc _) (by omega), rdr_alloc HR3.out _, but_alloc HG3.out _, by omega, Nat.le_refl _, by omega, by omega, hne⟩)
  have hN : Sm N := ⟨by omega, by omega⟩
  have hS : Sm (S0 * 40) := ⟨by omega, by omega⟩
  have hT0 : Sm 0 := ⟨by omega, by omega⟩
  have HRL := Lib.hid ((Rd.of_own HO3.out).keep (up_alloc (Below.refl _ w3) (.cells #[.int .i64 N, .int .i64 0, .int .i64 (S0 * 40), .slice A1 m c1] 32)) (Nat.le_refl _))
  have hz4 : w3.heap.size + 1 ≤ (w3.alloc (.cells #[.int .i64 N, .int .i64 0, .int .i64 (S0 * 40), .slice A1 m c1] 32)).heap.size := by simp
  clear HQ3 HO3 HR3 HG3 N0 N1 S00 S01
  by_cases hm0 : m = 0
  case pos =>
    have dm : decide ((0 : Int) < (m : Int)) = false := decide_eq_false (by omega)
    have dm2 : decide (0 < m) = false := decide_eq_false (by omega)
    clear hm0
    go_wp2_with (fail)
    generalize w3.alloc (.cells #[.int .i64 N, .int .i64 0, .int .i64 (S0 * 40), .slice A1 m c1] 32) = w4 at *
    obtain ⟨g, hgg⟩ : ∃ g, g = w3.heap.size := ⟨_, rfl⟩
    rw [← hgg] at HV ⊢
    clear hgg HRL
    (with_reducible refine (pick_any r A n c xs (p1 + 1 + 1) 24 _ HV.out.R (by omega) (by omega)).mono ?_)
    rintro e w7 ⟨k, rfl, k0, k1, _, hR7, hG7⟩
    have HV7 := Lib.hid (HV.out.but hG7 hR7)
    have hgw := HV7.out.E.lt
    have hqw := HV7.out.Q.lt
    clear hR7 hG7 HV k1
    rcases (show k = 0 ∨ k = 1 ∨ k = 2 ∨ k = 3 ∨ 4 ≤ k by omega) with rfl | rfl | rfl | rfl | hk
    · clear k0
      go_wp2_with (fail)
      (with_reducible refine (one_mem r A n c xs (p1 + 1 + 1 + 1) [-1, 999, 1000] 3 _ _ w7 HV7.out.R (by omega) rfl (by omega) (by omega) rfl (by simp)).mono ?_)
      rintro e w8 ⟨z9, rfl, hz9, hR8, hG8⟩
      have hz9b : -20000 ≤ z9 ∧ z9 ≤ 20000 := by simp at hz9; omega
      obtain ⟨z91, z92⟩ := hz9b
      have hp8 : p1 + 1 + 1 + 1 + 1 ≤ p1 + 1 + 1 + 2 := by omega
      have HV8a := Lib.hid (HV7.out.but hG8 hR8)
      have HV8 := Lib.hid (HV8a.out.put0 z9)
      have t0 := HV8a.out.E.cell 0
      have s0 := HV8a.out.E.soft 0
      clear hR8 hG8 HV7 hz9
      have e0 := HV8.out.E.cell 0
      have e1 := HV8.out.E.cell 1
      have e2 := HV8.out.E.cell 2
      have e3 := HV8.out.E.cell 3
      have g0 := HV8.out.E.soft 0
      have g1 := HV8.out.E.soft 1
      have g2 := HV8.out.E.soft 2
      have g3 := HV8.out.E.soft 3
      obtain ⟨z0, z1, z2, z3, hoz, hrz, hgz⟩ := HV8.out.fin
      have HOZ := Lib.hid hoz
      have HRZ := Lib.hid hrz
      have HGZ := Lib.hid hgz
      have q0 := HV8.out.Q.cell 0
      have q1 := HV8.out.Q.cell 1
      have q2 := HV8.out.Q.cell 2
      have q3 := HV8.out.Q.cell 3
      have f0 := HV8.out.Q.soft 0
      have f1 := HV8.out.Q.soft 1
      have f2 := HV8.out.Q.soft 2
      have f3 := HV8.out.Q.soft 3
      clear hoz hrz hgz
      go_wp2
      exact bodyPost_ret (v := .agg #[.int .i64 z9, .int .i64 0, .int .i64 (S0 * 40), .slice A1 m c1]) (by simp [results, Try.results48, go_sem, z0, z1, z2, z3]) rfl ⟨z9, 0, (S0 * 40), A1, m, c1, ps, (p1 + 1 + 1 + 1 + 1), rfl, ⟨by omega, by omega⟩, hT0, hS, by omega, hk1, hcx1, HOZ.out, HRZ.out, by omega, HGZ.out⟩
    · clear k0
      go_wp2_with (fail)
      (with_reducible refine (one_mem r A n c xs (p1 + 1 + 1 + 1) [-1, 9, 10] 3 _ _ w7 HV7.out.R (by omega) rfl (by omega) (by omega) rfl (by simp)).mono ?_)
      rintro e w8 ⟨z9, rfl, hz9, hR8, hG8⟩
      have hz9b : -20000 ≤ z9 ∧ z9 ≤ 20000 := by simp at hz9; omega
      obtain ⟨z91, z92⟩ := hz9b
      have hp8 : p1 + 1 + 1 + 1 + 1 ≤ p1 + 1 + 1 + 2 := by omega
      have HV8a := Lib.hid (HV7.out.but hG8 hR8)
      have HV8 := Lib.hid (HV8a.out.put1 z9)
      have t0 := HV8a.out.E.cell 1
      have s0 := HV8a.out.E.soft 1
      clear hR8 hG8 HV7 hz9
      have e0 := HV8.out.E.cell 0
      have e1 := HV8.out.E.cell 1
      have e2 := HV8.out.E.cell 2
      have e3 := HV8.out.E.cell 3
      have g0 := HV8.out.E.soft 0
      have g1 := HV8.out.E.soft 1
      have g2 := HV8.out.E.soft 2
      have g3 := HV8.out.E.soft 3
      obtain ⟨z0, z1, z2, z3, hoz, hrz, hgz⟩ := HV8.out.fin
      have HOZ := Lib.hid hoz
      have HRZ := Lib.hid hrz
      have HGZ := Lib.hid hgz
      have q0 := HV8.out.Q.cell 0
      have q1 := HV8.out.Q.cell 1
      have q2 := HV8.out.Q.cell 2
      have q3 := HV8.out.Q.cell 3
      have f0 := HV8.out.Q.soft 0
      have f1 := HV8.out.Q.soft 1
      have f2 := HV8.out.Q.soft 2
      have f3 := HV8.out.Q.soft 3
      clear hoz hrz hgz
      go_wp2
      exact bodyPost_ret (v := .agg #[.int .i64 N, .int .i64 z9, .int .i64 (S0 * 40), .slice A1 m c1]) (by simp [results, Try.results48, go_sem, z0, z1, z2, z3]) rfl ⟨N, z9, (S0 * 40), A1, m, c1, ps, (p1 + 1 + 1 + 1 + 1), rfl, hN, ⟨by omega, by omega⟩, hS, by omega, hk1, hcx1, HOZ.out, HRZ.out, by omega, HGZ.out⟩
    · clear k0
      go_wp2_with (fail)
      (with_reducible refine (one_mem r A n c xs (p1 + 1 + 1 + 1) [-1, 10006, 10007] 3 _ _ w7 HV7.out.R (by omega) rfl (by omega) (by omega) rfl (by simp)).mono ?_)
      rintro e w8 ⟨z9, rfl, hz9, hR8, hG8⟩
      have hz9b : -20000 ≤ z9 ∧ z9 ≤ 20000 := by simp at hz9; omega
      obtain ⟨z91, z92⟩ := hz9b
      have hp8 : p1 + 1 + 1 + 1 + 1 ≤ p1 + 1 + 1 + 2 := by omega
      have HV8a := Lib.hid (HV7.out.but hG8 hR8)
      have HV8 := Lib.hid (HV8a.out.put2 z9)
      have t0 := HV8a.out.E.cell 2
      have s0 := HV8a.out.E.soft 2
      clear hR8 hG8 HV7 hz9
      have e0 := HV8.out.E.cell 0
      have e1 := HV8.out.E.cell 1
      have e2 := HV8.out.E.cell 2
      have e3 := HV8.out.E.cell 3
      have g0 := HV8.out.E.soft 0
      have g1 := HV8.out.E.soft 1
      have g2 := HV8.out.E.soft 2
      have g3 := HV8.out.E.soft 3
      obtain ⟨z0, z1, z2, z3, hoz, hrz, hgz⟩ := HV8.out.fin
      have HOZ := Lib.hid hoz
      have HRZ := Lib.hid hrz
      have HGZ := Lib.hid hgz
      have q0 := HV8.out.Q.cell 0
      have q1 := HV8.out.Q.cell 1
      have q2 := HV8.out.Q.cell 2
      have q3 := HV8.out.Q.cell 3
      have f0 := HV8.out.Q.soft 0
      have f1 := HV8.out.Q.soft 1
      have f2 := HV8.out.Q.soft 2
      have f3 := HV8.out.Q.soft 3
      clear hoz hrz hgz
      go_wp2
      exact bodyPost_ret (v := .agg #[.int .i64 N, .int .i64 0, .int .i64 z9, .slice A1 m c1]) (by simp [results, Try.results48, go_sem, z0, z1, z2, z3]) rfl ⟨N, 0, z9, A1, m, c1, ps, (p1 + 1 + 1 + 1 + 1), rfl, hN, hT0, ⟨by omega, by omega⟩, by omega, hk1, hcx1, HOZ.out, HRZ.out, by omega, HGZ.out⟩
    · clear k0
      go_wp2_with (fail)
      (with_reducible refine (anyLog_any r A n c xs (p1 + 1 + 1 + 1) w7 HV7.out.R (by omega)).mono ?_)
      rintro e w8 ⟨v8, m8, ps8, p8, rfl, ho8, hs8, hm8, hR8, hp8, hG8⟩
      obtain ⟨A8, c8, rfl, hk8, hcx8⟩ := own_cap ho8
      have HV8a := Lib.hid (HV7.out.but hG8 hR8)
      have HV8 := Lib.hid (HV8a.out.put3 ho8 hgw hqw)
      have t0 := HV8a.out.E.cell 3
      have s0 := HV8a.out.E.soft 3
      clear hR8 hG8 HV7 ho8 hs8
      have e0 := HV8.out.E.cell 0
      have e1 := HV8.out.E.cell 1
      have e2 := HV8.out.E.cell 2
      have e3 := HV8.out.E.cell 3
      have g0 := HV8.out.E.soft 0
      have g1 := HV8.out.E.soft 1
      have g2 := HV8.out.E.soft 2
      have g3 := HV8.out.E.soft 3
      obtain ⟨z0, z1, z2, z3, hoz, hrz, hgz⟩ := HV8.out.fin
      have HOZ := Lib.hid hoz
      have HRZ := Lib.hid hrz
      have HGZ := Lib.hid hgz
      have q0 := HV8.out.Q.cell 0
      have q1 := HV8.out.Q.cell 1
      have q2 := HV8.out.Q.cell 2
      have q3 := HV8.out.Q.cell 3
      have f0 := HV8.out.Q.soft 0
      have f1 := HV8.out.Q.soft 1
      have f2 := HV8.out.Q.soft 2
      have f3 := HV8.out.Q.soft 3
      clear hoz hrz hgz
      go_wp2
      exact bodyPost_ret (v := .agg #[.int .i64 N, .int .i64 0, .int .i64 (S0 * 40), .slice A8 m8 c8]) (by simp [results, Try.results48, go_sem, z0, z1, z2, z3]) rfl ⟨N, 0, (S0 * 40), A8, m8, c8, ps8, p8, rfl, hN, hT0, hS, hm8, hk8, hcx8, HOZ.out, HRZ.out, by omega, HGZ.out⟩
    · have d0 : (k == 0) = false := by simp; omega
      have d1 : (k == 1) = false := by simp; omega
      have d2 : (k == 2) = false := by simp; omega
      have d3 : (k == 3) = false := by simp; omega
      have e0 := HV7.out.E.cell 0
      have e1 := HV7.out.E.cell 1
      have e2 := HV7.out.E.cell 2
      have e3 := HV7.out.E.cell 3
      have g0 := HV7.out.E.soft 0
      have g1 := HV7.out.E.soft 1
      have g2 := HV7.out.E.soft 2
      have g3 := HV7.out.E.soft 3
      obtain ⟨z0, z1, z2, z3, hoz, hrz, hgz⟩ := HV7.out.fin
      have HOZ := Lib.hid hoz
      have HRZ := Lib.hid hrz
      have HGZ := Lib.hid hgz
      have q0 := HV7.out.Q.cell 0
      have q1 := HV7.out.Q.cell 1
      have q2 := HV7.out.Q.cell 2
      have q3 := HV7.out.Q.cell 3
      have f0 := HV7.out.Q.soft 0
      have f1 := HV7.out.Q.soft 1
      have f2 := HV7.out.Q.soft 2
      have f3 := HV7.out.Q.soft 3
      clear hoz hrz hgz
      go_wp2
      exact bodyPost_ret (v := .agg #[.int .i64 N, .int .i64 0, .int .i64 (S0 * 40), .slice A1 m c1]) (by simp [results, Try.results48, go_sem, z0, z1, z2, z3]) rfl ⟨N, 0, (S0 * 40), A1, m, c1, ps, (p1 + 1 + 1 + 1), rfl, hN, hT0, hS, by omega, hk1, hcx1, HOZ.out, HRZ.out, by omega, HGZ.out⟩
  have dm : decide ((0 : Int) < (m : Int)) = true := decide_eq_true (by omega)
  have dm2 : decide (0 < m) = true := decide_eq_true (by omega)
  go_wp2_with (fail)
  generalize w3.alloc (.cells #[.int .i64 N, .int .i64 0, .int .i64 (S0 * 40), .slice A1 m c1] 32) = w4 at *
  obtain ⟨g, hgg⟩ : ∃ g, g = w3.heap.size := ⟨_, rfl⟩
  have hgz : g < w4.heap.size := by omega
  rw [← hgg] at HV ⊢
  clear hgg
  (with_reducible refine (pick_any r A n c xs (p1 + 1 + 1) 2 _ HV.out.R (by omega) (by omega)).mono ?_)
  rintro e w5 ⟨z, rfl, z0', z1', _, hR5, hG5⟩
  have HV5 := Lib.hid (HV.out.but hG5 hR5)
  have HRL5 := Lib.hid (HRL.out.far hG5 (by omega) (fun g' e => by injection e with e; omega))
  obtain ⟨b, off, x, y, hA1, hbl, _, hgx, hcx, hc1⟩ := HRL5.out.pair (k := 0) (by omega)
  have hx := (HSM.out (x, y) (List.mem_of_getElem? hgx)).1
  have hT1 : Sm x := ⟨by have := hx.1; dsimp only at this; omega, by have := hx.2; dsimp only at this; omega⟩
  simp only [Nat.zero_mul, Nat.add_zero] at hcx hc1
  clear hgx hx hc1
  clear hR5 hG5 HV z1' HRL HRL5
  by_cases hz : z = 0
  · subst hz
    subst hA1
    have hi0 : (0 : Int) < (m : Int) := by omega
    have HV6 := Lib.hid (HV5.out.put1 x)
    have t0 := HV5.out.E.cell 1
    have s0 := HV5.out.E.soft 1
    go_wp2_with (fail)
    clear t0 s0 hcx HV5
    generalize w5.setCell ⟨g, 1, none⟩ (.int .i64 x) = w6 at *
    (with_reducible refine (pick_any r A n c xs (p1 + 1 + 1 + 1) 24 _ HV6.out.R (by omega) (by omega)).mono ?_)
    rintro e w7 ⟨k, rfl, k0, k1, _, hR7, hG7⟩
    have HV7 := Lib.hid (HV6.out.but hG7 hR7)
    have hgw := HV7.out.E.lt
    have hqw := HV7.out.Q.lt
    clear hR7 hG7 HV6 k1
    rcases (show k = 0 ∨ k = 1 ∨ k = 2 ∨ k = 3 ∨ 4 ≤ k by omega) with rfl | rfl | rfl | rfl | hk
    · clear k0
      go_wp2_with (fail)
      (with_reducible refine (one_mem r A n c xs (p1 + 1 + 1 + 1 + 1) [-1, 999, 1000] 3 _ _ w7 HV7.out.R (by omega) rfl (by omega) (by omega) rfl (by simp)).mono ?_)
      rintro e w8 ⟨z9, rfl, hz9, hR8, hG8⟩
      have hz9b : -20000 ≤ z9 ∧ z9 ≤ 20000 := by simp at hz9; omega
      obtain ⟨z91, z92⟩ := hz9b
      have hp8 : p1 + 1 + 1 + 1 + 1 + 1 ≤ p1 + 1 + 1 + 1 + 2 := by omega
      have HV8a := Lib.hid (HV7.out.but hG8 hR8)
      have HV8 := Lib.hid (HV8a.out.put0 z9)
      have t0 := HV8a.out.E.cell 0
      have s0 := HV8a.out.E.soft 0
      clear hR8 hG8 HV7 hz9
      have e0 := HV8.out.E.cell 0
      have e1 := HV8.out.E.cell 1
      have e2 := HV8.out.E.cell 2
      have e3 := HV8.out.E.cell 3
      have g0 := HV8.out.E.soft 0
      have g1 := HV8.out.E.soft 1
      have g2 := HV8.out.E.soft 2
      have g3 := HV8.out.E.soft 3
      obtain ⟨z0, z1, z2, z3, hoz, hrz, hgz⟩ := HV8.out.fin
      have HOZ := Lib.hid hoz
      have HRZ := Lib.hid hrz
      have HGZ := Lib.hid hgz
      have q0 := HV8.out.Q.cell 0
      have q1 := HV8.out.Q.cell 1
      have q2 := HV8.out.Q.cell 2
      have q3 := HV8.out.Q.cell 3
      have f0 := HV8.out.Q.soft 0
      have f1 := HV8.out.Q.soft 1
      have f2 := HV8.out.Q.soft 2
      have f3 := HV8.out.Q.soft 3
      clear hoz hrz hgz
      go_wp2
      exact bodyPost_ret (v := .agg #[.int .i64 z9, .int .i64 x, .int .i64 (S0 * 40), .slice (some ⟨b, off, none⟩) m c1]) (by simp [results, Try.results48, go_sem, z0, z1, z2, z3]) rfl ⟨z9, x, (S0 * 40), (some ⟨b, off, none⟩), m, c1, ps, (p1 + 1 + 1 + 1 + 1 + 1), rfl, ⟨by omega, by omega⟩, hT1, hS, by omega, hk1, hcx1, HOZ.out, HRZ.out, by omega, HGZ.out⟩
    · clear k0
      go_wp2_with (fail)
      (with_reducible refine (one_mem r A n c xs (p1 + 1 + 1 + 1 + 1) [-1, 9, 10] 3 _ _ w7 HV7.out.R (by omega) rfl (by omega) (by omega) rfl (by simp)).mono ?_)
      rintro e w8 ⟨z9, rfl, hz9, hR8, hG8⟩
      have hz9b : -20000 ≤ z9 ∧ z9 ≤ 20000 := by simp at hz9; omega
      obtain ⟨z91, z92⟩ := hz9b
      have hp8 : p1 + 1 + 1 + 1 + 1 + 1 ≤ p1 + 1 + 1 + 1 + 2 := by omega
      have HV8a := Lib.hid (HV7.out.but hG8 hR8)
      have HV8 := Lib.hid (HV8a.out.put1 z9)
      have t0 := HV8a.out.E.cell 1
      have s0 := HV8a.out.E.soft 1
      clear hR8 hG8 HV7 hz9
      have e0 := HV8.out.E.cell 0
      have e1 := HV8.out.E.cell 1
      have e2 := HV8.out.E.cell 2
      have e3 := HV8.out.E.cell 3
      have g0 := HV8.out.E.soft 0
      have g1 := HV8.out.E.soft 1
      have g2 := HV8.out.E.soft 2
      have g3 := HV8.out.E.soft 3
      obtain ⟨z0, z1, z2, z3, hoz, hrz, hgz⟩ := HV8.out.fin
      have HOZ := Lib.hid hoz
      have HRZ := Lib.hid hrz
      have HGZ := Lib.hid hgz
      have q0 := HV8.out.Q.cell 0
      have q1 := HV8.out.Q.cell 1
      have q2 := HV8.out.Q.cell 2
      have q3 := HV8.out.Q.cell 3
      have f0 := HV8.out.Q.soft 0
      have f1 := HV8.out.Q.soft 1
      have f2 := HV8.out.Q.soft 2
      have f3 := HV8.out.Q.soft 3
      clear hoz hrz hgz
      go_wp2
      exact bodyPost_ret (v := .agg #[.int .i64 N, .int .i64 z9, .int .i64 (S0 * 40), .slice (some ⟨b, off, none⟩) m c1]) (by simp [results, Try.results48, go_sem, z0, z1, z2, z3]) rfl ⟨N, z9, (S0 * 40), (some ⟨b, off, none⟩), m, c1, ps, (p1 + 1 + 1 + 1 + 1 + 1), rfl, hN, ⟨by omega, by omega⟩, hS, by omega, hk1, hcx1, HOZ.out, HRZ.out, by omega, HGZ.out⟩
    · clear k0
      go_wp2_with (fail)
      (with_reducible refine (one_mem r A n c xs (p1 + 1 + 1 + 1 + 1) [-1, 10006, 10007] 3 _ _ w7 HV7.out.R (by omega) rfl (by omega) (by omega) rfl (by simp)).mono ?_)
      rintro e w8 ⟨z9, rfl, hz9, hR8, hG8⟩
      have hz9b : -20000 ≤ z9 ∧ z9 ≤ 20000 := by simp at hz9; omega
      obtain ⟨z91, z92⟩ := hz9b
      have hp8 : p1 + 1 + 1 + 1 + 1 + 1 ≤ p1 + 1 + 1 + 1 + 2 := by omega
      have HV8a := Lib.hid (HV7.out.but hG8 hR8)
      have HV8 := Lib.hid (HV8a.out.put2 z9)
      have t0 := HV8a.out.E.cell 2
      have s0 := HV8a.out.E.soft 2
      clear hR8 hG8 HV7 hz9
      have e0 := HV8.out.E.cell 0
      have e1 := HV8.out.E.cell 1
      have e2 := HV8.out.E.cell 2
      have e3 := HV8.out.E.cell 3
      have g0 := HV8.out.E.soft 0
      have g1 := HV8.out.E.soft 1
      have g2 := HV8.out.E.soft 2
      have g3 := HV8.out.E.soft 3
      obtain ⟨z0, z1, z2, z3, hoz, hrz, hgz⟩ := HV8.out.fin
      have HOZ := Lib.hid hoz
      have HRZ := Lib.hid hrz
      have HGZ := Lib.hid hgz
      have q0 := HV8.out.Q.cell 0
      have q1 := HV8.out.Q.cell 1
      have q2 := HV8.out.Q.cell 2
      have q3 := HV8.out.Q.cell 3
      have f0 := HV8.out.Q.soft 0
      have f1 := HV8.out.Q.soft 1
      have f2 := HV8.out.Q.soft 2
      have f3 := HV8.out.Q.soft 3
      clear hoz hrz hgz
      go_wp2
      exact bodyPost_ret (v := .agg #[.int .i64 N, .int .i64 x, .int .i64 z9, .slice (some ⟨b, off, none⟩) m c1]) (by simp [results, Try.results48, go_sem, z0, z1, z2, z3]) rfl ⟨N, x, z9, (some ⟨b, off, none⟩), m, c1, ps, (p1 + 1 + 1 + 1 + 1 + 1), rfl, hN, hT1, ⟨by omega, by omega⟩, by omega, hk1, hcx1, HOZ.out, HRZ.out, by omega, HGZ.out⟩
    · clear k0
      go_wp2_with (fail)
      (with_reducible refine (anyLog_any r A n c xs (p1 + 1 + 1 + 1 + 1) w7 HV7.out.R (by omega)).mono ?_)
      rintro e w8 ⟨v8, m8, ps8, p8, rfl, ho8, hs8, hm8, hR8, hp8, hG8⟩
      obtain ⟨A8, c8, rfl, hk8, hcx8⟩ := own_cap ho8
      have HV8a := Lib.hid (HV7.out.but hG8 hR8)
      have HV8 := Lib.hid (HV8a.out.put3 ho8 hgw hqw)
      have t0 := HV8a.out.E.cell 3
      have s0 := HV8a.out.E.soft 3
      clear hR8 hG8 HV7 ho8 hs8
      have e0 := HV8.out.E.cell 0
      have e1 := HV8.out.E.cell 1
      have e2 := HV8.out.E.cell 2
      have e3 := HV8.out.E.cell 3
      have g0 := HV8.out.E.soft 0
      have g1 := HV8.out.E.soft 1
      have g2 := HV8.out.E.soft 2
      have g3 := HV8.out.E.soft 3
      obtain ⟨z0, z1, z2, z3, hoz, hrz, hgz⟩ := HV8.out.fin
      have HOZ := Lib.hid hoz
      have HRZ := Lib.hid hrz
      have HGZ := Lib.hid hgz
      have q0 := HV8.out.Q.cell 0
      have q1 := HV8.out.Q.cell 1
      have q2 := HV8.out.Q.cell 2
      have q3 := HV8.out.Q.cell 3
      have f0 := HV8.out.Q.soft 0
      have f1 := HV8.out.Q.soft 1
      have f2 := HV8.out.Q.soft 2
      have f3 := HV8.out.Q.soft 3
      clear hoz hrz hgz
      go_wp2
      exact bodyPost_ret (v := .agg #[.int .i64 N, .int .i64 x, .int .i64 (S0 * 40), .slice A8 m8 c8]) (by simp [results, Try.results48, go_sem, z0, z1, z2, z3]) rfl ⟨N, x, (S0 * 40), A8, m8, c8, ps8, p8, rfl, hN, hT1, hS, hm8, hk8, hcx8, HOZ.out, HRZ.out, by omega, HGZ.out⟩
    · have d0 : (k == 0) = false := by simp; omega
      have d1 : (k == 1) = false := by simp; omega
      have d2 : (k == 2) = false := by simp; omega
      have d3 : (k == 3) = false := by simp; omega
      have e0 := HV7.out.E.cell 0
      have e1 := HV7.out.E.cell 1
      have e2 := HV7.out.E.cell 2
      have e3 := HV7.out.E.cell 3
      have g0 := HV7.out.E.soft 0
      have g1 := HV7.out.E.soft 1
      have g2 := HV7.out.E.soft 2
      have g3 := HV7.out.E.soft 3
      obtain ⟨z0, z1, z2, z3, hoz, hrz, hgz⟩ := HV7.out.fin
      have HOZ := Lib.hid hoz
      have HRZ := Lib.hid hrz
      have HGZ := Lib.hid hgz
      have q0 := HV7.out.Q.cell 0
      have q1 := HV7.out.Q.cell 1
      have q2 := HV7.out.Q.cell 2
      have q3 := HV7.out.Q.cell 3
      have f0 := HV7.out.Q.soft 0
      have f1 := HV7.out.Q.soft 1
      have f2 := HV7.out.Q.soft 2
      have f3 := HV7.out.Q.soft 3
      clear hoz hrz hgz
      go_wp2
      exact bodyPost_ret (v := .agg #[.int .i64 N, .int .i64 x, .int .i64 (S0 * 40), .slice (some ⟨b, off, none⟩) m c1]) (by simp [results, Try.results48, go_sem, z0, z1, z2, z3]) rfl ⟨N, x, (S0 * 40), (some ⟨b, off, none⟩), m, c1, ps, (p1 + 1 + 1 + 1 + 1), rfl, hN, hT1, hS, by omega, hk1, hcx1, HOZ.out, HRZ.out, by omega, HGZ.out⟩
  · have hzd : (z == 0) = false := by simpa using hz
    clear hz hA1 hcx hbl
    go_wp2_with (fail)
    (with_reducible refine (pick_any r A n c xs (p1 + 1 + 1 + 1) 24 _ HV5.out.R (by omega) (by omega)).mono ?_)
    rintro e w7 ⟨k, rfl, k0, k1, _, hR7, hG7⟩
    have HV7 := Lib.hid (HV5.out.but hG7 hR7)
    have hgw := HV7.out.E.lt
    have hqw := HV7.out.Q.lt
    clear hR7 hG7 HV5 k1
    rcases (show k = 0 ∨ k = 1 ∨ k = 2 ∨ k = 3 ∨ 4 ≤ k by omega) with rfl | rfl | rfl | rfl | hk
    · clear k0
      go_wp2_with (fail)
      (with_reducible refine (one_mem r A n c xs (p1 + 1 + 1 + 1 + 1) [-1, 999, 1000] 3 _ _ w7 HV7.out.R (by omega) rfl (by omega) (by omega) rfl (by simp)).mono ?_)
      rintro e w8 ⟨z9, rfl, hz9, hR8, hG8⟩
      have hz9b : -20000 ≤ z9 ∧ z9 ≤ 20000 := by simp at hz9; omega
      obtain ⟨z91, z92⟩ := hz9b
      have hp8 : p1 + 1 + 1 + 1 + 1 + 1 ≤ p1 + 1 + 1 + 1 + 2 := by omega
      have HV8a := Lib.hid (HV7.out.but hG8 hR8)
      have HV8 := Lib.hid (HV8a.out.put0 z9)
      have t0 := HV8a.out.E.cell 0
      have s0 := HV8a.out.E.soft 0
      clear hR8 hG8 HV7 hz9
      have e0 := HV8.out.E.cell 0
      have e1 := HV8.out.E.cell 1
      have e2 := HV8.out.E.cell 2
      have e3 := HV8.out.E.cell 3
      have g0 := HV8.out.E.soft 0
      have g1 := HV8.out.E.soft 1
      have g2 := HV8.out.E.soft 2
      have g3 := HV8.out.E.soft 3
      obtain ⟨z0, z1, z2, z3, hoz, hrz, hgz⟩ := HV8.out.fin
      have HOZ := Lib.hid hoz
      have HRZ := Lib.hid hrz
      have HGZ := Lib.hid hgz
      have q0 := HV8.out.Q.cell 0
      have q1 := HV8.out.Q.cell 1
      have q2 := HV8.out.Q.cell 2
      have q3 := HV8.out.Q.cell 3
      have f0 := HV8.out.Q.soft 0
      have f1 := HV8.out.Q.soft 1
      have f2 := HV8.out.Q.soft 2
      have f3 := HV8.out.Q.soft 3
      clear hoz hrz hgz
      go_wp2
      exact bodyPost_ret (v := .agg #[.int .i64 z9, .int .i64 0, .int .i64 (S0 * 40), .slice A1 m c1]) (by simp [results, Try.results48, go_sem, z0, z1, z2, z3]) rfl ⟨z9, 0, (S0 * 40), A1, m, c1, ps, (p1 + 1 + 1 + 1 + 1 + 1), rfl, ⟨by omega, by omega⟩, hT0, hS, by omega, hk1, hcx1, HOZ.out, HRZ.out, by omega, HGZ.out⟩
    · clear k0
      go_wp2_with (fail)
      (with_reducible refine (one_mem r A n c xs (p1 + 1 + 1 + 1 + 1) [-1, 9, 10] 3 _ _ w7 HV7.out.R (by omega) rfl (by omega) (by omega) rfl (by simp)).mono ?_)
      rintro e w8 ⟨z9, rfl, hz9, hR8, hG8⟩
      have hz9b : -20000 ≤ z9 ∧ z9 ≤ 20000 := by simp at hz9; omega
      obtain ⟨z91, z92⟩ := hz9b
      have hp8 : p1 + 1 + 1 + 1 + 1 + 1 ≤ p1 + 1 + 1 + 1 + 2 := by omega
      have HV8a := Lib.hid (HV7.out.but hG8 hR8)
      have HV8 := Lib.hid (HV8a.out.put1 z9)
      have t0 := HV8a.out.E.cell 1
      have s0 := HV8a.out.E.soft 1
      clear hR8 hG8 HV7 hz9
      have e0 := HV8.out.E.cell 0
      have e1 := HV8.out.E.cell 1
      have e2 := HV8.out.E.cell 2
      have e3 := HV8.out.E.cell 3
      have g0 := HV8.out.E.soft 0
      have g1 := HV8.out.E.soft 1
      have g2 := HV8.out.E.soft 2
      have g3 := HV8.out.E.soft 3
      obtain ⟨z0, z1, z2, z3, hoz, hrz, hgz⟩ := HV8.out.fin
      have HOZ := Lib.hid hoz
      have HRZ := Lib.hid hrz
      have HGZ := Lib.hid hgz
      have q0 := HV8.out.Q.cell 0
      have q1 := HV8.out.Q.cell 1
      have q2 := HV8.out.Q.cell 2
      have q3 := HV8.out.Q.cell 3
      have f0 := HV8.out.Q.soft 0
      have f1 := HV8.out.Q.soft 1
      have f2 := HV8.out.Q.soft 2
      have f3 := HV8.out.Q.soft 3
      clear hoz hrz hgz
      go_wp2
      exact bodyPost_ret (v := .agg #[.int .i64 N, .int .i64 z9, .int .i64 (S0 * 40), .slice A1 m c1]) (by simp [results, Try.results48, go_sem, z0, z1, z2, z3]) rfl ⟨N, z9, (S0 * 40), A1, m, c1, ps, (p1 + 1 + 1 + 1 + 1 + 1), rfl, hN, ⟨by omega, by omega⟩, hS, by omega, hk1, hcx1, HOZ.out, HRZ.out, by omega, HGZ.out⟩
    · clear k0
      go_wp2_with (fail)
      (with_reducible refine (one_mem r A n c xs (p1 + 1 + 1 + 1 + 1) [-1, 10006, 10007] 3 _ _ w7 HV7.out.R (by omega) rfl (by omega) (by omega) rfl (by simp)).mono ?_)
      rintro e w8 ⟨z9, rfl, hz9, hR8, hG8⟩
      have hz9b : -20000 ≤ z9 ∧ z9 ≤ 20000 := by simp at hz9; omega
      obtain ⟨z91, z92⟩ := hz9b
      have hp8 : p1 + 1 + 1 + 1 + 1 + 1 ≤ p1 + 1 + 1 + 1 + 2 := by omega
      have HV8a := Lib.hid (HV7.out.but hG8 hR8)
      have HV8 := Lib.hid (HV8a.out.put2 z9)
      have t0 := HV8a.out.E.cell 2
      have s0 := HV8a.out.E.soft 2
      clear hR8 hG8 HV7 hz9
      have e0 := HV8.out.E.cell 0
      have e1 := HV8.out.E.cell 1
      have e2 := HV8.out.E.cell 2
      have e3 := HV8.out.E.cell 3
      have g0 := HV8.out.E.soft 0
      have g1 := HV8.out.E.soft 1
      have g2 := HV8.out.E.soft 2
      have g3 := HV8.out.E.soft 3
      obtain ⟨z0, z1, z2, z3, hoz, hrz, hgz⟩ := HV8.out.fin
      have HOZ := Lib.hid hoz
      have HRZ := Lib.hid hrz
      have HGZ := Lib.hid hgz
      have q0 := HV8.out.Q.cell 0
      have q1 := HV8.out.Q.cell 1
      have q2 := HV8.out.Q.cell 2
      have q3 := HV8.out.Q.cell 3
      have f0 := HV8.out.Q.soft 0
      have f1 := HV8.out.Q.soft 1
      have f2 := HV8.out.Q.soft 2
      have f3 := HV8.out.Q.soft 3
      clear hoz hrz hgz
      go_wp2
      exact bodyPost_ret (v := .agg #[.int .i64 N, .int .i64 0, .int .i64 z9, .slice A1 m c1]) (by simp [results, Try.results48, go_sem, z0, z1, z2, z3]) rfl ⟨N, 0, z9, A1, m, c1, ps, (p1 + 1 + 1 + 1 + 1 + 1), rfl, hN, hT0, ⟨by omega, by omega⟩, by omega, hk1, hcx1, HOZ.out, HRZ.out, by omega, HGZ.out⟩
    · clear k0
      go_wp2_with (fail)
      (with_reducible refine (anyLog_any r A n c xs (p1 + 1 + 1 + 1 + 1) w7 HV7.out.R (by omega)).mono ?_)
      rintro e w8 ⟨v8, m8, ps8, p8, rfl, ho8, hs8, hm8, hR8, hp8, hG8⟩
      obtain ⟨A8, c8, rfl, hk8, hcx8⟩ := own_cap ho8
      have HV8a := Lib.hid (HV7.out.but hG8 hR8)
      have HV8 := Lib.hid (HV8a.out.put3 ho8 hgw hqw)
      have t0 := HV8a.out.E.cell 3
      have s0 := HV8a.out.E.soft 3
      clear hR8 hG8 HV7 ho8 hs8
      have e0 := HV8.out.E.cell 0
      have e1 := HV8.out.E.cell 1
      have e2 := HV8.out.E.cell 2
      have e3 := HV8.out.E.cell 3
      have g0 := HV8.out.E.soft 0
      have g1 := HV8.out.E.soft 1
      have g2 := HV8.out.E.soft 2
      have g3 := HV8.out.E.soft 3
      obtain ⟨z0, z1, z2, z3, hoz, hrz, hgz⟩ := HV8.out.fin
      have HOZ := Lib.hid hoz
      have HRZ := Lib.hid hrz
      have HGZ := Lib.hid hgz
      have q0 := HV8.out.Q.cell 0
      have q1 := HV8.out.Q.cell 1
      have q2 := HV8.out.Q.cell 2
      have q3 := HV8.out.Q.cell 3
      have f0 := HV8.out.Q.soft 0
      have f1 := HV8.out.Q.soft 1
      have f2 := HV8.out.Q.soft 2
      have f3 := HV8.out.Q.soft 3
      clear hoz hrz hgz
      go_wp2
      exact bodyPost_ret (v := .agg #[.int .i64 N, .int .i64 0, .int .i64 (S0 * 40), .slice A8 m8 c8]) (by simp [results, Try.results48, go_sem, z0, z1, z2, z3]) rfl ⟨N, 0, (S0 * 40), A8, m8, c8, ps8, p8, rfl, hN, hT0, hS, hm8, hk8, hcx8, HOZ.out, HRZ.out, by omega, HGZ.out⟩
    · have d0 : (k == 0) = false := by simp; omega
      have d1 : (k == 1) = false := by simp; omega
      have d2 : (k == 2) = false := by simp; omega
      have d3 : (k == 3) = false := by simp; omega
      have e0 := HV7.out.E.cell 0
      have e1 := HV7.out.E.cell 1
      have e2 := HV7.out.E.cell 2
      have e3 := HV7.out.E.cell 3
      have g0 := HV7.out.E.soft 0
      have g1 := HV7.out.E.soft 1
      have g2 := HV7.out.E.soft 2
      have g3 := HV7.out.E.soft 3
      obtain ⟨z0, z1, z2, z3, hoz, hrz, hgz⟩ := HV7.out.fin
      have HOZ := Lib.hid hoz
      have HRZ := Lib.hid hrz
      have HGZ := Lib.hid hgz
      have q0 := HV7.out.Q.cell 0
      have q1 := HV7.out.Q.cell 1
      have q2 := HV7.out.Q.cell 2
      have q3 := HV7.out.Q.cell 3
      have f0 := HV7.out.Q.soft 0
      have f1 := HV7.out.Q.soft 1
      have f2 := HV7.out.Q.soft 2
      have f3 := HV7.out.Q.soft 3
      clear hoz hrz hgz
      go_wp2
      exact bodyPost_ret (v := .agg #[.int .i64 N, .int .i64 0, .int .i64 (S0 * 40), .slice A1 m c1]) (by simp [results, Try.results48, go_sem, z0, z1, z2, z3]) rfl ⟨N, 0, (S0 * 40), A1, m, c1, ps, (p1 + 1 + 1 + 1 + 1), rfl, hN, hT0, hS, by omega, hk1, hcx1, HOZ.out, HRZ.out, by omega, HGZ.out⟩
/-- One drawn snapshot. -/
def DrawS1 (w : World) (e : Ending) (w' : World) : Prop :=
  ∃ (N T S : Int) (A1 : Option Addr) (m c1 : Nat) (ps : List En), e = .returned (.agg #[.int .i64 N, .int .i64 T, .int .i64 S, .slice A1 m c1]) ∧ Sm N ∧ Sm T ∧ Sm S ∧ m ≤ 17 ∧ m ≤ c1 ∧ c1 ≤ 9223372036854775807 ∧ Rd w' w.heap.size w'.heap.size 2 A1 m (pvs ps) ∧ Below w.heap.size w w'
end Go.Proofs.Ytfpiejcfhdnjiaa
