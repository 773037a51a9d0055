/- The arguments of the laws on post offices. (Written by gen/drawt3.py.) -/
import Derived.Test.YtgnffodnimafoaaDrawT2
import Derived.Test.YtgnffodnimafoaaDrawN
import Derived.Deep.CutRange
import Derived.Deep.RegionLaw
import Derived.Deep.RegionHeld3
set_option linter.unusedSimpArgs false
set_option linter.unusedVariables false
namespace Go.Proofs.Ytgnffodnimafoaa
open Go.RowKit

/-- A post office in rows of its own, a law's argument. -/
structure Off (w w' : World) (A1 : Option Addr) (n1 c1 : Nat) (A2 : Option Addr) (n2 c2 : Nat) (ns fs : List Tri) : Prop where
  m1 : n1 ≤ 11
  m2 : n2 ≤ 11
  k1 : n1 ≤ c1
  k2 : n2 ≤ c2
  r1 : Rd w' w.heap.size w'.heap.size 3 A1 n1 (tvs ns)
  r2 : Rd w' w.heap.size w'.heap.size 3 A2 n2 (tvs fs)
  bel : Below w.heap.size w w'
theorem Off.drewn {w w' : World} {A1 A2 : Option Addr} {n1 c1 n2 c2 : Nat} {ns fs : List Tri} (h : Off w w' A1 n1 c1 A2 n2 c2 ns fs) : Off w w'.drew A1 n1 c1 A2 n2 c2 ns fs :=
  ⟨h.m1, h.m2, h.k1, h.k2, (h.r1.keep (up_drew (Below.refl _ _)) (Nat.le_refl _)).wide (Nat.le_refl _) (by simp), (h.r2.keep (up_drew (Below.refl _ _)) (Nat.le_refl _)).wide (Nat.le_refl _) (by simp), up_drew h.bel⟩
theorem cell_drewn (w : World) (q : Addr) : w.drew.cell? q = w.cell? q := rfl
theorem frozen_drewn (w : World) (q : Addr) : w.drew.frozen? q = w.frozen? q := rfl
def DrawP (w : World) (e : Ending) (w' : World) : Prop :=
  ∃ A1 n1 c1 A2 n2 c2 ns fs, e = .returned (.agg #[.slice A1 n1 c1, .slice A2 n2 c2]) ∧ Off w w' A1 n1 c1 A2 n2 c2 ns fs
def DrawPI (w : World) (e : Ending) (w' : World) : Prop :=
  ∃ A1 n1 c1 A2 n2 c2 ns fs, ∃ z : Int, e = .returned (.tuple #[.agg #[.slice A1 n1 c1, .slice A2 n2 c2], .int .i64 z]) ∧ -1 ≤ z ∧ z ≤ 10000 ∧ Off w w' A1 n1 c1 A2 n2 c2 ns fs
def DrawPL (w : World) (e : Ending) (w' : World) : Prop :=
  ∃ A1 n1 c1 A2 n2 c2 ns fs, ∃ x y z : Int, e = .returned (.tuple #[.agg #[.slice A1 n1 c1, .slice A2 n2 c2], .agg #[.int .i64 x, .int .i64 y, .int .i64 z]]) ∧ Off w w' A1 n1 c1 A2 n2 c2 ns fs
/-- What anyPost leaves, as a law wants it. -/
theorem Off.of {w w1 w2 : World} {A1 A2 : Option Addr} {n1 c1 n2 c2 : Nat} {ns fs : List Tri} {base : Nat} (h : CopyRows base ns fs n1 n2 (.slice A1 n1 c1) (.slice A2 n2 c2) w2) (hb : w.heap.size ≤ base) (h1 : n1 ≤ 11) (h2 : n2 ≤ 11) (hl : Below w.heap.size w w2) : Off w w2 A1 n1 c1 A2 n2 c2 ns fs :=
  ⟨h1, h2, by obtain ⟨_, _, e, hc, _⟩ := own_cap h.1; cases e; exact hc, by obtain ⟨_, _, e, hc, _⟩ := own_cap h.2.1; cases e; exact hc, (Rd.of_own h.1).wide hb (Nat.le_refl _), (Rd.of_own h.2.1).wide hb (Nat.le_refl _), hl⟩
set_option maxRecDepth 100000 in
set_option maxHeartbeats 6400000 in
theorem drawValidPost_any (n c : Nat) (A : Option Addr) (xs : List Int) (w : World) (hr : Rd w 0 w.heap.size 1 A n (bvs xs)) (hby : Bytes xs) (hn : n ≤ 1048576) (hc : n ≤ c) (hc2 : c ≤ 9223372036854775807) :
    Calls Try.prog 23 #[.slice A n c] w (DrawP w) := by
  have hq := Blk.new w 26 #[.slice none 0 0, .slice none 0 0]
  have HQ0 := Lib.hid hq
  have HB0 := Lib.hid (up_alloc (Below.refl _ w) (.cells #[.slice none 0 0, .slice none 0 0] 26))
  have HRA := Lib.hid (hr.keep (up_alloc (Below.refl _ w) (.cells #[.slice none 0 0, .slice none 0 0] 26)) (Nat.le_refl _))
  clear hq hr
  go_enter Try.func23, Try.ntmps23
  go_wp2_with (fail)
  (with_reducible refine (newReader_any n c A xs _ (HRA.out.wide (Nat.le_refl _) (by simp)) hby hn hc hc2).mono ?_)
  rintro e w1 ⟨r, n', c', xs', rfl, hrw, hR1, hb1⟩
  have hrl := hR1.lt
  simp only [World.size_alloc] at hrw
  have HB1 := Lib.hid (up HB0.out hb1)
  have HQ1 := Lib.hid (HQ0.out.below hb1 HQ0.out.lt)
  have hz1 := HB1.out.size
  clear hb1 HRA
  go_wp2_with (fail)
  (with_reducible refine (anyPost_any r A n' c' xs' 0 w1 hR1 (by omega)).mono ?_)
  rintro e w2 ⟨A1, n1, c1, A2, n2, c2, ns, fs, p', rfl, hcr, hn1, hn2, hR2, hp2, hG2⟩
  have hq2 := HQ1.out.but hG2 (by omega)
  have q0 := hq2.cell 0
  have q1 := hq2.cell 1
  have s0 := hq2.soft 0
  have s1 := hq2.soft 1
  have hz := (hq2.put 0 (.slice A1 n1 c1)).put 1 (.slice A2 n2 c2)
  have z0 := hz.cell 0
  have z1 := hz.cell 1
  simp at z0 z1
  have hof1 : ∀ q, (Value.slice A1 n1 c1).ownBlock = some q → q ≠ w.heap.size := fun q hq => by have := (hcr.1.lt q hq).1; omega
  have hof2 : ∀ q, (Value.slice A2 n2 c2).ownBlock = some q → q ≠ w.heap.size := fun q hq => by have := (hcr.2.1.lt q hq).1; omega
  have HF := Lib.hid (Off.of (w := w) (w1 := w1) ((hcr.set (q := ⟨w.heap.size, 0, none⟩) (.slice A1 n1 c1) hof1 hof2).set (q := ⟨w.heap.size, 1, none⟩) (.slice A2 n2 c2) hof1 hof2) (by omega) hn1 hn2 (((but_mineK HB1.out hG2 (by omega)).setCell (p := ⟨w.heap.size, 0, none⟩) (Nat.le_refl _) (.slice A1 n1 c1)).setCell (p := ⟨w.heap.size, 1, none⟩) (Nat.le_refl _) (.slice A2 n2 c2)))
  clear hz hof1 hof2 hcr hR2 hG2 hq2
  go_wp2
  exact bodyPost_ret (v := .agg #[.slice A1 n1 c1, .slice A2 n2 c2]) (by simp [results, Try.results23, go_sem, z0, z1]) rfl ⟨_, _, _, _, _, _, _, _, rfl, HF.out⟩
/-- How Pl's function stands: two results, the post office and the struct in blocks of their own. -/
structure Pl (w0 w : World) (r : Nat) (A : Option Addr) (n c : Nat) (xs : List Int) (p : Int) (xb : Nat) (A1 : Option Addr) (n1 c1 : Nat) (A2 : Option Addr) (n2 c2 : Nat) (ns fs : List Tri) (lb : Nat) (x y z : Int) : Prop where
  rdr : Rdr w r A n c xs p
  hr : w0.heap.size + 2 ≤ r
  q0 : Blk w w0.heap.size 26 #[.slice none 0 0, .slice none 0 0]
  q1 : Blk w (w0.heap.size + 1) 33 #[.int .i64 0, .int .i64 0, .int .i64 0]
  box : Blk w xb 26 #[.slice A1 n1 c1, .slice A2 n2 c2]
  lbx : Blk w lb 33 #[.int .i64 x, .int .i64 y, .int .i64 z]
  d1 : Rd w (r + 1) xb 3 A1 n1 (tvs ns)
  d2 : Rd w (r + 1) xb 3 A2 n2 (tvs fs)
  hrx : r < xb
  hxl : xb < lb
  bel : Below w0.heap.size w0 w
section
variable {w0 w w' : World} {r : Nat} {A : Option Addr} {n c : Nat} {xs : List Int} {p p' : Int} {xb : Nat} {A1 A2 : Option Addr} {n1 c1 n2 c2 : Nat} {ns fs : List Tri} {lb : Nat} {x y z : Int}
theorem Pl.below (h : Pl w0 w r A n c xs p xb A1 n1 c1 A2 n2 c2 ns fs lb x y z) (hb : Below w.heap.size w w') : Pl w0 w' r A n c xs p xb A1 n1 c1 A2 n2 c2 ns fs lb x y z :=
  ⟨h.rdr.below hb, h.hr, h.q0.below hb h.q0.lt, h.q1.below hb h.q1.lt, h.box.below hb h.box.lt, h.lbx.below hb h.lbx.lt, h.d1.keep hb (Nat.le_of_lt h.box.lt), h.d2.keep hb (Nat.le_of_lt h.box.lt), h.hrx, h.hxl, up h.bel hb⟩
theorem Pl.drawn (h : Pl w0 w r A n c xs p xb A1 n1 c1 A2 n2 c2 ns fs lb x y z) (hR : Rdr w' r A n c xs p') (hG : But r w w') : Pl w0 w' r A n c xs p' xb A1 n1 c1 A2 n2 c2 ns fs lb x y z := by
  have h1 := h.hr; have h2 := h.hrx; have h3 := h.hxl
  exact ⟨hR, h.hr, h.q0.but hG (by omega), h.q1.but hG (by omega), h.box.but hG (by omega), h.lbx.but hG (by omega), h.d1.but hG (Nat.le_of_lt h.box.lt) (by omega), h.d2.but hG (Nat.le_of_lt h.box.lt) (by omega), h.hrx, h.hxl, but_mineK h.bel hG (by omega)⟩
/-- A store into the struct. -/
theorem Pl.sto (h : Pl w0 w r A n c xs p xb A1 n1 c1 A2 n2 c2 ns fs lb x y z) (i : Nat) (u : Int) {x' y' z' : Int} (he : (#[Value.int .i64 x, .int .i64 y, .int .i64 z] : Array Value).setIfInBounds i (.int .i64 u) = #[.int .i64 x', .int .i64 y', .int .i64 z']) :
    Pl w0 (w.setCell ⟨lb, i, none⟩ (.int .i64 u)) r A n c xs p xb A1 n1 c1 A2 n2 c2 ns fs lb x' y' z' := by
  have h1 := h.hr; have h2 := h.hrx; have h3 := h.hxl; have h4 := h.bel.size
  have hl := h.lbx.put i (.int .i64 u)
  rw [he] at hl
  exact ⟨rdr_set h.rdr (q := ⟨lb, i, none⟩) (by show r < lb; omega) _, h.hr, h.q0.far (p := ⟨lb, i, none⟩) (by show _ ≠ lb; omega) _, h.q1.far (p := ⟨lb, i, none⟩) (by show _ ≠ lb; omega) _, h.box.far (p := ⟨lb, i, none⟩) (by show _ ≠ lb; omega) _, hl,
    h.d1.setCell (p := ⟨lb, i, none⟩) (.inr (by show xb ≤ lb; omega)) _, h.d2.setCell (p := ⟨lb, i, none⟩) (.inr (by show xb ≤ lb; omega)) _, h.hrx, h.hxl, h.bel.setCell (p := ⟨lb, i, none⟩) (by show _ ≤ lb; omega) _⟩
/-- The end: both results are laid, in either order. -/
theorem Pl.fin (h : Pl w0 w r A n c xs p xb A1 n1 c1 A2 n2 c2 ns fs lb x y z) (hm1 : n1 ≤ 11) (hm2 : n2 ≤ 11) (hk1 : n1 ≤ c1) (hk2 : n2 ≤ c2) {w' : World}
    (hw : w' = ((((w.setCell ⟨w0.heap.size, 0, none⟩ (.slice A1 n1 c1)).setCell ⟨w0.heap.size, 1, none⟩ (.slice A2 n2 c2)).setCell ⟨w0.heap.size + 1, 0, none⟩ (.int .i64 x)).setCell ⟨w0.heap.size + 1, 1, none⟩ (.int .i64 y)).setCell ⟨w0.heap.size + 1, 2, none⟩ (.int .i64 z) ∨
      w' = ((((w.setCell ⟨w0.heap.size + 1, 0, none⟩ (.int .i64 x)).setCell ⟨w0.heap.size + 1, 1, none⟩ (.int .i64 y)).setCell ⟨w0.heap.size + 1, 2, none⟩ (.int .i64 z)).setCell ⟨w0.heap.size, 0, none⟩ (.slice A1 n1 c1)).setCell ⟨w0.heap.size, 1, none⟩ (.slice A2 n2 c2)) :
    w'.drew.cell? ⟨w0.heap.size, 0, none⟩ = some (.slice A1 n1 c1) ∧ w'.drew.cell? ⟨w0.heap.size, 1, none⟩ = some (.slice A2 n2 c2) ∧ w'.drew.cell? ⟨w0.heap.size + 1, 0, none⟩ = some (.int .i64 x) ∧ w'.drew.cell? ⟨w0.heap.size + 1, 1, none⟩ = some (.int .i64 y) ∧ w'.drew.cell? ⟨w0.heap.size + 1, 2, none⟩ = some (.int .i64 z) ∧ Hid (Off w0 w'.drew A1 n1 c1 A2 n2 c2 ns fs) := by
  have h1 := h.hr; have h2 := h.hrx; have hsz := h.bel.size
  have n0 : w0.heap.size ≠ w0.heap.size + 1 := by omega
  have n0' : w0.heap.size + 1 ≠ w0.heap.size := by omega
  have hs : ∀ (u : World) (q : Addr) (v : Value), (u.setCell q v).heap.size = u.heap.size := fun u q v => by simp [World.setCell]
  rcases hw with rfl | rfl
  · have e0 := ((((h.q0.put 0 (.slice A1 n1 c1)).put 1 (.slice A2 n2 c2)).far (p := ⟨w0.heap.size + 1, 0, none⟩) n0 (.int .i64 x)).far (p := ⟨w0.heap.size + 1, 1, none⟩) n0 (.int .i64 y)).far (p := ⟨w0.heap.size + 1, 2, none⟩) n0 (.int .i64 z)
    have e1 := ((((h.q1.far (p := ⟨w0.heap.size, 0, none⟩) n0' (.slice A1 n1 c1)).far (p := ⟨w0.heap.size, 1, none⟩) n0' (.slice A2 n2 c2)).put 0 (.int .i64 x)).put 1 (.int .i64 y)).put 2 (.int .i64 z)
    have g : ∀ {An : Option Addr} {nn : Nat} {l : List Tri}, Rd w (r + 1) xb 3 An nn (tvs l) → Rd (((((w.setCell ⟨w0.heap.size, 0, none⟩ (.slice A1 n1 c1)).setCell ⟨w0.heap.size, 1, none⟩ (.slice A2 n2 c2)).setCell ⟨w0.heap.size + 1, 0, none⟩ (.int .i64 x)).setCell ⟨w0.heap.size + 1, 1, none⟩ (.int .i64 y)).setCell ⟨w0.heap.size + 1, 2, none⟩ (.int .i64 z)) w0.heap.size (((((w.setCell ⟨w0.heap.size, 0, none⟩ (.slice A1 n1 c1)).setCell ⟨w0.heap.size, 1, none⟩ (.slice A2 n2 c2)).setCell ⟨w0.heap.size + 1, 0, none⟩ (.int .i64 x)).setCell ⟨w0.heap.size + 1, 1, none⟩ (.int .i64 y)).setCell ⟨w0.heap.size + 1, 2, none⟩ (.int .i64 z)).heap.size 3 An nn (tvs l) := fun hd =>
      (((((hd.setCell (p := ⟨w0.heap.size, 0, none⟩) (.inl (by show w0.heap.size < r + 1; omega)) _).setCell (p := ⟨w0.heap.size, 1, none⟩) (.inl (by show w0.heap.size < r + 1; omega)) _).setCell (p := ⟨w0.heap.size + 1, 0, none⟩) (.inl (by show w0.heap.size + 1 < r + 1; omega)) _).setCell (p := ⟨w0.heap.size + 1, 1, none⟩) (.inl (by show w0.heap.size + 1 < r + 1; omega)) _).setCell (p := ⟨w0.heap.size + 1, 2, none⟩) (.inl (by show w0.heap.size + 1 < r + 1; omega)) _).wide (by omega) (by simp only [hs]; exact Nat.le_of_lt h.box.lt)
    simp only [cell_drewn]
    exact ⟨e0.cell 0, e0.cell 1, e1.cell 0, e1.cell 1, e1.cell 2, Lib.hid (Off.drewn ⟨hm1, hm2, hk1, hk2, g h.d1, g h.d2, (((((h.bel.setCell (p := ⟨w0.heap.size, 0, none⟩) (Nat.le_refl _) _).setCell (p := ⟨w0.heap.size, 1, none⟩) (Nat.le_refl _) _).setCell (p := ⟨w0.heap.size + 1, 0, none⟩) (Nat.le_succ _) _).setCell (p := ⟨w0.heap.size + 1, 1, none⟩) (Nat.le_succ _) _).setCell (p := ⟨w0.heap.size + 1, 2, none⟩) (Nat.le_succ _) _)⟩)⟩
  · have e0 := ((((h.q0.far (p := ⟨w0.heap.size + 1, 0, none⟩) n0 (.int .i64 x)).far (p := ⟨w0.heap.size + 1, 1, none⟩) n0 (.int .i64 y)).far (p := ⟨w0.heap.size + 1, 2, none⟩) n0 (.int .i64 z)).put 0 (.slice A1 n1 c1)).put 1 (.slice A2 n2 c2)
    have e1 := ((((h.q1.put 0 (.int .i64 x)).put 1 (.int .i64 y)).put 2 (.int .i64 z)).far (p := ⟨w0.heap.size, 0, none⟩) n0' (.slice A1 n1 c1)).far (p := ⟨w0.heap.size, 1, none⟩) n0' (.slice A2 n2 c2)
    have g : ∀ {An : Option Addr} {nn : Nat} {l : List Tri}, Rd w (r + 1) xb 3 An nn (tvs l) → Rd (((((w.setCell ⟨w0.heap.size + 1, 0, none⟩ (.int .i64 x)).setCell ⟨w0.heap.size + 1, 1, none⟩ (.int .i64 y)).setCell ⟨w0.heap.size + 1, 2, none⟩ (.int .i64 z)).setCell ⟨w0.heap.size, 0, none⟩ (.slice A1 n1 c1)).setCell ⟨w0.heap.size, 1, none⟩ (.slice A2 n2 c2)) w0.heap.size (((((w.setCell ⟨w0.heap.size + 1, 0, none⟩ (.int .i64 x)).setCell ⟨w0.heap.size + 1, 1, none⟩ (.int .i64 y)).setCell ⟨w0.heap.size + 1, 2, none⟩ (.int .i64 z)).setCell ⟨w0.heap.size, 0, none⟩ (.slice A1 n1 c1)).setCell ⟨w0.heap.size, 1, none⟩ (.slice A2 n2 c2)).heap.size 3 An nn (tvs l) := fun hd =>
      (((((hd.setCell (p := ⟨w0.heap.size + 1, 0, none⟩) (.inl (by show w0.heap.size + 1 < r + 1; omega)) _).setCell (p := ⟨w0.heap.size + 1, 1, none⟩) (.inl (by show w0.heap.size + 1 < r + 1; omega)) _).setCell (p := ⟨w0.heap.size + 1, 2, none⟩) (.inl (by show w0.heap.size + 1 < r + 1; omega)) _).setCell (p := ⟨w0.heap.size, 0, none⟩) (.inl (by show w0.heap.size < r + 1; omega)) _).setCell (p := ⟨w0.heap.size, 1, none⟩) (.inl (by show w0.heap.size < r + 1; omega)) _).wide (by omega) (by simp only [hs]; exact Nat.le_of_lt h.box.lt)
    simp only [cell_drewn]
    exact ⟨e0.cell 0, e0.cell 1, e1.cell 0, e1.cell 1, e1.cell 2, Lib.hid (Off.drewn ⟨hm1, hm2, hk1, hk2, g h.d1, g h.d2, (((((h.bel.setCell (p := ⟨w0.heap.size + 1, 0, none⟩) (Nat.le_succ _) _).setCell (p := ⟨w0.heap.size + 1, 1, none⟩) (Nat.le_succ _) _).setCell (p := ⟨w0.heap.size + 1, 2, none⟩) (Nat.le_succ _) _).setCell (p := ⟨w0.heap.size, 0, none⟩) (Nat.le_refl _) _).setCell (p := ⟨w0.heap.size, 1, none⟩) (Nat.le_refl _) _)⟩)⟩
end
/-- Stores into a block made since, of another struct. -/
theorem Pl.offZ {w0 w : World} {r : Nat} {A : Option Addr} {n c : Nat} {xs : List Int} {p : Int} {xb : Nat} {A1 A2 : Option Addr} {n1 c1 n2 c2 : Nat} {ns fs : List Tri} {lb : Nat} {x y z : Int} {sb : Nat} {t : TypeId} {cs : Array Value} (h : Pl w0 w r A n c xs p xb A1 n1 c1 A2 n2 c2 ns fs lb x y z) (_hz : Blk w sb t cs) (hs : lb < sb) (a b d : Int) :
    Pl w0 (((w.setCell ⟨sb, 0, none⟩ (.int .i64 a)).setCell ⟨sb, 1, none⟩ (.int .i64 b)).setCell ⟨sb, 2, none⟩ (.int .i64 d)) r A n c xs p xb A1 n1 c1 A2 n2 c2 ns fs lb x y z := by
  have one : ∀ (w : World) (i : Nat) (u : Int), Pl w0 w r A n c xs p xb A1 n1 c1 A2 n2 c2 ns fs lb x y z → Pl w0 (w.setCell ⟨sb, i, none⟩ (.int .i64 u)) r A n c xs p xb A1 n1 c1 A2 n2 c2 ns fs lb x y z := fun w i u h => by
    have h1 := h.hr; have h2 := h.hrx; have h3 := h.hxl; have h4 := h.bel.size
    exact ⟨rdr_set h.rdr (q := ⟨sb, i, none⟩) (by show r < sb; omega) _, h.hr, h.q0.far (p := ⟨sb, i, none⟩) (by show _ ≠ sb; omega) _, h.q1.far (p := ⟨sb, i, none⟩) (by show _ ≠ sb; omega) _, h.box.far (p := ⟨sb, i, none⟩) (by show _ ≠ sb; omega) _, h.lbx.far (p := ⟨sb, i, none⟩) (by show _ ≠ sb; omega) _,
      h.d1.setCell (p := ⟨sb, i, none⟩) (.inr (by show xb ≤ sb; omega)) _, h.d2.setCell (p := ⟨sb, i, none⟩) (.inr (by show xb ≤ sb; omega)) _, h.hrx, h.hxl, h.bel.setCell (p := ⟨sb, i, none⟩) (by show _ ≤ sb; omega) _⟩
  exact one _ 2 d (one _ 1 b (one _ 0 a h))
set_option maxRecDepth 100000 in
set_option maxHeartbeats 6400000 in
theorem drawSendLetter_any (n c : Nat) (A : Option Addr) (xs : List Int) (w : World) (hr : Rd w 0 w.heap.size 1 A n (bvs xs)) (hby : Bytes xs) (hn : n ≤ 1048576) (hc : n ≤ c) (hc2 : c ≤ 9223372036854775807) :
    Calls Try.prog 18 #[.slice A n c] w (DrawPL w) := by
  have HQ := Lib.hid (show Blk (w.alloc (.cells #[.slice none 0 0, .slice none 0 0] 26)) w.heap.size 26 #[.slice none 0 0, .slice none 0 0] from Blk.new _ _ _)
  have HB0 := Lib.hid (up_alloc (up_alloc (Below.refl _ w) (.cells #[.slice none 0 0, .slice none 0 0] 26)) (.cells #[.int .i64 0, .int .i64 0, .int .i64 0] 33))
  have HRA := Lib.hid (hr.keep (up_alloc (up_alloc (Below.refl _ w) (.cells #[.slice none 0 0, .slice none 0 0] 26)) (.cells #[.int .i64 0, .int .i64 0, .int .i64 0] 33)) (Nat.le_refl _))
  have HQ0 := Lib.hid (HQ.out.alloc (.cells #[.int .i64 0, .int .i64 0, .int .i64 0] 33))
  have HQ1 := Lib.hid (show Blk ((w.alloc (.cells #[.slice none 0 0, .slice none 0 0] 26)).alloc (.cells #[.int .i64 0, .int .i64 0, .int .i64 0] 33)) (w.heap.size + 1) 33 #[.int .i64 0, .int .i64 0, .int .i64 0] from by have h := Blk.new (w.alloc (.cells #[.slice none 0 0, .slice none 0 0] 26)) 33 #[.int .i64 0, .int .i64 0, .int .i64 0]; rwa [World.size_alloc] at h)
  clear hr HQ
  go_enter Try.func18, Try.ntmps18
  go_wp2_with (fail)
  (with_reducible refine (newReader_any n c A xs _ (HRA.out.wide (Nat.le_refl _) (by simp; omega)) hby hn hc hc2).mono ?_)
  rintro e w1 ⟨r, n', c', xs', rfl, hrw, hR1, hb1⟩
  have hrl := hR1.lt
  simp only [World.size_alloc] at hrw
  have HB1 := Lib.hid (up HB0.out hb1)
  have HQ01 := Lib.hid (HQ0.out.below hb1 HQ0.out.lt)
  have HQ11 := Lib.hid (HQ1.out.below hb1 HQ1.out.lt)
  have hz1 := HB1.out.size
  clear hb1 HRA HQ0 HQ1 HB0
  go_wp2_with (fail)
  (with_reducible refine (anyPost_any r A n' c' xs' 0 w1 hR1 (by omega)).mono ?_)
  rintro e w2 ⟨A1, n1, c1, A2, n2, c2, ns, fs, p2, rfl, hcr, hn1, hn2, hR2, hp2, hG2⟩
  have hk1 : n1 ≤ c1 := by obtain ⟨_, _, e, hc, _⟩ := own_cap hcr.1; cases e; exact hc
  have hk2 : n2 ≤ c2 := by obtain ⟨_, _, e, hc, _⟩ := own_cap hcr.2.1; cases e; exact hc
  have HQ02 := Lib.hid (HQ01.out.but hG2 (by omega))
  have HQ12 := Lib.hid (HQ11.out.but hG2 (by omega))
  have HB2 := Lib.hid (but_mineK HB1.out hG2 (by omega))
  have HD1 := Lib.hid ((Rd.of_own hcr.1).wide (lo' := r + 1) (by omega) (Nat.le_refl _))
  have HD2 := Lib.hid ((Rd.of_own hcr.2.1).wide (lo' := r + 1) (by omega) (Nat.le_refl _))
  have HR2 := Lib.hid hR2
  have hz2 := hG2.size
  clear hcr hR2 hG2 HQ01 HQ11 HB1
  have HX := Lib.hid (Blk.new w2 26 #[.slice A1 n1 c1, .slice A2 n2 c2])
  have HBX := Lib.hid (up_alloc (Below.refl _ w2) (.cells #[.slice A1 n1 c1, .slice A2 n2 c2] 26))
  go_wp2_with (fail)
  (with_reducible refine (someLetter_any r A n' c' xs' p2 _ (rdr_alloc HR2.out _) (by omega)).mono ?_)
  rintro e w3 ⟨x, y, z, rfl, _, hR3, hG3⟩
  have hX3 := HX.out.but hG3 (by omega)
  have hz3 := hG3.size
  simp only [World.size_alloc] at hz3
  have hP4 : Pl w (w3.alloc (.cells #[.int .i64 x, .int .i64 y, .int .i64 z] 33)) r A n' c' xs' (p2 + 3) w2.heap.size A1 n1 c1 A2 n2 c2 ns fs w3.heap.size x y z := by
    have hbb := up_alloc (Below.refl _ w3) (.cells #[.int .i64 x, .int .i64 y, .int .i64 z] 33)
    have hd1 := ((HD1.out.keep HBX.out (Nat.le_refl _)).but hG3 (by simp) (by omega)).keep hbb (by omega)
    have hd2 := ((HD2.out.keep HBX.out (Nat.le_refl _)).but hG3 (by simp) (by omega)).keep hbb (by omega)
    exact ⟨rdr_alloc hR3 _, by omega, ((HQ02.out.alloc _).but hG3 (by omega)).alloc _, ((HQ12.out.alloc _).but hG3 (by omega)).alloc _, hX3.alloc _, Blk.new _ _ _, hd1, hd2, by omega, by omega, up_alloc (but_mineK (up_alloc HB2.out _) hG3 (by omega)) _⟩
  have HP := Lib.hid hP4
  have hr3 := hR3.lt
  clear hP4 hX3 hR3 hG3 HX HBX HD1 HD2 HQ02 HQ12 HB2 HR2
  go_upto_region 4 with fail
  generalize w3.alloc (.cells #[.int .i64 x, .int .i64 y, .int .i64 z] 33) = w4 at *
  generalize w3.heap.size = lb at *
  generalize w2.heap.size = xb at *
  have k0 : w4.cell? ⟨xb, 0, none⟩ = some (.slice A1 n1 c1) := HP.out.box.cell 0
  have hp2b : p2 ≤ 200 := by omega
  rcases Nat.eq_zero_or_pos n1 with hz | hz
  · subst hz
    have hzd : decide ((0 : Int) < 0) = false := rfl
    go_upto_if 22 with fail
    go_cut [7] from 14 to 37 (fun s7 wx => ∃ (p9 x9 y9 z9 : Int), p9 ≤ p2 + 9 ∧ Hid (Pl w wx r A n' c' xs' p9 xb A1 0 c1 A2 n2 c2 ns fs lb x9 y9 z9))
    case first =>
      go_wp2_with fail
      go_meet
      exact ⟨p2 + 3, x, y, z, by omega, HP.out⟩
    case rest =>
    obtain ⟨p9, x9, y9, z9, hp9, HPX⟩ := hcut
    clear HP
    try clear k0
    generalize wc = w9 at *
    go_wp2_with (fail)
    (with_reducible refine (pick_any r A n' c' xs' p9 20 w9 HPX.out.rdr (by omega) (by omega)).mono ?_)
    rintro e w10 ⟨q, rfl, q0, q1, _, hR10, hG10⟩
    have HP10 := Lib.hid (HPX.out.drawn hR10 hG10)
    clear hR10 hG10 q1 HPX
    go_upto_if 40 with fail
    go_cut [] from 40 to 44 (fun wx => ∃ (p9 x9 y9 z9 : Int), Hid (Pl w wx r A n' c' xs' p9 xb A1 0 c1 A2 n2 c2 ns fs lb x9 y9 z9))
    case first =>
      by_cases hq : q = 0
      case neg =>
        have hqd : (q == 0) = false := by simpa using hq
        go_wp2_with fail
        go_meet
        exact ⟨_, _, _, _, HP10.out⟩
      subst hq
      go_wp2_with (fail)
      (with_reducible refine (one_lits r A n' c' xs' (p9 + 1) [-1, 10000] 2 _ _ w10 HP10.out.rdr (by omega) rfl (by omega) (by omega) (by simp) rfl (by simp)).mono ?_)
      rintro e w11 ⟨u, p11, rfl, u0, u1, hR11, hp11, hG11⟩
      have HP11 := Lib.hid (HP10.out.drawn hR11 hG11)
      have HP12 := Lib.hid (HP11.out.sto 2 u (x' := x9) (y' := y9) (z' := u) rfl)
      have m1 := HP11.out.lbx.cell 2
      have m2 := HP11.out.lbx.soft 2
      simp at m1
      clear hR11 hG11
      go_wp2_with fail
      go_meet
      exact ⟨_, _, _, _, HP12.out⟩
    case rest =>
    obtain ⟨p12, x, y, z, HPE⟩ := hcut
    clear HP10
    generalize wc = we at *
    have HS := Lib.hid (show ∀ wx, Blk wx xb 26 #[.slice A1 0 c1, .slice A2 n2 c2] → Blk wx lb 33 #[.int .i64 x, .int .i64 y, .int .i64 z] → wx.cell? ⟨xb, 0, none⟩ = some (.slice A1 0 c1) ∧ wx.cell? ⟨xb, 1, none⟩ = some (.slice A2 n2 c2) ∧ wx.cell? ⟨lb, 0, none⟩ = some (.int .i64 x) ∧ wx.cell? ⟨lb, 1, none⟩ = some (.int .i64 y) ∧ wx.cell? ⟨lb, 2, none⟩ = some (.int .i64 z) from fun wx hB hL => ⟨hB.cell 0, hB.cell 1, hL.cell 0, hL.cell 1, hL.cell 2⟩)
    have hne1 : xb ≠ w.heap.size := by have := HPE.out.hrx; have := HPE.out.hr; omega
    have hne2 : xb ≠ w.heap.size + 1 := by have := HPE.out.hrx; have := HPE.out.hr; omega
    have hne3 : lb ≠ w.heap.size := by have := HPE.out.hrx; have := HPE.out.hr; have := HPE.out.hxl; omega
    have hne4 : lb ≠ w.heap.size + 1 := by have := HPE.out.hrx; have := HPE.out.hr; have := HPE.out.hxl; omega
    have HX0 := Lib.hid HPE.out.box
    have HL0 := Lib.hid HPE.out.lbx
    have HXA := Lib.hid ((HX0.out.far (p := ⟨w.heap.size, 0, none⟩) hne1 (.slice A1 0 c1)).far (p := ⟨w.heap.size, 1, none⟩) hne1 (.slice A2 n2 c2))
    have HLA := Lib.hid ((HL0.out.far (p := ⟨w.heap.size, 0, none⟩) hne3 (.slice A1 0 c1)).far (p := ⟨w.heap.size, 1, none⟩) hne3 (.slice A2 n2 c2))
    have HXB := Lib.hid (((HX0.out.far (p := ⟨w.heap.size + 1, 0, none⟩) hne2 (.int .i64 x)).far (p := ⟨w.heap.size + 1, 1, none⟩) hne2 (.int .i64 y)).far (p := ⟨w.heap.size + 1, 2, none⟩) hne2 (.int .i64 z))
    have HLB := Lib.hid (((HL0.out.far (p := ⟨w.heap.size + 1, 0, none⟩) hne4 (.int .i64 x)).far (p := ⟨w.heap.size + 1, 1, none⟩) hne4 (.int .i64 y)).far (p := ⟨w.heap.size + 1, 2, none⟩) hne4 (.int .i64 z))
    have HXC := Lib.hid (((HXA.out.far (p := ⟨w.heap.size + 1, 0, none⟩) hne2 (.int .i64 x)).far (p := ⟨w.heap.size + 1, 1, none⟩) hne2 (.int .i64 y)).far (p := ⟨w.heap.size + 1, 2, none⟩) hne2 (.int .i64 z))
    have HLC := Lib.hid (((HLA.out.far (p := ⟨w.heap.size + 1, 0, none⟩) hne4 (.int .i64 x)).far (p := ⟨w.heap.size + 1, 1, none⟩) hne4 (.int .i64 y)).far (p := ⟨w.heap.size + 1, 2, none⟩) hne4 (.int .i64 z))
    have HXD := Lib.hid ((HXB.out.far (p := ⟨w.heap.size, 0, none⟩) hne1 (.slice A1 0 c1)).far (p := ⟨w.heap.size, 1, none⟩) hne1 (.slice A2 n2 c2))
    have HLD := Lib.hid ((HLB.out.far (p := ⟨w.heap.size, 0, none⟩) hne3 (.slice A1 0 c1)).far (p := ⟨w.heap.size, 1, none⟩) hne3 (.slice A2 n2 c2))
    -- the results' cells, ahead of both stores and between them
    have q00 := HPE.out.q0.cell 0; have q01 := HPE.out.q0.cell 1; have q02 := HPE.out.q0.soft 0; have q03 := HPE.out.q0.soft 1
    have q10 := HPE.out.q1.cell 0; have q11 := HPE.out.q1.cell 1; have q12 := HPE.out.q1.cell 2; have q13 := HPE.out.q1.soft 0; have q14 := HPE.out.q1.soft 1; have q15 := HPE.out.q1.soft 2
    have hn01 : w.heap.size ≠ w.heap.size + 1 := by omega
    have hn10 : w.heap.size + 1 ≠ w.heap.size := by omega
    have HQA := Lib.hid ((HPE.out.q1.far (p := ⟨w.heap.size, 0, none⟩) hn10 (.slice A1 0 c1)).far (p := ⟨w.heap.size, 1, none⟩) hn10 (.slice A2 n2 c2))
    have HQB := Lib.hid (((HPE.out.q0.far (p := ⟨w.heap.size + 1, 0, none⟩) hn01 (.int .i64 x)).far (p := ⟨w.heap.size + 1, 1, none⟩) hn01 (.int .i64 y)).far (p := ⟨w.heap.size + 1, 2, none⟩) hn01 (.int .i64 z))
    have r10 := HQA.out.cell 0; have r11 := HQA.out.cell 1; have r12 := HQA.out.cell 2; have r13 := HQA.out.soft 0; have r14 := HQA.out.soft 1; have r15 := HQA.out.soft 2
    have r00 := HQB.out.cell 0; have r01 := HQB.out.cell 1; have r02 := HQB.out.soft 0; have r03 := HQB.out.soft 1
    clear hn01 hn10 HQA HQB
    have FA := (HPE.out.fin hn1 hn2 hk1 hk2 (.inl rfl))
    have FB := (HPE.out.fin hn1 hn2 hk1 hk2 (.inr rfl))
    have FA := Lib.hid FA
    have FB := Lib.hid FB
    have e0 := HX0.out.cell 0; have e1 := HX0.out.cell 1; have e2 := HL0.out.cell 0; have e3 := HL0.out.cell 1; have e4 := HL0.out.cell 2
    have i0 := HXB.out.cell 0; have i1 := HXB.out.cell 1; have i2 := HLA.out.cell 0; have i3 := HLA.out.cell 1; have i4 := HLA.out.cell 2
    clear HS HX0 HL0 HXA HLA HXB HLB HXC HLC HXD HLD hne1 hne2 hne3 hne4
    go_wp2_with (fail)
    have hcd := cell_drewn
    have hfd := frozen_drewn
    refine wp_region_any (by kernel_rfl) ?_
    try (change wpAny _ _ _ _ _ _ _ (World.drew _))
    refine wpAny_ready (rs := [0, 1]) (by kernel_rfl) (by simp) ?_
    refine (AllReady.cons (o := ⟨_, _, _, _, _, _⟩) rfl (fun K hK => ?_) (AllReady.cons (o := ⟨_, _, _, _, _, _⟩) rfl (fun K hK => ?_) AllReady.nil))
    · go_simp
      refine hK _ _ ?_
      clear hK K
      try simp only [Act.put, List.setIfInBounds_toArray, List.set_cons_zero, List.set_cons_succ]
      refine wpAny_ready (rs := [1, 2]) (by kernel_rfl) (by simp) ?_
      refine (AllReady.cons (o := ⟨_, _, _, _, _, _⟩) rfl (fun K hK => ?_) (AllReady.cons (o := ⟨_, _, _, _, _, _⟩) rfl (fun K hK => ?_) AllReady.nil))
      · go_simp
        refine hK _ _ ?_
        clear hK K
        try simp only [Act.put, List.setIfInBounds_toArray, List.set_cons_zero, List.set_cons_succ]
        refine wpAny_ready (rs := [2]) (by kernel_rfl) (by simp) ?_
        refine (AllReady.cons (o := ⟨_, _, _, _, _, _⟩) rfl (fun K hK => ?_) AllReady.nil)
        go_simp
        refine hK _ _ ?_
        clear hK K
        try simp only [Act.put, List.setIfInBounds_toArray, List.set_cons_zero, List.set_cons_succ]
        refine wpAny_ready (rs := [3]) (by kernel_rfl) (by simp) ?_
        refine (AllReady.cons (o := ⟨_, _, _, _, _, _⟩) rfl (fun K hK => ?_) AllReady.nil)
        go_simp
        refine hK _ _ ?_
        clear hK K
        try simp only [Act.put, List.setIfInBounds_toArray, List.set_cons_zero, List.set_cons_succ]
        refine wpAny_done (by kernel_rfl) ?_ _
        clear hcd hfd e0 e1 e2 e3 e4 i0 i1 i2 i3 i4 q00 q01 q02 q03 q10 q11 q12 q13 q14 q15 r10 r11 r12 r13 r14 r15 r00 r01 r02 r03
        go_wp2_with (fail)
        first
          | (obtain ⟨f0, f1, f2, f3, f4, HF⟩ := FA.out
             exact bodyPost_ret (v := .tuple #[.agg #[.slice A1 0 c1, .slice A2 n2 c2], .agg #[.int .i64 x, .int .i64 y, .int .i64 z]]) (by simp [results, Try.results18, go_sem, f0, f1, f2, f3, f4]) rfl ⟨_, _, _, _, _, _, _, _, x, y, z, rfl, HF.out⟩)
          | (obtain ⟨f0, f1, f2, f3, f4, HF⟩ := FB.out
             exact bodyPost_ret (v := .tuple #[.agg #[.slice A1 0 c1, .slice A2 n2 c2], .agg #[.int .i64 x, .int .i64 y, .int .i64 z]]) (by simp [results, Try.results18, go_sem, f0, f1, f2, f3, f4]) rfl ⟨_, _, _, _, _, _, _, _, x, y, z, rfl, HF.out⟩)
      · go_simp
        refine hK _ _ ?_
        clear hK K
        try simp only [Act.put, List.setIfInBounds_toArray, List.set_cons_zero, List.set_cons_succ]
        refine wpAny_ready (rs := [1]) (by kernel_rfl) (by simp) ?_
        refine (AllReady.cons (o := ⟨_, _, _, _, _, _⟩) rfl (fun K hK => ?_) AllReady.nil)
        go_simp
        refine hK _ _ ?_
        clear hK K
        try simp only [Act.put, List.setIfInBounds_toArray, List.set_cons_zero, List.set_cons_succ]
        refine wpAny_ready (rs := [3]) (by kernel_rfl) (by simp) ?_
        refine (AllReady.cons (o := ⟨_, _, _, _, _, _⟩) rfl (fun K hK => ?_) AllReady.nil)
        go_simp
        refine hK _ _ ?_
        clear hK K
        try simp only [Act.put, List.setIfInBounds_toArray, List.set_cons_zero, List.set_cons_succ]
        refine wpAny_done (by kernel_rfl) ?_ _
        clear hcd hfd e0 e1 e2 e3 e4 i0 i1 i2 i3 i4 q00 q01 q02 q03 q10 q11 q12 q13 q14 q15 r10 r11 r12 r13 r14 r15 r00 r01 r02 r03
        go_wp2_with (fail)
        first
          | (obtain ⟨f0, f1, f2, f3, f4, HF⟩ := FA.out
             exact bodyPost_ret (v := .tuple #[.agg #[.slice A1 0 c1, .slice A2 n2 c2], .agg #[.int .i64 x, .int .i64 y, .int .i64 z]]) (by simp [results, Try.results18, go_sem, f0, f1, f2, f3, f4]) rfl ⟨_, _, _, _, _, _, _, _, x, y, z, rfl, HF.out⟩)
          | (obtain ⟨f0, f1, f2, f3, f4, HF⟩ := FB.out
             exact bodyPost_ret (v := .tuple #[.agg #[.slice A1 0 c1, .slice A2 n2 c2], .agg #[.int .i64 x, .int .i64 y, .int .i64 z]]) (by simp [results, Try.results18, go_sem, f0, f1, f2, f3, f4]) rfl ⟨_, _, _, _, _, _, _, _, x, y, z, rfl, HF.out⟩)
    · go_simp
      refine hK _ _ ?_
      clear hK K
      try simp only [Act.put, List.setIfInBounds_toArray, List.set_cons_zero, List.set_cons_succ]
      refine wpAny_ready (rs := [0]) (by kernel_rfl) (by simp) ?_
      refine (AllReady.cons (o := ⟨_, _, _, _, _, _⟩) rfl (fun K hK => ?_) AllReady.nil)
      go_simp
      refine hK _ _ ?_
      clear hK K
      try simp only [Act.put, List.setIfInBounds_toArray, List.set_cons_zero, List.set_cons_succ]
      refine wpAny_ready (rs := [2]) (by kernel_rfl) (by simp) ?_
      refine (AllReady.cons (o := ⟨_, _, _, _, _, _⟩) rfl (fun K hK => ?_) AllReady.nil)
      go_simp
      refine hK _ _ ?_
      clear hK K
      try simp only [Act.put, List.setIfInBounds_toArray, List.set_cons_zero, List.set_cons_succ]
      refine wpAny_ready (rs := [3]) (by kernel_rfl) (by simp) ?_
      refine (AllReady.cons (o := ⟨_, _, _, _, _, _⟩) rfl (fun K hK => ?_) AllReady.nil)
      go_simp
      refine hK _ _ ?_
      clear hK K
      try simp only [Act.put, List.setIfInBounds_toArray, List.set_cons_zero, List.set_cons_succ]
      refine wpAny_done (by kernel_rfl) ?_ _
      clear hcd hfd e0 e1 e2 e3 e4 i0 i1 i2 i3 i4 q00 q01 q02 q03 q10 q11 q12 q13 q14 q15 r10 r11 r12 r13 r14 r15 r00 r01 r02 r03
      go_wp2_with (fail)
      first
        | (obtain ⟨f0, f1, f2, f3, f4, HF⟩ := FA.out
           exact bodyPost_ret (v := .tuple #[.agg #[.slice A1 0 c1, .slice A2 n2 c2], .agg #[.int .i64 x, .int .i64 y, .int .i64 z]]) (by simp [results, Try.results18, go_sem, f0, f1, f2, f3, f4]) rfl ⟨_, _, _, _, _, _, _, _, x, y, z, rfl, HF.out⟩)
        | (obtain ⟨f0, f1, f2, f3, f4, HF⟩ := FB.out
           exact bodyPost_ret (v := .tuple #[.agg #[.slice A1 0 c1, .slice A2 n2 c2], .agg #[.int .i64 x, .int .i64 y, .int .i64 z]]) (by simp [results, Try.results18, go_sem, f0, f1, f2, f3, f4]) rfl ⟨_, _, _, _, _, _, _, _, x, y, z, rfl, HF.out⟩)
  have hzd : decide ((0 : Int) < (n1 : Int)) = true := decide_eq_true (by omega)
  have hzi : (0 : Int) < (n1 : Int) := by omega
  go_wp2_with (fail)
  (with_reducible refine (pick_any r A n' c' xs' (p2 + 3) 2 w4 HP.out.rdr (by omega) (by omega)).mono ?_)
  rintro e w5 ⟨q, rfl, q0, q1, _, hR5, hG5⟩
  have HP5 := Lib.hid (HP.out.drawn hR5 hG5)
  clear hR5 hG5 q1 k0
  go_upto_if 22 with fail
  go_cut [7] from 14 to 37 (fun s7 wx => ∃ (p9 x9 y9 z9 : Int), p9 ≤ p2 + 9 ∧ Hid (Pl w wx r A n' c' xs' p9 xb A1 n1 c1 A2 n2 c2 ns fs lb x9 y9 z9))
  case first =>
    by_cases hq : q = 0
    case neg =>
      have hqd : (q == 0) = false := by simpa using hq
      go_wp2_with fail
      go_meet
      exact ⟨p2 + 3 + 1, x, y, z, by omega, HP5.out⟩
    subst hq
    go_upto_region 5 with fail
    have ka : w5.drew.cell? ⟨xb, 0, none⟩ = some (.slice A1 n1 c1) := HP5.out.box.cell 0
    have kb : (w5.alloc (.cells #[.int .i64 0, .int .i64 0, .int .i64 0] 42)).drew.cell? ⟨xb, 0, none⟩ = some (.slice A1 n1 c1) := (HP5.out.box.alloc _).cell 0
    have hx5 := HP5.out.box.lt
    have hl5 := HP5.out.lbx.lt
    have hrx := HP5.out.hrx
    have hxl := HP5.out.hxl
    go_cut [7] from 23 to 31 (fun s7 wx => ∃ (sb : Nat) (a b d : Int), s7 = .pointer (some ⟨sb, 0, none⟩) ∧ lb < sb ∧ Hid (Blk wx sb 42 #[.int .i64 a, .int .i64 b, .int .i64 d] ∧ Pl w wx r A n' c' xs' (p2 + 3 + 1 + 1) xb A1 n1 c1 A2 n2 c2 ns fs lb x y z))
    case first =>
      go_region_law (go_simp
                     go_at_call 36
                     (first
                       | ((with_reducible refine (pick_any r A n' c' xs' (p2 + 3 + 1) (n1 : Int) _ (rdr_drew HP5.out.rdr) (by omega) (by omega)).mono ?_)
                          rintro e w6 ⟨j, rfl, j0, j1, _, hR6, hG6⟩
                          have HP6 := Lib.hid ((HP5.out.below (up_drew (Below.refl _ _))).drawn hR6 hG6))
                       | ((with_reducible refine (pick_any r A n' c' xs' (p2 + 3 + 1) (n1 : Int) _ (rdr_drew (rdr_alloc HP5.out.rdr _)) (by omega) (by omega)).mono ?_)
                          rintro e w6 ⟨j, rfl, j0, j1, _, hR6, hG6⟩
                          have HP6 := Lib.hid ((HP5.out.below (up_drew (up_alloc (Below.refl _ _) _))).drawn hR6 hG6)
                          have HZ6 := Lib.hid ((Blk.new w5 42 #[.int .i64 0, .int .i64 0, .int .i64 0]).drew.but hG6 (by omega))
                          have y0 := HZ6.out.cell 0; have y1 := HZ6.out.cell 1; have y2 := HZ6.out.cell 2
                          have y3 := HZ6.out.soft 0; have y4 := HZ6.out.soft 1; have y5 := HZ6.out.soft 2))
                     have j2 := j1 (by omega)
                     obtain ⟨i, rfl⟩ := Int.eq_ofNat_of_zero_le j0
                     have hij : i < n1 := by omega
                     obtain ⟨bR, oR, a, b, d, hAR, hbR, _, _, e0, e1, e2⟩ := HP6.out.d1.trip hij
                     subst hAR
                     have kc : w6.cell? ⟨xb, 0, none⟩ = some (.slice (some ⟨bR, oR, none⟩) n1 c1) := HP6.out.box.cell 0
                     have kd : (w6.alloc (.cells #[.int .i64 0, .int .i64 0, .int .i64 0] 42)).cell? ⟨xb, 0, none⟩ = some (.slice (some ⟨bR, oR, none⟩) n1 c1) := (HP6.out.box.alloc _).cell 0
                     have hx6 := HP6.out.box.lt
                     have hl6 := HP6.out.lbx.lt
                     have g0 : (w6.alloc (.cells #[.int .i64 0, .int .i64 0, .int .i64 0] 42)).cell? ⟨bR, oR + i * 3, none⟩ = some (.int .i64 a) := ((up_alloc (Below.refl _ w6) (.cells #[.int .i64 0, .int .i64 0, .int .i64 0] 42)).cell (by show bR < _; omega)).trans e0
                     have g1 : (w6.alloc (.cells #[.int .i64 0, .int .i64 0, .int .i64 0] 42)).cell? ⟨bR, oR + i * 3 + 1, none⟩ = some (.int .i64 b) := ((up_alloc (Below.refl _ w6) (.cells #[.int .i64 0, .int .i64 0, .int .i64 0] 42)).cell (by show bR < _; omega)).trans e1
                     have g2 : (w6.alloc (.cells #[.int .i64 0, .int .i64 0, .int .i64 0] 42)).cell? ⟨bR, oR + i * 3 + 2, none⟩ = some (.int .i64 d) := ((up_alloc (Below.refl _ w6) (.cells #[.int .i64 0, .int .i64 0, .int .i64 0] 42)).cell (by show bR < _; omega)).trans e2
                     clear hR6 hG6 j1 j0)
      all_goals
        go_wp2_with fail
        go_meet
        first
          | exact ⟨_, a, b, d, rfl, (by omega), Blk.new w6 42 #[.int .i64 a, .int .i64 b, .int .i64 d], HP6.out.below (up_alloc (Below.refl _ _) _)⟩
          | exact ⟨_, a, b, d, rfl, (by omega), ((HZ6.out.put 0 (.int .i64 a)).put 1 (.int .i64 b)).put 2 (.int .i64 d), Pl.offZ HP6.out HZ6.out (by omega) a b d⟩
    case rest =>
    obtain ⟨sb, a, b, d, rfl, hls, HC⟩ := hcut
    have HPC := Lib.hid HC.out.2
    have HSC := Lib.hid HC.out.1
    clear HC HP5 HP ka kb hx5 hl5
    have HL1 := Lib.hid (HPC.out.sto 0 b (x' := b) (y' := y) (z' := z) rfl)
    have HS1 := Lib.hid (HSC.out.far (p := ⟨lb, 0, none⟩) (by show sb ≠ lb; omega) (.int .i64 b))
    have HL2 := Lib.hid (HL1.out.sto 1 d (x' := b) (y' := d) (z' := z) rfl)
    have m0 := HSC.out.cell 1
    have m1 := HPC.out.lbx.cell 0
    have m2 := HPC.out.lbx.soft 0
    have m3 := HS1.out.cell 2
    have m4 := HL1.out.lbx.cell 1
    have m5 := HL1.out.lbx.soft 1
    simp at m0 m1 m3 m4
    go_wp2_with fail
    go_meet
    exact ⟨p2 + 3 + 1 + 1, b, d, z, by omega, HL2.out⟩
  case rest =>
  obtain ⟨p9, x9, y9, z9, hp9, HPX⟩ := hcut
  clear HP
  try clear k0
  generalize wc = w9 at *
  go_wp2_with (fail)
  (with_reducible refine (pick_any r A n' c' xs' p9 20 w9 HPX.out.rdr (by omega) (by omega)).mono ?_)
  rintro e w10 ⟨q, rfl, q0, q1, _, hR10, hG10⟩
  have HP10 := Lib.hid (HPX.out.drawn hR10 hG10)
  clear hR10 hG10 q1 HPX
  go_upto_if 40 with fail
  go_cut [] from 40 to 44 (fun wx => ∃ (p9 x9 y9 z9 : Int), Hid (Pl w wx r A n' c' xs' p9 xb A1 n1 c1 A2 n2 c2 ns fs lb x9 y9 z9))
  case first =>
    by_cases hq : q = 0
    case neg =>
      have hqd : (q == 0) = false := by simpa using hq
      go_wp2_with fail
      go_meet
      exact ⟨_, _, _, _, HP10.out⟩
    subst hq
    go_wp2_with (fail)
    (with_reducible refine (one_lits r A n' c' xs' (p9 + 1) [-1, 10000] 2 _ _ w10 HP10.out.rdr (by omega) rfl (by omega) (by omega) (by simp) rfl (by simp)).mono ?_)
    rintro e w11 ⟨u, p11, rfl, u0, u1, hR11, hp11, hG11⟩
    have HP11 := Lib.hid (HP10.out.drawn hR11 hG11)
    have HP12 := Lib.hid (HP11.out.sto 2 u (x' := x9) (y' := y9) (z' := u) rfl)
    have m1 := HP11.out.lbx.cell 2
    have m2 := HP11.out.lbx.soft 2
    simp at m1
    clear hR11 hG11
    go_wp2_with fail
    go_meet
    exact ⟨_, _, _, _, HP12.out⟩
  case rest =>
  obtain ⟨p12, x, y, z, HPE⟩ := hcut
  clear HP10
  generalize wc = we at *
  have HS := Lib.hid (show ∀ wx, Blk wx xb 26 #[.slice A1 n1 c1, .slice A2 n2 c2] → Blk wx lb 33 #[.int .i64 x, .int .i64 y, .int .i64 z] → wx.cell? ⟨xb, 0, none⟩ = some (.slice A1 n1 c1) ∧ wx.cell? ⟨xb, 1, none⟩ = some (.slice A2 n2 c2) ∧ wx.cell? ⟨lb, 0, none⟩ = some (.int .i64 x) ∧ wx.cell? ⟨lb, 1, none⟩ = some (.int .i64 y) ∧ wx.cell? ⟨lb, 2, none⟩ = some (.int .i64 z) from fun wx hB hL => ⟨hB.cell 0, hB.cell 1, hL.cell 0, hL.cell 1, hL.cell 2⟩)
  have hne1 : xb ≠ w.heap.size := by have := HPE.out.hrx; have := HPE.out.hr; omega
  have hne2 : xb ≠ w.heap.size + 1 := by have := HPE.out.hrx; have := HPE.out.hr; omega
  have hne3 : lb ≠ w.heap.size := by have := HPE.out.hrx; have := HPE.out.hr; have := HPE.out.hxl; omega
  have hne4 : lb ≠ w.heap.size + 1 := by have := HPE.out.hrx; have := HPE.out.hr; have := HPE.out.hxl; omega
  have HX0 := Lib.hid HPE.out.box
  have HL0 := Lib.hid HPE.out.lbx
  have HXA := Lib.hid ((HX0.out.far (p := ⟨w.heap.size, 0, none⟩) hne1 (.slice A1 n1 c1)).far (p := ⟨w.heap.size, 1, none⟩) hne1 (.slice A2 n2 c2))
  have HLA := Lib.hid ((HL0.out.far (p := ⟨w.heap.size, 0, none⟩) hne3 (.slice A1 n1 c1)).far (p := ⟨w.heap.size, 1, none⟩) hne3 (.slice A2 n2 c2))
  have HXB := Lib.hid (((HX0.out.far (p := ⟨w.heap.size + 1, 0, none⟩) hne2 (.int .i64 x)).far (p := ⟨w.heap.size + 1, 1, none⟩) hne2 (.int .i64 y)).far (p := ⟨w.heap.size + 1, 2, none⟩) hne2 (.int .i64 z))
  have HLB := Lib.hid (((HL0.out.far (p := ⟨w.heap.size + 1, 0, none⟩) hne4 (.int .i64 x)).far (p := ⟨w.heap.size + 1, 1, none⟩) hne4 (.int .i64 y)).far (p := ⟨w.heap.size + 1, 2, none⟩) hne4 (.int .i64 z))
  have HXC := Lib.hid (((HXA.out.far (p := ⟨w.heap.size + 1, 0, none⟩) hne2 (.int .i64 x)).far (p := ⟨w.heap.size + 1, 1, none⟩) hne2 (.int .i64 y)).far (p := ⟨w.heap.size + 1, 2, none⟩) hne2 (.int .i64 z))
  have HLC := Lib.hid (((HLA.out.far (p := ⟨w.heap.size + 1, 0, none⟩) hne4 (.int .i64 x)).far (p := ⟨w.heap.size + 1, 1, none⟩) hne4 (.int .i64 y)).far (p := ⟨w.heap.size + 1, 2, none⟩) hne4 (.int .i64 z))
  have HXD := Lib.hid ((HXB.out.far (p := ⟨w.heap.size, 0, none⟩) hne1 (.slice A1 n1 c1)).far (p := ⟨w.heap.size, 1, none⟩) hne1 (.slice A2 n2 c2))
  have HLD := Lib.hid ((HLB.out.far (p := ⟨w.heap.size, 0, none⟩) hne3 (.slice A1 n1 c1)).far (p := ⟨w.heap.size, 1, none⟩) hne3 (.slice A2 n2 c2))
  -- the results' cells, ahead of both stores and between them
  have q00 := HPE.out.q0.cell 0; have q01 := HPE.out.q0.cell 1; have q02 := HPE.out.q0.soft 0; have q03 := HPE.out.q0.soft 1
  have q10 := HPE.out.q1.cell 0; have q11 := HPE.out.q1.cell 1; have q12 := HPE.out.q1.cell 2; have q13 := HPE.out.q1.soft 0; have q14 := HPE.out.q1.soft 1; have q15 := HPE.out.q1.soft 2
  have hn01 : w.heap.size ≠ w.heap.size + 1 := by omega
  have hn10 : w.heap.size + 1 ≠ w.heap.size := by omega
  have HQA := Lib.hid ((HPE.out.q1.far (p := ⟨w.heap.size, 0, none⟩) hn10 (.slice A1 n1 c1)).far (p := ⟨w.heap.size, 1, none⟩) hn10 (.slice A2 n2 c2))
  have HQB := Lib.hid (((HPE.out.q0.far (p := ⟨w.heap.size + 1, 0, none⟩) hn01 (.int .i64 x)).far (p := ⟨w.heap.size + 1, 1, none⟩) hn01 (.int .i64 y)).far (p := ⟨w.heap.size + 1, 2, none⟩) hn01 (.int .i64 z))
  have r10 := HQA.out.cell 0; have r11 := HQA.out.cell 1; have r12 := HQA.out.cell 2; have r13 := HQA.out.soft 0; have r14 := HQA.out.soft 1; have r15 := HQA.out.soft 2
  have r00 := HQB.out.cell 0; have r01 := HQB.out.cell 1; have r02 := HQB.out.soft 0; have r03 := HQB.out.soft 1
  clear hn01 hn10 HQA HQB
  have FA := (HPE.out.fin hn1 hn2 hk1 hk2 (.inl rfl))
  have FB := (HPE.out.fin hn1 hn2 hk1 hk2 (.inr rfl))
  have FA := Lib.hid FA
  have FB := Lib.hid FB
  have e0 := HX0.out.cell 0; have e1 := HX0.out.cell 1; have e2 := HL0.out.cell 0; have e3 := HL0.out.cell 1; have e4 := HL0.out.cell 2
  have i0 := HXB.out.cell 0; have i1 := HXB.out.cell 1; have i2 := HLA.out.cell 0; have i3 := HLA.out.cell 1; have i4 := HLA.out.cell 2
  clear HS HX0 HL0 HXA HLA HXB HLB HXC HLC HXD HLD hne1 hne2 hne3 hne4
  go_wp2_with (fail)
  have hcd := cell_drewn
  have hfd := frozen_drewn
  refine wp_region_any (by kernel_rfl) ?_
  try (change wpAny _ _ _ _ _ _ _ (World.drew _))
  refine wpAny_ready (rs := [0, 1]) (by kernel_rfl) (by simp) ?_
  refine (AllReady.cons (o := ⟨_, _, _, _, _, _⟩) rfl (fun K hK => ?_) (AllReady.cons (o := ⟨_, _, _, _, _, _⟩) rfl (fun K hK => ?_) AllReady.nil))
  · go_simp
    refine hK _ _ ?_
    clear hK K
    try simp only [Act.put, List.setIfInBounds_toArray, List.set_cons_zero, List.set_cons_succ]
    refine wpAny_ready (rs := [1, 2]) (by kernel_rfl) (by simp) ?_
    refine (AllReady.cons (o := ⟨_, _, _, _, _, _⟩) rfl (fun K hK => ?_) (AllReady.cons (o := ⟨_, _, _, _, _, _⟩) rfl (fun K hK => ?_) AllReady.nil))
    · go_simp
      refine hK _ _ ?_
      clear hK K
      try simp only [Act.put, List.setIfInBounds_toArray, List.set_cons_zero, List.set_cons_succ]
      refine wpAny_ready (rs := [2]) (by kernel_rfl) (by simp) ?_
      refine (AllReady.cons (o := ⟨_, _, _, _, _, _⟩) rfl (fun K hK => ?_) AllReady.nil)
      go_simp
      refine hK _ _ ?_
      clear hK K
      try simp only [Act.put, List.setIfInBounds_toArray, List.set_cons_zero, List.set_cons_succ]
      refine wpAny_ready (rs := [3]) (by kernel_rfl) (by simp) ?_
      refine (AllReady.cons (o := ⟨_, _, _, _, _, _⟩) rfl (fun K hK => ?_) AllReady.nil)
      go_simp
      refine hK _ _ ?_
      clear hK K
      try simp only [Act.put, List.setIfInBounds_toArray, List.set_cons_zero, List.set_cons_succ]
      refine wpAny_done (by kernel_rfl) ?_ _
      clear hcd hfd e0 e1 e2 e3 e4 i0 i1 i2 i3 i4 q00 q01 q02 q03 q10 q11 q12 q13 q14 q15 r10 r11 r12 r13 r14 r15 r00 r01 r02 r03
      go_wp2_with (fail)
      first
        | (obtain ⟨f0, f1, f2, f3, f4, HF⟩ := FA.out
           exact bodyPost_ret (v := .tuple #[.agg #[.slice A1 n1 c1, .slice A2 n2 c2], .agg #[.int .i64 x, .int .i64 y, .int .i64 z]]) (by simp [results, Try.results18, go_sem, f0, f1, f2, f3, f4]) rfl ⟨_, _, _, _, _, _, _, _, x, y, z, rfl, HF.out⟩)
        | (obtain ⟨f0, f1, f2, f3, f4, HF⟩ := FB.out
           exact bodyPost_ret (v := .tuple #[.agg #[.slice A1 n1 c1, .slice A2 n2 c2], .agg #[.int .i64 x, .int .i64 y, .int .i64 z]]) (by simp [results, Try.results18, go_sem, f0, f1, f2, f3, f4]) rfl ⟨_, _, _, _, _, _, _, _, x, y, z, rfl, HF.out⟩)
    · go_simp
      refine hK _ _ ?_
      clear hK K
      try simp only [Act.put, List.setIfInBounds_toArray, List.set_cons_zero, List.set_cons_succ]
      refine wpAny_ready (rs := [1]) (by kernel_rfl) (by simp) ?_
      refine (AllReady.cons (o := ⟨_, _, _, _, _, _⟩) rfl (fun K hK => ?_) AllReady.nil)
      go_simp
      refine hK _ _ ?_
      clear hK K
      try simp only [Act.put, List.setIfInBounds_toArray, List.set_cons_zero, List.set_cons_succ]
      refine wpAny_ready (rs := [3]) (by kernel_rfl) (by simp) ?_
      refine (AllReady.cons (o := ⟨_, _, _, _, _, _⟩) rfl (fun K hK => ?_) AllReady.nil)
      go_simp
      refine hK _ _ ?_
      clear hK K
      try simp only [Act.put, List.setIfInBounds_toArray, List.set_cons_zero, List.set_cons_succ]
      refine wpAny_done (by kernel_rfl) ?_ _
      clear hcd hfd e0 e1 e2 e3 e4 i0 i1 i2 i3 i4 q00 q01 q02 q03 q10 q11 q12 q13 q14 q15 r10 r11 r12 r13 r14 r15 r00 r01 r02 r03
      go_wp2_with (fail)
      first
        | (obtain ⟨f0, f1, f2, f3, f4, HF⟩ := FA.out
           exact bodyPost_ret (v := .tuple #[.agg #[.slice A1 n1 c1, .slice A2 n2 c2], .agg #[.int .i64 x, .int .i64 y, .int .i64 z]]) (by simp [results, Try.results18, go_sem, f0, f1, f2, f3, f4]) rfl ⟨_, _, _, _, _, _, _, _, x, y, z, rfl, HF.out⟩)
        | (obtain ⟨f0, f1, f2, f3, f4, HF⟩ := FB.out
           exact bodyPost_ret (v := .tuple #[.agg #[.slice A1 n1 c1, .slice A2 n2 c2], .agg #[.int .i64 x, .int .i64 y, .int .i64 z]]) (by simp [results, Try.results18, go_sem, f0, f1, f2, f3, f4]) rfl ⟨_, _, _, _, _, _, _, _, x, y, z, rfl, HF.out⟩)
  · go_simp
    refine hK _ _ ?_
    clear hK K
    try simp only [Act.put, List.setIfInBounds_toArray, List.set_cons_zero, List.set_cons_succ]
    refine wpAny_ready (rs := [0]) (by kernel_rfl) (by simp) ?_
    refine (AllReady.cons (o := ⟨_, _, _, _, _, _⟩) rfl (fun K hK => ?_) AllReady.nil)
    go_simp
    refine hK _ _ ?_
    clear hK K
    try simp only [Act.put, List.setIfInBounds_toArray, List.set_cons_zero, List.set_cons_succ]
    refine wpAny_ready (rs := [2]) (by kernel_rfl) (by simp) ?_
    refine (AllReady.cons (o := ⟨_, _, _, _, _, _⟩) rfl (fun K hK => ?_) AllReady.nil)
    go_simp
    refine hK _ _ ?_
    clear hK K
    try simp only [Act.put, List.setIfInBounds_toArray, List.set_cons_zero, List.set_cons_succ]
    refine wpAny_ready (rs := [3]) (by kernel_rfl) (by simp) ?_
    refine (AllReady.cons (o := ⟨_, _, _, _, _, _⟩) rfl (fun K hK => ?_) AllReady.nil)
    go_simp
    refine hK _ _ ?_
    clear hK K
    try simp only [Act.put, List.setIfInBounds_toArray, List.set_cons_zero, List.set_cons_succ]
    refine wpAny_done (by kernel_rfl) ?_ _
    clear hcd hfd e0 e1 e2 e3 e4 i0 i1 i2 i3 i4 q00 q01 q02 q03 q10 q11 q12 q13 q14 q15 r10 r11 r12 r13 r14 r15 r00 r01 r02 r03
    go_wp2_with (fail)
    first
      | (obtain ⟨f0, f1, f2, f3, f4, HF⟩ := FA.out
         exact bodyPost_ret (v := .tuple #[.agg #[.slice A1 n1 c1, .slice A2 n2 c2], .agg #[.int .i64 x, .int .i64 y, .int .i64 z]]) (by simp [results, Try.results18, go_sem, f0, f1, f2, f3, f4]) rfl ⟨_, _, _, _, _, _, _, _, x, y, z, rfl, HF.out⟩)
      | (obtain ⟨f0, f1, f2, f3, f4, HF⟩ := FB.out
         exact bodyPost_ret (v := .tuple #[.agg #[.slice A1 n1 c1, .slice A2 n2 c2], .agg #[.int .i64 x, .int .i64 y, .int .i64 z]]) (by simp [results, Try.results18, go_sem, f0, f1, f2, f3, f4]) rfl ⟨_, _, _, _, _, _, _, _, x, y, z, rfl, HF.out⟩)
/-- How Pw's function stands: two results, the post office and the struct in blocks of their own. -/
structure Pw (w0 w : World) (r : Nat) (A : Option Addr) (n c : Nat) (xs : List Int) (p : Int) (xb : Nat) (A1 : Option Addr) (n1 c1 : Nat) (A2 : Option Addr) (n2 c2 : Nat) (ns fs : List Tri) (lb : Nat) (x y z : Int) : Prop where
  rdr : Rdr w r A n c xs p
  hr : w0.heap.size + 2 ≤ r
  q0 : Blk w w0.heap.size 26 #[.slice none 0 0, .slice none 0 0]
  q1 : Blk w (w0.heap.size + 1) 42 #[.int .i64 0, .int .i64 0, .int .i64 0]
  box : Blk w xb 26 #[.slice A1 n1 c1, .slice A2 n2 c2]
  lbx : Blk w lb 42 #[.int .i64 x, .int .i64 y, .int .i64 z]
  d1 : Rd w (r + 1) xb 3 A1 n1 (tvs ns)
  d2 : Rd w (r + 1) xb 3 A2 n2 (tvs fs)
  hrx : r < xb
  hxl : xb < lb
  bel : Below w0.heap.size w0 w
section
variable {w0 w w' : World} {r : Nat} {A : Option Addr} {n c : Nat} {xs : List Int} {p p' : Int} {xb : Nat} {A1 A2 : Option Addr} {n1 c1 n2 c2 : Nat} {ns fs : List Tri} {lb : Nat} {x y z : Int}
theorem Pw.below (h : Pw w0 w r A n c xs p xb A1 n1 c1 A2 n2 c2 ns fs lb x y z) (hb : Below w.heap.size w w') : Pw w0 w' r A n c xs p xb A1 n1 c1 A2 n2 c2 ns fs lb x y z :=
  ⟨h.rdr.below hb, h.hr, h.q0.below hb h.q0.lt, h.q1.below hb h.q1.lt, h.box.below hb h.box.lt, h.lbx.below hb h.lbx.lt, h.d1.keep hb (Nat.le_of_lt h.box.lt), h.d2.keep hb (Nat.le_of_lt h.box.lt), h.hrx, h.hxl, up h.bel hb⟩
theorem Pw.drawn (h : Pw w0 w r A n c xs p xb A1 n1 c1 A2 n2 c2 ns fs lb x y z) (hR : Rdr w' r A n c xs p') (hG : But r w w') : Pw w0 w' r A n c xs p' xb A1 n1 c1 A2 n2 c2 ns fs lb x y z := by
  have h1 := h.hr; have h2 := h.hrx; have h3 := h.hxl
  exact ⟨hR, h.hr, h.q0.but hG (by omega), h.q1.but hG (by omega), h.box.but hG (by omega), h.lbx.but hG (by omega), h.d1.but hG (Nat.le_of_lt h.box.lt) (by omega), h.d2.but hG (Nat.le_of_lt h.box.lt) (by omega), h.hrx, h.hxl, but_mineK h.bel hG (by omega)⟩
/-- A store into the struct. -/
theorem Pw.sto (h : Pw w0 w r A n c xs p xb A1 n1 c1 A2 n2 c2 ns fs lb x y z) (i : Nat) (u : Int) {x' y' z' : Int} (he : (#[Value.int .i64 x, .int .i64 y, .int .i64 z] : Array Value).setIfInBounds i (.int .i64 u) = #[.int .i64 x', .int .i64 y', .int .i64 z']) :
    Pw w0 (w.setCell ⟨lb, i, none⟩ (.int .i64 u)) r A n c xs p xb A1 n1 c1 A2 n2 c2 ns fs lb x' y' z' := by
  have h1 := h.hr; have h2 := h.hrx; have h3 := h.hxl; have h4 := h.bel.size
  have hl := h.lbx.put i (.int .i64 u)
  rw [he] at hl
  exact ⟨rdr_set h.rdr (q := ⟨lb, i, none⟩) (by show r < lb; omega) _, h.hr, h.q0.far (p := ⟨lb, i, none⟩) (by show _ ≠ lb; omega) _, h.q1.far (p := ⟨lb, i, none⟩) (by show _ ≠ lb; omega) _, h.box.far (p := ⟨lb, i, none⟩) (by show _ ≠ lb; omega) _, hl,
    h.d1.setCell (p := ⟨lb, i, none⟩) (.inr (by show xb ≤ lb; omega)) _, h.d2.setCell (p := ⟨lb, i, none⟩) (.inr (by show xb ≤ lb; omega)) _, h.hrx, h.hxl, h.bel.setCell (p := ⟨lb, i, none⟩) (by show _ ≤ lb; omega) _⟩
/-- The end: both results are laid, in either order. -/
theorem Pw.fin (h : Pw w0 w r A n c xs p xb A1 n1 c1 A2 n2 c2 ns fs lb x y z) (hm1 : n1 ≤ 11) (hm2 : n2 ≤ 11) (hk1 : n1 ≤ c1) (hk2 : n2 ≤ c2) {w' : World}
    (hw : w' = ((((w.setCell ⟨w0.heap.size, 0, none⟩ (.slice A1 n1 c1)).setCell ⟨w0.heap.size, 1, none⟩ (.slice A2 n2 c2)).setCell ⟨w0.heap.size + 1, 0, none⟩ (.int .i64 x)).setCell ⟨w0.heap.size + 1, 1, none⟩ (.int .i64 y)).setCell ⟨w0.heap.size + 1, 2, none⟩ (.int .i64 z) ∨
      w' = ((((w.setCell ⟨w0.heap.size + 1, 0, none⟩ (.int .i64 x)).setCell ⟨w0.heap.size + 1, 1, none⟩ (.int .i64 y)).setCell ⟨w0.heap.size + 1, 2, none⟩ (.int .i64 z)).setCell ⟨w0.heap.size, 0, none⟩ (.slice A1 n1 c1)).setCell ⟨w0.heap.size, 1, none⟩ (.slice A2 n2 c2)) :
    w'.drew.cell? ⟨w0.heap.size, 0, none⟩ = some (.slice A1 n1 c1) ∧ w'.drew.cell? ⟨w0.heap.size, 1, none⟩ = some (.slice A2 n2 c2) ∧ w'.drew.cell? ⟨w0.heap.size + 1, 0, none⟩ = some (.int .i64 x) ∧ w'.drew.cell? ⟨w0.heap.size + 1, 1, none⟩ = some (.int .i64 y) ∧ w'.drew.cell? ⟨w0.heap.size + 1, 2, none⟩ = some (.int .i64 z) ∧ Hid (Off w0 w'.drew A1 n1 c1 A2 n2 c2 ns fs) := by
  have h1 := h.hr; have h2 := h.hrx; have hsz := h.bel.size
  have n0 : w0.heap.size ≠ w0.heap.size + 1 := by omega
  have n0' : w0.heap.size + 1 ≠ w0.heap.size := by omega
  have hs : ∀ (u : World) (q : Addr) (v : Value), (u.setCell q v).heap.size = u.heap.size := fun u q v => by simp [World.setCell]
  rcases hw with rfl | rfl
  · have e0 := ((((h.q0.put 0 (.slice A1 n1 c1)).put 1 (.slice A2 n2 c2)).far (p := ⟨w0.heap.size + 1, 0, none⟩) n0 (.int .i64 x)).far (p := ⟨w0.heap.size + 1, 1, none⟩) n0 (.int .i64 y)).far (p := ⟨w0.heap.size + 1, 2, none⟩) n0 (.int .i64 z)
    have e1 := ((((h.q1.far (p := ⟨w0.heap.size, 0, none⟩) n0' (.slice A1 n1 c1)).far (p := ⟨w0.heap.size, 1, none⟩) n0' (.slice A2 n2 c2)).put 0 (.int .i64 x)).put 1 (.int .i64 y)).put 2 (.int .i64 z)
    have g : ∀ {An : Option Addr} {nn : Nat} {l : List Tri}, Rd w (r + 1) xb 3 An nn (tvs l) → Rd (((((w.setCell ⟨w0.heap.size, 0, none⟩ (.slice A1 n1 c1)).setCell ⟨w0.heap.size, 1, none⟩ (.slice A2 n2 c2)).setCell ⟨w0.heap.size + 1, 0, none⟩ (.int .i64 x)).setCell ⟨w0.heap.size + 1, 1, none⟩ (.int .i64 y)).setCell ⟨w0.heap.size + 1, 2, none⟩ (.int .i64 z)) w0.heap.size (((((w.setCell ⟨w0.heap.size, 0, none⟩ (.slice A1 n1 c1)).setCell ⟨w0.heap.size, 1, none⟩ (.slice A2 n2 c2)).setCell ⟨w0.heap.size + 1, 0, none⟩ (.int .i64 x)).setCell ⟨w0.heap.size + 1, 1, none⟩ (.int .i64 y)).setCell ⟨w0.heap.size + 1, 2, none⟩ (.int .i64 z)).heap.size 3 An nn (tvs l) := fun hd =>
      (((((hd.setCell (p := ⟨w0.heap.size, 0, none⟩) (.inl (by show w0.heap.size < r + 1; omega)) _).setCell (p := ⟨w0.heap.size, 1, none⟩) (.inl (by show w0.heap.size < r + 1; omega)) _).setCell (p := ⟨w0.heap.size + 1, 0, none⟩) (.inl (by show w0.heap.size + 1 < r + 1; omega)) _).setCell (p := ⟨w0.heap.size + 1, 1, none⟩) (.inl (by show w0.heap.size + 1 < r + 1; omega)) _).setCell (p := ⟨w0.heap.size + 1, 2, none⟩) (.inl (by show w0.heap.size + 1 < r + 1; omega)) _).wide (by omega) (by simp only [hs]; exact Nat.le_of_lt h.box.lt)
    simp only [cell_drewn]
    exact ⟨e0.cell 0, e0.cell 1, e1.cell 0, e1.cell 1, e1.cell 2, Lib.hid (Off.drewn ⟨hm1, hm2, hk1, hk2, g h.d1, g h.d2, (((((h.bel.setCell (p := ⟨w0.heap.size, 0, none⟩) (Nat.le_refl _) _).setCell (p := ⟨w0.heap.size, 1, none⟩) (Nat.le_refl _) _).setCell (p := ⟨w0.heap.size + 1, 0, none⟩) (Nat.le_succ _) _).setCell (p := ⟨w0.heap.size + 1, 1, none⟩) (Nat.le_succ _) _).setCell (p := ⟨w0.heap.size + 1, 2, none⟩) (Nat.le_succ _) _)⟩)⟩
  · have e0 := ((((h.q0.far (p := ⟨w0.heap.size + 1, 0, none⟩) n0 (.int .i64 x)).far (p := ⟨w0.heap.size + 1, 1, none⟩) n0 (.int .i64 y)).far (p := ⟨w0.heap.size + 1, 2, none⟩) n0 (.int .i64 z)).put 0 (.slice A1 n1 c1)).put 1 (.slice A2 n2 c2)
    have e1 := ((((h.q1.put 0 (.int .i64 x)).put 1 (.int .i64 y)).put 2 (.int .i64 z)).far (p := ⟨w0.heap.size, 0, none⟩) n0' (.slice A1 n1 c1)).far (p := ⟨w0.heap.size, 1, none⟩) n0' (.slice A2 n2 c2)
    have g : ∀ {An : Option Addr} {nn : Nat} {l : List Tri}, Rd w (r + 1) xb 3 An nn (tvs l) → Rd (((((w.setCell ⟨w0.heap.size + 1, 0, none⟩ (.int .i64 x)).setCell ⟨w0.heap.size + 1, 1, none⟩ (.int .i64 y)).setCell ⟨w0.heap.size + 1, 2, none⟩ (.int .i64 z)).setCell ⟨w0.heap.size, 0, none⟩ (.slice A1 n1 c1)).setCell ⟨w0.heap.size, 1, none⟩ (.slice A2 n2 c2)) w0.heap.size (((((w.setCell ⟨w0.heap.size + 1, 0, none⟩ (.int .i64 x)).setCell ⟨w0.heap.size + 1, 1, none⟩ (.int .i64 y)).setCell ⟨w0.heap.size + 1, 2, none⟩ (.int .i64 z)).setCell ⟨w0.heap.size, 0, none⟩ (.slice A1 n1 c1)).setCell ⟨w0.heap.size, 1, none⟩ (.slice A2 n2 c2)).heap.size 3 An nn (tvs l) := fun hd =>
      (((((hd.setCell (p := ⟨w0.heap.size + 1, 0, none⟩) (.inl (by show w0.heap.size + 1 < r + 1; omega)) _).setCell (p := ⟨w0.heap.size + 1, 1, none⟩) (.inl (by show w0.heap.size + 1 < r + 1; omega)) _).setCell (p := ⟨w0.heap.size + 1, 2, none⟩) (.inl (by show w0.heap.size + 1 < r + 1; omega)) _).setCell (p := ⟨w0.heap.size, 0, none⟩) (.inl (by show w0.heap.size < r + 1; omega)) _).setCell (p := ⟨w0.heap.size, 1, none⟩) (.inl (by show w0.heap.size < r + 1; omega)) _).wide (by omega) (by simp only [hs]; exact Nat.le_of_lt h.box.lt)
    simp only [cell_drewn]
    exact ⟨e0.cell 0, e0.cell 1, e1.cell 0, e1.cell 1, e1.cell 2, Lib.hid (Off.drewn ⟨hm1, hm2, hk1, hk2, g h.d1, g h.d2, (((((h.bel.setCell (p := ⟨w0.heap.size + 1, 0, none⟩) (Nat.le_succ _) _).setCell (p := ⟨w0.heap.size + 1, 1, none⟩) (Nat.le_succ _) _).setCell (p := ⟨w0.heap.size + 1, 2, none⟩) (Nat.le_succ _) _).setCell (p := ⟨w0.heap.size, 0, none⟩) (Nat.le_refl _) _).setCell (p := ⟨w0.heap.size, 1, none⟩) (Nat.le_refl _) _)⟩)⟩
end
/-- Stores into a block made since, of another struct. -/
theorem Pw.offZ {w0 w : World} {r : Nat} {A : Option Addr} {n c : Nat} {xs : List Int} {p : Int} {xb : Nat} {A1 A2 : Option Addr} {n1 c1 n2 c2 : Nat} {ns fs : List Tri} {lb : Nat} {x y z : Int} {sb : Nat} {t : TypeId} {cs : Array Value} (h : Pw w0 w r A n c xs p xb A1 n1 c1 A2 n2 c2 ns fs lb x y z) (_hz : Blk w sb t cs) (hs : lb < sb) (a b d : Int) :
    Pw w0 (((w.setCell ⟨sb, 0, none⟩ (.int .i64 a)).setCell ⟨sb, 1, none⟩ (.int .i64 b)).setCell ⟨sb, 2, none⟩ (.int .i64 d)) r A n c xs p xb A1 n1 c1 A2 n2 c2 ns fs lb x y z := by
  have one : ∀ (w : World) (i : Nat) (u : Int), Pw w0 w r A n c xs p xb A1 n1 c1 A2 n2 c2 ns fs lb x y z → Pw w0 (w.setCell ⟨sb, i, none⟩ (.int .i64 u)) r A n c xs p xb A1 n1 c1 A2 n2 c2 ns fs lb x y z := fun w i u h => by
    have h1 := h.hr; have h2 := h.hrx; have h3 := h.hxl; have h4 := h.bel.size
    exact ⟨rdr_set h.rdr (q := ⟨sb, i, none⟩) (by show r < sb; omega) _, h.hr, h.q0.far (p := ⟨sb, i, none⟩) (by show _ ≠ sb; omega) _, h.q1.far (p := ⟨sb, i, none⟩) (by show _ ≠ sb; omega) _, h.box.far (p := ⟨sb, i, none⟩) (by show _ ≠ sb; omega) _, h.lbx.far (p := ⟨sb, i, none⟩) (by show _ ≠ sb; omega) _,
      h.d1.setCell (p := ⟨sb, i, none⟩) (.inr (by show xb ≤ sb; omega)) _, h.d2.setCell (p := ⟨sb, i, none⟩) (.inr (by show xb ≤ sb; omega)) _, h.hrx, h.hxl, h.bel.setCell (p := ⟨sb, i, none⟩) (by show _ ≤ sb; omega) _⟩
  exact one _ 2 d (one _ 1 b (one _ 0 a h))
set_option maxRecDepth 100000 in
set_option maxHeartbeats 6400000 in
theorem drawWaitLetter_any (n c : Nat) (A : Option Addr) (xs : List Int) (w : World) (hr : Rd w 0 w.heap.size 1 A n (bvs xs)) (hby : Bytes xs) (hn : n ≤ 1048576) (hc : n ≤ c) (hc2 : c ≤ 9223372036854775807) :
    Calls Try.prog 25 #[.slice A n c] w (DrawPL w) := by
  have HQ := Lib.hid (show Blk (w.alloc (.cells #[.slice none 0 0, .slice none 0 0] 26)) w.heap.size 26 #[.slice none 0 0, .slice none 0 0] from Blk.new _ _ _)
  have HB0 := Lib.hid (up_alloc (up_alloc (Below.refl _ w) (.cells #[.slice none 0 0, .slice none 0 0] 26)) (.cells #[.int .i64 0, .int .i64 0, .int .i64 0] 42))
  have HRA := Lib.hid (hr.keep (up_alloc (up_alloc (Below.refl _ w) (.cells #[.slice none 0 0, .slice none 0 0] 26)) (.cells #[.int .i64 0, .int .i64 0, .int .i64 0] 42)) (Nat.le_refl _))
  have HQ0 := Lib.hid (HQ.out.alloc (.cells #[.int .i64 0, .int .i64 0, .int .i64 0] 42))
  have HQ1 := Lib.hid (show Blk ((w.alloc (.cells #[.slice none 0 0, .slice none 0 0] 26)).alloc (.cells #[.int .i64 0, .int .i64 0, .int .i64 0] 42)) (w.heap.size + 1) 42 #[.int .i64 0, .int .i64 0, .int .i64 0] from by have h := Blk.new (w.alloc (.cells #[.slice none 0 0, .slice none 0 0] 26)) 42 #[.int .i64 0, .int .i64 0, .int .i64 0]; rwa [World.size_alloc] at h)
  clear hr HQ
  go_enter Try.func25, Try.ntmps25
  go_wp2_with (fail)
  (with_reducible refine (newReader_any n c A xs _ (HRA.out.wide (Nat.le_refl _) (by simp; omega)) hby hn hc hc2).mono ?_)
  rintro e w1 ⟨r, n', c', xs', rfl, hrw, hR1, hb1⟩
  have hrl := hR1.lt
  simp only [World.size_alloc] at hrw
  have HB1 := Lib.hid (up HB0.out hb1)
  have HQ01 := Lib.hid (HQ0.out.below hb1 HQ0.out.lt)
  have HQ11 := Lib.hid (HQ1.out.below hb1 HQ1.out.lt)
  have hz1 := HB1.out.size
  clear hb1 HRA HQ0 HQ1 HB0
  go_wp2_with (fail)
  (with_reducible refine (anyPost_any r A n' c' xs' 0 w1 hR1 (by omega)).mono ?_)
  rintro e w2 ⟨A1, n1, c1, A2, n2, c2, ns, fs, p2, rfl, hcr, hn1, hn2, hR2, hp2, hG2⟩
  have hk1 : n1 ≤ c1 := by obtain ⟨_, _, e, hc, _⟩ := own_cap hcr.1; cases e; exact hc
  have hk2 : n2 ≤ c2 := by obtain ⟨_, _, e, hc, _⟩ := own_cap hcr.2.1; cases e; exact hc
  have HQ02 := Lib.hid (HQ01.out.but hG2 (by omega))
  have HQ12 := Lib.hid (HQ11.out.but hG2 (by omega))
  have HB2 := Lib.hid (but_mineK HB1.out hG2 (by omega))
  have HD1 := Lib.hid ((Rd.of_own hcr.1).wide (lo' := r + 1) (by omega) (Nat.le_refl _))
  have HD2 := Lib.hid ((Rd.of_own hcr.2.1).wide (lo' := r + 1) (by omega) (Nat.le_refl _))
  have HR2 := Lib.hid hR2
  have hz2 := hG2.size
  clear hcr hR2 hG2 HQ01 HQ11 HB1
  have HX := Lib.hid (Blk.new w2 26 #[.slice A1 n1 c1, .slice A2 n2 c2])
  have HBX := Lib.hid (up_alloc (Below.refl _ w2) (.cells #[.slice A1 n1 c1, .slice A2 n2 c2] 26))
  go_wp2_with (fail)
  (with_reducible refine (someSub_any r A n' c' xs' p2 _ (rdr_alloc HR2.out _) (by omega)).mono ?_)
  rintro e w3 ⟨x, y, z, rfl, _, hR3, hG3⟩
  have hX3 := HX.out.but hG3 (by omega)
  have hz3 := hG3.size
  simp only [World.size_alloc] at hz3
  have hP4 : Pw w (w3.alloc (.cells #[.int .i64 x, .int .i64 y, .int .i64 z] 42)) r A n' c' xs' (p2 + 3) w2.heap.size A1 n1 c1 A2 n2 c2 ns fs w3.heap.size x y z := by
    have hbb := up_alloc (Below.refl _ w3) (.cells #[.int .i64 x, .int .i64 y, .int .i64 z] 42)
    have hd1 := ((HD1.out.keep HBX.out (Nat.le_refl _)).but hG3 (by simp) (by omega)).keep hbb (by omega)
    have hd2 := ((HD2.out.keep HBX.out (Nat.le_refl _)).but hG3 (by simp) (by omega)).keep hbb (by omega)
    exact ⟨rdr_alloc hR3 _, by omega, ((HQ02.out.alloc _).but hG3 (by omega)).alloc _, ((HQ12.out.alloc _).but hG3 (by omega)).alloc _, hX3.alloc _, Blk.new _ _ _, hd1, hd2, by omega, by omega, up_alloc (but_mineK (up_alloc HB2.out _) hG3 (by omega)) _⟩
  have HP := Lib.hid hP4
  have hr3 := hR3.lt
  clear hP4 hX3 hR3 hG3 HX HBX HD1 HD2 HQ02 HQ12 HB2 HR2
  go_upto_region 4 with fail
  generalize w3.alloc (.cells #[.int .i64 x, .int .i64 y, .int .i64 z] 42) = w4 at *
  generalize w3.heap.size = lb at *
  generalize w2.heap.size = xb at *
  have k1 : w4.cell? ⟨xb, 1, none⟩ = some (.slice A2 n2 c2) := HP.out.box.cell 1
  have hp2b : p2 ≤ 200 := by omega
  rcases Nat.eq_zero_or_pos n2 with hz | hz
  · subst hz
    have hzd : decide ((0 : Int) < 0) = false := rfl
    go_upto_if 22 with fail
    go_cut [7] from 14 to 37 (fun s7 wx => ∃ (p9 x9 y9 z9 : Int), p9 ≤ p2 + 9 ∧ Hid (Pw w wx r A n' c' xs' p9 xb A1 n1 c1 A2 0 c2 ns fs lb x9 y9 z9))
    case first =>
      go_wp2_with fail
      go_meet
      exact ⟨p2 + 3, x, y, z, by omega, HP.out⟩
    case rest =>
    obtain ⟨p9, x9, y9, z9, hp9, HPX⟩ := hcut
    clear HP
    try clear k1
    generalize wc = w9 at *
    go_wp2_with (fail)
    (with_reducible refine (pick_any r A n' c' xs' p9 20 w9 HPX.out.rdr (by omega) (by omega)).mono ?_)
    rintro e w10 ⟨q, rfl, q0, q1, _, hR10, hG10⟩
    have HP10 := Lib.hid (HPX.out.drawn hR10 hG10)
    clear hR10 hG10 q1 HPX
    go_upto_if 40 with fail
    go_cut [] from 40 to 44 (fun wx => ∃ (p9 x9 y9 z9 : Int), Hid (Pw w wx r A n' c' xs' p9 xb A1 n1 c1 A2 0 c2 ns fs lb x9 y9 z9))
    case first =>
      by_cases hq : q = 0
      case neg =>
        have hqd : (q == 0) = false := by simpa using hq
        go_wp2_with fail
        go_meet
        exact ⟨_, _, _, _, HP10.out⟩
      subst hq
      go_wp2_with (fail)
      (with_reducible refine (one_lits r A n' c' xs' (p9 + 1) [-1, 10] 2 _ _ w10 HP10.out.rdr (by omega) rfl (by omega) (by omega) (by simp) rfl (by simp)).mono ?_)
      rintro e w11 ⟨u, p11, rfl, u0, u1, hR11, hp11, hG11⟩
      have HP11 := Lib.hid (HP10.out.drawn hR11 hG11)
      have HP12 := Lib.hid (HP11.out.sto 0 u (x' := u) (y' := y9) (z' := z9) rfl)
      have m1 := HP11.out.lbx.cell 0
      have m2 := HP11.out.lbx.soft 0
      simp at m1
      clear hR11 hG11
      go_wp2_with fail
      go_meet
      exact ⟨_, _, _, _, HP12.out⟩
    case rest =>
    obtain ⟨p12, x, y, z, HPE⟩ := hcut
    clear HP10
    generalize wc = we at *
    have HS := Lib.hid (show ∀ wx, Blk wx xb 26 #[.slice A1 n1 c1, .slice A2 0 c2] → Blk wx lb 42 #[.int .i64 x, .int .i64 y, .int .i64 z] → wx.cell? ⟨xb, 0, none⟩ = some (.slice A1 n1 c1) ∧ wx.cell? ⟨xb, 1, none⟩ = some (.slice A2 0 c2) ∧ wx.cell? ⟨lb, 0, none⟩ = some (.int .i64 x) ∧ wx.cell? ⟨lb, 1, none⟩ = some (.int .i64 y) ∧ wx.cell? ⟨lb, 2, none⟩ = some (.int .i64 z) from fun wx hB hL => ⟨hB.cell 0, hB.cell 1, hL.cell 0, hL.cell 1, hL.cell 2⟩)
    have hne1 : xb ≠ w.heap.size := by have := HPE.out.hrx; have := HPE.out.hr; omega
    have hne2 : xb ≠ w.heap.size + 1 := by have := HPE.out.hrx; have := HPE.out.hr; omega
    have hne3 : lb ≠ w.heap.size := by have := HPE.out.hrx; have := HPE.out.hr; have := HPE.out.hxl; omega
    have hne4 : lb ≠ w.heap.size + 1 := by have := HPE.out.hrx; have := HPE.out.hr; have := HPE.out.hxl; omega
    have HX0 := Lib.hid HPE.out.box
    have HL0 := Lib.hid HPE.out.lbx
    have HXA := Lib.hid ((HX0.out.far (p := ⟨w.heap.size, 0, none⟩) hne1 (.slice A1 n1 c1)).far (p := ⟨w.heap.size, 1, none⟩) hne1 (.slice A2 0 c2))
    have HLA := Lib.hid ((HL0.out.far (p := ⟨w.heap.size, 0, none⟩) hne3 (.slice A1 n1 c1)).far (p := ⟨w.heap.size, 1, none⟩) hne3 (.slice A2 0 c2))
    have HXB := Lib.hid (((HX0.out.far (p := ⟨w.heap.size + 1, 0, none⟩) hne2 (.int .i64 x)).far (p := ⟨w.heap.size + 1, 1, none⟩) hne2 (.int .i64 y)).far (p := ⟨w.heap.size + 1, 2, none⟩) hne2 (.int .i64 z))
    have HLB := Lib.hid (((HL0.out.far (p := ⟨w.heap.size + 1, 0, none⟩) hne4 (.int .i64 x)).far (p := ⟨w.heap.size + 1, 1, none⟩) hne4 (.int .i64 y)).far (p := ⟨w.heap.size + 1, 2, none⟩) hne4 (.int .i64 z))
    have HXC := Lib.hid (((HXA.out.far (p := ⟨w.heap.size + 1, 0, none⟩) hne2 (.int .i64 x)).far (p := ⟨w.heap.size + 1, 1, none⟩) hne2 (.int .i64 y)).far (p := ⟨w.heap.size + 1, 2, none⟩) hne2 (.int .i64 z))
    have HLC := Lib.hid (((HLA.out.far (p := ⟨w.heap.size + 1, 0, none⟩) hne4 (.int .i64 x)).far (p := ⟨w.heap.size + 1, 1, none⟩) hne4 (.int .i64 y)).far (p := ⟨w.heap.size + 1, 2, none⟩) hne4 (.int .i64 z))
    have HXD := Lib.hid ((HXB.out.far (p := ⟨w.heap.size, 0, none⟩) hne1 (.slice A1 n1 c1)).far (p := ⟨w.heap.size, 1, none⟩) hne1 (.slice A2 0 c2))
    have HLD := Lib.hid ((HLB.out.far (p := ⟨w.heap.size, 0, none⟩) hne3 (.slice A1 n1 c1)).far (p := ⟨w.heap.size, 1, none⟩) hne3 (.slice A2 0 c2))
    -- the results' cells, ahead of both stores and between them
    have q00 := HPE.out.q0.cell 0; have q01 := HPE.out.q0.cell 1; have q02 := HPE.out.q0.soft 0; have q03 := HPE.out.q0.soft 1
    have q10 := HPE.out.q1.cell 0; have q11 := HPE.out.q1.cell 1; have q12 := HPE.out.q1.cell 2; have q13 := HPE.out.q1.soft 0; have q14 := HPE.out.q1.soft 1; have q15 := HPE.out.q1.soft 2
    have hn01 : w.heap.size ≠ w.heap.size + 1 := by omega
    have hn10 : w.heap.size + 1 ≠ w.heap.size := by omega
    have HQA := Lib.hid ((HPE.out.q1.far (p := ⟨w.heap.size, 0, none⟩) hn10 (.slice A1 n1 c1)).far (p := ⟨w.heap.size, 1, none⟩) hn10 (.slice A2 0 c2))
    have HQB := Lib.hid (((HPE.out.q0.far (p := ⟨w.heap.size + 1, 0, none⟩) hn01 (.int .i64 x)).far (p := ⟨w.heap.size + 1, 1, none⟩) hn01 (.int .i64 y)).far (p := ⟨w.heap.size + 1, 2, none⟩) hn01 (.int .i64 z))
    have r10 := HQA.out.cell 0; have r11 := HQA.out.cell 1; have r12 := HQA.out.cell 2; have r13 := HQA.out.soft 0; have r14 := HQA.out.soft 1; have r15 := HQA.out.soft 2
    have r00 := HQB.out.cell 0; have r01 := HQB.out.cell 1; have r02 := HQB.out.soft 0; have r03 := HQB.out.soft 1
    clear hn01 hn10 HQA HQB
    have FA := (HPE.out.fin hn1 hn2 hk1 hk2 (.inl rfl))
    have FB := (HPE.out.fin hn1 hn2 hk1 hk2 (.inr rfl))
    have FA := Lib.hid FA
    have FB := Lib.hid FB
    have e0 := HX0.out.cell 0; have e1 := HX0.out.cell 1; have e2 := HL0.out.cell 0; have e3 := HL0.out.cell 1; have e4 := HL0.out.cell 2
    have i0 := HXB.out.cell 0; have i1 := HXB.out.cell 1; have i2 := HLA.out.cell 0; have i3 := HLA.out.cell 1; have i4 := HLA.out.cell 2
    clear HS HX0 HL0 HXA HLA HXB HLB HXC HLC HXD HLD hne1 hne2 hne3 hne4
    go_wp2_with (fail)
    have hcd := cell_drewn
    have hfd := frozen_drewn
    refine wp_region_any (by kernel_rfl) ?_
    try (change wpAny _ _ _ _ _ _ _ (World.drew _))
    refine wpAny_ready (rs := [0, 1]) (by kernel_rfl) (by simp) ?_
    refine (AllReady.cons (o := ⟨_, _, _, _, _, _⟩) rfl (fun K hK => ?_) (AllReady.cons (o := ⟨_, _, _, _, _, _⟩) rfl (fun K hK => ?_) AllReady.nil))
    · go_simp
      refine hK _ _ ?_
      clear hK K
      try simp only [Act.put, List.setIfInBounds_toArray, List.set_cons_zero, List.set_cons_succ]
      refine wpAny_ready (rs := [1, 2]) (by kernel_rfl) (by simp) ?_
      refine (AllReady.cons (o := ⟨_, _, _, _, _, _⟩) rfl (fun K hK => ?_) (AllReady.cons (o := ⟨_, _, _, _, _, _⟩) rfl (fun K hK => ?_) AllReady.nil))
      · go_simp
        refine hK _ _ ?_
        clear hK K
        try simp only [Act.put, List.setIfInBounds_toArray, List.set_cons_zero, List.set_cons_succ]
        refine wpAny_ready (rs := [2]) (by kernel_rfl) (by simp) ?_
        refine (AllReady.cons (o := ⟨_, _, _, _, _, _⟩) rfl (fun K hK => ?_) AllReady.nil)
        go_simp
        refine hK _ _ ?_
        clear hK K
        try simp only [Act.put, List.setIfInBounds_toArray, List.set_cons_zero, List.set_cons_succ]
        refine wpAny_ready (rs := [3]) (by kernel_rfl) (by simp) ?_
        refine (AllReady.cons (o := ⟨_, _, _, _, _, _⟩) rfl (fun K hK => ?_) AllReady.nil)
        go_simp
        refine hK _ _ ?_
        clear hK K
        try simp only [Act.put, List.setIfInBounds_toArray, List.set_cons_zero, List.set_cons_succ]
        refine wpAny_done (by kernel_rfl) ?_ _
        clear hcd hfd e0 e1 e2 e3 e4 i0 i1 i2 i3 i4 q00 q01 q02 q03 q10 q11 q12 q13 q14 q15 r10 r11 r12 r13 r14 r15 r00 r01 r02 r03
        go_wp2_with (fail)
        first
          | (obtain ⟨f0, f1, f2, f3, f4, HF⟩ := FA.out
             exact bodyPost_ret (v := .tuple #[.agg #[.slice A1 n1 c1, .slice A2 0 c2], .agg #[.int .i64 x, .int .i64 y, .int .i64 z]]) (by simp [results, Try.results25, go_sem, f0, f1, f2, f3, f4]) rfl ⟨_, _, _, _, _, _, _, _, x, y, z, rfl, HF.out⟩)
          | (obtain ⟨f0, f1, f2, f3, f4, HF⟩ := FB.out
             exact bodyPost_ret (v := .tuple #[.agg #[.slice A1 n1 c1, .slice A2 0 c2], .agg #[.int .i64 x, .int .i64 y, .int .i64 z]]) (by simp [results, Try.results25, go_sem, f0, f1, f2, f3, f4]) rfl ⟨_, _, _, _, _, _, _, _, x, y, z, rfl, HF.out⟩)
      · go_simp
        refine hK _ _ ?_
        clear hK K
        try simp only [Act.put, List.setIfInBounds_toArray, List.set_cons_zero, List.set_cons_succ]
        refine wpAny_ready (rs := [1]) (by kernel_rfl) (by simp) ?_
        refine (AllReady.cons (o := ⟨_, _, _, _, _, _⟩) rfl (fun K hK => ?_) AllReady.nil)
        go_simp
        refine hK _ _ ?_
        clear hK K
        try simp only [Act.put, List.setIfInBounds_toArray, List.set_cons_zero, List.set_cons_succ]
        refine wpAny_ready (rs := [3]) (by kernel_rfl) (by simp) ?_
        refine (AllReady.cons (o := ⟨_, _, _, _, _, _⟩) rfl (fun K hK => ?_) AllReady.nil)
        go_simp
        refine hK _ _ ?_
        clear hK K
        try simp only [Act.put, List.setIfInBounds_toArray, List.set_cons_zero, List.set_cons_succ]
        refine wpAny_done (by kernel_rfl) ?_ _
        clear hcd hfd e0 e1 e2 e3 e4 i0 i1 i2 i3 i4 q00 q01 q02 q03 q10 q11 q12 q13 q14 q15 r10 r11 r12 r13 r14 r15 r00 r01 r02 r03
        go_wp2_with (fail)
        first
          | (obtain ⟨f0, f1, f2, f3, f4, HF⟩ := FA.out
             exact bodyPost_ret (v := .tuple #[.agg #[.slice A1 n1 c1, .slice A2 0 c2], .agg #[.int .i64 x, .int .i64 y, .int .i64 z]]) (by simp [results, Try.results25, go_sem, f0, f1, f2, f3, f4]) rfl ⟨_, _, _, _, _, _, _, _, x, y, z, rfl, HF.out⟩)
          | (obtain ⟨f0, f1, f2, f3, f4, HF⟩ := FB.out
             exact bodyPost_ret (v := .tuple #[.agg #[.slice A1 n1 c1, .slice A2 0 c2], .agg #[.int .i64 x, .int .i64 y, .int .i64 z]]) (by simp [results, Try.results25, go_sem, f0, f1, f2, f3, f4]) rfl ⟨_, _, _, _, _, _, _, _, x, y, z, rfl, HF.out⟩)
    · go_simp
      refine hK _ _ ?_
      clear hK K
      try simp only [Act.put, List.setIfInBounds_toArray, List.set_cons_zero, List.set_cons_succ]
      refine wpAny_ready (rs := [0]) (by kernel_rfl) (by simp) ?_
      refine (AllReady.cons (o := ⟨_, _, _, _, _, _⟩) rfl (fun K hK => ?_) AllReady.nil)
      go_simp
      refine hK _ _ ?_
      clear hK K
      try simp only [Act.put, List.setIfInBounds_toArray, List.set_cons_zero, List.set_cons_succ]
      refine wpAny_ready (rs := [2]) (by kernel_rfl) (by simp) ?_
      refine (AllReady.cons (o := ⟨_, _, _, _, _, _⟩) rfl (fun K hK => ?_) AllReady.nil)
      go_simp
      refine hK _ _ ?_
      clear hK K
      try simp only [Act.put, List.setIfInBounds_toArray, List.set_cons_zero, List.set_cons_succ]
      refine wpAny_ready (rs := [3]) (by kernel_rfl) (by simp) ?_
      refine (AllReady.cons (o := ⟨_, _, _, _, _, _⟩) rfl (fun K hK => ?_) AllReady.nil)
      go_simp
      refine hK _ _ ?_
      clear hK K
      try simp only [Act.put, List.setIfInBounds_toArray, List.set_cons_zero, List.set_cons_succ]
      refine wpAny_done (by kernel_rfl) ?_ _
      clear hcd hfd e0 e1 e2 e3 e4 i0 i1 i2 i3 i4 q00 q01 q02 q03 q10 q11 q12 q13 q14 q15 r10 r11 r12 r13 r14 r15 r00 r01 r02 r03
      go_wp2_with (fail)
      first
        | (obtain ⟨f0, f1, f2, f3, f4, HF⟩ := FA.out
           exact bodyPost_ret (v := .tuple #[.agg #[.slice A1 n1 c1, .slice A2 0 c2], .agg #[.int .i64 x, .int .i64 y, .int .i64 z]]) (by simp [results, Try.results25, go_sem, f0, f1, f2, f3, f4]) rfl ⟨_, _, _, _, _, _, _, _, x, y, z, rfl, HF.out⟩)
        | (obtain ⟨f0, f1, f2, f3, f4, HF⟩ := FB.out
           exact bodyPost_ret (v := .tuple #[.agg #[.slice A1 n1 c1, .slice A2 0 c2], .agg #[.int .i64 x, .int .i64 y, .int .i64 z]]) (by simp [results, Try.results25, go_sem, f0, f1, f2, f3, f4]) rfl ⟨_, _, _, _, _, _, _, _, x, y, z, rfl, HF.out⟩)
  have hzd : decide ((0 : Int) < (n2 : Int)) = true := decide_eq_true (by omega)
  have hzi : (0 : Int) < (n2 : Int) := by omega
  go_wp2_with (fail)
  (with_reducible refine (pick_any r A n' c' xs' (p2 + 3) 2 w4 HP.out.rdr (by omega) (by omega)).mono ?_)
  rintro e w5 ⟨q, rfl, q0, q1, _, hR5, hG5⟩
  have HP5 := Lib.hid (HP.out.drawn hR5 hG5)
  clear hR5 hG5 q1 k1
  go_upto_if 22 with fail
  go_cut [7] from 14 to 37 (fun s7 wx => ∃ (p9 x9 y9 z9 : Int), p9 ≤ p2 + 9 ∧ Hid (Pw w wx r A n' c' xs' p9 xb A1 n1 c1 A2 n2 c2 ns fs lb x9 y9 z9))
  case first =>
    by_cases hq : q = 0
    case neg =>
      have hqd : (q == 0) = false := by simpa using hq
      go_wp2_with fail
      go_meet
      exact ⟨p2 + 3 + 1, x, y, z, by omega, HP5.out⟩
    subst hq
    go_upto_region 5 with fail
    have ka : w5.drew.cell? ⟨xb, 1, none⟩ = some (.slice A2 n2 c2) := HP5.out.box.cell 1
    have kb : (w5.alloc (.cells #[.int .i64 0, .int .i64 0, .int .i64 0] 33)).drew.cell? ⟨xb, 1, none⟩ = some (.slice A2 n2 c2) := (HP5.out.box.alloc _).cell 1
    have hx5 := HP5.out.box.lt
    have hl5 := HP5.out.lbx.lt
    have hrx := HP5.out.hrx
    have hxl := HP5.out.hxl
    go_cut [7] from 23 to 31 (fun s7 wx => ∃ (sb : Nat) (a b d : Int), s7 = .pointer (some ⟨sb, 0, none⟩) ∧ lb < sb ∧ Hid (Blk wx sb 33 #[.int .i64 a, .int .i64 b, .int .i64 d] ∧ Pw w wx r A n' c' xs' (p2 + 3 + 1 + 1) xb A1 n1 c1 A2 n2 c2 ns fs lb x y z))
    case first =>
      go_region_law (go_simp
                     go_at_call 36
                     (first
                       | ((with_reducible refine (pick_any r A n' c' xs' (p2 + 3 + 1) (n2 : Int) _ (rdr_drew HP5.out.rdr) (by omega) (by omega)).mono ?_)
                          rintro e w6 ⟨j, rfl, j0, j1, _, hR6, hG6⟩
                          have HP6 := Lib.hid ((HP5.out.below (up_drew (Below.refl _ _))).drawn hR6 hG6))
                       | ((with_reducible refine (pick_any r A n' c' xs' (p2 + 3 + 1) (n2 : Int) _ (rdr_drew (rdr_alloc HP5.out.rdr _)) (by omega) (by omega)).mono ?_)
                          rintro e w6 ⟨j, rfl, j0, j1, _, hR6, hG6⟩
                          have HP6 := Lib.hid ((HP5.out.below (up_drew (up_alloc (Below.refl _ _) _))).drawn hR6 hG6)
                          have HZ6 := Lib.hid ((Blk.new w5 33 #[.int .i64 0, .int .i64 0, .int .i64 0]).drew.but hG6 (by omega))
                          have y0 := HZ6.out.cell 0; have y1 := HZ6.out.cell 1; have y2 := HZ6.out.cell 2
                          have y3 := HZ6.out.soft 0; have y4 := HZ6.out.soft 1; have y5 := HZ6.out.soft 2))
                     have j2 := j1 (by omega)
                     obtain ⟨i, rfl⟩ := Int.eq_ofNat_of_zero_le j0
                     have hij : i < n2 := by omega
                     obtain ⟨bR, oR, a, b, d, hAR, hbR, _, _, e0, e1, e2⟩ := HP6.out.d2.trip hij
                     subst hAR
                     have kc : w6.cell? ⟨xb, 1, none⟩ = some (.slice (some ⟨bR, oR, none⟩) n2 c2) := HP6.out.box.cell 1
                     have kd : (w6.alloc (.cells #[.int .i64 0, .int .i64 0, .int .i64 0] 33)).cell? ⟨xb, 1, none⟩ = some (.slice (some ⟨bR, oR, none⟩) n2 c2) := (HP6.out.box.alloc _).cell 1
                     have hx6 := HP6.out.box.lt
                     have hl6 := HP6.out.lbx.lt
                     have g0 : (w6.alloc (.cells #[.int .i64 0, .int .i64 0, .int .i64 0] 33)).cell? ⟨bR, oR + i * 3, none⟩ = some (.int .i64 a) := ((up_alloc (Below.refl _ w6) (.cells #[.int .i64 0, .int .i64 0, .int .i64 0] 33)).cell (by show bR < _; omega)).trans e0
                     have g1 : (w6.alloc (.cells #[.int .i64 0, .int .i64 0, .int .i64 0] 33)).cell? ⟨bR, oR + i * 3 + 1, none⟩ = some (.int .i64 b) := ((up_alloc (Below.refl _ w6) (.cells #[.int .i64 0, .int .i64 0, .int .i64 0] 33)).cell (by show bR < _; omega)).trans e1
                     have g2 : (w6.alloc (.cells #[.int .i64 0, .int .i64 0, .int .i64 0] 33)).cell? ⟨bR, oR + i * 3 + 2, none⟩ = some (.int .i64 d) := ((up_alloc (Below.refl _ w6) (.cells #[.int .i64 0, .int .i64 0, .int .i64 0] 33)).cell (by show bR < _; omega)).trans e2
                     clear hR6 hG6 j1 j0)
      all_goals
        go_wp2_with fail
        go_meet
        first
          | exact ⟨_, a, b, d, rfl, (by omega), Blk.new w6 33 #[.int .i64 a, .int .i64 b, .int .i64 d], HP6.out.below (up_alloc (Below.refl _ _) _)⟩
          | exact ⟨_, a, b, d, rfl, (by omega), ((HZ6.out.put 0 (.int .i64 a)).put 1 (.int .i64 b)).put 2 (.int .i64 d), Pw.offZ HP6.out HZ6.out (by omega) a b d⟩
    case rest =>
    obtain ⟨sb, a, b, d, rfl, hls, HC⟩ := hcut
    have HPC := Lib.hid HC.out.2
    have HSC := Lib.hid HC.out.1
    clear HC HP5 HP ka kb hx5 hl5
    have HL1 := Lib.hid (HPC.out.sto 1 a (x' := x) (y' := a) (z' := z) rfl)
    have HS1 := Lib.hid (HSC.out.far (p := ⟨lb, 1, none⟩) (by show sb ≠ lb; omega) (.int .i64 a))
    have HL2 := Lib.hid (HL1.out.sto 2 b (x' := x) (y' := a) (z' := b) rfl)
    have m0 := HSC.out.cell 0
    have m1 := HPC.out.lbx.cell 1
    have m2 := HPC.out.lbx.soft 1
    have m3 := HS1.out.cell 1
    have m4 := HL1.out.lbx.cell 2
    have m5 := HL1.out.lbx.soft 2
    simp at m0 m1 m3 m4
    go_wp2_with fail
    go_meet
    exact ⟨p2 + 3 + 1 + 1, x, a, b, by omega, HL2.out⟩
  case rest =>
  obtain ⟨p9, x9, y9, z9, hp9, HPX⟩ := hcut
  clear HP
  try clear k1
  generalize wc = w9 at *
  go_wp2_with (fail)
  (with_reducible refine (pick_any r A n' c' xs' p9 20 w9 HPX.out.rdr (by omega) (by omega)).mono ?_)
  rintro e w10 ⟨q, rfl, q0, q1, _, hR10, hG10⟩
  have HP10 := Lib.hid (HPX.out.drawn hR10 hG10)
  clear hR10 hG10 q1 HPX
  go_upto_if 40 with fail
  go_cut [] from 40 to 44 (fun wx => ∃ (p9 x9 y9 z9 : Int), Hid (Pw w wx r A n' c' xs' p9 xb A1 n1 c1 A2 n2 c2 ns fs lb x9 y9 z9))
  case first =>
    by_cases hq : q = 0
    case neg =>
      have hqd : (q == 0) = false := by simpa using hq
      go_wp2_with fail
      go_meet
      exact ⟨_, _, _, _, HP10.out⟩
    subst hq
    go_wp2_with (fail)
    (with_reducible refine (one_lits r A n' c' xs' (p9 + 1) [-1, 10] 2 _ _ w10 HP10.out.rdr (by omega) rfl (by omega) (by omega) (by simp) rfl (by simp)).mono ?_)
    rintro e w11 ⟨u, p11, rfl, u0, u1, hR11, hp11, hG11⟩
    have HP11 := Lib.hid (HP10.out.drawn hR11 hG11)
    have HP12 := Lib.hid (HP11.out.sto 0 u (x' := u) (y' := y9) (z' := z9) rfl)
    have m1 := HP11.out.lbx.cell 0
    have m2 := HP11.out.lbx.soft 0
    simp at m1
    clear hR11 hG11
    go_wp2_with fail
    go_meet
    exact ⟨_, _, _, _, HP12.out⟩
  case rest =>
  obtain ⟨p12, x, y, z, HPE⟩ := hcut
  clear HP10
  generalize wc = we at *
  have HS := Lib.hid (show ∀ wx, Blk wx xb 26 #[.slice A1 n1 c1, .slice A2 n2 c2] → Blk wx lb 42 #[.int .i64 x, .int .i64 y, .int .i64 z] → wx.cell? ⟨xb, 0, none⟩ = some (.slice A1 n1 c1) ∧ wx.cell? ⟨xb, 1, none⟩ = some (.slice A2 n2 c2) ∧ wx.cell? ⟨lb, 0, none⟩ = some (.int .i64 x) ∧ wx.cell? ⟨lb, 1, none⟩ = some (.int .i64 y) ∧ wx.cell? ⟨lb, 2, none⟩ = some (.int .i64 z) from fun wx hB hL => ⟨hB.cell 0, hB.cell 1, hL.cell 0, hL.cell 1, hL.cell 2⟩)
  have hne1 : xb ≠ w.heap.size := by have := HPE.out.hrx; have := HPE.out.hr; omega
  have hne2 : xb ≠ w.heap.size + 1 := by have := HPE.out.hrx; have := HPE.out.hr; omega
  have hne3 : lb ≠ w.heap.size := by have := HPE.out.hrx; have := HPE.out.hr; have := HPE.out.hxl; omega
  have hne4 : lb ≠ w.heap.size + 1 := by have := HPE.out.hrx; have := HPE.out.hr; have := HPE.out.hxl; omega
  have HX0 := Lib.hid HPE.out.box
  have HL0 := Lib.hid HPE.out.lbx
  have HXA := Lib.hid ((HX0.out.far (p := ⟨w.heap.size, 0, none⟩) hne1 (.slice A1 n1 c1)).far (p := ⟨w.heap.size, 1, none⟩) hne1 (.slice A2 n2 c2))
  have HLA := Lib.hid ((HL0.out.far (p := ⟨w.heap.size, 0, none⟩) hne3 (.slice A1 n1 c1)).far (p := ⟨w.heap.size, 1, none⟩) hne3 (.slice A2 n2 c2))
  have HXB := Lib.hid (((HX0.out.far (p := ⟨w.heap.size + 1, 0, none⟩) hne2 (.int .i64 x)).far (p := ⟨w.heap.size + 1, 1, none⟩) hne2 (.int .i64 y)).far (p := ⟨w.heap.size + 1, 2, none⟩) hne2 (.int .i64 z))
  have HLB := Lib.hid (((HL0.out.far (p := ⟨w.heap.size + 1, 0, none⟩) hne4 (.int .i64 x)).far (p := ⟨w.heap.size + 1, 1, none⟩) hne4 (.int .i64 y)).far (p := ⟨w.heap.size + 1, 2, none⟩) hne4 (.int .i64 z))
  have HXC := Lib.hid (((HXA.out.far (p := ⟨w.heap.size + 1, 0, none⟩) hne2 (.int .i64 x)).far (p := ⟨w.heap.size + 1, 1, none⟩) hne2 (.int .i64 y)).far (p := ⟨w.heap.size + 1, 2, none⟩) hne2 (.int .i64 z))
  have HLC := Lib.hid (((HLA.out.far (p := ⟨w.heap.size + 1, 0, none⟩) hne4 (.int .i64 x)).far (p := ⟨w.heap.size + 1, 1, none⟩) hne4 (.int .i64 y)).far (p := ⟨w.heap.size + 1, 2, none⟩) hne4 (.int .i64 z))
  have HXD := Lib.hid ((HXB.out.far (p := ⟨w.heap.size, 0, none⟩) hne1 (.slice A1 n1 c1)).far (p := ⟨w.heap.size, 1, none⟩) hne1 (.slice A2 n2 c2))
  have HLD := Lib.hid ((HLB.out.far (p := ⟨w.heap.size, 0, none⟩) hne3 (.slice A1 n1 c1)).far (p := ⟨w.heap.size, 1, none⟩) hne3 (.slice A2 n2 c2))
  -- the results' cells, ahead of both stores and between them
  have q00 := HPE.out.q0.cell 0; have q01 := HPE.out.q0.cell 1; have q02 := HPE.out.q0.soft 0; have q03 := HPE.out.q0.soft 1
  have q10 := HPE.out.q1.cell 0; have q11 := HPE.out.q1.cell 1; have q12 := HPE.out.q1.cell 2; have q13 := HPE.out.q1.soft 0; have q14 := HPE.out.q1.soft 1; have q15 := HPE.out.q1.soft 2
  have hn01 : w.heap.size ≠ w.heap.size + 1 := by omega
  have hn10 : w.heap.size + 1 ≠ w.heap.size := by omega
  have HQA := Lib.hid ((HPE.out.q1.far (p := ⟨w.heap.size, 0, none⟩) hn10 (.slice A1 n1 c1)).far (p := ⟨w.heap.size, 1, none⟩) hn10 (.slice A2 n2 c2))
  have HQB := Lib.hid (((HPE.out.q0.far (p := ⟨w.heap.size + 1, 0, none⟩) hn01 (.int .i64 x)).far (p := ⟨w.heap.size + 1, 1, none⟩) hn01 (.int .i64 y)).far (p := ⟨w.heap.size + 1, 2, none⟩) hn01 (.int .i64 z))
  have r10 := HQA.out.cell 0; have r11 := HQA.out.cell 1; have r12 := HQA.out.cell 2; have r13 := HQA.out.soft 0; have r14 := HQA.out.soft 1; have r15 := HQA.out.soft 2
  have r00 := HQB.out.cell 0; have r01 := HQB.out.cell 1; have r02 := HQB.out.soft 0; have r03 := HQB.out.soft 1
  clear hn01 hn10 HQA HQB
  have FA := (HPE.out.fin hn1 hn2 hk1 hk2 (.inl rfl))
  have FB := (HPE.out.fin hn1 hn2 hk1 hk2 (.inr rfl))
  have FA := Lib.hid FA
  have FB := Lib.hid FB
  have e0 := HX0.out.cell 0; have e1 := HX0.out.cell 1; have e2 := HL0.out.cell 0; have e3 := HL0.out.cell 1; have e4 := HL0.out.cell 2
  have i0 := HXB.out.cell 0; have i1 := HXB.out.cell 1; have i2 := HLA.out.cell 0; have i3 := HLA.out.cell 1; have i4 := HLA.out.cell 2
  clear HS HX0 HL0 HXA HLA HXB HLB HXC HLC HXD HLD hne1 hne2 hne3 hne4
  go_wp2_with (fail)
  have hcd := cell_drewn
  have hfd := frozen_drewn
  refine wp_region_any (by kernel_rfl) ?_
  try (change wpAny _ _ _ _ _ _ _ (World.drew _))
  refine wpAny_ready (rs := [0, 1]) (by kernel_rfl) (by simp) ?_
  refine (AllReady.cons (o := ⟨_, _, _, _, _, _⟩) rfl (fun K hK => ?_) (AllReady.cons (o := ⟨_, _, _, _, _, _⟩) rfl (fun K hK => ?_) AllReady.nil))
  · go_simp
    refine hK _ _ ?_
    clear hK K
    try simp only [Act.put, List.setIfInBounds_toArray, List.set_cons_zero, List.set_cons_succ]
    refine wpAny_ready (rs := [1, 2]) (by kernel_rfl) (by simp) ?_
    refine (AllReady.cons (o := ⟨_, _, _, _, _, _⟩) rfl (fun K hK => ?_) (AllReady.cons (o := ⟨_, _, _, _, _, _⟩) rfl (fun K hK => ?_) AllReady.nil))
    · go_simp
      refine hK _ _ ?_
      clear hK K
      try simp only [Act.put, List.setIfInBounds_toArray, List.set_cons_zero, List.set_cons_succ]
      refine wpAny_ready (rs := [2]) (by kernel_rfl) (by simp) ?_
      refine (AllReady.cons (o := ⟨_, _, _, _, _, _⟩) rfl (fun K hK => ?_) AllReady.nil)
      go_simp
      refine hK _ _ ?_
      clear hK K
      try simp only [Act.put, List.setIfInBounds_toArray, List.set_cons_zero, List.set_cons_succ]
      refine wpAny_ready (rs := [3]) (by kernel_rfl) (by simp) ?_
      refine (AllReady.cons (o := ⟨_, _, _, _, _, _⟩) rfl (fun K hK => ?_) AllReady.nil)
      go_simp
      refine hK _ _ ?_
      clear hK K
      try simp only [Act.put, List.setIfInBounds_toArray, List.set_cons_zero, List.set_cons_succ]
      refine wpAny_done (by kernel_rfl) ?_ _
      clear hcd hfd e0 e1 e2 e3 e4 i0 i1 i2 i3 i4 q00 q01 q02 q03 q10 q11 q12 q13 q14 q15 r10 r11 r12 r13 r14 r15 r00 r01 r02 r03
      go_wp2_with (fail)
      first
        | (obtain ⟨f0, f1, f2, f3, f4, HF⟩ := FA.out
           exact bodyPost_ret (v := .tuple #[.agg #[.slice A1 n1 c1, .slice A2 n2 c2], .agg #[.int .i64 x, .int .i64 y, .int .i64 z]]) (by simp [results, Try.results25, go_sem, f0, f1, f2, f3, f4]) rfl ⟨_, _, _, _, _, _, _, _, x, y, z, rfl, HF.out⟩)
        | (obtain ⟨f0, f1, f2, f3, f4, HF⟩ := FB.out
           exact bodyPost_ret (v := .tuple #[.agg #[.slice A1 n1 c1, .slice A2 n2 c2], .agg #[.int .i64 x, .int .i64 y, .int .i64 z]]) (by simp [results, Try.results25, go_sem, f0, f1, f2, f3, f4]) rfl ⟨_, _, _, _, _, _, _, _, x, y, z, rfl, HF.out⟩)
    · go_simp
      refine hK _ _ ?_
      clear hK K
      try simp only [Act.put, List.setIfInBounds_toArray, List.set_cons_zero, List.set_cons_succ]
      refine wpAny_ready (rs := [1]) (by kernel_rfl) (by simp) ?_
      refine (AllReady.cons (o := ⟨_, _, _, _, _, _⟩) rfl (fun K hK => ?_) AllReady.nil)
      go_simp
      refine hK _ _ ?_
      clear hK K
      try simp only [Act.put, List.setIfInBounds_toArray, List.set_cons_zero, List.set_cons_succ]
      refine wpAny_ready (rs := [3]) (by kernel_rfl) (by simp) ?_
      refine (AllReady.cons (o := ⟨_, _, _, _, _, _⟩) rfl (fun K hK => ?_) AllReady.nil)
      go_simp
      refine hK _ _ ?_
      clear hK K
      try simp only [Act.put, List.setIfInBounds_toArray, List.set_cons_zero, List.set_cons_succ]
      refine wpAny_done (by kernel_rfl) ?_ _
      clear hcd hfd e0 e1 e2 e3 e4 i0 i1 i2 i3 i4 q00 q01 q02 q03 q10 q11 q12 q13 q14 q15 r10 r11 r12 r13 r14 r15 r00 r01 r02 r03
      go_wp2_with (fail)
      first
        | (obtain ⟨f0, f1, f2, f3, f4, HF⟩ := FA.out
           exact bodyPost_ret (v := .tuple #[.agg #[.slice A1 n1 c1, .slice A2 n2 c2], .agg #[.int .i64 x, .int .i64 y, .int .i64 z]]) (by simp [results, Try.results25, go_sem, f0, f1, f2, f3, f4]) rfl ⟨_, _, _, _, _, _, _, _, x, y, z, rfl, HF.out⟩)
        | (obtain ⟨f0, f1, f2, f3, f4, HF⟩ := FB.out
           exact bodyPost_ret (v := .tuple #[.agg #[.slice A1 n1 c1, .slice A2 n2 c2], .agg #[.int .i64 x, .int .i64 y, .int .i64 z]]) (by simp [results, Try.results25, go_sem, f0, f1, f2, f3, f4]) rfl ⟨_, _, _, _, _, _, _, _, x, y, z, rfl, HF.out⟩)
  · go_simp
    refine hK _ _ ?_
    clear hK K
    try simp only [Act.put, List.setIfInBounds_toArray, List.set_cons_zero, List.set_cons_succ]
    refine wpAny_ready (rs := [0]) (by kernel_rfl) (by simp) ?_
    refine (AllReady.cons (o := ⟨_, _, _, _, _, _⟩) rfl (fun K hK => ?_) AllReady.nil)
    go_simp
    refine hK _ _ ?_
    clear hK K
    try simp only [Act.put, List.setIfInBounds_toArray, List.set_cons_zero, List.set_cons_succ]
    refine wpAny_ready (rs := [2]) (by kernel_rfl) (by simp) ?_
    refine (AllReady.cons (o := ⟨_, _, _, _, _, _⟩) rfl (fun K hK => ?_) AllReady.nil)
    go_simp
    refine hK _ _ ?_
    clear hK K
    try simp only [Act.put, List.setIfInBounds_toArray, List.set_cons_zero, List.set_cons_succ]
    refine wpAny_ready (rs := [3]) (by kernel_rfl) (by simp) ?_
    refine (AllReady.cons (o := ⟨_, _, _, _, _, _⟩) rfl (fun K hK => ?_) AllReady.nil)
    go_simp
    refine hK _ _ ?_
    clear hK K
    try simp only [Act.put, List.setIfInBounds_toArray, List.set_cons_zero, List.set_cons_succ]
    refine wpAny_done (by kernel_rfl) ?_ _
    clear hcd hfd e0 e1 e2 e3 e4 i0 i1 i2 i3 i4 q00 q01 q02 q03 q10 q11 q12 q13 q14 q15 r10 r11 r12 r13 r14 r15 r00 r01 r02 r03
    go_wp2_with (fail)
    first
      | (obtain ⟨f0, f1, f2, f3, f4, HF⟩ := FA.out
         exact bodyPost_ret (v := .tuple #[.agg #[.slice A1 n1 c1, .slice A2 n2 c2], .agg #[.int .i64 x, .int .i64 y, .int .i64 z]]) (by simp [results, Try.results25, go_sem, f0, f1, f2, f3, f4]) rfl ⟨_, _, _, _, _, _, _, _, x, y, z, rfl, HF.out⟩)
      | (obtain ⟨f0, f1, f2, f3, f4, HF⟩ := FB.out
         exact bodyPost_ret (v := .tuple #[.agg #[.slice A1 n1 c1, .slice A2 n2 c2], .agg #[.int .i64 x, .int .i64 y, .int .i64 z]]) (by simp [results, Try.results25, go_sem, f0, f1, f2, f3, f4]) rfl ⟨_, _, _, _, _, _, _, _, x, y, z, rfl, HF.out⟩)
end Go.Proofs.Ytgnffodnimafoaa
