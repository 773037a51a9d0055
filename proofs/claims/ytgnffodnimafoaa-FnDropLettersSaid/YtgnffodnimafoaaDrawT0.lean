/- Drawing: one of the numbers of a block; whatever they are. -/
import Derived.Test.YtgnffodnimafoaaDrawR
import Derived.Test.YtgnffodnimafoaaPostMath
set_option linter.unusedSimpArgs false
set_option linter.unusedVariables false
namespace Go.Proofs.Ytgnffodnimafoaa
open Go.RowKit

/-- One of a block's numbers. -/
def OneInt (r : Nat) (A : Option Addr) (n c : Nat) (xs : List Int) (p : Int) (w : World) (e : Ending) (w' : World) : Prop :=
  ∃ q : Int, e = .returned (.int .i64 q) ∧ Rdr w' r A n c xs (p + 1) ∧ But r w w'
theorem rdr_drew {w : World} {r : Nat} {A : Option Addr} {n c : Nat} {xs : List Int} {p : Int} (h : Rdr w r A n c xs p) : Rdr w.drew r A n c xs p := h.below (up_drew (Below.refl _ _))
theorem Blk.but {w w' : World} {g r : Nat} {t : TypeId} {cs : Array Value} (h : Blk w g t cs) (hG : But r w w') (hne : g ≠ r) : Blk w' g t cs := h.grown hG (fun e => hne (by injection e))
theorem own_drew {w : World} {base : Nat} {e : TypeId} {size : Nat} {v : Value} {n : Nat} {xs : List Value} (h : w.ownsRow base e size v n xs) : w.drew.ownsRow base e size v n xs := own_keep h (up_drew (Below.refl _ _))
/-- A store above the reader. -/
theorem rdr_set {w : World} {r : Nat} {A : Option Addr} {n c : Nat} {xs : List Int} {p : Int} (h : Rdr w r A n c xs p) {q : Addr} (hq : r < q.block) (u : Value) : Rdr (w.setCell q u) r A n c xs p :=
  ⟨h.1.far (by omega) u, h.2.1.setCell (.inr (by omega)) u, h.2.2⟩
theorem one_blk (r : Nat) (A : Option Addr) (n c : Nat) (xs : List Int) (p : Int) (g k : Nat) (t : TypeId) (cs : Array Value) (w : World) (h : Rdr w r A n c xs p) (hp : p ≤ 1000000) (hb : Blk w g t cs) (hk : cs.size = k) (hk1 : 1 ≤ k) (hk2 : k ≤ 1000000) (hne : g ≠ r)
    (hall : ∀ (i : Nat) (v : Value), cs[i]? = some v → ∃ z, v = Value.int .i64 z) :
    Calls Try.prog 29 #[.pointer (some ⟨r, 0, none⟩), .slice (some ⟨g, 0, none⟩) k k] w (OneInt r A n c xs p w) := by
  go_enter Try.func29, Try.ntmps29
  go_wp2_with (fail)
  (with_reducible refine (pick_any r A n c xs p k w h hp (by omega)).mono ?_)
  rintro e w1 ⟨q, rfl, hq0, hq1, _, hR, hG⟩
  have hq := hq1 (by omega)
  obtain ⟨i, rfl⟩ := Int.eq_ofNat_of_zero_le hq0
  have hi : i < cs.size := by omega
  obtain ⟨z, hz⟩ := hall i _ (Array.getElem?_eq_getElem hi)
  have hc : w1.cell? ⟨g, i, none⟩ = some (.int .i64 z) := by rw [(hb.but hG hne).cell, Array.getElem?_eq_getElem hi, hz]
  clear hq1 hz hall
  go_wp2
  go_ret
  exact ⟨z, rfl, hR, hG⟩
/-- The same, the block's cells to be found. -/
theorem one_some (r : Nat) (A : Option Addr) (n c : Nat) (xs : List Int) (p : Int) (g k : Nat) (t : TypeId) (w : World) (h : Rdr w r A n c xs p) (hp : p ≤ 1000000) (hk1 : 1 ≤ k) (hk2 : k ≤ 1000000) (hne : g ≠ r)
    (hb : ∃ cs, Blk w g t cs ∧ cs.size = k ∧ ∀ (i : Nat) (v : Value), cs[i]? = some v → ∃ z, v = Value.int .i64 z) :
    Calls Try.prog 29 #[.pointer (some ⟨r, 0, none⟩), .slice (some ⟨g, 0, none⟩) k k] w (OneInt r A n c xs p w) := by
  obtain ⟨cs, h1, h2, h3⟩ := hb
  exact one_blk r A n c xs p g k t cs w h hp h1 h2 hk1 hk2 hne h3
/-- A drawn struct of three ints. -/
def TripPost (Q : Tri → Prop) (r : Nat) (A : Option Addr) (n c : Nat) (xs : List Int) (p : Int) (w : World) (e : Ending) (w' : World) : Prop :=
  ∃ a b d : Int, e = .returned (.agg #[.int .i64 a, .int .i64 b, .int .i64 d]) ∧ Q (a, b, d) ∧ Rdr w' r A n c xs (p + 3) ∧ But r w w'
set_option maxRecDepth 100000 in
set_option maxHeartbeats 800000 in
theorem someSub_any (r : Nat) (A : Option Addr) (n c : Nat) (xs : List Int) (p : Int) (w : World) (h : Rdr w r A n c xs p) (hp : p ≤ 900000) :
    Calls Try.prog 46 #[.pointer (some ⟨r, 0, none⟩)] w (TripPost (fun t => vSub t = true) r A n c xs p w) := by
  have hrl := h.lt
  have hq0 := Blk.new w 42 #[.int .i64 0, .int .i64 0, .int .i64 0]
  have hR0 := rdr_alloc h (.cells #[.int .i64 0, .int .i64 0, .int .i64 0] 42)
  have hG0 := but_alloc (but_refl r w) (.cells #[.int .i64 0, .int .i64 0, .int .i64 0] 42)
  have HQ0 := Lib.hid hq0
  clear hq0 h
  go_enter Try.func46, Try.ntmps46
  go_wp2_with (fail)
  (with_reducible refine (pick_any r A n c xs p 10 _ hR0 (by omega) (by omega)).mono ?_)
  rintro e w1 ⟨a, rfl, a0, a1, _, hR1, hG1⟩
  have a2 := a1 (by omega)
  have HQ1 := Lib.hid (HQ0.out.but hG1 (by omega))
  have hG01 := but_trans hG0 hG1
  clear hR0 hG0 hG1 a1 HQ0
  go_wp2_with (fail)
  (with_reducible refine (pick_any r A n c xs (p + 1) 3 w1 hR1 (by omega) (by omega)).mono ?_)
  rintro e w2 ⟨b, rfl, b0, b1, _, hR2, hG2⟩
  have b2 := b1 (by omega)
  have HQ2 := Lib.hid (HQ1.out.but hG2 (by omega))
  have hG02 := but_trans hG01 hG2
  clear hR1 hG01 hG2 b1 HQ1
  go_wp2_with (fail)
  (with_reducible refine (pick_any r A n c xs (p + 1 + 1) 3 w2 hR2 (by omega) (by omega)).mono ?_)
  rintro e w3 ⟨d, rfl, d0, d1, _, hR3, hG3⟩
  have d2 := d1 (by omega)
  have hQ3 := HQ2.out.but hG3 (by omega)
  have hG03 := but_trans hG02 hG3
  have r0 : w3.cell? ⟨w.heap.size, 0, none⟩ = some (.int .i64 0) := hQ3.cell 0
  have r1 : w3.cell? ⟨w.heap.size, 1, none⟩ = some (.int .i64 0) := hQ3.cell 1
  have r2 : w3.cell? ⟨w.heap.size, 2, none⟩ = some (.int .i64 0) := hQ3.cell 2
  have s0 := hQ3.soft 0
  have s1 := hQ3.soft 1
  have s2 := hQ3.soft 2
  have hz := ((hQ3.put 0 (.int .i64 a)).put 1 (.int .i64 b)).put 2 (.int .i64 d)
  have z0 := hz.cell 0
  have z1 := hz.cell 1
  have z2 := hz.cell 2
  simp at z0 z1 z2
  have HB := Lib.hid (but_put (but_put (but_put hG03 (p := ⟨w.heap.size, 0, none⟩) (.inr (Nat.le_refl _)) (.int .i64 a)) (p := ⟨w.heap.size, 1, none⟩) (.inr (Nat.le_refl _)) (.int .i64 b)) (p := ⟨w.heap.size, 2, none⟩) (.inr (Nat.le_refl _)) (.int .i64 d))
  have HR := Lib.hid (rdr_set (rdr_set (rdr_set hR3 (q := ⟨w.heap.size, 0, none⟩) hrl (.int .i64 a)) (q := ⟨w.heap.size, 1, none⟩) hrl (.int .i64 b)) (q := ⟨w.heap.size, 2, none⟩) hrl (.int .i64 d))
  clear hz hQ3 hG03 hR3 hR2 hG02 d1 HQ2
  go_wp2
  refine bodyPost_ret (v := .agg #[.int .i64 a, .int .i64 b, .int .i64 d]) (by simp [results, Try.results46, go_sem, z0, z1, z2]) rfl ⟨a, b, d, rfl, ?_, ?_, HB.out⟩
  · simp [vSub, inR]; omega
  · have := HR.out
    rwa [show p + 1 + 1 + 1 = p + 3 by omega] at this
set_option maxRecDepth 100000 in
set_option maxHeartbeats 800000 in
theorem someLetter_any (r : Nat) (A : Option Addr) (n c : Nat) (xs : List Int) (p : Int) (w : World) (h : Rdr w r A n c xs p) (hp : p ≤ 900000) :
    Calls Try.prog 35 #[.pointer (some ⟨r, 0, none⟩)] w (TripPost (fun _ => True) r A n c xs p w) := by
  have hrl := h.lt
  have hq0 := Blk.new w 33 #[.int .i64 0, .int .i64 0, .int .i64 0]
  have hR0 := rdr_alloc h (.cells #[.int .i64 0, .int .i64 0, .int .i64 0] 33)
  have hG0 := but_alloc (but_refl r w) (.cells #[.int .i64 0, .int .i64 0, .int .i64 0] 33)
  have HQ0 := Lib.hid hq0
  clear hq0 h
  go_enter Try.func35, Try.ntmps35
  go_wp2_with (fail)
  (with_reducible refine (pick_any r A n c xs p 3 _ hR0 (by omega) (by omega)).mono ?_)
  rintro e w1 ⟨a, rfl, a0, a1, _, hR1, hG1⟩
  have a2 := a1 (by omega)
  have HQ1 := Lib.hid (HQ0.out.but hG1 (by omega))
  have hG01 := but_trans hG0 hG1
  clear hR0 hG0 hG1 a1 HQ0
  go_wp2_with (fail)
  (with_reducible refine (pick_any r A n c xs (p + 1) 3 w1 hR1 (by omega) (by omega)).mono ?_)
  rintro e w2 ⟨b, rfl, b0, b1, _, hR2, hG2⟩
  have b2 := b1 (by omega)
  have HQ2 := Lib.hid (HQ1.out.but hG2 (by omega))
  have hG02 := but_trans hG01 hG2
  clear hR1 hG01 hG2 b1 HQ1
  go_wp2_with (fail)
  have hbl := Blk.new w2 3 #[.int .i64 10, .int .i64 50, .int .i64 100, .int .i64 0, .int .i64 9999]
  have hsw := hR2.lt
  (with_reducible refine (one_blk r A n c xs (p + 1 + 1) w2.heap.size 5 3 #[.int .i64 10, .int .i64 50, .int .i64 100, .int .i64 0, .int .i64 9999] _ (rdr_alloc hR2 _) (by omega) hbl rfl (by omega) (by omega) (by omega) (fun i v hv => ?_)).mono ?_)
  · rcases (show i = 0 ∨ i = 1 ∨ i = 2 ∨ i = 3 ∨ i = 4 ∨ 5 ≤ i by omega) with rfl | rfl | rfl | rfl | rfl | h5
    all_goals first
      | (simp at hv; exact ⟨_, hv.symm⟩)
      | (rw [Array.getElem?_eq_none (by simpa using h5)] at hv; cases hv)
  rintro e w3 ⟨d, rfl, hR3, hG3'⟩
  have hG3 := but_trans (but_alloc (but_refl r w2) (.cells #[.int .i64 10, .int .i64 50, .int .i64 100, .int .i64 0, .int .i64 9999] 3)) hG3'
  have hQ3 := HQ2.out.but hG3 (by omega)
  have hG03 := but_trans hG02 hG3
  have r0 : w3.cell? ⟨w.heap.size, 0, none⟩ = some (.int .i64 0) := hQ3.cell 0
  have r1 : w3.cell? ⟨w.heap.size, 1, none⟩ = some (.int .i64 0) := hQ3.cell 1
  have r2 : w3.cell? ⟨w.heap.size, 2, none⟩ = some (.int .i64 0) := hQ3.cell 2
  have s0 := hQ3.soft 0
  have s1 := hQ3.soft 1
  have s2 := hQ3.soft 2
  have hz := ((hQ3.put 0 (.int .i64 a)).put 1 (.int .i64 b)).put 2 (.int .i64 d)
  have z0 := hz.cell 0
  have z1 := hz.cell 1
  have z2 := hz.cell 2
  simp at z0 z1 z2
  have HB := Lib.hid (but_put (but_put (but_put hG03 (p := ⟨w.heap.size, 0, none⟩) (.inr (Nat.le_refl _)) (.int .i64 a)) (p := ⟨w.heap.size, 1, none⟩) (.inr (Nat.le_refl _)) (.int .i64 b)) (p := ⟨w.heap.size, 2, none⟩) (.inr (Nat.le_refl _)) (.int .i64 d))
  have HR := Lib.hid (rdr_set (rdr_set (rdr_set hR3 (q := ⟨w.heap.size, 0, none⟩) hrl (.int .i64 a)) (q := ⟨w.heap.size, 1, none⟩) hrl (.int .i64 b)) (q := ⟨w.heap.size, 2, none⟩) hrl (.int .i64 d))
  clear hz hQ3 hG03 hR3 hR2 hG02 hG3' hbl HQ2
  go_wp2
  refine bodyPost_ret (v := .agg #[.int .i64 a, .int .i64 b, .int .i64 d]) (by simp [results, Try.results35, go_sem, z0, z1, z2]) rfl ⟨a, b, d, rfl, ?_, ?_, HB.out⟩
  · trivial
  · have := HR.out
    rwa [show p + 1 + 1 + 1 = p + 3 by omega] at this
end Go.Proofs.Ytgnffodnimafoaa
