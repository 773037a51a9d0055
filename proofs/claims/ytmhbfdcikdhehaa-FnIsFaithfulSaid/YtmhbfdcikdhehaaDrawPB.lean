/- Merged: DrawP3, DrawP4. -/
import Derived.Test.YtmhbfdcikdhehaaDrawPA
/- The drawing of processes: a node that waits, behind another one. -/
set_option linter.unusedSimpArgs false
set_option linter.unusedVariables false
namespace Go.Proofs.Ytmhbfdcikdhehaa
open Go.RowKit

/-- A process with some nodes and flows more, and a number. -/
def Stepped (Bad : Nat → Prop) (r : Nat) (A : Option Addr) (n c : Nat) (xs : List Int) (p K : Int) (ns : List (Int × Int)) (fs : List Flw) (dn df : Nat) (w : World) (e : Ending) (w' : World) : Prop :=
  ∃ An cn Af cf ns' fs' k p', e = .returned (.tuple #[.agg #[.slice An ns'.length cn, .slice Af fs'.length cf], .int .i64 k]) ∧ ns'.length = ns.length + dn ∧ fs'.length = fs.length + df ∧ Prc w' Bad (.slice An ns'.length cn) (.slice Af fs'.length cf) ns' fs' ∧ Rdr w' r A n c xs p' ∧ p' ≤ p + K ∧ But r w w'
/-- Blocks that a call lays for itself. -/
def Mine (Bad : Nat → Prop) (H m : Nat) : Nat → Prop := fun b => Bad b ∨ (H ≤ b ∧ b < H + m)
theorem Prc.mine {Bad : Nat → Prop} {w : World} {vn vf : Value} {ns : List (Int × Int)} {fs : List Flw} (h : Prc w Bad vn vf ns fs) (m : Nat) : Prc w (Mine Bad w.heap.size m) vn vf ns fs := h.more fun b hb => hb.imp id fun q => q.1

set_option maxRecDepth 100000 in
set_option maxHeartbeats 3200000 in
theorem addStep_any (Bad : Nat → Prop) (r : Nat) (A : Option Addr) (n c : Nat) (xs : List Int) (p : Int) (nn cn nf cf : Nat) (An Af : Option Addr) (ns : List (Int × Int)) (fs : List Flw) (fr : Int) (l u nw cw : Nat) (Aw : Option Addr) (ps : List (Int × Int)) (w : World)
    (hR : Rdr w r A n c xs p) (hp : p ≤ 900000) (hrb : Bad r) (hbad : ∀ b, Bad b → b < w.heap.size) (hP : Prc w Bad (.slice An nn cn) (.slice Af nf cf) ns fs) (hnn : nn = ns.length) (hnf : nf = fs.length) (h100 : nn ≤ 100) (h200 : nf ≤ 100)
    (hw : Rd w l u 2 Aw nw (pvs ps)) (hl : ∀ b, Bad b → b < l ∨ u ≤ b) (hu : u ≤ w.heap.size) (hnw : nw ≤ 16) :
    Calls Try.prog 86 #[.pointer (some ⟨r, 0, none⟩), .agg #[.slice An nn cn, .slice Af nf cf], .int .i64 fr, .slice Aw nw cw] w (Stepped Bad r A n c xs p 3 ns fs 1 1 w) := by
  subst hnn; subst hnf
  have hrl := hR.lt
  have hp0 := hR.2.2.2.2
  have hb1 := up_alloc (up_alloc (up_alloc (Below.refl _ w) (.cells #[.slice An ns.length cn, .slice Af fs.length cf] 26)) (.cells #[.slice none 0 0, .slice none 0 0] 26)) (.cells #[.int .i64 2, .int .i64 2, .int .i64 2, .int .i64 3, .int .i64 4] 3)
  have hX1 := ((Blk.new w 26 #[.slice An ns.length cn, .slice Af fs.length cf]).alloc (.cells #[.slice none 0 0, .slice none 0 0] 26)).alloc (.cells #[.int .i64 2, .int .i64 2, .int .i64 2, .int .i64 3, .int .i64 4] 3)
  have hY1 : Blk (((w.alloc (.cells #[.slice An ns.length cn, .slice Af fs.length cf] 26)).alloc (.cells #[.slice none 0 0, .slice none 0 0] 26)).alloc (.cells #[.int .i64 2, .int .i64 2, .int .i64 2, .int .i64 3, .int .i64 4] 3)) (w.heap.size + 1) 26 #[.slice none 0 0, .slice none 0 0] := by
    have := (Blk.new (w.alloc (.cells #[.slice An ns.length cn, .slice Af fs.length cf] 26)) 26 #[.slice none 0 0, .slice none 0 0]).alloc (.cells #[.int .i64 2, .int .i64 2, .int .i64 2, .int .i64 3, .int .i64 4] 3)
    simpa using this
  have hL1 : Blk (((w.alloc (.cells #[.slice An ns.length cn, .slice Af fs.length cf] 26)).alloc (.cells #[.slice none 0 0, .slice none 0 0] 26)).alloc (.cells #[.int .i64 2, .int .i64 2, .int .i64 2, .int .i64 3, .int .i64 4] 3)) (w.heap.size + 1 + 1) 3 #[.int .i64 2, .int .i64 2, .int .i64 2, .int .i64 3, .int .i64 4] := by
    have := Blk.new ((w.alloc (.cells #[.slice An ns.length cn, .slice Af fs.length cf] 26)).alloc (.cells #[.slice none 0 0, .slice none 0 0] 26)) 3 #[.int .i64 2, .int .i64 2, .int .i64 2, .int .i64 3, .int .i64 4]
    simpa using this
  have hsz1 : (((w.alloc (.cells #[.slice An ns.length cn, .slice Af fs.length cf] 26)).alloc (.cells #[.slice none 0 0, .slice none 0 0] 26)).alloc (.cells #[.int .i64 2, .int .i64 2, .int .i64 2, .int .i64 3, .int .i64 4] 3)).heap.size = w.heap.size + 1 + 1 + 1 := by simp
  have hP1 := (hP.mine 3).below hb1
  have hR1 := hR.below hb1
  have hW1 := hw.keep hb1 hu
  have hGa := but_below (but_refl r w) hb1
  have hbad1 : ∀ b, Mine Bad w.heap.size 3 b → b < w.heap.size + 3 := fun b hb => by
    rcases hb with hb | hb
    · have := hbad b hb; omega
    · omega
  have hrb1 : Mine Bad w.heap.size 3 r := .inl hrb
  have HX1 := Lib.hid hX1
  have HY1 := Lib.hid hY1
  have HP1 := Lib.hid hP1
  have HW1 := Lib.hid hW1
  have HGA := Lib.hid hGa
  have HSZ1 := Lib.hid hsz1
  have HBAD := Lib.hid hbad
  have HBAD1 := Lib.hid hbad1
  clear hX1 hY1 hP1 hP hW1 hw hGa hsz1 hbad hbad1 hR
  go_enter Try.func86, Try.ntmps86
  go_wp2_with (fail)
  (with_reducible refine (one_any r A n c xs p (w.heap.size + 1 + 1) (w.heap.size + 1 + 1 + 1) 5 5 _ [2, 2, 2, 3, 4] _ hR1 (by omega) (Rd.of_blk hL1 rfl) (by rw [HSZ1.out]; exact Nat.le_refl _) (by omega) (by omega) (.inl (by omega))).mono ?_)
  rintro e w1 ⟨q, rfl, hq, hR2, hG2⟩
  have hq' : q = 3 ∨ q = 4 ∨ (q ≠ 3 ∧ q ≠ 4) := by omega
  have hP2 := HP1.out.but hG2 hrb1
  have hX2 := HX1.out.but hG2 (by omega)
  have hY2 := HY1.out.but hG2 (by omega)
  have hW2 := rd_low HW1.out (low_but (Bad := Bad) hG2 hrb) hl (by rw [HSZ1.out]; omega)
  have hB2 := but_trans HGA.out hG2
  have hsz2 : w.heap.size + 1 + 1 + 1 ≤ w1.heap.size := by have := hG2.size; rw [HSZ1.out] at this; exact this
  clear hq hG2 HP1 HX1 HY1 HW1 HGA hL1 hR1 hb1 HSZ1
  have HP2 := Lib.hid hP2
  have HX2 := Lib.hid hX2
  have HY2 := Lib.hid hY2
  have HW2 := Lib.hid hW2
  clear hP2 hX2 hY2 hW2
  rcases hq' with rfl | rfl | ⟨hq3, hq4⟩
  · go_wp2_with (fail)
    have hb := Blk.new w1 3 #[.int .i64 5, .int .i64 10, .int .i64 100, .int .i64 1]
    (with_reducible refine (one_any r A n c xs (p + 1) w1.heap.size (w1.heap.size + 1) 4 4 _ [5, 10, 100, 1] _ (rdr_alloc hR2 _) (by omega) (Rd.of_blk hb rfl) (by simp) (by omega) (by omega) (.inl hR2.lt)).mono ?_)
    rintro e w5 ⟨v, rfl, _, hR5, hG5⟩
    have hA := up_alloc (Below.refl _ w1) (.cells #[.int .i64 5, .int .i64 10, .int .i64 100, .int .i64 1] 3)
    have HP5 := Lib.hid ((HP2.out.below hA).but hG5 hrb1)
    have hX5 := (HX2.out.below hA (by omega)).but hG5 (by omega)
    have hY5 := (HY2.out.below hA (by omega)).but hG5 (by omega)
    have HW5 := Lib.hid (rd_low (HW2.out.keep hA (by omega)) (low_but (Bad := Bad) hG5 hrb) hl (by have := hA.size; omega))
    have hB5 := but_trans (but_below hB2 hA) hG5
    have hsz5 : w.heap.size + 1 + 1 + 1 ≤ w5.heap.size := by have := hG5.size; have := hA.size; omega
    have HR5 : Hid (∃ p5, Rdr w5 r A n c xs p5 ∧ p5 ≤ p + 3) := ⟨_, hR5, by omega⟩
    clear hb hA hG5 HP2 HX2 HY2 HW2 hB2 hR2 hR5
    have HX5 := Lib.hid hX5
    have HY5 := Lib.hid hY5
    have HB5 := Lib.hid hB5
    have k0 : w5.cell? ⟨w.heap.size, 0, none⟩ = some (.slice An ns.length cn) := hX5.cell 0
    have k1 : w5.cell? ⟨w.heap.size, 1, none⟩ = some (.slice Af fs.length cf) := hX5.cell 1
    clear hX5 hY5 hB5
    go_wp2_with (fail)
    clear k0 k1
    (with_reducible refine (add_any (Mine Bad w.heap.size 3) ns.length cn fs.length cf An Af ns fs 3 v w5 HP5.out rfl (by omega) (fun b hb => by have := HBAD1.out b hb; omega)).mono ?_)
    rintro e w6 ⟨vn6, rfl, hp6, hn6, hb6⟩
    obtain ⟨An6, cn6, _, _, rfl, _, _⟩ := hp6.form
    rw [List.length_append, List.length_singleton] at hp6 hn6
    rw [List.length_append, List.length_singleton]
    have hX6 := HX5.out.below hb6 (by omega)
    have hY6 := HY5.out.below hb6 (by omega)
    have hW6 := HW5.out.keep hb6 (by omega)
    have HR6 : Hid (∃ p5, Rdr w6 r A n c xs p5 ∧ p5 ≤ p + 3) := by
      obtain ⟨p5, q1, q2⟩ := HR5.out
      exact ⟨p5, q1.below hb6, q2⟩
    have hB6 := but_below HB5.out hb6
    have hsz6 := hb6.size
    have hX7 : Blk ((w6.setCell ⟨w.heap.size, 0, none⟩ (.slice An6 (ns.length + 1) cn6)).setCell ⟨w.heap.size, 1, none⟩ (.slice Af fs.length cf)) w.heap.size 26 #[.slice An6 (ns.length + 1) cn6, .slice Af fs.length cf] := by
      simpa using (hX6.put 0 (.slice An6 (ns.length + 1) cn6)).put 1 (.slice Af fs.length cf)
    have hY7 := (hY6.far (p := ⟨w.heap.size, 0, none⟩) (by simp) (.slice An6 (ns.length + 1) cn6)).far (p := ⟨w.heap.size, 1, none⟩) (by simp) (.slice Af fs.length cf)
    have hW7 := rd_low (rd_low hW6 (low_set (Bad := Mine Bad w.heap.size 3) w6 ⟨w.heap.size, 0, none⟩ (.slice An6 (ns.length + 1) cn6) (.inr ⟨Nat.le_refl _, by show w.heap.size < _; omega⟩)) (fun b hb => by rcases hb with hb | hb; exact hl b hb; exact .inr (by omega)) (by omega))
      (low_set (Bad := Mine Bad w.heap.size 3) _ ⟨w.heap.size, 1, none⟩ (.slice Af fs.length cf) (.inr ⟨Nat.le_refl _, by show w.heap.size < _; omega⟩)) (fun b hb => by rcases hb with hb | hb; exact hl b hb; exact .inr (by omega)) (by simp [World.setCell]; omega)
    have hp7 := (hp6.set ⟨w.heap.size, 0, none⟩ (.slice An6 (ns.length + 1) cn6) (.inr ⟨Nat.le_refl _, by show w.heap.size < _; omega⟩)).set ⟨w.heap.size, 1, none⟩ (.slice Af fs.length cf) (.inr ⟨Nat.le_refl _, by show w.heap.size < _; omega⟩)
    have HR7 : Hid (∃ p5, Rdr ((w6.setCell ⟨w.heap.size, 0, none⟩ (.slice An6 (ns.length + 1) cn6)).setCell ⟨w.heap.size, 1, none⟩ (.slice Af fs.length cf)) r A n c xs p5 ∧ p5 ≤ p + 3) := by
      obtain ⟨p5, q1, q2⟩ := HR6.out
      exact ⟨p5, rdr_set (rdr_set q1 ⟨w.heap.size, 0, none⟩ _ (by show r < w.heap.size; omega)) ⟨w.heap.size, 1, none⟩ _ (by show r < w.heap.size; omega), q2⟩
    have hB7 := but_put (but_put hB6 (p := ⟨w.heap.size, 0, none⟩) (.inr (Nat.le_refl _)) (.slice An6 (ns.length + 1) cn6)) (p := ⟨w.heap.size, 1, none⟩) (.inr (Nat.le_refl _)) (.slice Af fs.length cf)
    have k0 : w6.cell? ⟨w.heap.size, 0, none⟩ = some (.slice An ns.length cn) := hX6.cell 0
    have k1 : w6.cell? ⟨w.heap.size, 1, none⟩ = some (.slice Af fs.length cf) := hX6.cell 1
    have f0 := hX6.soft 0
    have f1 := hX6.soft 1
    have HX7 := Lib.hid hX7
    have HY7 := Lib.hid hY7
    have HW7 := Lib.hid hW7
    have HP7 := Lib.hid hp7
    have HB7 := Lib.hid hB7
    have hns : (ns ++ [(3, v)]).length = ns.length + 1 := by simp
    have HNS := Lib.hid hns
    clear hX6 hY6 hW6 hX7 hY7 hW7 hp6 hp7 hB6 hB7 hb6 HP5 HX5 HY5 HW5 HB5 HR5 HR6 hns
    have hlM : ∀ b, Mine Bad w.heap.size 3 b → b < l ∨ u ≤ b := fun b hb => by rcases hb with hb | hb; exact hl b hb; exact .inr (by omega)
    have hoff : Off (.slice An6 (ns.length + 1) cn6) l u := fun g hg => .inr (by have := hn6 g hg; omega)
    have HLM := Lib.hid hlM
    have HOFF := Lib.hid hoff
    clear hlM hoff
    go_wp2_with (fail)
    have hlM := HLM.out
    have hoff := HOFF.out
    (with_reducible refine (link_any (Mine Bad w.heap.size 3) l u (ns.length + 1) cn6 An6 Af Aw fs.length cf nw cw (ns ++ [(3, v)]) fs fr (ns.length : Int) ps _ HP7.out rfl (by omega) (fun b hb => by have := HBAD1.out b hb; simp [World.setCell]; omega) HW7.out hlM (by simp [World.setCell]; omega) hnw hoff).mono ?_)
    rintro e w8 ⟨vf8, rfl, hp8, hb8⟩
    obtain ⟨Ax, cx, Af8, cf8, hx, rfl, _⟩ := hp8.form
    clear hx
    rw [List.length_append, List.length_singleton] at hp8
    rw [List.length_append, List.length_singleton]
    have hsz8 : w6.heap.size ≤ w8.heap.size := by have := hb8.size; simpa [World.setCell] using this
    have hY8 := HY7.out.below hb8 (by simp [World.setCell]; omega)
    have r0 : w8.cell? ⟨w.heap.size + 1, 0, none⟩ = some (.slice none 0 0) := hY8.cell 0
    have r1 : w8.cell? ⟨w.heap.size + 1, 1, none⟩ = some (.slice none 0 0) := hY8.cell 1
    have q0 := hY8.soft 0
    have q1 := hY8.soft 1
    have hZ := (hY8.put 0 (.slice An6 (ns.length + 1) cn6)).put 1 (.slice Af8 (fs.length + 1) cf8)
    have b0 := hZ.cell 0
    have b1 := hZ.cell 1
    simp at b0 b1
    have HPF := Lib.hid (((hp8.set ⟨w.heap.size + 1, 0, none⟩ (.slice An6 (ns.length + 1) cn6) (.inr ⟨by show w.heap.size ≤ w.heap.size + 1; omega, by show w.heap.size + 1 < _; omega⟩)).set ⟨w.heap.size + 1, 1, none⟩ (.slice Af8 (fs.length + 1) cf8) (.inr ⟨by show w.heap.size ≤ w.heap.size + 1; omega, by show w.heap.size + 1 < _; omega⟩)).less (fun b hb => .inl hb : ∀ b, Bad b → Mine Bad w.heap.size 3 b))
    have HRF : Hid (∃ p5, Rdr ((w8.setCell ⟨w.heap.size + 1, 0, none⟩ (.slice An6 (ns.length + 1) cn6)).setCell ⟨w.heap.size + 1, 1, none⟩ (.slice Af8 (fs.length + 1) cf8)) r A n c xs p5 ∧ p5 ≤ p + 3) := by
      obtain ⟨p5, q1, q2⟩ := HR7.out
      exact ⟨p5, rdr_set (rdr_set (q1.below hb8) ⟨w.heap.size + 1, 0, none⟩ _ (by show r < w.heap.size + 1; omega)) ⟨w.heap.size + 1, 1, none⟩ _ (by show r < w.heap.size + 1; omega), q2⟩
    have HBF := Lib.hid (but_put (but_put (but_below HB7.out hb8) (p := ⟨w.heap.size + 1, 0, none⟩) (.inr (by show w.heap.size ≤ w.heap.size + 1; omega)) (.slice An6 (ns.length + 1) cn6)) (p := ⟨w.heap.size + 1, 1, none⟩) (.inr (by show w.heap.size ≤ w.heap.size + 1; omega)) (.slice Af8 (fs.length + 1) cf8))
    clear hY8 hZ hp8 hb8
    go_wp2
    refine bodyPost_ret (v := .tuple #[.agg #[.slice An6 (ns.length + 1) cn6, .slice Af8 (fs.length + 1) cf8], .int .i64 (ns.length : Int)]) (by simp [results, Try.results86, go_sem, b0, b1]) rfl ?_
    obtain ⟨p5, q1, q2⟩ := HRF.out
    refine ⟨An6, cn6, Af8, cf8, ns ++ [(3, v)], fs ++ [(fr, (ns.length : Int), ps)], (ns.length : Int), p5, by simp, by simp, by simp, ?_, q1, q2, HBF.out⟩
    rw [List.length_append, List.length_append, List.length_singleton, List.length_singleton]
    exact HPF.out
  · go_wp2_with (fail)
    (with_reducible refine (pick_any r A n c xs (p + 1) 3 w1 hR2 (by omega) (by omega)).mono ?_)
    rintro e w5 ⟨v, rfl, _, _, _, hR5, hG5⟩
    have HP5 := Lib.hid (HP2.out.but hG5 hrb1)
    have hX5 := HX2.out.but hG5 (by omega)
    have hY5 := HY2.out.but hG5 (by omega)
    have HW5 := Lib.hid (rd_low HW2.out (low_but (Bad := Bad) hG5 hrb) hl (by omega))
    have hB5 := but_trans hB2 hG5
    have hsz5 : w.heap.size + 1 + 1 + 1 ≤ w5.heap.size := by have := hG5.size; omega
    have HR5 : Hid (∃ p5, Rdr w5 r A n c xs p5 ∧ p5 ≤ p + 3) := ⟨_, hR5, by omega⟩
    clear hG5 HP2 HX2 HY2 HW2 hB2 hR2 hR5
    have HX5 := Lib.hid hX5
    have HY5 := Lib.hid hY5
    have HB5 := Lib.hid hB5
    have k0 : w5.cell? ⟨w.heap.size, 0, none⟩ = some (.slice An ns.length cn) := hX5.cell 0
    have k1 : w5.cell? ⟨w.heap.size, 1, none⟩ = some (.slice Af fs.length cf) := hX5.cell 1
    clear hX5 hY5 hB5
    go_wp2_with (fail)
    clear k0 k1
    (with_reducible refine (add_any (Mine Bad w.heap.size 3) ns.length cn fs.length cf An Af ns fs 4 v w5 HP5.out rfl (by omega) (fun b hb => by have := HBAD1.out b hb; omega)).mono ?_)
    rintro e w6 ⟨vn6, rfl, hp6, hn6, hb6⟩
    obtain ⟨An6, cn6, _, _, rfl, _, _⟩ := hp6.form
    rw [List.length_append, List.length_singleton] at hp6 hn6
    rw [List.length_append, List.length_singleton]
    have hX6 := HX5.out.below hb6 (by omega)
    have hY6 := HY5.out.below hb6 (by omega)
    have hW6 := HW5.out.keep hb6 (by omega)
    have HR6 : Hid (∃ p5, Rdr w6 r A n c xs p5 ∧ p5 ≤ p + 3) := by
      obtain ⟨p5, q1, q2⟩ := HR5.out
      exact ⟨p5, q1.below hb6, q2⟩
    have hB6 := but_below HB5.out hb6
    have hsz6 := hb6.size
    have hX7 : Blk ((w6.setCell ⟨w.heap.size, 0, none⟩ (.slice An6 (ns.length + 1) cn6)).setCell ⟨w.heap.size, 1, none⟩ (.slice Af fs.length cf)) w.heap.size 26 #[.slice An6 (ns.length + 1) cn6, .slice Af fs.length cf] := by
      simpa using (hX6.put 0 (.slice An6 (ns.length + 1) cn6)).put 1 (.slice Af fs.length cf)
    have hY7 := (hY6.far (p := ⟨w.heap.size, 0, none⟩) (by simp) (.slice An6 (ns.length + 1) cn6)).far (p := ⟨w.heap.size, 1, none⟩) (by simp) (.slice Af fs.length cf)
    have hW7 := rd_low (rd_low hW6 (low_set (Bad := Mine Bad w.heap.size 3) w6 ⟨w.heap.size, 0, none⟩ (.slice An6 (ns.length + 1) cn6) (.inr ⟨Nat.le_refl _, by show w.heap.size < _; omega⟩)) (fun b hb => by rcases hb with hb | hb; exact hl b hb; exact .inr (by omega)) (by omega))
      (low_set (Bad := Mine Bad w.heap.size 3) _ ⟨w.heap.size, 1, none⟩ (.slice Af fs.length cf) (.inr ⟨Nat.le_refl _, by show w.heap.size < _; omega⟩)) (fun b hb => by rcases hb with hb | hb; exact hl b hb; exact .inr (by omega)) (by simp [World.setCell]; omega)
    have hp7 := (hp6.set ⟨w.heap.size, 0, none⟩ (.slice An6 (ns.length + 1) cn6) (.inr ⟨Nat.le_refl _, by show w.heap.size < _; omega⟩)).set ⟨w.heap.size, 1, none⟩ (.slice Af fs.length cf) (.inr ⟨Nat.le_refl _, by show w.heap.size < _; omega⟩)
    have HR7 : Hid (∃ p5, Rdr ((w6.setCell ⟨w.heap.size, 0, none⟩ (.slice An6 (ns.length + 1) cn6)).setCell ⟨w.heap.size, 1, none⟩ (.slice Af fs.length cf)) r A n c xs p5 ∧ p5 ≤ p + 3) := by
      obtain ⟨p5, q1, q2⟩ := HR6.out
      exact ⟨p5, rdr_set (rdr_set q1 ⟨w.heap.size, 0, none⟩ _ (by show r < w.heap.size; omega)) ⟨w.heap.size, 1, none⟩ _ (by show r < w.heap.size; omega), q2⟩
    have hB7 := but_put (but_put hB6 (p := ⟨w.heap.size, 0, none⟩) (.inr (Nat.le_refl _)) (.slice An6 (ns.length + 1) cn6)) (p := ⟨w.heap.size, 1, none⟩) (.inr (Nat.le_refl _)) (.slice Af fs.length cf)
    have k0 : w6.cell? ⟨w.heap.size, 0, none⟩ = some (.slice An ns.length cn) := hX6.cell 0
    have k1 : w6.cell? ⟨w.heap.size, 1, none⟩ = some (.slice Af fs.length cf) := hX6.cell 1
    have f0 := hX6.soft 0
    have f1 := hX6.soft 1
    have HX7 := Lib.hid hX7
    have HY7 := Lib.hid hY7
    have HW7 := Lib.hid hW7
    have HP7 := Lib.hid hp7
    have HB7 := Lib.hid hB7
    have hns : (ns ++ [(4, v)]).length = ns.length + 1 := by simp
    have HNS := Lib.hid hns
    clear hX6 hY6 hW6 hX7 hY7 hW7 hp6 hp7 hB6 hB7 hb6 HP5 HX5 HY5 HW5 HB5 HR5 HR6 hns
    have hlM : ∀ b, Mine Bad w.heap.size 3 b → b < l ∨ u ≤ b := fun b hb => by rcases hb with hb | hb; exact hl b hb; exact .inr (by omega)
    have hoff : Off (.slice An6 (ns.length + 1) cn6) l u := fun g hg => .inr (by have := hn6 g hg; omega)
    have HLM := Lib.hid hlM
    have HOFF := Lib.hid hoff
    clear hlM hoff
    go_wp2_with (fail)
    have hlM := HLM.out
    have hoff := HOFF.out
    (with_reducible refine (link_any (Mine Bad w.heap.size 3) l u (ns.length + 1) cn6 An6 Af Aw fs.length cf nw cw (ns ++ [(4, v)]) fs fr (ns.length : Int) ps _ HP7.out rfl (by omega) (fun b hb => by have := HBAD1.out b hb; simp [World.setCell]; omega) HW7.out hlM (by simp [World.setCell]; omega) hnw hoff).mono ?_)
    rintro e w8 ⟨vf8, rfl, hp8, hb8⟩
    obtain ⟨Ax, cx, Af8, cf8, hx, rfl, _⟩ := hp8.form
    clear hx
    rw [List.length_append, List.length_singleton] at hp8
    rw [List.length_append, List.length_singleton]
    have hsz8 : w6.heap.size ≤ w8.heap.size := by have := hb8.size; simpa [World.setCell] using this
    have hY8 := HY7.out.below hb8 (by simp [World.setCell]; omega)
    have r0 : w8.cell? ⟨w.heap.size + 1, 0, none⟩ = some (.slice none 0 0) := hY8.cell 0
    have r1 : w8.cell? ⟨w.heap.size + 1, 1, none⟩ = some (.slice none 0 0) := hY8.cell 1
    have q0 := hY8.soft 0
    have q1 := hY8.soft 1
    have hZ := (hY8.put 0 (.slice An6 (ns.length + 1) cn6)).put 1 (.slice Af8 (fs.length + 1) cf8)
    have b0 := hZ.cell 0
    have b1 := hZ.cell 1
    simp at b0 b1
    have HPF := Lib.hid (((hp8.set ⟨w.heap.size + 1, 0, none⟩ (.slice An6 (ns.length + 1) cn6) (.inr ⟨by show w.heap.size ≤ w.heap.size + 1; omega, by show w.heap.size + 1 < _; omega⟩)).set ⟨w.heap.size + 1, 1, none⟩ (.slice Af8 (fs.length + 1) cf8) (.inr ⟨by show w.heap.size ≤ w.heap.size + 1; omega, by show w.heap.size + 1 < _; omega⟩)).less (fun b hb => .inl hb : ∀ b, Bad b → Mine Bad w.heap.size 3 b))
    have HRF : Hid (∃ p5, Rdr ((w8.setCell ⟨w.heap.size + 1, 0, none⟩ (.slice An6 (ns.length + 1) cn6)).setCell ⟨w.heap.size + 1, 1, none⟩ (.slice Af8 (fs.length + 1) cf8)) r A n c xs p5 ∧ p5 ≤ p + 3) := by
      obtain ⟨p5, q1, q2⟩ := HR7.out
      exact ⟨p5, rdr_set (rdr_set (q1.below hb8) ⟨w.heap.size + 1, 0, none⟩ _ (by show r < w.heap.size + 1; omega)) ⟨w.heap.size + 1, 1, none⟩ _ (by show r < w.heap.size + 1; omega), q2⟩
    have HBF := Lib.hid (but_put (but_put (but_below HB7.out hb8) (p := ⟨w.heap.size + 1, 0, none⟩) (.inr (by show w.heap.size ≤ w.heap.size + 1; omega)) (.slice An6 (ns.length + 1) cn6)) (p := ⟨w.heap.size + 1, 1, none⟩) (.inr (by show w.heap.size ≤ w.heap.size + 1; omega)) (.slice Af8 (fs.length + 1) cf8))
    clear hY8 hZ hp8 hb8
    go_wp2
    refine bodyPost_ret (v := .tuple #[.agg #[.slice An6 (ns.length + 1) cn6, .slice Af8 (fs.length + 1) cf8], .int .i64 (ns.length : Int)]) (by simp [results, Try.results86, go_sem, b0, b1]) rfl ?_
    obtain ⟨p5, q1, q2⟩ := HRF.out
    refine ⟨An6, cn6, Af8, cf8, ns ++ [(4, v)], fs ++ [(fr, (ns.length : Int), ps)], (ns.length : Int), p5, by simp, by simp, by simp, ?_, q1, q2, HBF.out⟩
    rw [List.length_append, List.length_append, List.length_singleton, List.length_singleton]
    exact HPF.out
  · have g3 : (q == 3) = false := by simpa using hq3
    have g4 : (q == 4) = false := by simpa using hq4
    generalize hw5 : w1 = w5 at *
    have HP5 := HP2
    have hX5 := HX2.out
    have hY5 := HY2.out
    have HW5 := HW2
    have hB5 := hB2
    have hsz5 := hsz2
    have HR5 : Hid (∃ p5, Rdr w5 r A n c xs p5 ∧ p5 ≤ p + 3) := ⟨_, hR2, by omega⟩
    clear hw5 HP2 HX2 HY2 HW2 hB2 hR2 hq3 hq4
    have HX5 := Lib.hid hX5
    have HY5 := Lib.hid hY5
    have HB5 := Lib.hid hB5
    have k0 : w5.cell? ⟨w.heap.size, 0, none⟩ = some (.slice An ns.length cn) := hX5.cell 0
    have k1 : w5.cell? ⟨w.heap.size, 1, none⟩ = some (.slice Af fs.length cf) := hX5.cell 1
    clear hX5 hY5 hB5
    go_wp2_with (fail)
    clear k0 k1
    (with_reducible refine (add_any (Mine Bad w.heap.size 3) ns.length cn fs.length cf An Af ns fs q 0 w5 HP5.out rfl (by omega) (fun b hb => by have := HBAD1.out b hb; omega)).mono ?_)
    rintro e w6 ⟨vn6, rfl, hp6, hn6, hb6⟩
    obtain ⟨An6, cn6, _, _, rfl, _, _⟩ := hp6.form
    rw [List.length_append, List.length_singleton] at hp6 hn6
    rw [List.length_append, List.length_singleton]
    have hX6 := HX5.out.below hb6 (by omega)
    have hY6 := HY5.out.below hb6 (by omega)
    have hW6 := HW5.out.keep hb6 (by omega)
    have HR6 : Hid (∃ p5, Rdr w6 r A n c xs p5 ∧ p5 ≤ p + 3) := by
      obtain ⟨p5, q1, q2⟩ := HR5.out
      exact ⟨p5, q1.below hb6, q2⟩
    have hB6 := but_below HB5.out hb6
    have hsz6 := hb6.size
    have hX7 : Blk ((w6.setCell ⟨w.heap.size, 0, none⟩ (.slice An6 (ns.length + 1) cn6)).setCell ⟨w.heap.size, 1, none⟩ (.slice Af fs.length cf)) w.heap.size 26 #[.slice An6 (ns.length + 1) cn6, .slice Af fs.length cf] := by
      simpa using (hX6.put 0 (.slice An6 (ns.length + 1) cn6)).put 1 (.slice Af fs.length cf)
    have hY7 := (hY6.far (p := ⟨w.heap.size, 0, none⟩) (by simp) (.slice An6 (ns.length + 1) cn6)).far (p := ⟨w.heap.size, 1, none⟩) (by simp) (.slice Af fs.length cf)
    have hW7 := rd_low (rd_low hW6 (low_set (Bad := Mine Bad w.heap.size 3) w6 ⟨w.heap.size, 0, none⟩ (.slice An6 (ns.length + 1) cn6) (.inr ⟨Nat.le_refl _, by show w.heap.size < _; omega⟩)) (fun b hb => by rcases hb with hb | hb; exact hl b hb; exact .inr (by omega)) (by omega))
      (low_set (Bad := Mine Bad w.heap.size 3) _ ⟨w.heap.size, 1, none⟩ (.slice Af fs.length cf) (.inr ⟨Nat.le_refl _, by show w.heap.size < _; omega⟩)) (fun b hb => by rcases hb with hb | hb; exact hl b hb; exact .inr (by omega)) (by simp [World.setCell]; omega)
    have hp7 := (hp6.set ⟨w.heap.size, 0, none⟩ (.slice An6 (ns.length + 1) cn6) (.inr ⟨Nat.le_refl _, by show w.heap.size < _; omega⟩)).set ⟨w.heap.size, 1, none⟩ (.slice Af fs.length cf) (.inr ⟨Nat.le_refl _, by show w.heap.size < _; omega⟩)
    have HR7 : Hid (∃ p5, Rdr ((w6.setCell ⟨w.heap.size, 0, none⟩ (.slice An6 (ns.length + 1) cn6)).setCell ⟨w.heap.size, 1, none⟩ (.slice Af fs.length cf)) r A n c xs p5 ∧ p5 ≤ p + 3) := by
      obtain ⟨p5, q1, q2⟩ := HR6.out
      exact ⟨p5, rdr_set (rdr_set q1 ⟨w.heap.size, 0, none⟩ _ (by show r < w.heap.size; omega)) ⟨w.heap.size, 1, none⟩ _ (by show r < w.heap.size; omega), q2⟩
    have hB7 := but_put (but_put hB6 (p := ⟨w.heap.size, 0, none⟩) (.inr (Nat.le_refl _)) (.slice An6 (ns.length + 1) cn6)) (p := ⟨w.heap.size, 1, none⟩) (.inr (Nat.le_refl _)) (.slice Af fs.length cf)
    have k0 : w6.cell? ⟨w.heap.size, 0, none⟩ = some (.slice An ns.length cn) := hX6.cell 0
    have k1 : w6.cell? ⟨w.heap.size, 1, none⟩ = some (.slice Af fs.length cf) := hX6.cell 1
    have f0 := hX6.soft 0
    have f1 := hX6.soft 1
    have HX7 := Lib.hid hX7
    have HY7 := Lib.hid hY7
    have HW7 := Lib.hid hW7
    have HP7 := Lib.hid hp7
    have HB7 := Lib.hid hB7
    have hns : (ns ++ [(q, 0)]).length = ns.length + 1 := by simp
    have HNS := Lib.hid hns
    clear hX6 hY6 hW6 hX7 hY7 hW7 hp6 hp7 hB6 hB7 hb6 HP5 HX5 HY5 HW5 HB5 HR5 HR6 hns
    have hlM : ∀ b, Mine Bad w.heap.size 3 b → b < l ∨ u ≤ b := fun b hb => by rcases hb with hb | hb; exact hl b hb; exact .inr (by omega)
    have hoff : Off (.slice An6 (ns.length + 1) cn6) l u := fun g hg => .inr (by have := hn6 g hg; omega)
    have HLM := Lib.hid hlM
    have HOFF := Lib.hid hoff
    clear hlM hoff
    go_wp2_with (fail)
    have hlM := HLM.out
    have hoff := HOFF.out
    (with_reducible refine (link_any (Mine Bad w.heap.size 3) l u (ns.length + 1) cn6 An6 Af Aw fs.length cf nw cw (ns ++ [(q, 0)]) fs fr (ns.length : Int) ps _ HP7.out rfl (by omega) (fun b hb => by have := HBAD1.out b hb; simp [World.setCell]; omega) HW7.out hlM (by simp [World.setCell]; omega) hnw hoff).mono ?_)
    rintro e w8 ⟨vf8, rfl, hp8, hb8⟩
    obtain ⟨Ax, cx, Af8, cf8, hx, rfl, _⟩ := hp8.form
    clear hx
    rw [List.length_append, List.length_singleton] at hp8
    rw [List.length_append, List.length_singleton]
    have hsz8 : w6.heap.size ≤ w8.heap.size := by have := hb8.size; simpa [World.setCell] using this
    have hY8 := HY7.out.below hb8 (by simp [World.setCell]; omega)
    have r0 : w8.cell? ⟨w.heap.size + 1, 0, none⟩ = some (.slice none 0 0) := hY8.cell 0
    have r1 : w8.cell? ⟨w.heap.size + 1, 1, none⟩ = some (.slice none 0 0) := hY8.cell 1
    have q0 := hY8.soft 0
    have q1 := hY8.soft 1
    have hZ := (hY8.put 0 (.slice An6 (ns.length + 1) cn6)).put 1 (.slice Af8 (fs.length + 1) cf8)
    have b0 := hZ.cell 0
    have b1 := hZ.cell 1
    simp at b0 b1
    have HPF := Lib.hid (((hp8.set ⟨w.heap.size + 1, 0, none⟩ (.slice An6 (ns.length + 1) cn6) (.inr ⟨by show w.heap.size ≤ w.heap.size + 1; omega, by show w.heap.size + 1 < _; omega⟩)).set ⟨w.heap.size + 1, 1, none⟩ (.slice Af8 (fs.length + 1) cf8) (.inr ⟨by show w.heap.size ≤ w.heap.size + 1; omega, by show w.heap.size + 1 < _; omega⟩)).less (fun b hb => .inl hb : ∀ b, Bad b → Mine Bad w.heap.size 3 b))
    have HRF : Hid (∃ p5, Rdr ((w8.setCell ⟨w.heap.size + 1, 0, none⟩ (.slice An6 (ns.length + 1) cn6)).setCell ⟨w.heap.size + 1, 1, none⟩ (.slice Af8 (fs.length + 1) cf8)) r A n c xs p5 ∧ p5 ≤ p + 3) := by
      obtain ⟨p5, q1, q2⟩ := HR7.out
      exact ⟨p5, rdr_set (rdr_set (q1.below hb8) ⟨w.heap.size + 1, 0, none⟩ _ (by show r < w.heap.size + 1; omega)) ⟨w.heap.size + 1, 1, none⟩ _ (by show r < w.heap.size + 1; omega), q2⟩
    have HBF := Lib.hid (but_put (but_put (but_below HB7.out hb8) (p := ⟨w.heap.size + 1, 0, none⟩) (.inr (by show w.heap.size ≤ w.heap.size + 1; omega)) (.slice An6 (ns.length + 1) cn6)) (p := ⟨w.heap.size + 1, 1, none⟩) (.inr (by show w.heap.size ≤ w.heap.size + 1; omega)) (.slice Af8 (fs.length + 1) cf8))
    clear hY8 hZ hp8 hb8
    go_wp2
    refine bodyPost_ret (v := .tuple #[.agg #[.slice An6 (ns.length + 1) cn6, .slice Af8 (fs.length + 1) cf8], .int .i64 (ns.length : Int)]) (by simp [results, Try.results86, go_sem, b0, b1]) rfl ?_
    obtain ⟨p5, q1, q2⟩ := HRF.out
    refine ⟨An6, cn6, Af8, cf8, ns ++ [(q, 0)], fs ++ [(fr, (ns.length : Int), ps)], (ns.length : Int), p5, by simp, by simp, by simp, ?_, q1, q2, HBF.out⟩
    rw [List.length_append, List.length_append, List.length_singleton, List.length_singleton]
    exact HPF.out
end Go.Proofs.Ytmhbfdcikdhehaa


/- The drawing of processes: where a function stands that holds a process in a cell of its own. -/
namespace Go.Proofs.Ytmhbfdcikdhehaa
open Go.RowKit

/-- A function was entered at w; its process lies in the block g, and its result's cell is the block q. None of the process's rows is in a bad block. -/
structure At (Bad : Nat → Prop) (r : Nat) (A : Option Addr) (n c : Nat) (xs : List Int) (g q : Nat) (w w' : World) (An : Option Addr) (ln cn : Nat) (Af : Option Addr) (lf cf : Nat) (ns : List (Int × Int)) (fs : List Flw) (p : Int) : Prop where
  prc : Prc w' Bad (.slice An ln cn) (.slice Af lf cf) ns fs
  rdr : Rdr w' r A n c xs p
  but : But r w w'
  here : Blk w' g 26 #[.slice An ln cn, .slice Af lf cf]
  res : Blk w' q 26 #[.slice none 0 0, .slice none 0 0]
  lt : r < w.heap.size
  bad : ∀ b, Bad b → b < w'.heap.size
  rb : Bad r
  gb : Bad g
  qb : Bad q
  wg : w.heap.size ≤ g
  wq : w.heap.size ≤ q
  ne : q ≠ g
  en : ns.length = ln
  ef : fs.length = lf

variable {Bad : Nat → Prop} {r : Nat} {A : Option Addr} {n c : Nat} {xs : List Int} {g q : Nat} {w w' : World} {An : Option Addr} {ln cn : Nat} {Af : Option Addr} {lf cf : Nat} {ns : List (Int × Int)} {fs : List Flw} {p : Int}

theorem At.moved (h : At Bad r A n c xs g q w w' An ln cn Af lf cf ns fs p) {w2 : World} {p2 : Int} (hg : But r w' w2) (hR : Rdr w2 r A n c xs p2) : At Bad r A n c xs g q w w2 An ln cn Af lf cf ns fs p2 :=
  ⟨h.prc.but hg h.rb, hR, but_trans h.but hg, h.here.but hg (by have := h.lt; have := h.wg; omega), h.res.but hg (by have := h.lt; have := h.wq; omega), h.lt, fun b hb => Nat.lt_of_lt_of_le (h.bad b hb) hg.size, h.rb, h.gb, h.qb, h.wg, h.wq, h.ne, h.en, h.ef⟩
theorem At.below (h : At Bad r A n c xs g q w w' An ln cn Af lf cf ns fs p) {w2 : World} (hb : Below w'.heap.size w' w2) : At Bad r A n c xs g q w w2 An ln cn Af lf cf ns fs p :=
  h.moved (but_below (but_refl r w') hb) (h.rdr.below hb)
/-- The two halves of the process are stored. -/
theorem At.put (h : At Bad r A n c xs g q w w' An ln cn Af lf cf ns fs p) {An' : Option Addr} {ln' cn' : Nat} {Af' : Option Addr} {lf' cf' : Nat} {ns' : List (Int × Int)} {fs' : List Flw}
    (hP : Prc w' Bad (.slice An' ln' cn') (.slice Af' lf' cf') ns' fs') (e1 : ns'.length = ln') (e2 : fs'.length = lf') :
    At Bad r A n c xs g q w ((w'.setCell ⟨g, 0, none⟩ (.slice An' ln' cn')).setCell ⟨g, 1, none⟩ (.slice Af' lf' cf')) An' ln' cn' Af' lf' cf' ns' fs' p := by
  have hl := Nat.lt_of_lt_of_le h.lt h.wg
  refine ⟨(hP.set ⟨g, 0, none⟩ _ h.gb).set ⟨g, 1, none⟩ _ h.gb, rdr_set (rdr_set h.rdr ⟨g, 0, none⟩ _ hl) ⟨g, 1, none⟩ _ hl,
    but_put (but_put h.but (p := ⟨g, 0, none⟩) (.inr h.wg) _) (p := ⟨g, 1, none⟩) (.inr h.wg) _, ?_, ?_, h.lt, fun b hb => by simpa [World.setCell] using h.bad b hb, h.rb, h.gb, h.qb, h.wg, h.wq, h.ne, e1, e2⟩
  · simpa using (h.here.put 0 (.slice An' ln' cn')).put 1 (.slice Af' lf' cf')
  · exact (h.res.far (p := ⟨g, 0, none⟩) h.ne _).far (p := ⟨g, 1, none⟩) h.ne _

/-- A call gave a process: it is to be stored. -/
def Gave (Bad : Nat → Prop) (r : Nat) (A : Option Addr) (n c : Nat) (xs : List Int) (g q : Nat) (w w2 : World) (An : Option Addr) (ln cn : Nat) (Af : Option Addr) (lf cf : Nat) (ns : List (Int × Int)) (fs : List Flw) (v : Value) (ln' lf' : Nat) (K : Int) : Prop :=
  ∃ An' cn' Af' cf' ns' fs' p', v = .agg #[.slice An' ln' cn', .slice Af' lf' cf'] ∧ p' ≤ K ∧ At Bad r A n c xs g q w w2 An ln cn Af lf cf ns fs p' ∧
    At Bad r A n c xs g q w ((w2.setCell ⟨g, 0, none⟩ (.slice An' ln' cn')).setCell ⟨g, 1, none⟩ (.slice Af' lf' cf')) An' ln' cn' Af' lf' cf' ns' fs' p' ∧
    Prc w2 Bad (.slice An' ln' cn') (.slice Af' lf' cf') ns' fs' ∧ ns'.length = ln' ∧ fs'.length = lf'
theorem nothing (w : World) (A : Option Addr) : Rd w 0 0 2 A 0 (pvs []) := ⟨rfl, fun h => absurd h (by omega)⟩

theorem At.link (h : At Bad r A n c xs g q w w' An ln cn Af lf cf ns fs p) (x y : Int) (hf : lf ≤ 1000) :
    Calls Try.prog 60 #[.agg #[.slice An ln cn, .slice Af lf cf], .int .i64 x, .int .i64 y, .slice none 0 0] w'
      (fun e w2 => ∃ v, e = .returned v ∧ Gave Bad r A n c xs g q w w2 An ln cn Af lf cf ns fs v ln (lf + 1) p) := by
  refine (link_any Bad 0 0 ln cn An Af none lf cf 0 0 ns fs x y [] w' h.prc h.ef.symm hf h.bad (nothing w' _) (fun b _ => .inr (by omega)) (by omega) (by omega) (fun g _ => .inr (by omega))).mono ?_
  rintro e w2 ⟨vf, rfl, hP, hb⟩
  obtain ⟨_, _, Af2, cf2, _, rfl, _⟩ := hP.form
  have h2 := h.below hb
  have e2 : (fs ++ [(x, y, [])]).length = lf + 1 := by rw [List.length_append, List.length_singleton, h.ef]
  rw [e2] at hP ⊢
  exact ⟨_, rfl, An, cn, Af2, cf2, ns, fs ++ [(x, y, [])], p, rfl, Int.le_refl _, h2, h2.put hP h.en e2, hP, h.en, e2⟩

theorem At.add (h : At Bad r A n c xs g q w w' An ln cn Af lf cf ns fs p) (kd vl : Int) (hn : ln ≤ 1000) :
    Calls Try.prog 61 #[.agg #[.slice An ln cn, .slice Af lf cf], .int .i64 kd, .int .i64 vl] w'
      (fun e w2 => ∃ v k, e = .returned (.tuple #[v, .int .i64 k]) ∧ Gave Bad r A n c xs g q w w2 An ln cn Af lf cf ns fs v (ln + 1) lf p) := by
  refine (add_any Bad ln cn lf cf An Af ns fs kd vl w' h.prc h.en.symm hn h.bad).mono ?_
  rintro e w2 ⟨vn, rfl, hP, _, hb⟩
  obtain ⟨An2, cn2, _, _, rfl, _, _⟩ := hP.form
  have h2 := h.below hb
  have e1 : (ns ++ [(kd, vl)]).length = ln + 1 := by rw [List.length_append, List.length_singleton, h.en]
  rw [e1] at hP ⊢
  exact ⟨_, _, rfl, An2, cn2, Af, cf, ns ++ [(kd, vl)], fs, p, rfl, Int.le_refl _, h2, h2.put hP e1 h.ef, hP, e1, h.ef⟩

theorem At.step (h : At Bad r A n c xs g q w w' An ln cn Af lf cf ns fs p) (fr : Int) (l u nw cw : Nat) (Aw : Option Addr) (ps : List (Int × Int)) (hp : p ≤ 900000) (h100 : ln ≤ 100) (h200 : lf ≤ 100)
    (hw : Rd w' l u 2 Aw nw (pvs ps)) (hl : ∀ b, Bad b → b < l ∨ u ≤ b) (hu : u ≤ w'.heap.size) (hnw : nw ≤ 16) :
    Calls Try.prog 86 #[.pointer (some ⟨r, 0, none⟩), .agg #[.slice An ln cn, .slice Af lf cf], .int .i64 fr, .slice Aw nw cw] w'
      (fun e w2 => ∃ v k, e = .returned (.tuple #[v, .int .i64 k]) ∧ Gave Bad r A n c xs g q w w2 An ln cn Af lf cf ns fs v (ln + 1) (lf + 1) (p + 3)) := by
  refine (addStep_any Bad r A n c xs p ln cn lf cf An Af ns fs fr l u nw cw Aw ps w' h.rdr hp h.rb h.bad h.prc h.en.symm h.ef.symm h100 h200 hw hl hu hnw).mono ?_
  rintro e w2 ⟨An2, cn2, Af2, cf2, ns2, fs2, k, p2, rfl, e1, e2, hP, hR, hp2, hgg⟩
  have h2 := h.moved hgg hR
  rw [h.en] at e1
  rw [h.ef] at e2
  rw [e1, e2] at hP ⊢
  exact ⟨_, _, rfl, An2, cn2, Af2, cf2, ns2, fs2, p2, rfl, hp2, h2, h2.put hP e1 e2, hP, e1, e2⟩
/-- What is laid later lies off the nodes' row. -/
theorem At.off (h : At Bad r A n c xs g q w w' An ln cn Af lf cf ns fs p) (u : Nat) : Off (.slice An ln cn) w'.heap.size u := fun k hk => .inl (h.prc.1.lt k hk).2
theorem At.linkW (h : At Bad r A n c xs g q w w' An ln cn Af lf cf ns fs p) (x y : Int) (l u nw cw : Nat) (Aw : Option Addr) (ps : List (Int × Int)) (hf : lf ≤ 1000)
    (hw : Rd w' l u 2 Aw nw (pvs ps)) (hl : ∀ b, Bad b → b < l ∨ u ≤ b) (hu : u ≤ w'.heap.size) (hnw : nw ≤ 16) (hoff : Off (.slice An ln cn) l u) :
    Calls Try.prog 60 #[.agg #[.slice An ln cn, .slice Af lf cf], .int .i64 x, .int .i64 y, .slice Aw nw cw] w'
      (fun e w2 => ∃ v, e = .returned v ∧ Gave Bad r A n c xs g q w w2 An ln cn Af lf cf ns fs v ln (lf + 1) p) := by
  refine (link_any Bad l u ln cn An Af Aw lf cf nw cw ns fs x y ps w' h.prc h.ef.symm hf h.bad hw hl hu hnw hoff).mono ?_
  rintro e w2 ⟨vf, rfl, hP, hb⟩
  obtain ⟨_, _, Af2, cf2, _, rfl, _⟩ := hP.form
  have h2 := h.below hb
  have e2 : (fs ++ [(x, y, ps)]).length = lf + 1 := by rw [List.length_append, List.length_singleton, h.ef]
  rw [e2] at hP ⊢
  exact ⟨_, rfl, An, cn, Af2, cf2, ns, fs ++ [(x, y, ps)], p, rfl, Int.le_refl _, h2, h2.put hP h.en e2, hP, h.en, e2⟩
/-- How a function begins that builds a process: its result's cell, the first node, the process's own cell (the walk lays it with what is stored into it). -/
theorem first_any (Bad : Nat → Prop) (r : Nat) (A : Option Addr) (n c : Nat) (xs : List Int) (p : Int) (kd vl : Int) (w : World) (hR : Rdr w r A n c xs p) (hrb : Bad r) (hbad : ∀ b, Bad b → b < w.heap.size) :
    Calls Try.prog 61 #[.agg #[.slice none 0 0, .slice none 0 0], .int .i64 kd, .int .i64 vl] (w.alloc (.cells #[.slice none 0 0, .slice none 0 0] 26))
      (fun e w2 => ∃ An cn Af cf ns fs, e = .returned (.tuple #[.agg #[.slice An 1 cn, .slice Af 0 cf], .int .i64 0]) ∧ w.heap.size < w2.heap.size ∧
        At (fun b => Bad b ∨ b = w.heap.size ∨ b = w2.heap.size) r A n c xs w2.heap.size w.heap.size w (w2.alloc (.cells #[.slice An 1 cn, .slice Af 0 cf] 26)) An 1 cn Af 0 cf ns fs p) := by
  have hb1 := up_alloc (Below.refl _ w) (.cells #[.slice none 0 0, .slice none 0 0] 26)
  have hs1 : (w.alloc (.cells #[.slice none 0 0, .slice none 0 0] 26)).heap.size = w.heap.size + 1 := by simp
  refine (add_any (fun b => Bad b ∨ b = w.heap.size) 0 0 0 0 none none [] [] kd vl _ (Prc.none _ _) rfl (by omega) (fun b hb => by rw [hs1]; rcases hb with hb | hb; have := hbad b hb; omega; omega)).mono ?_
  rintro e w2 ⟨vn, rfl, hP, _, hb⟩
  obtain ⟨An2, cn2, _, _, rfl, _, _⟩ := hP.form
  have hs2 : w.heap.size + 1 ≤ w2.heap.size := by have := hb.size; rw [hs1] at this; exact this
  have hb2 := up_alloc (Below.refl _ w2) (.cells #[.slice An2 1 cn2, .slice none 0 0] 26)
  have hs3 : (w2.alloc (.cells #[.slice An2 1 cn2, .slice none 0 0] 26)).heap.size = w2.heap.size + 1 := by simp
  have hP' : Prc (w2.alloc (.cells #[.slice An2 1 cn2, .slice none 0 0] 26)) (fun b => Bad b ∨ b = w.heap.size ∨ b = w2.heap.size) (.slice An2 1 cn2) (.slice none 0 0) [(kd, vl)] [] :=
    (hP.more (Bad' := fun b => Bad b ∨ b = w.heap.size ∨ b = w2.heap.size) (fun b hb => by rcases hb with hb | hb | hb; exact .inl (.inl hb); exact .inl (.inr hb); exact .inr (by omega))).below hb2
  exact ⟨An2, cn2, none, 0, [(kd, vl)], [], rfl, by omega, hP', ((hR.below hb1).below hb).below hb2, but_below (but_below (but_below (but_refl r w) hb1) hb) hb2, Blk.new w2 _ _,
      ((Blk.new w 26 #[.slice none 0 0, .slice none 0 0]).below hb (by rw [hs1]; omega)).alloc _, hR.lt,
      fun b hb => by rw [hs3]; rcases hb with hb | hb | hb; have := hbad b hb; omega; omega; omega, .inl hrb, .inr (.inr rfl), .inr (.inl rfl), by omega, Nat.le_refl _, by omega, rfl, rfl⟩
end Go.Proofs.Ytmhbfdcikdhehaa

