/- The drawing of two processes and a map of flows, and of tokens beside. (Written by gen/drawmv2.py.) -/
import Derived.Test.YtmhbfdcikdhehaaDrawMv
set_option linter.unusedSimpArgs false
set_option linter.unusedVariables false
namespace Go.Proofs.Ytmhbfdcikdhehaa
open Go.RowKit

/-- Two drawn processes, and a drawn map of flows. -/
def DrawMapF (w : World) (e : Ending) (w' : World) : Prop :=
  ∃ An nn cn Af lf cf ns fs Aq nq cq Ag lg cg nsq gs A2 n2 c2 fl, e = .returned (.tuple #[.agg #[.slice An nn cn, .slice Af lf cf], .agg #[.slice Aq nq cq, .slice Ag lg cg], .slice A2 n2 c2]) ∧ n2 ≤ 22 ∧ Prs w' w.heap.size w'.heap.size An nn cn Af lf cf ns fs ∧ Prs w' w.heap.size w'.heap.size Aq nq cq Ag lg cg nsq gs ∧ Rd w' w.heap.size w'.heap.size 1 A2 n2 (ivs fl) ∧ Below w.heap.size w w'
/-- Tokens beside. -/
def DrawMapM (w : World) (e : Ending) (w' : World) : Prop :=
  ∃ An nn cn Af lf cf ns fs Aq nq cq Ag lg cg nsq gs A2 n2 c2 fl A3 n3 c3 ms, e = .returned (.tuple #[.agg #[.slice An nn cn, .slice Af lf cf], .agg #[.slice Aq nq cq, .slice Ag lg cg], .slice A2 n2 c2, .slice A3 n3 c3]) ∧ n2 ≤ 22 ∧ n3 ≤ 22 ∧ Prs w' w.heap.size w'.heap.size An nn cn Af lf cf ns fs ∧ Prs w' w.heap.size w'.heap.size Aq nq cq Ag lg cg nsq gs ∧ Rd w' w.heap.size w'.heap.size 1 A2 n2 (ivs fl) ∧ Rd w' w.heap.size w'.heap.size 1 A3 n3 (ivs ms) ∧ Below w.heap.size w w'
set_option maxRecDepth 100000 in
set_option maxHeartbeats 3200000 in
theorem drawIsFaithful_any (n c : Nat) (A : Option Addr) (xs : List Int) (w : World) (hr : Rd w 0 w.heap.size 1 A n (bvs xs)) (hby : Bytes xs) (hn : n ≤ 1048576) (hc : n ≤ c) (hc2 : c ≤ 9223372036854775807) :
    Calls Try.prog 18 #[.slice A n c] w (DrawMapF w) := by
  have hb0 := up_alloc (up_alloc (Below.refl _ w) (.cells #[.slice none 0 0, .slice none 0 0] 26)) (.cells #[.slice none 0 0, .slice none 0 0] 26)
  have hx0 := (Blk.new w 26 #[.slice none 0 0, .slice none 0 0]).alloc (.cells #[.slice none 0 0, .slice none 0 0] 26)
  have hy0 : Blk ((w.alloc (.cells #[.slice none 0 0, .slice none 0 0] 26)).alloc (.cells #[.slice none 0 0, .slice none 0 0] 26)) (w.heap.size + 1) 26 #[.slice none 0 0, .slice none 0 0] := by simpa using Blk.new (w.alloc (.cells #[.slice none 0 0, .slice none 0 0] 26)) 26 #[.slice none 0 0, .slice none 0 0]
  have HR := Lib.hid ((hr.keep hb0 (Nat.le_refl _)).wide (Nat.le_refl _) hb0.size)
  have hs0 : ((w.alloc (.cells #[.slice none 0 0, .slice none 0 0] 26)).alloc (.cells #[.slice none 0 0, .slice none 0 0] 26)).heap.size = w.heap.size + 1 + 1 := by simp
  go_enter Try.func18, Try.ntmps18
  go_wp2_with (fail)
  (with_reducible refine (newReader_any n c A xs _ HR.out hby hn hc hc2).mono ?_)
  rintro e w1 ⟨r, n', c', xs', rfl, hrw, hR1, hb1⟩
  rw [hs0] at hrw
  have hx1 := hx0.below hb1 (by omega)
  have hy1 := hy0.below hb1 (by omega)
  have hb01 := up hb0 hb1
  have hs1 := hb1.size
  rw [hs0] at hs1
  have hrl := hR1.lt
  clear hx0 hy0 hb0 hb1 HR hr
  go_wp2_with (fail)
  (with_reducible refine (anyProcess_any r A n' c' xs' 0 w1 hR1 (by omega)).mono ?_)
  rintro e w2 hD
  obtain ⟨An, nn, cn, Af, lf, cf, ns, fs, p', rfl, hP, hR2, hp2, hG⟩ := hD.prs
  clear hD
  have hs2 := hG.size
  have hp0 := hR2.2.2.2.2
  have hX := up_alloc (Below.refl _ w2) (.cells #[.slice An nn cn, .slice Af lf cf] 26)
  have hsa : (w2.alloc (.cells #[.slice An nn cn, .slice Af lf cf] 26)).heap.size = w2.heap.size + 1 := by simp
  have HX := Lib.hid ((hx1.but hG (by omega)).below hX (by omega))
  have HY := Lib.hid ((hy1.but hG (by omega)).below hX (by omega))
  have HZ := Lib.hid (Blk.new w2 26 #[.slice An nn cn, .slice Af lf cf])
  have HP := Lib.hid (hP.keep hX (Nat.le_refl _))
  have HB := Lib.hid (up (hb01.grown hG hb01.size (fun k e => by injection e with e; omega)) hX)
  have HRA := Lib.hid (hR2.below hX)
  clear hx1 hy1 hX hP hG hb01 hR2 hR1
  go_wp2_with (fail)
  (with_reducible refine (anyProcess_any r A n' c' xs' p' _ HRA.out (by omega)).mono ?_)
  rintro e w3 hD
  obtain ⟨Aq, nq, cq, Ag, lg, cg, nsq, gs, p2, rfl, hQ, hR3, hp3, hG⟩ := hD.prs
  clear hD
  rw [hsa] at hQ
  have hs3 := hG.size
  rw [hsa] at hs3
  have hp20 := hR3.2.2.2.2
  have hX := up_drew (up_alloc (Below.refl _ w3) (.cells #[.slice Aq nq cq, .slice Ag lg cg] 26))
  have hsb : (w3.alloc (.cells #[.slice Aq nq cq, .slice Ag lg cg] 26)).heap.size = w3.heap.size + 1 := by simp
  have HX3 := Lib.hid ((HX.out.but hG (by omega)).below hX (by omega))
  have HY3 := Lib.hid ((HY.out.but hG (by omega)).below hX (by omega))
  have HZ3 := Lib.hid ((HZ.out.but hG (by omega)).below hX (by omega))
  have HV3 := Lib.hid (show Blk (w3.alloc (.cells #[.slice Aq nq cq, .slice Ag lg cg] 26)).drew w3.heap.size 26 #[.slice Aq nq cq, .slice Ag lg cg] from Blk.new w3 26 #[.slice Aq nq cq, .slice Ag lg cg])
  have HP3 := Lib.hid ((HP.out.far hG (by rw [hsa]; omega) (fun k e => by injection e with e; omega)).keep hX (by omega))
  have HQ3 := Lib.hid (hQ.keep hX (Nat.le_refl _))
  have HB3 := Lib.hid (up (HB.out.grown hG HB.out.size (fun k e => by injection e with e; omega)) hX)
  have HR3 := Lib.hid (hR3.below hX)
  have hsx : ((w3.alloc (.cells #[.slice Aq nq cq, .slice Ag lg cg] 26)).drew).heap.size = w3.heap.size + 1 := by simp [World.drew]
  clear HX HY HZ HP HB HRA hQ hG hR3 hX
  have HC := Lib.hid (someMap_any r A n' c' xs' p2 w1.heap.size w2.heap.size An nn cn Af lf cf ns fs (w2.heap.size + 1) w3.heap.size Aq nq cq Ag lg cg nsq gs _ HR3.out (by omega) HP3.out (by omega) (by omega) HQ3.out (by omega) (by omega))
  have k0 := HZ3.out.cell 0
  have k1 := HZ3.out.cell 1
  simp only [List.getElem?_toArray, List.getElem?_cons_zero, List.getElem?_cons_succ] at k0 k1
  have v0 := HV3.out.cell 0
  have v1 := HV3.out.cell 1
  simp only [List.getElem?_toArray, List.getElem?_cons_zero, List.getElem?_cons_succ] at v0 v1
  go_wp2_with (fail)
  go_region_law (go_simp; go_at_call 32; (with_reducible refine HC.out.mono ?_); rintro e w5 ⟨A2, n2, c2, fl, p4, rfl, hn2, _, _, hrd, _, _, hG5⟩
                 have hx5 := HX3.out.but hG5 (by omega)
                 have hy5 := HY3.out.but hG5 (by omega)
                 have hz5 := HZ3.out.but hG5 (by omega)
                 have hv5 := HV3.out.but hG5 (by omega)
                 have j0 : w5.cell? ⟨w2.heap.size, 0, none⟩ = some (.slice An nn cn) := hz5.cell 0
                 have j1 : w5.cell? ⟨w2.heap.size, 1, none⟩ = some (.slice Af lf cf) := hz5.cell 1
                 have i0 : w5.cell? ⟨w3.heap.size, 0, none⟩ = some (.slice Aq nq cq) := hv5.cell 0
                 have i1 : w5.cell? ⟨w3.heap.size, 1, none⟩ = some (.slice Ag lg cg) := hv5.cell 1
                 have r0 : w5.cell? ⟨w.heap.size, 0, none⟩ = some (.slice none 0 0) := hx5.cell 0
                 have r1 : w5.cell? ⟨w.heap.size, 1, none⟩ = some (.slice none 0 0) := hx5.cell 1
                 have r2 : w5.cell? ⟨w.heap.size + 1, 0, none⟩ = some (.slice none 0 0) := hy5.cell 0
                 have r3 : w5.cell? ⟨w.heap.size + 1, 1, none⟩ = some (.slice none 0 0) := hy5.cell 1
                 have q0 := hx5.soft 0
                 have q1 := hx5.soft 1
                 have q2 := hy5.soft 0
                 have q3 := hy5.soft 1
                 have HX5 := Lib.hid hx5
                 have HY5 := Lib.hid hy5
                 have HG5 := Lib.hid hG5
                 have HRD := Lib.hid hrd
                 clear hx5 hy5 hz5 hv5 hG5 hrd)
  all_goals
    have hs5 := HG5.out.size
    rw [hsx] at hs5
    have hs5' : w3.heap.size + 1 ≤ w5.heap.size := hs5
    have hz0 := (HX5.out.put 0 (.slice An nn cn)).put 1 (.slice Af lf cf)
    have hz1 := (hz0.far (p := ⟨w.heap.size + 1, 0, none⟩) (by show w.heap.size ≠ w.heap.size + 1; omega) (.slice Aq nq cq)).far (p := ⟨w.heap.size + 1, 1, none⟩) (by show w.heap.size ≠ w.heap.size + 1; omega) (.slice Ag lg cg)
    have hz2 := (((HY5.out.far (p := ⟨w.heap.size, 0, none⟩) (by show w.heap.size + 1 ≠ w.heap.size; omega) (.slice An nn cn)).far (p := ⟨w.heap.size, 1, none⟩) (by show w.heap.size + 1 ≠ w.heap.size; omega) (.slice Af lf cf)).put 0 (.slice Aq nq cq)).put 1 (.slice Ag lg cg)
    have b0 := hz1.cell 0
    have b1 := hz1.cell 1
    have b2 := hz2.cell 0
    have b3 := hz2.cell 1
    simp at b0 b1 b2 b3
    have hP5 := HP3.out.far HG5.out (by rw [hsx]; omega) (fun k e => by injection e with e; omega)
    have hQ5 := HQ3.out.far HG5.out (by rw [hsx]; omega) (fun k e => by injection e with e; omega)
    have HPF := Lib.hid (((((hP5.set (p := ⟨w.heap.size, 0, none⟩) (.inl (by show w.heap.size < w1.heap.size; omega)) (.slice An nn cn)).set (p := ⟨w.heap.size, 1, none⟩) (.inl (by show w.heap.size < w1.heap.size; omega)) (.slice Af lf cf)).set (p := ⟨w.heap.size + 1, 0, none⟩) (.inl (by show w.heap.size + 1 < w1.heap.size; omega)) (.slice Aq nq cq)).set (p := ⟨w.heap.size + 1, 1, none⟩) (.inl (by show w.heap.size + 1 < w1.heap.size; omega)) (.slice Ag lg cg)).wide (show w.heap.size ≤ w1.heap.size by omega) (show _ ≤ (((((w5.setCell ⟨w.heap.size, 0, none⟩ (.slice An nn cn)).setCell ⟨w.heap.size, 1, none⟩ (.slice Af lf cf)).setCell ⟨w.heap.size + 1, 0, none⟩ (.slice Aq nq cq)).setCell ⟨w.heap.size + 1, 1, none⟩ (.slice Ag lg cg))).heap.size by simp only [World.size_setCell]; omega))
    have HQF := Lib.hid (((((hQ5.set (p := ⟨w.heap.size, 0, none⟩) (.inl (by show w.heap.size < w2.heap.size + 1; omega)) (.slice An nn cn)).set (p := ⟨w.heap.size, 1, none⟩) (.inl (by show w.heap.size < w2.heap.size + 1; omega)) (.slice Af lf cf)).set (p := ⟨w.heap.size + 1, 0, none⟩) (.inl (by show w.heap.size + 1 < w2.heap.size + 1; omega)) (.slice Aq nq cq)).set (p := ⟨w.heap.size + 1, 1, none⟩) (.inl (by show w.heap.size + 1 < w2.heap.size + 1; omega)) (.slice Ag lg cg)).wide (show w.heap.size ≤ w2.heap.size + 1 by omega) (show _ ≤ (((((w5.setCell ⟨w.heap.size, 0, none⟩ (.slice An nn cn)).setCell ⟨w.heap.size, 1, none⟩ (.slice Af lf cf)).setCell ⟨w.heap.size + 1, 0, none⟩ (.slice Aq nq cq)).setCell ⟨w.heap.size + 1, 1, none⟩ (.slice Ag lg cg))).heap.size by simp only [World.size_setCell]; omega))
    have hrd := HRD.out
    rw [hsx] at hrd
    have HFF := Lib.hid (((((hrd.setCell (p := ⟨w.heap.size, 0, none⟩) (.inl (by show w.heap.size < w3.heap.size + 1; omega)) (.slice An nn cn)).setCell (p := ⟨w.heap.size, 1, none⟩) (.inl (by show w.heap.size < w3.heap.size + 1; omega)) (.slice Af lf cf)).setCell (p := ⟨w.heap.size + 1, 0, none⟩) (.inl (by show w.heap.size + 1 < w3.heap.size + 1; omega)) (.slice Aq nq cq)).setCell (p := ⟨w.heap.size + 1, 1, none⟩) (.inl (by show w.heap.size + 1 < w3.heap.size + 1; omega)) (.slice Ag lg cg)).wide (show w.heap.size ≤ w3.heap.size + 1 by omega) (show _ ≤ (((((w5.setCell ⟨w.heap.size, 0, none⟩ (.slice An nn cn)).setCell ⟨w.heap.size, 1, none⟩ (.slice Af lf cf)).setCell ⟨w.heap.size + 1, 0, none⟩ (.slice Aq nq cq)).setCell ⟨w.heap.size + 1, 1, none⟩ (.slice Ag lg cg))).heap.size by simp only [World.size_setCell]; omega))
    have hb5 : Below w.heap.size w w5 := HB3.out.grown HG5.out HB3.out.size (fun k e => by injection e with e; omega)
    have HBF := Lib.hid ((((hb5.setCell (p := ⟨w.heap.size, 0, none⟩) (show w.heap.size ≤ w.heap.size by omega) (.slice An nn cn)).setCell (p := ⟨w.heap.size, 1, none⟩) (show w.heap.size ≤ w.heap.size by omega) (.slice Af lf cf)).setCell (p := ⟨w.heap.size + 1, 0, none⟩) (show w.heap.size ≤ w.heap.size + 1 by omega) (.slice Aq nq cq)).setCell (p := ⟨w.heap.size + 1, 1, none⟩) (show w.heap.size ≤ w.heap.size + 1 by omega) (.slice Ag lg cg))
    clear hrd hz0 hz1 hz2 hP5 hQ5 hb5 HC j0 j1 i0 i1
    go_wp2
    exact bodyPost_ret (v := .tuple #[.agg #[.slice An nn cn, .slice Af lf cf], .agg #[.slice Aq nq cq, .slice Ag lg cg], .slice A2 n2 c2]) (by simp [results, Try.results18, go_sem, b0, b1, b2, b3]) rfl ⟨_, _, _, _, _, _, ns, fs, _, _, _, _, _, _, nsq, gs, _, _, _, fl, rfl, by omega, HPF.out, HQF.out, HFF.out, HBF.out⟩
set_option maxRecDepth 100000 in
set_option maxHeartbeats 3200000 in
theorem drawMoveMarks_any (n c : Nat) (A : Option Addr) (xs : List Int) (w : World) (hr : Rd w 0 w.heap.size 1 A n (bvs xs)) (hby : Bytes xs) (hn : n ≤ 1048576) (hc : n ≤ c) (hc2 : c ≤ 9223372036854775807) :
    Calls Try.prog 9 #[.slice A n c] w (DrawMapM w) := by
  have hb0 := up_alloc (up_alloc (Below.refl _ w) (.cells #[.slice none 0 0, .slice none 0 0] 26)) (.cells #[.slice none 0 0, .slice none 0 0] 26)
  have hx0 := (Blk.new w 26 #[.slice none 0 0, .slice none 0 0]).alloc (.cells #[.slice none 0 0, .slice none 0 0] 26)
  have hy0 : Blk ((w.alloc (.cells #[.slice none 0 0, .slice none 0 0] 26)).alloc (.cells #[.slice none 0 0, .slice none 0 0] 26)) (w.heap.size + 1) 26 #[.slice none 0 0, .slice none 0 0] := by simpa using Blk.new (w.alloc (.cells #[.slice none 0 0, .slice none 0 0] 26)) 26 #[.slice none 0 0, .slice none 0 0]
  have HR := Lib.hid ((hr.keep hb0 (Nat.le_refl _)).wide (Nat.le_refl _) hb0.size)
  have hs0 : ((w.alloc (.cells #[.slice none 0 0, .slice none 0 0] 26)).alloc (.cells #[.slice none 0 0, .slice none 0 0] 26)).heap.size = w.heap.size + 1 + 1 := by simp
  go_enter Try.func9, Try.ntmps9
  go_wp2_with (fail)
  (with_reducible refine (newReader_any n c A xs _ HR.out hby hn hc hc2).mono ?_)
  rintro e w1 ⟨r, n', c', xs', rfl, hrw, hR1, hb1⟩
  rw [hs0] at hrw
  have hx1 := hx0.below hb1 (by omega)
  have hy1 := hy0.below hb1 (by omega)
  have hb01 := up hb0 hb1
  have hs1 := hb1.size
  rw [hs0] at hs1
  have hrl := hR1.lt
  clear hx0 hy0 hb0 hb1 HR hr
  go_wp2_with (fail)
  (with_reducible refine (anyProcess_any r A n' c' xs' 0 w1 hR1 (by omega)).mono ?_)
  rintro e w2 hD
  obtain ⟨An, nn, cn, Af, lf, cf, ns, fs, p', rfl, hP, hR2, hp2, hG⟩ := hD.prs
  clear hD
  have hs2 := hG.size
  have hp0 := hR2.2.2.2.2
  have hX := up_alloc (Below.refl _ w2) (.cells #[.slice An nn cn, .slice Af lf cf] 26)
  have hsa : (w2.alloc (.cells #[.slice An nn cn, .slice Af lf cf] 26)).heap.size = w2.heap.size + 1 := by simp
  have HX := Lib.hid ((hx1.but hG (by omega)).below hX (by omega))
  have HY := Lib.hid ((hy1.but hG (by omega)).below hX (by omega))
  have HZ := Lib.hid (Blk.new w2 26 #[.slice An nn cn, .slice Af lf cf])
  have HP := Lib.hid (hP.keep hX (Nat.le_refl _))
  have HB := Lib.hid (up (hb01.grown hG hb01.size (fun k e => by injection e with e; omega)) hX)
  have HRA := Lib.hid (hR2.below hX)
  clear hx1 hy1 hX hP hG hb01 hR2 hR1
  go_wp2_with (fail)
  (with_reducible refine (anyProcess_any r A n' c' xs' p' _ HRA.out (by omega)).mono ?_)
  rintro e w3 hD
  obtain ⟨Aq, nq, cq, Ag, lg, cg, nsq, gs, p2, rfl, hQ, hR3, hp3, hG⟩ := hD.prs
  clear hD
  rw [hsa] at hQ
  have hs3 := hG.size
  rw [hsa] at hs3
  have hp20 := hR3.2.2.2.2
  have hX := (up_alloc (Below.refl _ w3) (.cells #[.slice Aq nq cq, .slice Ag lg cg] 26))
  have hsb : (w3.alloc (.cells #[.slice Aq nq cq, .slice Ag lg cg] 26)).heap.size = w3.heap.size + 1 := by simp
  have HX3 := Lib.hid ((HX.out.but hG (by omega)).below hX (by omega))
  have HY3 := Lib.hid ((HY.out.but hG (by omega)).below hX (by omega))
  have HZ3 := Lib.hid ((HZ.out.but hG (by omega)).below hX (by omega))
  have HV3 := Lib.hid (show Blk (w3.alloc (.cells #[.slice Aq nq cq, .slice Ag lg cg] 26)) w3.heap.size 26 #[.slice Aq nq cq, .slice Ag lg cg] from Blk.new w3 26 #[.slice Aq nq cq, .slice Ag lg cg])
  have HP3 := Lib.hid ((HP.out.far hG (by rw [hsa]; omega) (fun k e => by injection e with e; omega)).keep hX (by omega))
  have HQ3 := Lib.hid (hQ.keep hX (Nat.le_refl _))
  have HB3 := Lib.hid (up (HB.out.grown hG HB.out.size (fun k e => by injection e with e; omega)) hX)
  have HR3 := Lib.hid (hR3.below hX)
  have hsx : ((w3.alloc (.cells #[.slice Aq nq cq, .slice Ag lg cg] 26))).heap.size = w3.heap.size + 1 := by simp [World.drew]
  clear HX HY HZ HP HB HRA hQ hG hR3 hX
  have HC := Lib.hid (someMap_any r A n' c' xs' p2 w1.heap.size w2.heap.size An nn cn Af lf cf ns fs (w2.heap.size + 1) w3.heap.size Aq nq cq Ag lg cg nsq gs _ HR3.out (by omega) HP3.out (by omega) (by omega) HQ3.out (by omega) (by omega))
  have k0 := HZ3.out.cell 0
  have k1 := HZ3.out.cell 1
  simp only [List.getElem?_toArray, List.getElem?_cons_zero, List.getElem?_cons_succ] at k0 k1
  have v0 := HV3.out.cell 0
  have v1 := HV3.out.cell 1
  simp only [List.getElem?_toArray, List.getElem?_cons_zero, List.getElem?_cons_succ] at v0 v1
  go_wp2_with (fail)
  (with_reducible refine HC.out.mono ?_)
  clear HC k0 k1 v0 v1
  rintro e w4 ⟨A2, n2, c2, fl, p4, rfl, hn2, _, _, hrd, hR4, hp4, hG⟩
  rw [hsb] at hrd
  have hs4 := hG.size
  rw [hsb] at hs4
  have hp40 := hR4.2.2.2.2
  have hX := up_drew (Below.refl _ w4)
  have HX4 := Lib.hid ((HX3.out.but hG (by omega)).below hX (by omega))
  have HY4 := Lib.hid ((HY3.out.but hG (by omega)).below hX (by omega))
  have HZ4 := Lib.hid ((HZ3.out.but hG (by omega)).below hX (by omega))
  have HV4 := Lib.hid ((HV3.out.but hG (by omega)).below hX (by omega))
  have HP4 := Lib.hid ((HP3.out.far hG (by omega) (fun k e => by injection e with e; omega)).keep hX (by omega))
  have HQ4 := Lib.hid ((HQ3.out.far hG (by omega) (fun k e => by injection e with e; omega)).keep hX (by omega))
  have HB4 := Lib.hid (up (HB3.out.grown hG HB3.out.size (fun k e => by injection e with e; omega)) hX)
  have HF4 := Lib.hid (hrd.keep hX (Nat.le_refl _))
  have HC := Lib.hid (anyMarks_any r A n' c' xs' p4 An nn cn Af lf cf _ (hR4.below hX) (by omega) HP3.out.f21)
  clear HX3 HY3 HZ3 HV3 HP3 HQ3 HB3 HR3 hrd hR4 hG hX
  have k0 := HZ4.out.cell 0
  have k1 := HZ4.out.cell 1
  simp only [List.getElem?_toArray, List.getElem?_cons_zero, List.getElem?_cons_succ] at k0 k1
  have v0 := HV4.out.cell 0
  have v1 := HV4.out.cell 1
  simp only [List.getElem?_toArray, List.getElem?_cons_zero, List.getElem?_cons_succ] at v0 v1
  go_wp2_with (fail)
  go_region_law (go_simp; go_at_call 33; (with_reducible refine HC.out.mono ?_); rintro e w5 ⟨A3, n3, c3, ms, p5, rfl, hn3, _, _, hrd, _, _, hG5⟩
                 have hx5 := HX4.out.but hG5 (by omega)
                 have hy5 := HY4.out.but hG5 (by omega)
                 have hz5 := HZ4.out.but hG5 (by omega)
                 have hv5 := HV4.out.but hG5 (by omega)
                 have j0 : w5.cell? ⟨w2.heap.size, 0, none⟩ = some (.slice An nn cn) := hz5.cell 0
                 have j1 : w5.cell? ⟨w2.heap.size, 1, none⟩ = some (.slice Af lf cf) := hz5.cell 1
                 have i0 : w5.cell? ⟨w3.heap.size, 0, none⟩ = some (.slice Aq nq cq) := hv5.cell 0
                 have i1 : w5.cell? ⟨w3.heap.size, 1, none⟩ = some (.slice Ag lg cg) := hv5.cell 1
                 have r0 : w5.cell? ⟨w.heap.size, 0, none⟩ = some (.slice none 0 0) := hx5.cell 0
                 have r1 : w5.cell? ⟨w.heap.size, 1, none⟩ = some (.slice none 0 0) := hx5.cell 1
                 have r2 : w5.cell? ⟨w.heap.size + 1, 0, none⟩ = some (.slice none 0 0) := hy5.cell 0
                 have r3 : w5.cell? ⟨w.heap.size + 1, 1, none⟩ = some (.slice none 0 0) := hy5.cell 1
                 have q0 := hx5.soft 0
                 have q1 := hx5.soft 1
                 have q2 := hy5.soft 0
                 have q3 := hy5.soft 1
                 have HX5 := Lib.hid hx5
                 have HY5 := Lib.hid hy5
                 have HG5 := Lib.hid hG5
                 have HRD := Lib.hid hrd
                 clear hx5 hy5 hz5 hv5 hG5 hrd)
  all_goals
    have hs5 := HG5.out.size
    have hs5' : w4.heap.size ≤ w5.heap.size := hs5
    have hz0 := (HX5.out.put 0 (.slice An nn cn)).put 1 (.slice Af lf cf)
    have hz1 := (hz0.far (p := ⟨w.heap.size + 1, 0, none⟩) (by show w.heap.size ≠ w.heap.size + 1; omega) (.slice Aq nq cq)).far (p := ⟨w.heap.size + 1, 1, none⟩) (by show w.heap.size ≠ w.heap.size + 1; omega) (.slice Ag lg cg)
    have hz2 := (((HY5.out.far (p := ⟨w.heap.size, 0, none⟩) (by show w.heap.size + 1 ≠ w.heap.size; omega) (.slice An nn cn)).far (p := ⟨w.heap.size, 1, none⟩) (by show w.heap.size + 1 ≠ w.heap.size; omega) (.slice Af lf cf)).put 0 (.slice Aq nq cq)).put 1 (.slice Ag lg cg)
    have b0 := hz1.cell 0
    have b1 := hz1.cell 1
    have b2 := hz2.cell 0
    have b3 := hz2.cell 1
    simp at b0 b1 b2 b3
    have hP5 := HP4.out.far HG5.out (by show _ ≤ w4.heap.size; omega) (fun k e => by injection e with e; omega)
    have hQ5 := HQ4.out.far HG5.out (by show _ ≤ w4.heap.size; omega) (fun k e => by injection e with e; omega)
    have HPF := Lib.hid (((((hP5.set (p := ⟨w.heap.size, 0, none⟩) (.inl (by show w.heap.size < w1.heap.size; omega)) (.slice An nn cn)).set (p := ⟨w.heap.size, 1, none⟩) (.inl (by show w.heap.size < w1.heap.size; omega)) (.slice Af lf cf)).set (p := ⟨w.heap.size + 1, 0, none⟩) (.inl (by show w.heap.size + 1 < w1.heap.size; omega)) (.slice Aq nq cq)).set (p := ⟨w.heap.size + 1, 1, none⟩) (.inl (by show w.heap.size + 1 < w1.heap.size; omega)) (.slice Ag lg cg)).wide (show w.heap.size ≤ w1.heap.size by omega) (show _ ≤ (((((w5.setCell ⟨w.heap.size, 0, none⟩ (.slice An nn cn)).setCell ⟨w.heap.size, 1, none⟩ (.slice Af lf cf)).setCell ⟨w.heap.size + 1, 0, none⟩ (.slice Aq nq cq)).setCell ⟨w.heap.size + 1, 1, none⟩ (.slice Ag lg cg))).heap.size by simp only [World.size_setCell]; omega))
    have HQF := Lib.hid (((((hQ5.set (p := ⟨w.heap.size, 0, none⟩) (.inl (by show w.heap.size < w2.heap.size + 1; omega)) (.slice An nn cn)).set (p := ⟨w.heap.size, 1, none⟩) (.inl (by show w.heap.size < w2.heap.size + 1; omega)) (.slice Af lf cf)).set (p := ⟨w.heap.size + 1, 0, none⟩) (.inl (by show w.heap.size + 1 < w2.heap.size + 1; omega)) (.slice Aq nq cq)).set (p := ⟨w.heap.size + 1, 1, none⟩) (.inl (by show w.heap.size + 1 < w2.heap.size + 1; omega)) (.slice Ag lg cg)).wide (show w.heap.size ≤ w2.heap.size + 1 by omega) (show _ ≤ (((((w5.setCell ⟨w.heap.size, 0, none⟩ (.slice An nn cn)).setCell ⟨w.heap.size, 1, none⟩ (.slice Af lf cf)).setCell ⟨w.heap.size + 1, 0, none⟩ (.slice Aq nq cq)).setCell ⟨w.heap.size + 1, 1, none⟩ (.slice Ag lg cg))).heap.size by simp only [World.size_setCell]; omega))
    have hrd := HRD.out
    have hrd' : Rd w5 w4.heap.size w5.heap.size 1 A3 n3 (ivs ms) := hrd
    have hF5 := HF4.out.far HG5.out (Nat.le_refl _) (fun k e => by injection e with e; omega)
    have HFF := Lib.hid (((((hF5.setCell (p := ⟨w.heap.size, 0, none⟩) (.inl (by show w.heap.size < w3.heap.size + 1; omega)) (.slice An nn cn)).setCell (p := ⟨w.heap.size, 1, none⟩) (.inl (by show w.heap.size < w3.heap.size + 1; omega)) (.slice Af lf cf)).setCell (p := ⟨w.heap.size + 1, 0, none⟩) (.inl (by show w.heap.size + 1 < w3.heap.size + 1; omega)) (.slice Aq nq cq)).setCell (p := ⟨w.heap.size + 1, 1, none⟩) (.inl (by show w.heap.size + 1 < w3.heap.size + 1; omega)) (.slice Ag lg cg)).wide (show w.heap.size ≤ w3.heap.size + 1 by omega) (show _ ≤ (((((w5.setCell ⟨w.heap.size, 0, none⟩ (.slice An nn cn)).setCell ⟨w.heap.size, 1, none⟩ (.slice Af lf cf)).setCell ⟨w.heap.size + 1, 0, none⟩ (.slice Aq nq cq)).setCell ⟨w.heap.size + 1, 1, none⟩ (.slice Ag lg cg))).heap.size by simp only [World.size_setCell]; omega))
    have HMF := Lib.hid (((((hrd'.setCell (p := ⟨w.heap.size, 0, none⟩) (.inl (by show w.heap.size < w4.heap.size; omega)) (.slice An nn cn)).setCell (p := ⟨w.heap.size, 1, none⟩) (.inl (by show w.heap.size < w4.heap.size; omega)) (.slice Af lf cf)).setCell (p := ⟨w.heap.size + 1, 0, none⟩) (.inl (by show w.heap.size + 1 < w4.heap.size; omega)) (.slice Aq nq cq)).setCell (p := ⟨w.heap.size + 1, 1, none⟩) (.inl (by show w.heap.size + 1 < w4.heap.size; omega)) (.slice Ag lg cg)).wide (show w.heap.size ≤ w4.heap.size by omega) (show _ ≤ (((((w5.setCell ⟨w.heap.size, 0, none⟩ (.slice An nn cn)).setCell ⟨w.heap.size, 1, none⟩ (.slice Af lf cf)).setCell ⟨w.heap.size + 1, 0, none⟩ (.slice Aq nq cq)).setCell ⟨w.heap.size + 1, 1, none⟩ (.slice Ag lg cg))).heap.size by simp only [World.size_setCell]; omega))
    clear hrd' hF5
    have hb5 : Below w.heap.size w w5 := HB4.out.grown HG5.out HB4.out.size (fun k e => by injection e with e; omega)
    have HBF := Lib.hid ((((hb5.setCell (p := ⟨w.heap.size, 0, none⟩) (show w.heap.size ≤ w.heap.size by omega) (.slice An nn cn)).setCell (p := ⟨w.heap.size, 1, none⟩) (show w.heap.size ≤ w.heap.size by omega) (.slice Af lf cf)).setCell (p := ⟨w.heap.size + 1, 0, none⟩) (show w.heap.size ≤ w.heap.size + 1 by omega) (.slice Aq nq cq)).setCell (p := ⟨w.heap.size + 1, 1, none⟩) (show w.heap.size ≤ w.heap.size + 1 by omega) (.slice Ag lg cg))
    clear hrd hz0 hz1 hz2 hP5 hQ5 hb5 HC j0 j1 i0 i1
    go_wp2
    exact bodyPost_ret (v := .tuple #[.agg #[.slice An nn cn, .slice Af lf cf], .agg #[.slice Aq nq cq, .slice Ag lg cg], .slice A2 n2 c2, .slice A3 n3 c3]) (by simp [results, Try.results9, go_sem, b0, b1, b2, b3]) rfl ⟨_, _, _, _, _, _, ns, fs, _, _, _, _, _, _, nsq, gs, _, _, _, fl, _, _, _, ms, rfl, by omega, by omega, HPF.out, HQF.out, HFF.out, HMF.out, HBF.out⟩
end Go.Proofs.Ytmhbfdcikdhehaa
