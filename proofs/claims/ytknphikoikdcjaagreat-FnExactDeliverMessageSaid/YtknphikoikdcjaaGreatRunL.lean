/- (running).goneOn. (Written by gen/runl.py.) -/
import Derived.Test.YtknphikoikdcjaaGreatRunK
set_option linter.unusedSimpArgs false
set_option linter.unusedVariables false
namespace Go.Proofs.YtknphikoikdcjaaGreat
open Go.RowKit Go.Maps

theorem imap_ne {P : Program} {kt t : TypeId} {w : World} {b n g : Nat} {f : Int → Option Value} {cs : Array Value} (h : MkM P kt w b n f) (hk : Blk w g t cs) : b ≠ g := by
  obtain ⟨_, ⟨D, ho, _⟩, _⟩ := h
  obtain ⟨es, clock, hb, _⟩ := ho
  intro e
  subst e
  have hk' : w.heap[b]? = some (.cells cs t (0, 0)) := hk
  rw [hk'] at hb
  cases hb
set_option maxRecDepth 100000 in
set_option maxHeartbeats 6400000 in
theorem goneOn_any (An : Option Addr) (nn cn : Nat) (ns : List (Int × Int)) (Af : Option Addr) (lf cf : Nat) (fs : List Flw) (bo bi mb m : Nat) (ms : List Int) (Av : Option Addr) (nv cv : Nat) (vs : List Int) (cl : Int) (At : Option Addr) (nt ct : Nat) (ts : List Tm) (w : World) (k : Nat) (x y : Int) (hN : NetM w ns fs ms An nn Af lf bo bi mb m) (hnn : nn ≤ 10) (hlf : lf ≤ 1048576) (hv : Rd w 0 w.heap.size 1 Av nv (ivs vs)) (hvv : vVals vs = true) (ht : Rd w 0 w.heap.size 2 At nt (pvs ts)) (hnt : nt ≤ 1000) (h64 : ∀ t ∈ ts, in64 t.1) (hH : HeapN ts ts.length) (hcl : 0 ≤ cl ∧ cl ≤ 20000) (hk : k < nn) (hkx : ns[k]? = some (x, y)) :
    Calls Tryz.prog 99 #[.agg #[.slice An nn cn, .slice Af lf cf, .map (some bo), .map (some bi), .map (some mb), .slice Av nv cv, .int .i64 cl, .slice At nt ct], .int .i64 (k : Int)] w (GoPost ns fs ((fireOf ns fs ms (k : Int) vs).bind (settleM ns fs vs 30)) ts An nn cn Af lf cf bo bi Av nv cv cl w) := by
  have hb1 := up_alloc (up_alloc (Below.refl _ w) (.cells #[.slice An nn cn, .slice Af lf cf, .map (some bo), .map (some bi), .map (some mb), .slice Av nv cv, .int .i64 cl, .slice At nt ct] 114)) (.cells #[.slice none 0 0, .slice none 0 0, .map none, .map none, .map none, .slice none 0 0, .int .i64 0, .slice none 0 0] 114)
  have hk1 := (Blk.new w 114 #[.slice An nn cn, .slice Af lf cf, .map (some bo), .map (some bi), .map (some mb), .slice Av nv cv, .int .i64 cl, .slice At nt ct]).alloc (.cells #[.slice none 0 0, .slice none 0 0, .map none, .map none, .map none, .slice none 0 0, .int .i64 0, .slice none 0 0] 114)
  have hk2 : Blk ((w.alloc (.cells #[.slice An nn cn, .slice Af lf cf, .map (some bo), .map (some bi), .map (some mb), .slice Av nv cv, .int .i64 cl, .slice At nt ct] 114)).alloc (.cells #[.slice none 0 0, .slice none 0 0, .map none, .map none, .map none, .slice none 0 0, .int .i64 0, .slice none 0 0] 114)) (w.heap.size + 1) 114 #[.slice none 0 0, .slice none 0 0, .map none, .map none, .map none, .slice none 0 0, .int .i64 0, .slice none 0 0] := by
    simpa using Blk.new (w.alloc (.cells #[.slice An nn cn, .slice Af lf cf, .map (some bo), .map (some bi), .map (some mb), .slice Av nv cv, .int .i64 cl, .slice At nt ct] 114)) 114 #[.slice none 0 0, .slice none 0 0, .map none, .map none, .map none, .slice none 0 0, .int .i64 0, .slice none 0 0]
  have HN0 := Lib.hid hN
  have HV0 := Lib.hid hv
  have HT0 := Lib.hid ht
  have HNW := Lib.hid (hN.keep hb1)
  have HVV := Lib.hid hvv
  have H64 := Lib.hid h64
  have HHN := Lib.hid hH
  have HG := Lib.hid hkx
  have h14 := (vProc_len hN.vp).2.2
  have hnv : nv ≤ 1048576 := by have := vVals_len hvv; have := hv.len1; omega
  have HCL := Lib.hid hcl
  have HB1 := Lib.hid hb1
  have HK1 := Lib.hid hk1
  have HK2 := Lib.hid hk2
  have hs2 : ((w.alloc (.cells #[.slice An nn cn, .slice Af lf cf, .map (some bo), .map (some bi), .map (some mb), .slice Av nv cv, .int .i64 cl, .slice At nt ct] 114)).alloc (.cells #[.slice none 0 0, .slice none 0 0, .map none, .map none, .map none, .slice none 0 0, .int .i64 0, .slice none 0 0] 114)).heap.size = w.heap.size + 1 + 1 := by simp
  have HF := Lib.hid (fired_any An nn cn ns Af lf cf fs bo bi mb m ms Av nv cv vs cl At nt ct k x y ((w.alloc (.cells #[.slice An nn cn, .slice Af lf cf, .map (some bo), .map (some bi), .map (some mb), .slice Av nv cv, .int .i64 cl, .slice At nt ct] 114)).alloc (.cells #[.slice none 0 0, .slice none 0 0, .map none, .map none, .map none, .slice none 0 0, .int .i64 0, .slice none 0 0] 114)) HNW.out (by omega) hlf h14 (rd_up hv hb1) hnv hk hkx)
  clear hb1 hk1 hk2 hN hv ht hcl hvv h64 hH hkx
  go_enter Tryz.func99, Tryz.ntmps99
  go_wp2_with (fail)
  generalize (w.alloc (.cells #[.slice An nn cn, .slice Af lf cf, .map (some bo), .map (some bi), .map (some mb), .slice Av nv cv, .int .i64 cl, .slice At nt ct] 114)).alloc (.cells #[.slice none 0 0, .slice none 0 0, .map none, .map none, .map none, .slice none 0 0, .int .i64 0, .slice none 0 0] 114) = w1 at *
  (with_reducible refine HF.out.mono ?_)
  clear HF
  rintro e w4 (⟨hc, rfl, hb4⟩ | ⟨hc, mb2, m2, rfl, hn4, hmb2, hb4⟩)
  · have HSS := Lib.hid (show (fireOf ns fs ms (k : Int) vs).bind (settleM ns fs vs 30) = none by rw [fire_none HNW.out.vp HNW.out.vm HG.out HVV.out hc]; rfl)
    have HB4 := Lib.hid (up HB1.out hb4)
    have HK4 := Lib.hid (HK1.out.below hb4 HK1.out.lt)
    have HZ4 := Lib.hid (HK2.out.below hb4 HK2.out.lt)
    clear hb4 hc HG HNW HK1 HK2 HB1
    have e0 : w4.cell? ⟨w.heap.size, 0, none⟩ = some (.slice An nn cn) := HK4.out.cell 0
    have e1 : w4.cell? ⟨w.heap.size, 1, none⟩ = some (.slice Af lf cf) := HK4.out.cell 1
    have e2 : w4.cell? ⟨w.heap.size, 2, none⟩ = some (.map (some bo)) := HK4.out.cell 2
    have e3 : w4.cell? ⟨w.heap.size, 3, none⟩ = some (.map (some bi)) := HK4.out.cell 3
    have e4 : w4.cell? ⟨w.heap.size, 4, none⟩ = some (.map (some mb)) := HK4.out.cell 4
    have e5 : w4.cell? ⟨w.heap.size, 5, none⟩ = some (.slice Av nv cv) := HK4.out.cell 5
    have e6 : w4.cell? ⟨w.heap.size, 6, none⟩ = some (.int .i64 cl) := HK4.out.cell 6
    have e7 : w4.cell? ⟨w.heap.size, 7, none⟩ = some (.slice At nt ct) := HK4.out.cell 7
    have fe0 := HK4.out.soft 0
    have fe1 := HK4.out.soft 1
    have fe2 := HK4.out.soft 2
    have fe3 := HK4.out.soft 3
    have fe4 := HK4.out.soft 4
    have fe5 := HK4.out.soft 5
    have fe6 := HK4.out.soft 6
    have fe7 := HK4.out.soft 7
    have HZ4R := Lib.hid (show Blk ((((((((w4.setCell ⟨w.heap.size, 0, none⟩ (.slice none 0 0)).setCell ⟨w.heap.size, 1, none⟩ (.slice none 0 0)).setCell ⟨w.heap.size, 2, none⟩ (.map none)).setCell ⟨w.heap.size, 3, none⟩ (.map none)).setCell ⟨w.heap.size, 4, none⟩ (.map none)).setCell ⟨w.heap.size, 5, none⟩ (.slice none 0 0)).setCell ⟨w.heap.size, 6, none⟩ (.int .i64 0)).setCell ⟨w.heap.size, 7, none⟩ (.slice none 0 0)) (w.heap.size + 1) 114 #[.slice none 0 0, .slice none 0 0, .map none, .map none, .map none, .slice none 0 0, .int .i64 0, .slice none 0 0] from (Blk.far (Blk.far (Blk.far (Blk.far (Blk.far (Blk.far (Blk.far (Blk.far HZ4.out (p := ⟨w.heap.size, 0, none⟩) (by show w.heap.size + 1 ≠ w.heap.size; omega) (.slice none 0 0)) (p := ⟨w.heap.size, 1, none⟩) (by show w.heap.size + 1 ≠ w.heap.size; omega) (.slice none 0 0)) (p := ⟨w.heap.size, 2, none⟩) (by show w.heap.size + 1 ≠ w.heap.size; omega) (.map none)) (p := ⟨w.heap.size, 3, none⟩) (by show w.heap.size + 1 ≠ w.heap.size; omega) (.map none)) (p := ⟨w.heap.size, 4, none⟩) (by show w.heap.size + 1 ≠ w.heap.size; omega) (.map none)) (p := ⟨w.heap.size, 5, none⟩) (by show w.heap.size + 1 ≠ w.heap.size; omega) (.slice none 0 0)) (p := ⟨w.heap.size, 6, none⟩) (by show w.heap.size + 1 ≠ w.heap.size; omega) (.int .i64 0)) (p := ⟨w.heap.size, 7, none⟩) (by show w.heap.size + 1 ≠ w.heap.size; omega) (.slice none 0 0)))
    have HK4R := Lib.hid (show Blk ((((((((w4.setCell ⟨w.heap.size, 0, none⟩ (.slice none 0 0)).setCell ⟨w.heap.size, 1, none⟩ (.slice none 0 0)).setCell ⟨w.heap.size, 2, none⟩ (.map none)).setCell ⟨w.heap.size, 3, none⟩ (.map none)).setCell ⟨w.heap.size, 4, none⟩ (.map none)).setCell ⟨w.heap.size, 5, none⟩ (.slice none 0 0)).setCell ⟨w.heap.size, 6, none⟩ (.int .i64 0)).setCell ⟨w.heap.size, 7, none⟩ (.slice none 0 0)) w.heap.size 114 #[.slice none 0 0, .slice none 0 0, .map none, .map none, .map none, .slice none 0 0, .int .i64 0, .slice none 0 0] from ((((((((HK4.out.put 0 (.slice none 0 0)).put 1 (.slice none 0 0)).put 2 (.map none)).put 3 (.map none)).put 4 (.map none)).put 5 (.slice none 0 0)).put 6 (.int .i64 0)).put 7 (.slice none 0 0)))
    have HB4R := Lib.hid (show Below w.heap.size w ((((((((w4.setCell ⟨w.heap.size, 0, none⟩ (.slice none 0 0)).setCell ⟨w.heap.size, 1, none⟩ (.slice none 0 0)).setCell ⟨w.heap.size, 2, none⟩ (.map none)).setCell ⟨w.heap.size, 3, none⟩ (.map none)).setCell ⟨w.heap.size, 4, none⟩ (.map none)).setCell ⟨w.heap.size, 5, none⟩ (.slice none 0 0)).setCell ⟨w.heap.size, 6, none⟩ (.int .i64 0)).setCell ⟨w.heap.size, 7, none⟩ (.slice none 0 0)) from ((((((((HB4.out.setCell (p := ⟨w.heap.size, 0, none⟩) (by show w.heap.size ≤ w.heap.size; omega) (.slice none 0 0)).setCell (p := ⟨w.heap.size, 1, none⟩) (by show w.heap.size ≤ w.heap.size; omega) (.slice none 0 0)).setCell (p := ⟨w.heap.size, 2, none⟩) (by show w.heap.size ≤ w.heap.size; omega) (.map none)).setCell (p := ⟨w.heap.size, 3, none⟩) (by show w.heap.size ≤ w.heap.size; omega) (.map none)).setCell (p := ⟨w.heap.size, 4, none⟩) (by show w.heap.size ≤ w.heap.size; omega) (.map none)).setCell (p := ⟨w.heap.size, 5, none⟩) (by show w.heap.size ≤ w.heap.size; omega) (.slice none 0 0)).setCell (p := ⟨w.heap.size, 6, none⟩) (by show w.heap.size ≤ w.heap.size; omega) (.int .i64 0)).setCell (p := ⟨w.heap.size, 7, none⟩) (by show w.heap.size ≤ w.heap.size; omega) (.slice none 0 0)))
    have q0 : ((((((((w4.setCell ⟨w.heap.size, 0, none⟩ (.slice none 0 0)).setCell ⟨w.heap.size, 1, none⟩ (.slice none 0 0)).setCell ⟨w.heap.size, 2, none⟩ (.map none)).setCell ⟨w.heap.size, 3, none⟩ (.map none)).setCell ⟨w.heap.size, 4, none⟩ (.map none)).setCell ⟨w.heap.size, 5, none⟩ (.slice none 0 0)).setCell ⟨w.heap.size, 6, none⟩ (.int .i64 0)).setCell ⟨w.heap.size, 7, none⟩ (.slice none 0 0)).cell? ⟨w.heap.size + 1, 0, none⟩ = some (.slice none 0 0) := HZ4R.out.cell 0
    have q1 : ((((((((w4.setCell ⟨w.heap.size, 0, none⟩ (.slice none 0 0)).setCell ⟨w.heap.size, 1, none⟩ (.slice none 0 0)).setCell ⟨w.heap.size, 2, none⟩ (.map none)).setCell ⟨w.heap.size, 3, none⟩ (.map none)).setCell ⟨w.heap.size, 4, none⟩ (.map none)).setCell ⟨w.heap.size, 5, none⟩ (.slice none 0 0)).setCell ⟨w.heap.size, 6, none⟩ (.int .i64 0)).setCell ⟨w.heap.size, 7, none⟩ (.slice none 0 0)).cell? ⟨w.heap.size + 1, 1, none⟩ = some (.slice none 0 0) := HZ4R.out.cell 1
    have q2 : ((((((((w4.setCell ⟨w.heap.size, 0, none⟩ (.slice none 0 0)).setCell ⟨w.heap.size, 1, none⟩ (.slice none 0 0)).setCell ⟨w.heap.size, 2, none⟩ (.map none)).setCell ⟨w.heap.size, 3, none⟩ (.map none)).setCell ⟨w.heap.size, 4, none⟩ (.map none)).setCell ⟨w.heap.size, 5, none⟩ (.slice none 0 0)).setCell ⟨w.heap.size, 6, none⟩ (.int .i64 0)).setCell ⟨w.heap.size, 7, none⟩ (.slice none 0 0)).cell? ⟨w.heap.size + 1, 2, none⟩ = some (.map none) := HZ4R.out.cell 2
    have q3 : ((((((((w4.setCell ⟨w.heap.size, 0, none⟩ (.slice none 0 0)).setCell ⟨w.heap.size, 1, none⟩ (.slice none 0 0)).setCell ⟨w.heap.size, 2, none⟩ (.map none)).setCell ⟨w.heap.size, 3, none⟩ (.map none)).setCell ⟨w.heap.size, 4, none⟩ (.map none)).setCell ⟨w.heap.size, 5, none⟩ (.slice none 0 0)).setCell ⟨w.heap.size, 6, none⟩ (.int .i64 0)).setCell ⟨w.heap.size, 7, none⟩ (.slice none 0 0)).cell? ⟨w.heap.size + 1, 3, none⟩ = some (.map none) := HZ4R.out.cell 3
    have q4 : ((((((((w4.setCell ⟨w.heap.size, 0, none⟩ (.slice none 0 0)).setCell ⟨w.heap.size, 1, none⟩ (.slice none 0 0)).setCell ⟨w.heap.size, 2, none⟩ (.map none)).setCell ⟨w.heap.size, 3, none⟩ (.map none)).setCell ⟨w.heap.size, 4, none⟩ (.map none)).setCell ⟨w.heap.size, 5, none⟩ (.slice none 0 0)).setCell ⟨w.heap.size, 6, none⟩ (.int .i64 0)).setCell ⟨w.heap.size, 7, none⟩ (.slice none 0 0)).cell? ⟨w.heap.size + 1, 4, none⟩ = some (.map none) := HZ4R.out.cell 4
    have q5 : ((((((((w4.setCell ⟨w.heap.size, 0, none⟩ (.slice none 0 0)).setCell ⟨w.heap.size, 1, none⟩ (.slice none 0 0)).setCell ⟨w.heap.size, 2, none⟩ (.map none)).setCell ⟨w.heap.size, 3, none⟩ (.map none)).setCell ⟨w.heap.size, 4, none⟩ (.map none)).setCell ⟨w.heap.size, 5, none⟩ (.slice none 0 0)).setCell ⟨w.heap.size, 6, none⟩ (.int .i64 0)).setCell ⟨w.heap.size, 7, none⟩ (.slice none 0 0)).cell? ⟨w.heap.size + 1, 5, none⟩ = some (.slice none 0 0) := HZ4R.out.cell 5
    have q6 : ((((((((w4.setCell ⟨w.heap.size, 0, none⟩ (.slice none 0 0)).setCell ⟨w.heap.size, 1, none⟩ (.slice none 0 0)).setCell ⟨w.heap.size, 2, none⟩ (.map none)).setCell ⟨w.heap.size, 3, none⟩ (.map none)).setCell ⟨w.heap.size, 4, none⟩ (.map none)).setCell ⟨w.heap.size, 5, none⟩ (.slice none 0 0)).setCell ⟨w.heap.size, 6, none⟩ (.int .i64 0)).setCell ⟨w.heap.size, 7, none⟩ (.slice none 0 0)).cell? ⟨w.heap.size + 1, 6, none⟩ = some (.int .i64 0) := HZ4R.out.cell 6
    have q7 : ((((((((w4.setCell ⟨w.heap.size, 0, none⟩ (.slice none 0 0)).setCell ⟨w.heap.size, 1, none⟩ (.slice none 0 0)).setCell ⟨w.heap.size, 2, none⟩ (.map none)).setCell ⟨w.heap.size, 3, none⟩ (.map none)).setCell ⟨w.heap.size, 4, none⟩ (.map none)).setCell ⟨w.heap.size, 5, none⟩ (.slice none 0 0)).setCell ⟨w.heap.size, 6, none⟩ (.int .i64 0)).setCell ⟨w.heap.size, 7, none⟩ (.slice none 0 0)).cell? ⟨w.heap.size + 1, 7, none⟩ = some (.slice none 0 0) := HZ4R.out.cell 7
    have fq0 := HZ4R.out.soft 0
    have fq1 := HZ4R.out.soft 1
    have fq2 := HZ4R.out.soft 2
    have fq3 := HZ4R.out.soft 3
    have fq4 := HZ4R.out.soft 4
    have fq5 := HZ4R.out.soft 5
    have fq6 := HZ4R.out.soft 6
    have fq7 := HZ4R.out.soft 7
    have hzz := ((((((((HZ4R.out.put 0 (.slice none 0 0)).put 1 (.slice none 0 0)).put 2 (.map none)).put 3 (.map none)).put 4 (.map none)).put 5 (.slice none 0 0)).put 6 (.int .i64 0)).put 7 (.slice none 0 0))
    have z0 := hzz.cell 0
    have z1 := hzz.cell 1
    have z2 := hzz.cell 2
    have z3 := hzz.cell 3
    have z4 := hzz.cell 4
    have z5 := hzz.cell 5
    have z6 := hzz.cell 6
    have z7 := hzz.cell 7
    simp at z0 z1 z2 z3 z4 z5 z6 z7
    have HBZ := Lib.hid ((((((((HB4R.out.setCell (p := ⟨w.heap.size + 1, 0, none⟩) (by show w.heap.size ≤ w.heap.size + 1; omega) (.slice none 0 0)).setCell (p := ⟨w.heap.size + 1, 1, none⟩) (by show w.heap.size ≤ w.heap.size + 1; omega) (.slice none 0 0)).setCell (p := ⟨w.heap.size + 1, 2, none⟩) (by show w.heap.size ≤ w.heap.size + 1; omega) (.map none)).setCell (p := ⟨w.heap.size + 1, 3, none⟩) (by show w.heap.size ≤ w.heap.size + 1; omega) (.map none)).setCell (p := ⟨w.heap.size + 1, 4, none⟩) (by show w.heap.size ≤ w.heap.size + 1; omega) (.map none)).setCell (p := ⟨w.heap.size + 1, 5, none⟩) (by show w.heap.size ≤ w.heap.size + 1; omega) (.slice none 0 0)).setCell (p := ⟨w.heap.size + 1, 6, none⟩) (by show w.heap.size ≤ w.heap.size + 1; omega) (.int .i64 0)).setCell (p := ⟨w.heap.size + 1, 7, none⟩) (by show w.heap.size ≤ w.heap.size + 1; omega) (.slice none 0 0))
    go_wp2
    exact bodyPost_ret (v := .tuple #[.agg #[.slice none 0 0, .slice none 0 0, .map none, .map none, .map none, .slice none 0 0, .int .i64 0, .slice none 0 0], .bool false]) (by simp [results, Tryz.results99, go_sem, z0, z1, z2, z3, z4, z5, z6, z7]) rfl (.inl ⟨HSS.out, rfl, HBZ.out⟩)
  · have HSS := Lib.hid (show (fireOf ns fs ms (k : Int) vs).bind (settleM ns fs vs 30) = settleM ns fs vs 30 (behindOf x fs ms vs (k : Int)) by rw [fire_some HNW.out.vp HNW.out.vm HG.out HVV.out hc]; rfl)
    have HB4 := Lib.hid (up HB1.out hb4)
    have HK4 := Lib.hid (HK1.out.below hb4 HK1.out.lt)
    have HZ4 := Lib.hid (HK2.out.below hb4 HK2.out.lt)
    have HM4 := Lib.hid hn4.cm
    have HV4 := Lib.hid hn4.vm
    have hm14 := hn4.mm
    clear hb4 hc hn4 HG HNW HK1 HK2 HB1
    have hr0 : mb2 ≠ w.heap.size := imap_ne HM4.out HK4.out
    have e0 : w4.cell? ⟨w.heap.size, 0, none⟩ = some (.slice An nn cn) := HK4.out.cell 0
    have e1 : w4.cell? ⟨w.heap.size, 1, none⟩ = some (.slice Af lf cf) := HK4.out.cell 1
    have e2 : w4.cell? ⟨w.heap.size, 2, none⟩ = some (.map (some bo)) := HK4.out.cell 2
    have e3 : w4.cell? ⟨w.heap.size, 3, none⟩ = some (.map (some bi)) := HK4.out.cell 3
    have e4 : w4.cell? ⟨w.heap.size, 4, none⟩ = some (.map (some mb)) := HK4.out.cell 4
    have e5 : w4.cell? ⟨w.heap.size, 5, none⟩ = some (.slice Av nv cv) := HK4.out.cell 5
    have e6 : w4.cell? ⟨w.heap.size, 6, none⟩ = some (.int .i64 cl) := HK4.out.cell 6
    have e7 : w4.cell? ⟨w.heap.size, 7, none⟩ = some (.slice At nt ct) := HK4.out.cell 7
    have fe0 := HK4.out.soft 0
    have fe1 := HK4.out.soft 1
    have fe2 := HK4.out.soft 2
    have fe3 := HK4.out.soft 3
    have fe4 := HK4.out.soft 4
    have fe5 := HK4.out.soft 5
    have fe6 := HK4.out.soft 6
    have fe7 := HK4.out.soft 7
    have HZ4R := Lib.hid (show Blk ((((((((w4.setCell ⟨w.heap.size, 0, none⟩ (.slice An nn cn)).setCell ⟨w.heap.size, 1, none⟩ (.slice Af lf cf)).setCell ⟨w.heap.size, 2, none⟩ (.map (some bo))).setCell ⟨w.heap.size, 3, none⟩ (.map (some bi))).setCell ⟨w.heap.size, 4, none⟩ (.map (some mb2))).setCell ⟨w.heap.size, 5, none⟩ (.slice Av nv cv)).setCell ⟨w.heap.size, 6, none⟩ (.int .i64 cl)).setCell ⟨w.heap.size, 7, none⟩ (.slice At nt ct)) (w.heap.size + 1) 114 #[.slice none 0 0, .slice none 0 0, .map none, .map none, .map none, .slice none 0 0, .int .i64 0, .slice none 0 0] from (Blk.far (Blk.far (Blk.far (Blk.far (Blk.far (Blk.far (Blk.far (Blk.far HZ4.out (p := ⟨w.heap.size, 0, none⟩) (by show w.heap.size + 1 ≠ w.heap.size; omega) (.slice An nn cn)) (p := ⟨w.heap.size, 1, none⟩) (by show w.heap.size + 1 ≠ w.heap.size; omega) (.slice Af lf cf)) (p := ⟨w.heap.size, 2, none⟩) (by show w.heap.size + 1 ≠ w.heap.size; omega) (.map (some bo))) (p := ⟨w.heap.size, 3, none⟩) (by show w.heap.size + 1 ≠ w.heap.size; omega) (.map (some bi))) (p := ⟨w.heap.size, 4, none⟩) (by show w.heap.size + 1 ≠ w.heap.size; omega) (.map (some mb2))) (p := ⟨w.heap.size, 5, none⟩) (by show w.heap.size + 1 ≠ w.heap.size; omega) (.slice Av nv cv)) (p := ⟨w.heap.size, 6, none⟩) (by show w.heap.size + 1 ≠ w.heap.size; omega) (.int .i64 cl)) (p := ⟨w.heap.size, 7, none⟩) (by show w.heap.size + 1 ≠ w.heap.size; omega) (.slice At nt ct)))
    have HK4R := Lib.hid (show Blk ((((((((w4.setCell ⟨w.heap.size, 0, none⟩ (.slice An nn cn)).setCell ⟨w.heap.size, 1, none⟩ (.slice Af lf cf)).setCell ⟨w.heap.size, 2, none⟩ (.map (some bo))).setCell ⟨w.heap.size, 3, none⟩ (.map (some bi))).setCell ⟨w.heap.size, 4, none⟩ (.map (some mb2))).setCell ⟨w.heap.size, 5, none⟩ (.slice Av nv cv)).setCell ⟨w.heap.size, 6, none⟩ (.int .i64 cl)).setCell ⟨w.heap.size, 7, none⟩ (.slice At nt ct)) w.heap.size 114 #[.slice An nn cn, .slice Af lf cf, .map (some bo), .map (some bi), .map (some mb2), .slice Av nv cv, .int .i64 cl, .slice At nt ct] from ((((((((HK4.out.put 0 (.slice An nn cn)).put 1 (.slice Af lf cf)).put 2 (.map (some bo))).put 3 (.map (some bi))).put 4 (.map (some mb2))).put 5 (.slice Av nv cv)).put 6 (.int .i64 cl)).put 7 (.slice At nt ct)))
    have HB4R := Lib.hid (show Below w.heap.size w ((((((((w4.setCell ⟨w.heap.size, 0, none⟩ (.slice An nn cn)).setCell ⟨w.heap.size, 1, none⟩ (.slice Af lf cf)).setCell ⟨w.heap.size, 2, none⟩ (.map (some bo))).setCell ⟨w.heap.size, 3, none⟩ (.map (some bi))).setCell ⟨w.heap.size, 4, none⟩ (.map (some mb2))).setCell ⟨w.heap.size, 5, none⟩ (.slice Av nv cv)).setCell ⟨w.heap.size, 6, none⟩ (.int .i64 cl)).setCell ⟨w.heap.size, 7, none⟩ (.slice At nt ct)) from ((((((((HB4.out.setCell (p := ⟨w.heap.size, 0, none⟩) (by show w.heap.size ≤ w.heap.size; omega) (.slice An nn cn)).setCell (p := ⟨w.heap.size, 1, none⟩) (by show w.heap.size ≤ w.heap.size; omega) (.slice Af lf cf)).setCell (p := ⟨w.heap.size, 2, none⟩) (by show w.heap.size ≤ w.heap.size; omega) (.map (some bo))).setCell (p := ⟨w.heap.size, 3, none⟩) (by show w.heap.size ≤ w.heap.size; omega) (.map (some bi))).setCell (p := ⟨w.heap.size, 4, none⟩) (by show w.heap.size ≤ w.heap.size; omega) (.map (some mb2))).setCell (p := ⟨w.heap.size, 5, none⟩) (by show w.heap.size ≤ w.heap.size; omega) (.slice Av nv cv)).setCell (p := ⟨w.heap.size, 6, none⟩) (by show w.heap.size ≤ w.heap.size; omega) (.int .i64 cl)).setCell (p := ⟨w.heap.size, 7, none⟩) (by show w.heap.size ≤ w.heap.size; omega) (.slice At nt ct)))
    have hfe := HK4R.out.soft
    have HN5 := Lib.hid (HN0.out.at HB4R.out (HM4.out.lift fun _ h => imap_eight (c := w.heap.size) h hr0 : MkM Tryz.prog 3 ((((((((w4.setCell ⟨w.heap.size, 0, none⟩ (.slice An nn cn)).setCell ⟨w.heap.size, 1, none⟩ (.slice Af lf cf)).setCell ⟨w.heap.size, 2, none⟩ (.map (some bo))).setCell ⟨w.heap.size, 3, none⟩ (.map (some bi))).setCell ⟨w.heap.size, 4, none⟩ (.map (some mb2))).setCell ⟨w.heap.size, 5, none⟩ (.slice Av nv cv)).setCell ⟨w.heap.size, 6, none⟩ (.int .i64 cl)).setCell ⟨w.heap.size, 7, none⟩ (.slice At nt ct)) mb2 m2 (markAt (behindOf x fs ms vs (k : Int)))) hm14 HV4.out)
    have HSE := Lib.hid (settled_any An nn cn ns Af lf cf fs bo bi mb2 m2 (behindOf x fs ms vs (k : Int)) Av nv cv vs cl At nt ct ts (((((((((w4.setCell ⟨w.heap.size, 0, none⟩ (.slice An nn cn)).setCell ⟨w.heap.size, 1, none⟩ (.slice Af lf cf)).setCell ⟨w.heap.size, 2, none⟩ (.map (some bo))).setCell ⟨w.heap.size, 3, none⟩ (.map (some bi))).setCell ⟨w.heap.size, 4, none⟩ (.map (some mb2))).setCell ⟨w.heap.size, 5, none⟩ (.slice Av nv cv)).setCell ⟨w.heap.size, 6, none⟩ (.int .i64 cl)).setCell ⟨w.heap.size, 7, none⟩ (.slice At nt ct))) HN5.out hnn hlf (rd_up HV0.out HB4R.out) HVV.out (rd_up HT0.out HB4R.out) hnt H64.out HHN.out HCL.out)
    clear hfe
    have g0 : ((((((((w4.setCell ⟨w.heap.size, 0, none⟩ (.slice An nn cn)).setCell ⟨w.heap.size, 1, none⟩ (.slice Af lf cf)).setCell ⟨w.heap.size, 2, none⟩ (.map (some bo))).setCell ⟨w.heap.size, 3, none⟩ (.map (some bi))).setCell ⟨w.heap.size, 4, none⟩ (.map (some mb2))).setCell ⟨w.heap.size, 5, none⟩ (.slice Av nv cv)).setCell ⟨w.heap.size, 6, none⟩ (.int .i64 cl)).setCell ⟨w.heap.size, 7, none⟩ (.slice At nt ct)).cell? ⟨w.heap.size, 0, none⟩ = some (.slice An nn cn) := HK4R.out.cell 0
    have g1 : ((((((((w4.setCell ⟨w.heap.size, 0, none⟩ (.slice An nn cn)).setCell ⟨w.heap.size, 1, none⟩ (.slice Af lf cf)).setCell ⟨w.heap.size, 2, none⟩ (.map (some bo))).setCell ⟨w.heap.size, 3, none⟩ (.map (some bi))).setCell ⟨w.heap.size, 4, none⟩ (.map (some mb2))).setCell ⟨w.heap.size, 5, none⟩ (.slice Av nv cv)).setCell ⟨w.heap.size, 6, none⟩ (.int .i64 cl)).setCell ⟨w.heap.size, 7, none⟩ (.slice At nt ct)).cell? ⟨w.heap.size, 1, none⟩ = some (.slice Af lf cf) := HK4R.out.cell 1
    have g2 : ((((((((w4.setCell ⟨w.heap.size, 0, none⟩ (.slice An nn cn)).setCell ⟨w.heap.size, 1, none⟩ (.slice Af lf cf)).setCell ⟨w.heap.size, 2, none⟩ (.map (some bo))).setCell ⟨w.heap.size, 3, none⟩ (.map (some bi))).setCell ⟨w.heap.size, 4, none⟩ (.map (some mb2))).setCell ⟨w.heap.size, 5, none⟩ (.slice Av nv cv)).setCell ⟨w.heap.size, 6, none⟩ (.int .i64 cl)).setCell ⟨w.heap.size, 7, none⟩ (.slice At nt ct)).cell? ⟨w.heap.size, 2, none⟩ = some (.map (some bo)) := HK4R.out.cell 2
    have g3 : ((((((((w4.setCell ⟨w.heap.size, 0, none⟩ (.slice An nn cn)).setCell ⟨w.heap.size, 1, none⟩ (.slice Af lf cf)).setCell ⟨w.heap.size, 2, none⟩ (.map (some bo))).setCell ⟨w.heap.size, 3, none⟩ (.map (some bi))).setCell ⟨w.heap.size, 4, none⟩ (.map (some mb2))).setCell ⟨w.heap.size, 5, none⟩ (.slice Av nv cv)).setCell ⟨w.heap.size, 6, none⟩ (.int .i64 cl)).setCell ⟨w.heap.size, 7, none⟩ (.slice At nt ct)).cell? ⟨w.heap.size, 3, none⟩ = some (.map (some bi)) := HK4R.out.cell 3
    have g4 : ((((((((w4.setCell ⟨w.heap.size, 0, none⟩ (.slice An nn cn)).setCell ⟨w.heap.size, 1, none⟩ (.slice Af lf cf)).setCell ⟨w.heap.size, 2, none⟩ (.map (some bo))).setCell ⟨w.heap.size, 3, none⟩ (.map (some bi))).setCell ⟨w.heap.size, 4, none⟩ (.map (some mb2))).setCell ⟨w.heap.size, 5, none⟩ (.slice Av nv cv)).setCell ⟨w.heap.size, 6, none⟩ (.int .i64 cl)).setCell ⟨w.heap.size, 7, none⟩ (.slice At nt ct)).cell? ⟨w.heap.size, 4, none⟩ = some (.map (some mb2)) := HK4R.out.cell 4
    have g5 : ((((((((w4.setCell ⟨w.heap.size, 0, none⟩ (.slice An nn cn)).setCell ⟨w.heap.size, 1, none⟩ (.slice Af lf cf)).setCell ⟨w.heap.size, 2, none⟩ (.map (some bo))).setCell ⟨w.heap.size, 3, none⟩ (.map (some bi))).setCell ⟨w.heap.size, 4, none⟩ (.map (some mb2))).setCell ⟨w.heap.size, 5, none⟩ (.slice Av nv cv)).setCell ⟨w.heap.size, 6, none⟩ (.int .i64 cl)).setCell ⟨w.heap.size, 7, none⟩ (.slice At nt ct)).cell? ⟨w.heap.size, 5, none⟩ = some (.slice Av nv cv) := HK4R.out.cell 5
    have g6 : ((((((((w4.setCell ⟨w.heap.size, 0, none⟩ (.slice An nn cn)).setCell ⟨w.heap.size, 1, none⟩ (.slice Af lf cf)).setCell ⟨w.heap.size, 2, none⟩ (.map (some bo))).setCell ⟨w.heap.size, 3, none⟩ (.map (some bi))).setCell ⟨w.heap.size, 4, none⟩ (.map (some mb2))).setCell ⟨w.heap.size, 5, none⟩ (.slice Av nv cv)).setCell ⟨w.heap.size, 6, none⟩ (.int .i64 cl)).setCell ⟨w.heap.size, 7, none⟩ (.slice At nt ct)).cell? ⟨w.heap.size, 6, none⟩ = some (.int .i64 cl) := HK4R.out.cell 6
    have g7 : ((((((((w4.setCell ⟨w.heap.size, 0, none⟩ (.slice An nn cn)).setCell ⟨w.heap.size, 1, none⟩ (.slice Af lf cf)).setCell ⟨w.heap.size, 2, none⟩ (.map (some bo))).setCell ⟨w.heap.size, 3, none⟩ (.map (some bi))).setCell ⟨w.heap.size, 4, none⟩ (.map (some mb2))).setCell ⟨w.heap.size, 5, none⟩ (.slice Av nv cv)).setCell ⟨w.heap.size, 6, none⟩ (.int .i64 cl)).setCell ⟨w.heap.size, 7, none⟩ (.slice At nt ct)).cell? ⟨w.heap.size, 7, none⟩ = some (.slice At nt ct) := HK4R.out.cell 7
    go_wp2_with (fail)
    generalize ((((((((w4.setCell ⟨w.heap.size, 0, none⟩ (.slice An nn cn)).setCell ⟨w.heap.size, 1, none⟩ (.slice Af lf cf)).setCell ⟨w.heap.size, 2, none⟩ (.map (some bo))).setCell ⟨w.heap.size, 3, none⟩ (.map (some bi))).setCell ⟨w.heap.size, 4, none⟩ (.map (some mb2))).setCell ⟨w.heap.size, 5, none⟩ (.slice Av nv cv)).setCell ⟨w.heap.size, 6, none⟩ (.int .i64 cl)).setCell ⟨w.heap.size, 7, none⟩ (.slice At nt ct)) = w5 at *
    (with_reducible refine HSE.out.mono ?_)
    clear HSE e0 e1 e2 e3 e4 e5 e6 e7 fe0 fe1 fe2 fe3 fe4 fe5 fe6 fe7 g0 g1 g2 g3 g4 g5 g6 g7
    rintro e w6 (⟨hno, rfl, hb6⟩ | ⟨ms', mb3, m3, A9, c9, us, hsome, rfl, hn6, hp, hh, hlen, hr, hb6⟩)
    · have HNO := Lib.hid (HSS.out.trans hno)
      have HB6 := Lib.hid (up HB4R.out hb6)
      have HZ6 := Lib.hid (HZ4R.out.below hb6 HZ4R.out.lt)
      clear hb6 hno HSS
      have q0 : w6.cell? ⟨w.heap.size + 1, 0, none⟩ = some (.slice none 0 0) := HZ6.out.cell 0
      have q1 : w6.cell? ⟨w.heap.size + 1, 1, none⟩ = some (.slice none 0 0) := HZ6.out.cell 1
      have q2 : w6.cell? ⟨w.heap.size + 1, 2, none⟩ = some (.map none) := HZ6.out.cell 2
      have q3 : w6.cell? ⟨w.heap.size + 1, 3, none⟩ = some (.map none) := HZ6.out.cell 3
      have q4 : w6.cell? ⟨w.heap.size + 1, 4, none⟩ = some (.map none) := HZ6.out.cell 4
      have q5 : w6.cell? ⟨w.heap.size + 1, 5, none⟩ = some (.slice none 0 0) := HZ6.out.cell 5
      have q6 : w6.cell? ⟨w.heap.size + 1, 6, none⟩ = some (.int .i64 0) := HZ6.out.cell 6
      have q7 : w6.cell? ⟨w.heap.size + 1, 7, none⟩ = some (.slice none 0 0) := HZ6.out.cell 7
      have fq0 := HZ6.out.soft 0
      have fq1 := HZ6.out.soft 1
      have fq2 := HZ6.out.soft 2
      have fq3 := HZ6.out.soft 3
      have fq4 := HZ6.out.soft 4
      have fq5 := HZ6.out.soft 5
      have fq6 := HZ6.out.soft 6
      have fq7 := HZ6.out.soft 7
      have hzz := ((((((((HZ6.out.put 0 (.slice none 0 0)).put 1 (.slice none 0 0)).put 2 (.map none)).put 3 (.map none)).put 4 (.map none)).put 5 (.slice none 0 0)).put 6 (.int .i64 0)).put 7 (.slice none 0 0))
      have z0 := hzz.cell 0
      have z1 := hzz.cell 1
      have z2 := hzz.cell 2
      have z3 := hzz.cell 3
      have z4 := hzz.cell 4
      have z5 := hzz.cell 5
      have z6 := hzz.cell 6
      have z7 := hzz.cell 7
      simp at z0 z1 z2 z3 z4 z5 z6 z7
      have HBZ := Lib.hid ((((((((HB6.out.setCell (p := ⟨w.heap.size + 1, 0, none⟩) (by show w.heap.size ≤ w.heap.size + 1; omega) (.slice none 0 0)).setCell (p := ⟨w.heap.size + 1, 1, none⟩) (by show w.heap.size ≤ w.heap.size + 1; omega) (.slice none 0 0)).setCell (p := ⟨w.heap.size + 1, 2, none⟩) (by show w.heap.size ≤ w.heap.size + 1; omega) (.map none)).setCell (p := ⟨w.heap.size + 1, 3, none⟩) (by show w.heap.size ≤ w.heap.size + 1; omega) (.map none)).setCell (p := ⟨w.heap.size + 1, 4, none⟩) (by show w.heap.size ≤ w.heap.size + 1; omega) (.map none)).setCell (p := ⟨w.heap.size + 1, 5, none⟩) (by show w.heap.size ≤ w.heap.size + 1; omega) (.slice none 0 0)).setCell (p := ⟨w.heap.size + 1, 6, none⟩) (by show w.heap.size ≤ w.heap.size + 1; omega) (.int .i64 0)).setCell (p := ⟨w.heap.size + 1, 7, none⟩) (by show w.heap.size ≤ w.heap.size + 1; omega) (.slice none 0 0))
      go_wp2
      exact bodyPost_ret (v := .tuple #[.agg #[.slice none 0 0, .slice none 0 0, .map none, .map none, .map none, .slice none 0 0, .int .i64 0, .slice none 0 0], .bool false]) (by simp [results, Tryz.results99, go_sem, z0, z1, z2, z3, z4, z5, z6, z7]) rfl (.inl ⟨HNO.out, rfl, HBZ.out⟩)
    · have HYES := Lib.hid (HSS.out.trans hsome)
      have HB6 := Lib.hid (up HB4R.out hb6)
      have HZ6 := Lib.hid (HZ4R.out.below hb6 HZ4R.out.lt)
      have HM6 := Lib.hid hn6.cm
      have HV6 := Lib.hid hn6.vm
      have hm6 := hn6.mm
      have hr6 : mb3 ≠ w.heap.size + 1 := imap_ne HM6.out HZ6.out
      have HP := Lib.hid hp
      have HH := Lib.hid hh
      have HR := Lib.hid hr
      have hzlt : w.heap.size + 1 < w5.heap.size := HZ4R.out.lt
      clear hb6 hsome HSS hp hh hr hn6
      have q0 : w6.cell? ⟨w.heap.size + 1, 0, none⟩ = some (.slice none 0 0) := HZ6.out.cell 0
      have q1 : w6.cell? ⟨w.heap.size + 1, 1, none⟩ = some (.slice none 0 0) := HZ6.out.cell 1
      have q2 : w6.cell? ⟨w.heap.size + 1, 2, none⟩ = some (.map none) := HZ6.out.cell 2
      have q3 : w6.cell? ⟨w.heap.size + 1, 3, none⟩ = some (.map none) := HZ6.out.cell 3
      have q4 : w6.cell? ⟨w.heap.size + 1, 4, none⟩ = some (.map none) := HZ6.out.cell 4
      have q5 : w6.cell? ⟨w.heap.size + 1, 5, none⟩ = some (.slice none 0 0) := HZ6.out.cell 5
      have q6 : w6.cell? ⟨w.heap.size + 1, 6, none⟩ = some (.int .i64 0) := HZ6.out.cell 6
      have q7 : w6.cell? ⟨w.heap.size + 1, 7, none⟩ = some (.slice none 0 0) := HZ6.out.cell 7
      have fq0 := HZ6.out.soft 0
      have fq1 := HZ6.out.soft 1
      have fq2 := HZ6.out.soft 2
      have fq3 := HZ6.out.soft 3
      have fq4 := HZ6.out.soft 4
      have fq5 := HZ6.out.soft 5
      have fq6 := HZ6.out.soft 6
      have fq7 := HZ6.out.soft 7
      have hzz := ((((((((HZ6.out.put 0 (.slice An nn cn)).put 1 (.slice Af lf cf)).put 2 (.map (some bo))).put 3 (.map (some bi))).put 4 (.map (some mb3))).put 5 (.slice Av nv cv)).put 6 (.int .i64 cl)).put 7 (.slice A9 us.length c9))
      have z0 := hzz.cell 0
      have z1 := hzz.cell 1
      have z2 := hzz.cell 2
      have z3 := hzz.cell 3
      have z4 := hzz.cell 4
      have z5 := hzz.cell 5
      have z6 := hzz.cell 6
      have z7 := hzz.cell 7
      simp at z0 z1 z2 z3 z4 z5 z6 z7
      have HBZ := Lib.hid ((((((((HB6.out.setCell (p := ⟨w.heap.size + 1, 0, none⟩) (by show w.heap.size ≤ w.heap.size + 1; omega) (.slice An nn cn)).setCell (p := ⟨w.heap.size + 1, 1, none⟩) (by show w.heap.size ≤ w.heap.size + 1; omega) (.slice Af lf cf)).setCell (p := ⟨w.heap.size + 1, 2, none⟩) (by show w.heap.size ≤ w.heap.size + 1; omega) (.map (some bo))).setCell (p := ⟨w.heap.size + 1, 3, none⟩) (by show w.heap.size ≤ w.heap.size + 1; omega) (.map (some bi))).setCell (p := ⟨w.heap.size + 1, 4, none⟩) (by show w.heap.size ≤ w.heap.size + 1; omega) (.map (some mb3))).setCell (p := ⟨w.heap.size + 1, 5, none⟩) (by show w.heap.size ≤ w.heap.size + 1; omega) (.slice Av nv cv)).setCell (p := ⟨w.heap.size + 1, 6, none⟩) (by show w.heap.size ≤ w.heap.size + 1; omega) (.int .i64 cl)).setCell (p := ⟨w.heap.size + 1, 7, none⟩) (by show w.heap.size ≤ w.heap.size + 1; omega) (.slice A9 us.length c9))
      have HNZ := Lib.hid (HN0.out.at HBZ.out (HM6.out.lift fun _ h => imap_eight (c := w.heap.size + 1) h hr6 : MkM Tryz.prog 3 ((((((((w6.setCell ⟨w.heap.size + 1, 0, none⟩ (.slice An nn cn)).setCell ⟨w.heap.size + 1, 1, none⟩ (.slice Af lf cf)).setCell ⟨w.heap.size + 1, 2, none⟩ (.map (some bo))).setCell ⟨w.heap.size + 1, 3, none⟩ (.map (some bi))).setCell ⟨w.heap.size + 1, 4, none⟩ (.map (some mb3))).setCell ⟨w.heap.size + 1, 5, none⟩ (.slice Av nv cv)).setCell ⟨w.heap.size + 1, 6, none⟩ (.int .i64 cl)).setCell ⟨w.heap.size + 1, 7, none⟩ (.slice A9 us.length c9)) mb3 m3 (markAt ms')) hm6 HV6.out)
      have HRZ := Lib.hid (show Rd ((((((((w6.setCell ⟨w.heap.size + 1, 0, none⟩ (.slice An nn cn)).setCell ⟨w.heap.size + 1, 1, none⟩ (.slice Af lf cf)).setCell ⟨w.heap.size + 1, 2, none⟩ (.map (some bo))).setCell ⟨w.heap.size + 1, 3, none⟩ (.map (some bi))).setCell ⟨w.heap.size + 1, 4, none⟩ (.map (some mb3))).setCell ⟨w.heap.size + 1, 5, none⟩ (.slice Av nv cv)).setCell ⟨w.heap.size + 1, 6, none⟩ (.int .i64 cl)).setCell ⟨w.heap.size + 1, 7, none⟩ (.slice A9 us.length c9)) w.heap.size ((((((((w6.setCell ⟨w.heap.size + 1, 0, none⟩ (.slice An nn cn)).setCell ⟨w.heap.size + 1, 1, none⟩ (.slice Af lf cf)).setCell ⟨w.heap.size + 1, 2, none⟩ (.map (some bo))).setCell ⟨w.heap.size + 1, 3, none⟩ (.map (some bi))).setCell ⟨w.heap.size + 1, 4, none⟩ (.map (some mb3))).setCell ⟨w.heap.size + 1, 5, none⟩ (.slice Av nv cv)).setCell ⟨w.heap.size + 1, 6, none⟩ (.int .i64 cl)).setCell ⟨w.heap.size + 1, 7, none⟩ (.slice A9 us.length c9)).heap.size 2 A9 us.length (pvs us) from Rd.wide (Rd.setCell (Rd.setCell (Rd.setCell (Rd.setCell (Rd.setCell (Rd.setCell (Rd.setCell (Rd.setCell HR.out (p := ⟨w.heap.size + 1, 0, none⟩) (.inl (by show w.heap.size + 1 < w5.heap.size; omega)) (.slice An nn cn)) (p := ⟨w.heap.size + 1, 1, none⟩) (.inl (by show w.heap.size + 1 < w5.heap.size; omega)) (.slice Af lf cf)) (p := ⟨w.heap.size + 1, 2, none⟩) (.inl (by show w.heap.size + 1 < w5.heap.size; omega)) (.map (some bo))) (p := ⟨w.heap.size + 1, 3, none⟩) (.inl (by show w.heap.size + 1 < w5.heap.size; omega)) (.map (some bi))) (p := ⟨w.heap.size + 1, 4, none⟩) (.inl (by show w.heap.size + 1 < w5.heap.size; omega)) (.map (some mb3))) (p := ⟨w.heap.size + 1, 5, none⟩) (.inl (by show w.heap.size + 1 < w5.heap.size; omega)) (.slice Av nv cv)) (p := ⟨w.heap.size + 1, 6, none⟩) (.inl (by show w.heap.size + 1 < w5.heap.size; omega)) (.int .i64 cl)) (p := ⟨w.heap.size + 1, 7, none⟩) (.inl (by show w.heap.size + 1 < w5.heap.size; omega)) (.slice A9 us.length c9)) (by omega) (by simp))
      clear hzz
      go_wp2
      exact bodyPost_ret (v := .tuple #[.agg #[.slice An nn cn, .slice Af lf cf, .map (some bo), .map (some bi), .map (some mb3), .slice Av nv cv, .int .i64 cl, .slice A9 us.length c9], .bool true]) (by simp [results, Tryz.results99, go_sem, z0, z1, z2, z3, z4, z5, z6, z7]) rfl (.inr ⟨ms', mb3, m3, A9, c9, us, HYES.out, rfl, HNZ.out, HP.out, HH.out, hlen, HRZ.out, HBZ.out⟩)
end Go.Proofs.YtknphikoikdcjaaGreat
