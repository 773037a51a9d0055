/- Merged: RunI, RunJ. -/
import Derived.Test.YtknphikoikdcjaaGreatRunAA
import Derived.Test.YtknphikoikdcjaaGreatRunBB
import Derived.Test.YtknphikoikdcjaaGreatTimB
import Derived.Test.YtknphikoikdcjaaGreatInstMathA
/- (running).fired. -/
set_option linter.unusedSimpArgs false
set_option linter.unusedVariables false
namespace Go.Proofs.YtknphikoikdcjaaGreat
open Go.RowKit Go.Maps

theorem canFire_all {x : Int} {fs : List Flw} {ms vs : List Int} {node : Int} (h : canFire x fs ms vs node = true) : (behindOf x fs ms vs node).all (fun m => inR m 0 3) = true := by
  cases h1 : readyB x ms (flOf fs false node) with
  | false => rw [canFire_ready h1] at h; cases h
  | true =>
    cases h2 : (!(x == 5 && decide (chooseR fs vs (flOf fs true node) (-1) < 0))) with
    | false => rw [canFire_puts h2] at h; cases h
    | true => rw [canFire_rest h1 h2] at h; exact h
theorem behind_marks {x : Int} {fs : List Flw} {ms vs : List Int} {node : Int} (hM : vMarks fs ms = true) (h : canFire x fs ms vs node = true) : vMarks fs (behindOf x fs ms vs node) = true := by
  unfold vMarks
  rw [canFire_all h, behind_len, vMarks_lenR hM]
  simp
theorem imap_setsI {P : Program} {kt : TypeId} {w : World} {b n a c : Nat} {g : Int → Option Value} {v u0 u1 u2 u3 u4 u5 u6 u7 : Value} (h : IMap P kt w b n g) (h1 : b ≠ a) (h2 : b ≠ c) :
    IMap P kt (((((((((w.setCell ⟨a, 4, none⟩ v).setCell ⟨c, 0, none⟩ (u0)).setCell ⟨c, 1, none⟩ (u1)).setCell ⟨c, 2, none⟩ (u2)).setCell ⟨c, 3, none⟩ (u3)).setCell ⟨c, 4, none⟩ (u4)).setCell ⟨c, 5, none⟩ (u5)).setCell ⟨c, 6, none⟩ (u6)).setCell ⟨c, 7, none⟩ (u7)) b n g := by
  have k0 := imap_set h (p := ⟨a, 4, none⟩) h1 v
  have k1 := imap_set k0 (p := ⟨c, 0, none⟩) h2 u0
  have k2 := imap_set k1 (p := ⟨c, 1, none⟩) h2 u1
  have k3 := imap_set k2 (p := ⟨c, 2, none⟩) h2 u2
  have k4 := imap_set k3 (p := ⟨c, 3, none⟩) h2 u3
  have k5 := imap_set k4 (p := ⟨c, 4, none⟩) h2 u4
  have k6 := imap_set k5 (p := ⟨c, 5, none⟩) h2 u5
  have k7 := imap_set k6 (p := ⟨c, 6, none⟩) h2 u6
  have k8 := imap_set k7 (p := ⟨c, 7, none⟩) h2 u7
  exact k8
/-- What fired gives back. -/
def FiredPost (ns : List (Int × Int)) (fs : List Flw) (ms vs : List Int) (x : Int) (k : Nat) (An : Option Addr) (nn cn : Nat) (Af : Option Addr) (lf cf bo bi : Nat) (Av : Option Addr) (nv cv : Nat) (cl : Int) (At : Option Addr) (nt ct : Nat) (w : World) (e : Ending) (w' : World) : Prop :=
  (canFire x fs ms vs (k : Int) = false ∧ e = .returned (.tuple #[.agg #[.slice none 0 0, .slice none 0 0, .map none, .map none, .map none, .slice none 0 0, .int .i64 0, .slice none 0 0], .bool false]) ∧ Below w.heap.size w w') ∨
  (canFire x fs ms vs (k : Int) = true ∧ ∃ mb2 m2, e = .returned (.tuple #[.agg #[.slice An nn cn, .slice Af lf cf, .map (some bo), .map (some bi), .map (some mb2), .slice Av nv cv, .int .i64 cl, .slice At nt ct], .bool true]) ∧ NetM w' ns fs (behindOf x fs ms vs (k : Int)) An nn Af lf bo bi mb2 m2 ∧ w.heap.size ≤ mb2 ∧ Below w.heap.size w w')
set_option maxRecDepth 100000 in
set_option maxHeartbeats 3200000 in
theorem fired_any (An : Option Addr) (nn cn : Nat) (ns : List (Int × Int)) (Af : Option Addr) (lf cf : Nat) (fs : List Flw) (bo bi mb m : Nat) (ms : List Int) (Av : Option Addr) (nv cv : Nat) (vs : List Int) (cl : Int) (At : Option Addr) (nt ct : Nat) (k : Nat) (x y : Int) (w : World) (hN : NetM w ns fs ms An nn Af lf bo bi mb m) (hnn : nn ≤ 1048576) (hlf : lf ≤ 1048576) (h14 : fs.length ≤ 14) (hv : Rd w 0 w.heap.size 1 Av nv (ivs vs)) (hnv : nv ≤ 1048576) (hk : k < nn) (hkx : ns[k]? = some (x, y)) :
    Calls Tryz.prog 153 #[.agg #[.slice An nn cn, .slice Af lf cf, .map (some bo), .map (some bi), .map (some mb), .slice Av nv cv, .int .i64 cl, .slice At nt ct], .int .i64 (k : Int)] w (FiredPost ns fs ms vs x k An nn cn Af lf cf bo bi Av nv cv cl At nt ct w) := by
  have hb1 := up_alloc (up_alloc (Below.refl _ w) (.cells #[.slice An nn cn, .slice Af lf cf, .map (some bo), .map (some bi), .map (some mb), .slice Av nv cv, .int .i64 cl, .slice At nt ct] 114)) (.cells #[.slice none 0 0, .slice none 0 0, .map none, .map none, .map none, .slice none 0 0, .int .i64 0, .slice none 0 0] 114)
  have hk1 := (Blk.new w 114 #[.slice An nn cn, .slice Af lf cf, .map (some bo), .map (some bi), .map (some mb), .slice Av nv cv, .int .i64 cl, .slice At nt ct]).alloc (.cells #[.slice none 0 0, .slice none 0 0, .map none, .map none, .map none, .slice none 0 0, .int .i64 0, .slice none 0 0] 114)
  have hk2 : Blk ((w.alloc (.cells #[.slice An nn cn, .slice Af lf cf, .map (some bo), .map (some bi), .map (some mb), .slice Av nv cv, .int .i64 cl, .slice At nt ct] 114)).alloc (.cells #[.slice none 0 0, .slice none 0 0, .map none, .map none, .map none, .slice none 0 0, .int .i64 0, .slice none 0 0] 114)) (w.heap.size + 1) 114 #[.slice none 0 0, .slice none 0 0, .map none, .map none, .map none, .slice none 0 0, .int .i64 0, .slice none 0 0] := by
    simpa using Blk.new (w.alloc (.cells #[.slice An nn cn, .slice Af lf cf, .map (some bo), .map (some bi), .map (some mb), .slice Av nv cv, .int .i64 cl, .slice At nt ct] 114)) 114 #[.slice none 0 0, .slice none 0 0, .map none, .map none, .map none, .slice none 0 0, .int .i64 0, .slice none 0 0]
  have hN1 := hN.keep hb1
  have hA := after_any An nn cn 0 _ ns 0 _ lf cf bo bi Af fs 0 _ 0 _ mb m ms k 0 _ nv cv Av vs x y _ hN1.nodes (Nat.le_refl _) hN1.flows (Nat.le_refl _) hlf hN1.om (Nat.le_refl _) hN1.im (Nat.le_refl _) hN1.cm (vMarks_lenR hN.vm) h14 hN.mm (vMarks_03 hN.vm) (rd_up hv hb1) (Nat.le_refl _) hnv hk hnn hkx
  have HA := Lib.hid hA
  have HN1 := Lib.hid hN1
  have HB1 := Lib.hid hb1
  have HK1 := Lib.hid hk1
  have HK2 := Lib.hid hk2
  have hs1 := hb1.size
  have hl2 := hk2.lt
  have hN0 := hN
  clear hA hN1 hb1 hk1 hk2 hN hv
  go_enter Tryz.func153, Tryz.ntmps153
  go_wp2_with (fail)
  (with_reducible refine HA.out.mono ?_)
  clear HA
  rintro e w3 (⟨hc, rfl, hb⟩ | ⟨hc, mb2, m2, rfl, hcm, hmb2, hb⟩)
  · have HB3 := Lib.hid (up HB1.out hb)
    have HC := Lib.hid hc
    have HK4 := Lib.hid (HK2.out.below hb hl2)
    clear hc hb HK1 HK2
    have q0 : w3.cell? ⟨w.heap.size + 1, 0, none⟩ = some (.slice none 0 0) := HK4.out.cell 0
    have q1 : w3.cell? ⟨w.heap.size + 1, 1, none⟩ = some (.slice none 0 0) := HK4.out.cell 1
    have q2 : w3.cell? ⟨w.heap.size + 1, 2, none⟩ = some (.map none) := HK4.out.cell 2
    have q3 : w3.cell? ⟨w.heap.size + 1, 3, none⟩ = some (.map none) := HK4.out.cell 3
    have q4 : w3.cell? ⟨w.heap.size + 1, 4, none⟩ = some (.map none) := HK4.out.cell 4
    have q5 : w3.cell? ⟨w.heap.size + 1, 5, none⟩ = some (.slice none 0 0) := HK4.out.cell 5
    have q6 : w3.cell? ⟨w.heap.size + 1, 6, none⟩ = some (.int .i64 0) := HK4.out.cell 6
    have q7 : w3.cell? ⟨w.heap.size + 1, 7, none⟩ = some (.slice none 0 0) := HK4.out.cell 7
    have fq0 := HK4.out.soft 0
    have fq1 := HK4.out.soft 1
    have fq2 := HK4.out.soft 2
    have fq3 := HK4.out.soft 3
    have fq4 := HK4.out.soft 4
    have fq5 := HK4.out.soft 5
    have fq6 := HK4.out.soft 6
    have fq7 := HK4.out.soft 7
    have hzz := ((((((((HK4.out.put 0 (.slice none 0 0)).put 1 (.slice none 0 0)).put 2 (.map none)).put 3 (.map none)).put 4 (.map none)).put 5 (.slice none 0 0)).put 6 (.int .i64 0)).put 7 (.slice none 0 0))
    have z0 := hzz.cell 0
    have z1 := hzz.cell 1
    have z2 := hzz.cell 2
    have z3 := hzz.cell 3
    have z4 := hzz.cell 4
    have z5 := hzz.cell 5
    have z6 := hzz.cell 6
    have z7 := hzz.cell 7
    simp at z0 z1 z2 z3 z4 z5 z6 z7
    have HBZ := Lib.hid ((((((((HB3.out.setCell (p := ⟨w.heap.size + 1, 0, none⟩) (by show w.heap.size ≤ w.heap.size + 1; omega) (.slice none 0 0)).setCell (p := ⟨w.heap.size + 1, 1, none⟩) (by show w.heap.size ≤ w.heap.size + 1; omega) (.slice none 0 0)).setCell (p := ⟨w.heap.size + 1, 2, none⟩) (by show w.heap.size ≤ w.heap.size + 1; omega) (.map none)).setCell (p := ⟨w.heap.size + 1, 3, none⟩) (by show w.heap.size ≤ w.heap.size + 1; omega) (.map none)).setCell (p := ⟨w.heap.size + 1, 4, none⟩) (by show w.heap.size ≤ w.heap.size + 1; omega) (.map none)).setCell (p := ⟨w.heap.size + 1, 5, none⟩) (by show w.heap.size ≤ w.heap.size + 1; omega) (.slice none 0 0)).setCell (p := ⟨w.heap.size + 1, 6, none⟩) (by show w.heap.size ≤ w.heap.size + 1; omega) (.int .i64 0)).setCell (p := ⟨w.heap.size + 1, 7, none⟩) (by show w.heap.size ≤ w.heap.size + 1; omega) (.slice none 0 0))
    clear hzz
    go_wp2
    exact bodyPost_ret (v := .tuple #[.agg #[.slice none 0 0, .slice none 0 0, .map none, .map none, .map none, .slice none 0 0, .int .i64 0, .slice none 0 0], .bool false]) (by simp [results, Tryz.results153, go_sem, z0, z1, z2, z3, z4, z5, z6, z7]) rfl (.inl ⟨HC.out, rfl, HBZ.out⟩)
  · have HB3 := Lib.hid (up HB1.out hb)
    have HC := Lib.hid hc
    have hl1 := HK1.out.lt
    have HK4 := Lib.hid (HK2.out.below hb hl2)
    have HE4 := Lib.hid (HK1.out.below hb hl1)
    have HN3 := Lib.hid (HN1.out.keep hb)
    have hs3 := hb.size
    have hs10 := HB1.out.size
    have hgl : w.heap.size + 1 < w3.heap.size := HK4.out.lt
    have hmg : mb2 ≠ w.heap.size + 1 := by omega
    have hmh : mb2 ≠ w.heap.size := by omega
    have HCM := Lib.hid (hcm.tight Tryz.underlying3 (int_keyed Tryz.underlying3))
    have HM2 := Lib.hid (behind_marks HN3.out.vm hc)
    have HWM := Lib.hid (show w.heap.size ≤ mb2 by omega)
    clear hc hb HK1 HK2 hcm
    have e0 : w3.cell? ⟨w.heap.size, 0, none⟩ = some (.slice An nn cn) := HE4.out.cell 0
    have e1 : w3.cell? ⟨w.heap.size, 1, none⟩ = some (.slice Af lf cf) := HE4.out.cell 1
    have e2 : w3.cell? ⟨w.heap.size, 2, none⟩ = some (.map (some bo)) := HE4.out.cell 2
    have e3 : w3.cell? ⟨w.heap.size, 3, none⟩ = some (.map (some bi)) := HE4.out.cell 3
    have e4 : w3.cell? ⟨w.heap.size, 4, none⟩ = some (.map (some mb)) := HE4.out.cell 4
    have e5 : w3.cell? ⟨w.heap.size, 5, none⟩ = some (.slice Av nv cv) := HE4.out.cell 5
    have e6 : w3.cell? ⟨w.heap.size, 6, none⟩ = some (.int .i64 cl) := HE4.out.cell 6
    have e7 : w3.cell? ⟨w.heap.size, 7, none⟩ = some (.slice At nt ct) := HE4.out.cell 7
    have fe4 := HE4.out.soft 4
    have HK5 := Lib.hid (show Blk (w3.setCell ⟨w.heap.size, 4, none⟩ (.map (some mb2))) (w.heap.size + 1) 114 #[.slice none 0 0, .slice none 0 0, .map none, .map none, .map none, .slice none 0 0, .int .i64 0, .slice none 0 0] from HK4.out.far (p := ⟨w.heap.size, 4, none⟩) (by show w.heap.size + 1 ≠ w.heap.size; omega) _)
    have HE5 := Lib.hid (show Blk (w3.setCell ⟨w.heap.size, 4, none⟩ (.map (some mb2))) w.heap.size 114 #[.slice An nn cn, .slice Af lf cf, .map (some bo), .map (some bi), .map (some mb2), .slice Av nv cv, .int .i64 cl, .slice At nt ct] from HE4.out.put 4 (.map (some mb2)))
    have g0 : (w3.setCell ⟨w.heap.size, 4, none⟩ (.map (some mb2))).cell? ⟨w.heap.size, 0, none⟩ = some (.slice An nn cn) := HE5.out.cell 0
    have g1 : (w3.setCell ⟨w.heap.size, 4, none⟩ (.map (some mb2))).cell? ⟨w.heap.size, 1, none⟩ = some (.slice Af lf cf) := HE5.out.cell 1
    have g2 : (w3.setCell ⟨w.heap.size, 4, none⟩ (.map (some mb2))).cell? ⟨w.heap.size, 2, none⟩ = some (.map (some bo)) := HE5.out.cell 2
    have g3 : (w3.setCell ⟨w.heap.size, 4, none⟩ (.map (some mb2))).cell? ⟨w.heap.size, 3, none⟩ = some (.map (some bi)) := HE5.out.cell 3
    have g4 : (w3.setCell ⟨w.heap.size, 4, none⟩ (.map (some mb2))).cell? ⟨w.heap.size, 4, none⟩ = some (.map (some mb2)) := HE5.out.cell 4
    have g5 : (w3.setCell ⟨w.heap.size, 4, none⟩ (.map (some mb2))).cell? ⟨w.heap.size, 5, none⟩ = some (.slice Av nv cv) := HE5.out.cell 5
    have g6 : (w3.setCell ⟨w.heap.size, 4, none⟩ (.map (some mb2))).cell? ⟨w.heap.size, 6, none⟩ = some (.int .i64 cl) := HE5.out.cell 6
    have g7 : (w3.setCell ⟨w.heap.size, 4, none⟩ (.map (some mb2))).cell? ⟨w.heap.size, 7, none⟩ = some (.slice At nt ct) := HE5.out.cell 7
    have HB4 := Lib.hid (show Below w.heap.size w (w3.setCell ⟨w.heap.size, 4, none⟩ (.map (some mb2))) from HB3.out.setCell (p := ⟨w.heap.size, 4, none⟩) (Nat.le_refl _) (.map (some mb2)))
    have q0 : (w3.setCell ⟨w.heap.size, 4, none⟩ (.map (some mb2))).cell? ⟨w.heap.size + 1, 0, none⟩ = some (.slice none 0 0) := HK5.out.cell 0
    have q1 : (w3.setCell ⟨w.heap.size, 4, none⟩ (.map (some mb2))).cell? ⟨w.heap.size + 1, 1, none⟩ = some (.slice none 0 0) := HK5.out.cell 1
    have q2 : (w3.setCell ⟨w.heap.size, 4, none⟩ (.map (some mb2))).cell? ⟨w.heap.size + 1, 2, none⟩ = some (.map none) := HK5.out.cell 2
    have q3 : (w3.setCell ⟨w.heap.size, 4, none⟩ (.map (some mb2))).cell? ⟨w.heap.size + 1, 3, none⟩ = some (.map none) := HK5.out.cell 3
    have q4 : (w3.setCell ⟨w.heap.size, 4, none⟩ (.map (some mb2))).cell? ⟨w.heap.size + 1, 4, none⟩ = some (.map none) := HK5.out.cell 4
    have q5 : (w3.setCell ⟨w.heap.size, 4, none⟩ (.map (some mb2))).cell? ⟨w.heap.size + 1, 5, none⟩ = some (.slice none 0 0) := HK5.out.cell 5
    have q6 : (w3.setCell ⟨w.heap.size, 4, none⟩ (.map (some mb2))).cell? ⟨w.heap.size + 1, 6, none⟩ = some (.int .i64 0) := HK5.out.cell 6
    have q7 : (w3.setCell ⟨w.heap.size, 4, none⟩ (.map (some mb2))).cell? ⟨w.heap.size + 1, 7, none⟩ = some (.slice none 0 0) := HK5.out.cell 7
    have fq0 := HK5.out.soft 0
    have fq1 := HK5.out.soft 1
    have fq2 := HK5.out.soft 2
    have fq3 := HK5.out.soft 3
    have fq4 := HK5.out.soft 4
    have fq5 := HK5.out.soft 5
    have fq6 := HK5.out.soft 6
    have fq7 := HK5.out.soft 7
    have hzz := ((((((((HK5.out.put 0 (.slice An nn cn)).put 1 (.slice Af lf cf)).put 2 (.map (some bo))).put 3 (.map (some bi))).put 4 (.map (some mb2))).put 5 (.slice Av nv cv)).put 6 (.int .i64 cl)).put 7 (.slice At nt ct))
    have z0 := hzz.cell 0
    have z1 := hzz.cell 1
    have z2 := hzz.cell 2
    have z3 := hzz.cell 3
    have z4 := hzz.cell 4
    have z5 := hzz.cell 5
    have z6 := hzz.cell 6
    have z7 := hzz.cell 7
    simp at z0 z1 z2 z3 z4 z5 z6 z7
    have HBZ := Lib.hid ((((((((HB4.out.setCell (p := ⟨w.heap.size + 1, 0, none⟩) (by show w.heap.size ≤ w.heap.size + 1; omega) (.slice An nn cn)).setCell (p := ⟨w.heap.size + 1, 1, none⟩) (by show w.heap.size ≤ w.heap.size + 1; omega) (.slice Af lf cf)).setCell (p := ⟨w.heap.size + 1, 2, none⟩) (by show w.heap.size ≤ w.heap.size + 1; omega) (.map (some bo))).setCell (p := ⟨w.heap.size + 1, 3, none⟩) (by show w.heap.size ≤ w.heap.size + 1; omega) (.map (some bi))).setCell (p := ⟨w.heap.size + 1, 4, none⟩) (by show w.heap.size ≤ w.heap.size + 1; omega) (.map (some mb2))).setCell (p := ⟨w.heap.size + 1, 5, none⟩) (by show w.heap.size ≤ w.heap.size + 1; omega) (.slice Av nv cv)).setCell (p := ⟨w.heap.size + 1, 6, none⟩) (by show w.heap.size ≤ w.heap.size + 1; omega) (.int .i64 cl)).setCell (p := ⟨w.heap.size + 1, 7, none⟩) (by show w.heap.size ≤ w.heap.size + 1; omega) (.slice At nt ct))
    have hzs : (((((((((w3.setCell ⟨w.heap.size, 4, none⟩ (.map (some mb2))).setCell ⟨w.heap.size + 1, 0, none⟩ (.slice An nn cn)).setCell ⟨w.heap.size + 1, 1, none⟩ (.slice Af lf cf)).setCell ⟨w.heap.size + 1, 2, none⟩ (.map (some bo))).setCell ⟨w.heap.size + 1, 3, none⟩ (.map (some bi))).setCell ⟨w.heap.size + 1, 4, none⟩ (.map (some mb2))).setCell ⟨w.heap.size + 1, 5, none⟩ (.slice Av nv cv)).setCell ⟨w.heap.size + 1, 6, none⟩ (.int .i64 cl)).setCell ⟨w.heap.size + 1, 7, none⟩ (.slice At nt ct)).heap.size = w3.heap.size := by simp
    have HNZ := Lib.hid (show NetM (((((((((w3.setCell ⟨w.heap.size, 4, none⟩ (.map (some mb2))).setCell ⟨w.heap.size + 1, 0, none⟩ (.slice An nn cn)).setCell ⟨w.heap.size + 1, 1, none⟩ (.slice Af lf cf)).setCell ⟨w.heap.size + 1, 2, none⟩ (.map (some bo))).setCell ⟨w.heap.size + 1, 3, none⟩ (.map (some bi))).setCell ⟨w.heap.size + 1, 4, none⟩ (.map (some mb2))).setCell ⟨w.heap.size + 1, 5, none⟩ (.slice Av nv cv)).setCell ⟨w.heap.size + 1, 6, none⟩ (.int .i64 cl)).setCell ⟨w.heap.size + 1, 7, none⟩ (.slice At nt ct)) ns fs (behindOf x fs ms vs (k : Int)) An nn Af lf bo bi mb2 ms.length from ⟨rd_up hN0.nodes HBZ.out, (hN0.flows.keep HBZ.out (Nat.le_refl _)).wide (Nat.le_refl _) HBZ.out.size, (hN0.om.keep HBZ.out (Nat.le_refl _)).wide (Nat.le_refl _) HBZ.out.size, (hN0.im.keep HBZ.out (Nat.le_refl _)).wide (Nat.le_refl _) HBZ.out.size, by
      have h := HCM.out
      rw [behind_len] at h
      exact h.lift fun _ h => imap_setsI h hmh hmg, by rw [vMarks_lenR hN0.vm]; exact h14, hN0.vp, HM2.out⟩)
    clear hzz
    go_wp2
    exact bodyPost_ret (v := .tuple #[.agg #[.slice An nn cn, .slice Af lf cf, .map (some bo), .map (some bi), .map (some mb2), .slice Av nv cv, .int .i64 cl, .slice At nt ct], .bool true]) (by simp [results, Tryz.results153, go_sem, z0, z1, z2, z3, z4, z5, z6, z7]) rfl (.inr ⟨HC.out, mb2, ms.length, rfl, HNZ.out, HWM.out, HBZ.out⟩)
end Go.Proofs.YtknphikoikdcjaaGreat


/- (running).withTimers. (Written by gen/runj.py.) -/
namespace Go.Proofs.YtknphikoikdcjaaGreat
open Go.RowKit Go.Maps

/-- What withTimers gives back. -/
def WithPost (ns : List (Int × Int)) (fs : List Flw) (ms : List Int) (ts : List Tm) (An : Option Addr) (nn cn : Nat) (Af : Option Addr) (lf cf bo bi mb : Nat) (Av : Option Addr) (nv cv : Nat) (cl : Int) (w : World) (e : Ending) (w' : World) : Prop :=
  ∃ A9 c9 us, e = .returned (.agg #[.slice An nn cn, .slice Af lf cf, .map (some bo), .map (some bi), .map (some mb), .slice Av nv cv, .int .i64 cl, .slice A9 us.length c9]) ∧ us.Perm (withUp ns fs ms cl ts nn) ∧ HeapN us us.length ∧ us.length ≤ ts.length + 3 * nn ∧ Rd w' w.heap.size w'.heap.size 2 A9 us.length (pvs us) ∧ Below w.heap.size w w'
set_option maxRecDepth 100000 in
set_option maxHeartbeats 3200000 in
theorem withTimers_any (An : Option Addr) (nn cn : Nat) (ns : List (Int × Int)) (Af : Option Addr) (lf cf : Nat) (fs : List Flw) (bo bi mb m : Nat) (ms : List Int) (Av : Option Addr) (nv cv : Nat) (vs : List Int) (cl : Int) (At : Option Addr) (nt ct : Nat) (ts : List Tm) (w : World) (hN : NetM w ns fs ms An nn Af lf bo bi mb m) (hnn : nn ≤ 10) (ht : Rd w 0 w.heap.size 2 At nt (pvs ts)) (hnt : nt ≤ 1000) (h64 : ∀ t ∈ ts, in64 t.1) (hH : HeapN ts ts.length) (hcl : 0 ≤ cl ∧ cl ≤ 20000) :
    Calls Tryz.prog 152 #[.agg #[.slice An nn cn, .slice Af lf cf, .map (some bo), .map (some bi), .map (some mb), .slice Av nv cv, .int .i64 cl, .slice At nt ct]] w (WithPost ns fs ms ts An nn cn Af lf cf bo bi mb Av nv cv cl w) := by
  have HNW := Lib.hid hN
  have HHN := Lib.hid hH
  have HLT := Lib.hid ht.len2
  have hc1 := hcl.1
  have hc2 := hcl.2
  clear hcl hH
  have hb1 := up_alloc (up_alloc (Below.refl _ w) (.cells #[.slice An nn cn, .slice Af lf cf, .map (some bo), .map (some bi), .map (some mb), .slice Av nv cv, .int .i64 cl, .slice At nt ct] 114)) (.cells #[.slice none 0 0, .slice none 0 0, .map none, .map none, .map none, .slice none 0 0, .int .i64 0, .slice none 0 0] 114)
  have hk1 := (Blk.new w 114 #[.slice An nn cn, .slice Af lf cf, .map (some bo), .map (some bi), .map (some mb), .slice Av nv cv, .int .i64 cl, .slice At nt ct]).alloc (.cells #[.slice none 0 0, .slice none 0 0, .map none, .map none, .map none, .slice none 0 0, .int .i64 0, .slice none 0 0] 114)
  have hk2 : Blk ((w.alloc (.cells #[.slice An nn cn, .slice Af lf cf, .map (some bo), .map (some bi), .map (some mb), .slice Av nv cv, .int .i64 cl, .slice At nt ct] 114)).alloc (.cells #[.slice none 0 0, .slice none 0 0, .map none, .map none, .map none, .slice none 0 0, .int .i64 0, .slice none 0 0] 114)) (w.heap.size + 1) 114 #[.slice none 0 0, .slice none 0 0, .map none, .map none, .map none, .slice none 0 0, .int .i64 0, .slice none 0 0] := by
    simpa using Blk.new (w.alloc (.cells #[.slice An nn cn, .slice Af lf cf, .map (some bo), .map (some bi), .map (some mb), .slice Av nv cv, .int .i64 cl, .slice At nt ct] 114)) 114 #[.slice none 0 0, .slice none 0 0, .map none, .map none, .map none, .slice none 0 0, .int .i64 0, .slice none 0 0]
  have HN1 := Lib.hid (hN.keep hb1)
  have HT1 := Lib.hid (rd_up ht hb1)
  have HCL := Lib.hid (cloneTimers_any 0 _ nt ct At ts _ (rd_up ht hb1) (Nat.le_refl _) (by omega))
  have hs2 : ((w.alloc (.cells #[.slice An nn cn, .slice Af lf cf, .map (some bo), .map (some bi), .map (some mb), .slice Av nv cv, .int .i64 cl, .slice At nt ct] 114)).alloc (.cells #[.slice none 0 0, .slice none 0 0, .map none, .map none, .map none, .slice none 0 0, .int .i64 0, .slice none 0 0] 114)).heap.size = w.heap.size + 1 + 1 := by simp
  have HB1 := Lib.hid hb1
  have HK1 := Lib.hid hk1
  have HK2 := Lib.hid hk2
  have hl1 := hk1.lt
  have hl2 := hk2.lt
  clear hb1 hk1 hk2 hN ht
  go_enter Tryz.func152, Tryz.ntmps152
  go_wp2_with (fail)
  (with_reducible refine HCL.out.mono ?_)
  clear HCL
  rintro e w3 ⟨A3, c3, rfl, ho3, hb3⟩
  have HB3 := Lib.hid (up HB1.out hb3)
  have HN3 := Lib.hid (HN1.out.keep hb3)
  have HT3 := Lib.hid (rd_up HT1.out hb3)
  have HK3 := Lib.hid (HK1.out.below hb3 hl1)
  have HK4 := Lib.hid (HK2.out.below hb3 hl2)
  rw [hs2] at ho3
  have HO3 := Lib.hid ho3
  have hs3 := hb3.size
  have hl3 : w.heap.size < w3.heap.size := HK3.out.lt
  clear hb3 ho3 HN1 HT1 HK1 HK2
  have e0 : w3.cell? ⟨w.heap.size, 0, none⟩ = some (.slice An nn cn) := HK3.out.cell 0
  have e1 : w3.cell? ⟨w.heap.size, 1, none⟩ = some (.slice Af lf cf) := HK3.out.cell 1
  have e2 : w3.cell? ⟨w.heap.size, 2, none⟩ = some (.map (some bo)) := HK3.out.cell 2
  have e3 : w3.cell? ⟨w.heap.size, 3, none⟩ = some (.map (some bi)) := HK3.out.cell 3
  have e4 : w3.cell? ⟨w.heap.size, 4, none⟩ = some (.map (some mb)) := HK3.out.cell 4
  have e5 : w3.cell? ⟨w.heap.size, 5, none⟩ = some (.slice Av nv cv) := HK3.out.cell 5
  have e6 : w3.cell? ⟨w.heap.size, 6, none⟩ = some (.int .i64 cl) := HK3.out.cell 6
  have e7 : w3.cell? ⟨w.heap.size, 7, none⟩ = some (.slice At nt ct) := HK3.out.cell 7
  go_wp2_with (fail)
  have hb4 := up_alloc (Below.refl _ w3) (.cells #[.slice A3 nt c3] 112)
  have HBY := Lib.hid (timersByNode_any An nn cn ns Af lf cf fs bo bi mb m ms Av nv cv cl At nt ct ts _ (rd_up HT3.out hb4) (by omega) h64)
  have HV4 := Lib.hid (show HpV (w3.alloc (.cells #[.slice A3 nt c3] 112)) w3.heap.size 0 (w.heap.size + 1 + 1) (.slice A3 nt c3) nt ts from ⟨(Blk.new w3 112 #[.slice A3 nt c3]).cell 0, (Blk.new w3 112 #[.slice A3 nt c3]).soft 0, own_keep HO3.out hb4, fun e => by have := (HO3.out.lt _ e).2; omega, (Blk.new w3 112 #[.slice A3 nt c3]).lt⟩)
  have HB4 := Lib.hid (up_alloc HB3.out (.cells #[.slice A3 nt c3] 112))
  have HN4 := Lib.hid (HN3.out.keep hb4)
  have HK5 := Lib.hid (HK3.out.below hb4 hl3)
  have HK6 := Lib.hid (HK4.out.below hb4 HK4.out.lt)
  clear hb4 HN3 HO3 HB3 HT3 HK3 HK4
  (with_reducible refine HBY.out.mono ?_)
  clear HBY
  rintro e w5 ⟨hv, rfl, him, hbh, hb5⟩
  have hbp : w3.heap.size < hv := by have : (w3.alloc (.cells #[.slice A3 nt c3] 112)).heap.size = w3.heap.size + 1 := by simp
                                     omega
  have hvb : (Value.slice A3 nt c3).ownBlock ≠ some hv := fun e => by have := (HV4.out.own.lt _ e).2; omega
  have HIM := Lib.hid him
  have HV5 := Lib.hid (HV4.out.below hb5)
  have HN5 := Lib.hid (HN4.out.keep hb5)
  have HB5 := Lib.hid (up HB4.out hb5)
  have HK7 := Lib.hid (HK5.out.below hb5 HK5.out.lt)
  have HK8 := Lib.hid (HK6.out.below hb5 HK6.out.lt)
  clear him hb5 HV4 HN4 HB4 HK5 HK6 e0 e1 e2 e3 e4 e5 e6 e7
  have e0 : w5.cell? ⟨w.heap.size, 0, none⟩ = some (.slice An nn cn) := HK7.out.cell 0
  have e1 : w5.cell? ⟨w.heap.size, 1, none⟩ = some (.slice Af lf cf) := HK7.out.cell 1
  have e2 : w5.cell? ⟨w.heap.size, 2, none⟩ = some (.map (some bo)) := HK7.out.cell 2
  have e3 : w5.cell? ⟨w.heap.size, 3, none⟩ = some (.map (some bi)) := HK7.out.cell 3
  have e4 : w5.cell? ⟨w.heap.size, 4, none⟩ = some (.map (some mb)) := HK7.out.cell 4
  have e5 : w5.cell? ⟨w.heap.size, 5, none⟩ = some (.slice Av nv cv) := HK7.out.cell 5
  have e6 : w5.cell? ⟨w.heap.size, 6, none⟩ = some (.int .i64 cl) := HK7.out.cell 6
  have e7 : w5.cell? ⟨w.heap.size, 7, none⟩ = some (.slice At nt ct) := HK7.out.cell 7
  go_wp2_with (fail)
  clear e0 e1 e2 e3 e4 e5 e6 e7
  go_loopw [17] (fun iv wr => ∃ (k : Nat) (us : List Tm) (v : Value), k ≤ nn ∧ iv = .int .i64 k ∧ us.length ≤ nt + 3 * k ∧ v.ownBlock ≠ some hv ∧ Hid (us.Perm (withUp ns fs ms cl ts k)) ∧ Hid (HeapN us us.length) ∧ Hid (HpV wr w3.heap.size 0 (w.heap.size + 1 + 1) v us.length us) ∧ Hid (IMap Tryz.prog 3 wr hv nt (cntAt ts)) ∧ Hid (Below (w.heap.size + 1 + 1) w5 wr))
     (fun iv _ => nn - (intOf iv).toNat)
  case atStart => exact ⟨0, ts, .slice A3 nt c3, by omega, rfl, by rw [HLT.out]; omega, hvb, List.Perm.refl _, HHN.out, by show HpV _ _ _ _ _ ts.length ts; rw [HLT.out]; exact HV5.out, HIM.out, Below.refl _ _⟩
  case round =>
    obtain ⟨k, us, v, hk, rfl, hul, hvb2, HP, HH, HV, HM, HBR⟩ := hrel
    have hsr := HBR.out.size
    have hs5 := HB5.out.size
    have hl8 := HK8.out.lt
    have HBW := Lib.hid (show Below w.heap.size w wr from HB5.out.trans (HBR.out.mono (by omega)))
    have HKR := Lib.hid (HK7.out.below HBR.out (by omega))
    by_cases hlt : k < nn
    · obtain ⟨b, off, x, y, hA, _, _, hg, hc0, hc1'⟩ := (HNW.out.keep HBW.out).nodes.pair hlt
      subst hA
      have HG := Lib.hid hg
      have hzyb : x = 3 → 1 ≤ y ∧ y ≤ 100 := fun h => by
        have := (vProc_node HNW.out.vp hg).1
        subst h
        simpa [vVal, inR_iff] using this
      have HX0 := Lib.hid (kindAt_is hg)
      have HY0 := Lib.hid (valAt_is hg)
      have hb2 := up_alloc (Below.refl _ wr) (.cells #[.int .i64 x, .int .i64 y] 137)
      have HB2 := Lib.hid (HBR.out.trans (hb2.mono (by omega)))
      have HBW2 := Lib.hid (up HBW.out hb2)
      have HK2 := Lib.hid (HKR.out.below hb2 (by omega))
      have HV2 := Lib.hid (Blk.new wr 137 #[.int .i64 x, .int .i64 y])
      have HP2 := Lib.hid (HV.out.below hb2)
      have HM2 := Lib.hid (HM.out.keep hb2 HM.out.lt)
      have hj1 : (k : Int) < (nn : Int) := by omega
      have hj0 : (0 : Int) ≤ (k : Int) := by omega
      have hk64 : in64 (k : Int) := by unfold in64; omega
      have hvq : v.ownBlock ≠ some wr.heap.size := fun e => by have := (HV.out.own.lt _ e).2; omega
      have hqp : wr.heap.size ≠ w3.heap.size := by have := HV.out.pl; omega
      have hqh : hv < wr.heap.size := HM.out.lt
      have hqs : (wr.alloc (.cells #[.int .i64 x, .int .i64 y] 137)).heap.size = wr.heap.size + 1 := by simp
      clear hg hb2 HV HM HKR
      by_cases hx : x = 3
      · subst hx
        obtain ⟨hy1, hy2⟩ := hzyb rfl
        have HW2 := Lib.hid (show withUp ns fs ms cl ts (k + 1) = addN ((k : Int), cl + y) (lackT fs ms ts k) (withUp ns fs ms cl ts k) by rw [withUp, if_pos HX0.out, HY0.out])
        have hlk3 : lackT fs ms ts k ≤ 3 := by unfold lackT; have := (waitAt_bd (fs := fs) (marks_in HNW.out.vm) (k : Int)).2; omega
        have hwr : IntKind.i64.wrap (cl + y) = cl + y := IntWalk.i64_in _ (by omega)
        obtain ⟨wi, hwi⟩ : ∃ wi : World, wi = wr := ⟨_, rfl⟩
        subst hwi
        go_wp2_with (fail)
        generalize wi.alloc (.cells #[.int .i64 3, .int .i64 y] 137) = w4 at *
        have HN4 := Lib.hid (HNW.out.keep HBW2.out)
        have HCW := Lib.hid (show ∀ wx, Below w4.heap.size w4 wx → Calls Tryz.prog 164 #[.agg #[.slice (some ⟨b, off, none⟩) nn cn, .slice Af lf cf, .map (some bo), .map (some bi), .map (some mb), .slice Av nv cv, .int .i64 cl, .slice At nt ct], .int .i64 (k : Int)] wx fun e w' => e = .returned (.int .i64 (waitAt fs ms (k : Int))) ∧ Below w4.heap.size w4 w' from fun wx hb => (waiting_any (some ⟨b, off, none⟩) nn cn ns Af lf cf fs bo bi mb m ms Av nv cv cl At nt ct k 3 y wx (HN4.out.keep hb) HG.out (.inr (.inl rfl)) (by omega)).mono fun e w' h => ⟨h.1, up hb h.2⟩)
        have HSW := Lib.hid (show ∀ wx, Below w4.heap.size w4 wx → ((wx.cell? ⟨w.heap.size, 0, none⟩ = some (.slice (some ⟨b, off, none⟩) nn cn) ∧ wx.cell? ⟨w.heap.size, 1, none⟩ = some (.slice Af lf cf) ∧ wx.cell? ⟨w.heap.size, 2, none⟩ = some (.map (some bo)) ∧ wx.cell? ⟨w.heap.size, 3, none⟩ = some (.map (some bi)) ∧ wx.cell? ⟨w.heap.size, 4, none⟩ = some (.map (some mb)) ∧ wx.cell? ⟨w.heap.size, 5, none⟩ = some (.slice Av nv cv) ∧ wx.cell? ⟨w.heap.size, 6, none⟩ = some (.int .i64 cl) ∧ wx.cell? ⟨w.heap.size, 7, none⟩ = some (.slice At nt ct)) ∧ (Instr.lookup 105 (.map (some hv)) (.int .i64 (k : Int)) false).run Tryz.prog wx = .ok (.int .i64 (tAt ts (k : Int) : Nat)) wx) from fun wx hb => ⟨⟨(HK2.out.below hb HK2.out.lt).cell 0, (HK2.out.below hb HK2.out.lt).cell 1, (HK2.out.below hb HK2.out.lt).cell 2, (HK2.out.below hb HK2.out.lt).cell 3, (HK2.out.below hb HK2.out.lt).cell 4, (HK2.out.below hb HK2.out.lt).cell 5, (HK2.out.below hb HK2.out.lt).cell 6, (HK2.out.below hb HK2.out.lt).cell 7⟩, by
          have := (HM2.out.keep hb HM2.out.lt).look keyedInt Tryz.underlying3 Tryz.underlying105 (zeroIntR wx) hk64 rfl
          rwa [cntAt_get] at this⟩)
        have hta : tAt ts (k : Int) ≤ 1000 := by have : tAt ts (k : Int) ≤ ts.length := List.countP_le_length
                                                 have := HLT.out; omega
        have hwa := waitAt_bd (fs := fs) (marks_in HNW.out.vm) (k : Int)
        have hwa1 := hwa.1
        have hwa2 := hwa.2
        have hL : lackT fs ms ts k = (waitAt fs ms (k : Int) - tAt ts (k : Int)).toNat := rfl
        clear hwa
        generalize lackT fs ms ts k = L at *
        generalize waitAt fs ms (k : Int) = wa at *
        generalize tAt ts (k : Int) = ta at *
        have hsub : IntKind.i64.wrap (wa - (ta : Int)) = wa - (ta : Int) := IntWalk.i64_in _ (by omega)
        obtain ⟨⟨e0, e1, e2, e3, e4, e5, e6, e7⟩, l0⟩ := HSW.out _ (Below.refl _ _)
        clear e0 e1 e2 e3 e4 e5 e6 e7 l0
        go_region_held3 (fun wx => (wx.cell? ⟨w.heap.size, 0, none⟩ = some (.slice (some ⟨b, off, none⟩) nn cn) ∧ wx.cell? ⟨w.heap.size, 1, none⟩ = some (.slice Af lf cf) ∧ wx.cell? ⟨w.heap.size, 2, none⟩ = some (.map (some bo)) ∧ wx.cell? ⟨w.heap.size, 3, none⟩ = some (.map (some bi)) ∧ wx.cell? ⟨w.heap.size, 4, none⟩ = some (.map (some mb)) ∧ wx.cell? ⟨w.heap.size, 5, none⟩ = some (.slice Av nv cv) ∧ wx.cell? ⟨w.heap.size, 6, none⟩ = some (.int .i64 cl) ∧ wx.cell? ⟨w.heap.size, 7, none⟩ = some (.slice At nt ct)) ∧ (Instr.lookup 105 (.map (some hv)) (.int .i64 (k : Int)) false).run Tryz.prog wx = .ok (.int .i64 (ta : Nat)) wx)
          (first | with_reducible exact HSW.out _ (Below.refl _ _) | with_reducible exact HSW.out _ (up_drew (Below.refl _ _)) | with_reducible exact HSW.out _ HX1.out)
          ((first
            | (go_at_call 164; (with_reducible refine (HCW.out _ (up_drew (Below.refl _ _))).mono ?_); rintro e x1 ⟨rfl, hbx⟩; have HX1 := Lib.hid hbx; clear hbx)
            | (go_at_call 164; (with_reducible refine (HCW.out _ (Below.refl _ _)).mono ?_); rintro e x1 ⟨rfl, hbx⟩; have HX1 := Lib.hid hbx; clear hbx)
            | fail "no arm"))
        all_goals
          have HB5 := Lib.hid (HB2.out.trans (HX1.out.mono (by have := HB2.out.size; omega)))
          have HV5 := Lib.hid (HV2.out.below HX1.out HV2.out.lt)
          have HP5 := Lib.hid (HP2.out.below HX1.out)
          have HM5 := Lib.hid (HM2.out.keep HX1.out HM2.out.lt)
          clear HSW HCW HX1 HB2 HV2 HP2 HM2 HBW2 HK2 HN4
          go_wp2_with (fail)
          go_loopw [32] (fun iv wq => ∃ (i : Nat) (us2 : List Tm) (v2 : Value), i ≤ L ∧ iv = .int .i64 i ∧ us2.length = us.length + i ∧ v2.ownBlock ≠ some hv ∧ v2.ownBlock ≠ some wi.heap.size ∧ Hid (us2.Perm (addN ((k : Int), cl + y) i (withUp ns fs ms cl ts k))) ∧ Hid (HeapN us2 us2.length) ∧ Hid (HpV wq w3.heap.size 0 (w.heap.size + 1 + 1) v2 us2.length us2) ∧ Hid (IMap Tryz.prog 3 wq hv nt (cntAt ts)) ∧ Hid (Below (w.heap.size + 1 + 1) w5 wq) ∧ Hid (Blk wq wi.heap.size 137 #[.int .i64 3, .int .i64 y]))
             (fun iv _ => L - (intOf iv).toNat)
          case atStart => exact ⟨0, us, v, by omega, rfl, by omega, hvb2, hvq, HP, HH, HP5.out, HM5.out, HB5.out, HV5.out⟩
          case round =>
            clear HB5 HV5 HP5 HM5
            obtain ⟨i, us2, v2, hi, rfl, hul2, hvb3, hvq3, HPi, HHi, HVi, HMi, HBi, HNi⟩ := hrel
            have hsi := HBi.out.size
            have HBWi := Lib.hid (show Below w.heap.size w wr from HB5.out.trans (HBi.out.mono (by omega)))
            have HKi := Lib.hid (HK7.out.below HBi.out (by omega))
            by_cases hil : i < L
            · have g1 : (i : Int) < wa - (ta : Int) := by omega
              have c6 : wr.cell? ⟨w.heap.size, 6, none⟩ = some (.int .i64 cl) := HKi.out.cell 6
              have n1 : wr.cell? ⟨wi.heap.size, 1, none⟩ = some (.int .i64 y) := HNi.out.cell 1
              go_wp2_with (fail)
              (with_reducible refine (heapPushV_any w3.heap.size 0 (w.heap.size + 1 + 1) us2.length (w.heap.size + 1 + 1) v2 us2 (k : Int) (cl + y) wr HVi.out (by omega) (Nat.le_refl _) (by omega) (by omega) HHi.out).mono ?_)
              rintro e w6 ⟨rfl, g6, c6', us3, hp3, hh3, hm3, hb3, hk3⟩
              clear c6 n1
              have hl3 : us3.length = us2.length + 1 := by rw [hp3.length_eq]; simp
              have HP6 := Lib.hid (push_perm hp3 HPi.out)
              have HH6 := Lib.hid hh3
              have HV6 := Lib.hid (show HpV w6 w3.heap.size 0 (w.heap.size + 1 + 1) (.slice (some ⟨g6, 0, none⟩) (us2.length + 1) c6') us3.length us3 by rw [hl3]; exact hm3.v)
              have hq1 := hk3 hv HMi.out.lt (by omega) hvb3
              have hq2 := hk3 wi.heap.size HNi.out.lt hqp hvq3
              have HM6 := Lib.hid (HMi.out.same hq1.1)
              have HN6 := Lib.hid (show Blk w6 wi.heap.size 137 #[.int .i64 3, .int .i64 y] from hq2.1.trans HNi.out)
              have HB6 := Lib.hid (HBi.out.trans hb3)
              have hg1 : (Value.slice (some ⟨g6, 0, none⟩) (us2.length + 1) c6').ownBlock ≠ some hv := fun e => hq1.2 (by simp only [Value.ownBlock, Option.some.injEq] at e; exact e.symm)
              have hg2 : (Value.slice (some ⟨g6, 0, none⟩) (us2.length + 1) c6').ownBlock ≠ some wi.heap.size := fun e => hq2.2 (by simp only [Value.ownBlock, Option.some.injEq] at e; exact e.symm)
              clear hp3 hh3 hm3 hb3 hk3 hq1 hq2 HPi HHi HVi HMi HBi HNi HKi HBWi
              go_wp2
              go_roundw
              case rel => exact ⟨i + 1, us3, _, by omega, by go_num, by omega, hg1, hg2, HP6, HH6, HV6, HM6, HB6, HN6⟩
              case measure => simp [intOf]; omega
            · obtain rfl : i = L := by omega
              have g1 : ¬ ((i : Int) < wa - (ta : Int)) := by omega
              have HP6 := Lib.hid (show us2.Perm (withUp ns fs ms cl ts (k + 1)) by rw [HW2.out]; exact HPi.out)
              go_wp2
              go_roundw
              case rel => exact ⟨k + 1, us2, v2, by omega, by go_num, by omega, hvb3, HP6, HHi, HVi, HMi, HBi⟩
              case measure => simp [intOf]; omega
      · have HW2 := Lib.hid (show withUp ns fs ms cl ts (k + 1) = withUp ns fs ms cl ts k by rw [withUp, if_neg (by rw [HX0.out]; exact hx)])
        have dx : (x == 3) = false := by simpa using hx
        clear hx hzyb
        go_wp2
        go_roundw
        case rel => exact ⟨k + 1, us, v, by omega, by go_num, by omega, hvb2, by rw [HW2.out]; exact HP, HH, HP2, HM2, HB2⟩
        case measure => simp [intOf]; omega
    · obtain rfl : k = nn := by omega
      obtain ⟨A9, c9, hv9, _⟩ := own_form HV.out.own
      subst hv9
      have HO := Lib.hid HV.out.own
      have HKZ := Lib.hid (HK8.out.below HBR.out (by omega))
      have c0 := HV.out.cell
      have e7 : wr.cell? ⟨w.heap.size, 7, none⟩ = some (.slice At nt ct) := HKR.out.cell 7
      have f7 := HKR.out.soft 7
      have HE5 := Lib.hid (show Blk (wr.setCell ⟨w.heap.size, 7, none⟩ (.slice A9 us.length c9)) w.heap.size 114 #[.slice An k cn, .slice Af lf cf, .map (some bo), .map (some bi), .map (some mb), .slice Av nv cv, .int .i64 cl, .slice A9 us.length c9] from HKR.out.put 7 (.slice A9 us.length c9))
      have HK5 := Lib.hid (show Blk (wr.setCell ⟨w.heap.size, 7, none⟩ (.slice A9 us.length c9)) (w.heap.size + 1) 114 #[.slice none 0 0, .slice none 0 0, .map none, .map none, .map none, .slice none 0 0, .int .i64 0, .slice none 0 0] from HKZ.out.far (p := ⟨w.heap.size, 7, none⟩) (by show w.heap.size + 1 ≠ w.heap.size; omega) _)
      have HB4 := Lib.hid (show Below w.heap.size w (wr.setCell ⟨w.heap.size, 7, none⟩ (.slice A9 us.length c9)) from HBW.out.setCell (p := ⟨w.heap.size, 7, none⟩) (Nat.le_refl _) (.slice A9 us.length c9))
      have g0 : (wr.setCell ⟨w.heap.size, 7, none⟩ (.slice A9 us.length c9)).cell? ⟨w.heap.size, 0, none⟩ = some (.slice An k cn) := HE5.out.cell 0
      have g1 : (wr.setCell ⟨w.heap.size, 7, none⟩ (.slice A9 us.length c9)).cell? ⟨w.heap.size, 1, none⟩ = some (.slice Af lf cf) := HE5.out.cell 1
      have g2 : (wr.setCell ⟨w.heap.size, 7, none⟩ (.slice A9 us.length c9)).cell? ⟨w.heap.size, 2, none⟩ = some (.map (some bo)) := HE5.out.cell 2
      have g3 : (wr.setCell ⟨w.heap.size, 7, none⟩ (.slice A9 us.length c9)).cell? ⟨w.heap.size, 3, none⟩ = some (.map (some bi)) := HE5.out.cell 3
      have g4 : (wr.setCell ⟨w.heap.size, 7, none⟩ (.slice A9 us.length c9)).cell? ⟨w.heap.size, 4, none⟩ = some (.map (some mb)) := HE5.out.cell 4
      have g5 : (wr.setCell ⟨w.heap.size, 7, none⟩ (.slice A9 us.length c9)).cell? ⟨w.heap.size, 5, none⟩ = some (.slice Av nv cv) := HE5.out.cell 5
      have g6 : (wr.setCell ⟨w.heap.size, 7, none⟩ (.slice A9 us.length c9)).cell? ⟨w.heap.size, 6, none⟩ = some (.int .i64 cl) := HE5.out.cell 6
      have g7 : (wr.setCell ⟨w.heap.size, 7, none⟩ (.slice A9 us.length c9)).cell? ⟨w.heap.size, 7, none⟩ = some (.slice A9 us.length c9) := HE5.out.cell 7
      have q0 : (wr.setCell ⟨w.heap.size, 7, none⟩ (.slice A9 us.length c9)).cell? ⟨w.heap.size + 1, 0, none⟩ = some (.slice none 0 0) := HK5.out.cell 0
      have fq0 := HK5.out.soft 0
      have q1 : (wr.setCell ⟨w.heap.size, 7, none⟩ (.slice A9 us.length c9)).cell? ⟨w.heap.size + 1, 1, none⟩ = some (.slice none 0 0) := HK5.out.cell 1
      have fq1 := HK5.out.soft 1
      have q2 : (wr.setCell ⟨w.heap.size, 7, none⟩ (.slice A9 us.length c9)).cell? ⟨w.heap.size + 1, 2, none⟩ = some (.map none) := HK5.out.cell 2
      have fq2 := HK5.out.soft 2
      have q3 : (wr.setCell ⟨w.heap.size, 7, none⟩ (.slice A9 us.length c9)).cell? ⟨w.heap.size + 1, 3, none⟩ = some (.map none) := HK5.out.cell 3
      have fq3 := HK5.out.soft 3
      have q4 : (wr.setCell ⟨w.heap.size, 7, none⟩ (.slice A9 us.length c9)).cell? ⟨w.heap.size + 1, 4, none⟩ = some (.map none) := HK5.out.cell 4
      have fq4 := HK5.out.soft 4
      have q5 : (wr.setCell ⟨w.heap.size, 7, none⟩ (.slice A9 us.length c9)).cell? ⟨w.heap.size + 1, 5, none⟩ = some (.slice none 0 0) := HK5.out.cell 5
      have fq5 := HK5.out.soft 5
      have q6 : (wr.setCell ⟨w.heap.size, 7, none⟩ (.slice A9 us.length c9)).cell? ⟨w.heap.size + 1, 6, none⟩ = some (.int .i64 0) := HK5.out.cell 6
      have fq6 := HK5.out.soft 6
      have q7 : (wr.setCell ⟨w.heap.size, 7, none⟩ (.slice A9 us.length c9)).cell? ⟨w.heap.size + 1, 7, none⟩ = some (.slice none 0 0) := HK5.out.cell 7
      have fq7 := HK5.out.soft 7
      have hzz := ((((((((HK5.out.put 0 (.slice An k cn)).put 1 (.slice Af lf cf)).put 2 (.map (some bo))).put 3 (.map (some bi))).put 4 (.map (some mb))).put 5 (.slice Av nv cv)).put 6 (.int .i64 cl)).put 7 (.slice A9 us.length c9))
      have z0 := hzz.cell 0
      have z1 := hzz.cell 1
      have z2 := hzz.cell 2
      have z3 := hzz.cell 3
      have z4 := hzz.cell 4
      have z5 := hzz.cell 5
      have z6 := hzz.cell 6
      have z7 := hzz.cell 7
      simp at z0 z1 z2 z3 z4 z5 z6 z7
      have HBZ := Lib.hid ((((((((HB4.out.setCell (p := ⟨w.heap.size + 1, 0, none⟩) (by show w.heap.size ≤ w.heap.size + 1; omega) (.slice An k cn)).setCell (p := ⟨w.heap.size + 1, 1, none⟩) (by show w.heap.size ≤ w.heap.size + 1; omega) (.slice Af lf cf)).setCell (p := ⟨w.heap.size + 1, 2, none⟩) (by show w.heap.size ≤ w.heap.size + 1; omega) (.map (some bo))).setCell (p := ⟨w.heap.size + 1, 3, none⟩) (by show w.heap.size ≤ w.heap.size + 1; omega) (.map (some bi))).setCell (p := ⟨w.heap.size + 1, 4, none⟩) (by show w.heap.size ≤ w.heap.size + 1; omega) (.map (some mb))).setCell (p := ⟨w.heap.size + 1, 5, none⟩) (by show w.heap.size ≤ w.heap.size + 1; omega) (.slice Av nv cv)).setCell (p := ⟨w.heap.size + 1, 6, none⟩) (by show w.heap.size ≤ w.heap.size + 1; omega) (.int .i64 cl)).setCell (p := ⟨w.heap.size + 1, 7, none⟩) (by show w.heap.size ≤ w.heap.size + 1; omega) (.slice A9 us.length c9))
      have hzs : (((((((((wr.setCell ⟨w.heap.size, 7, none⟩ (.slice A9 us.length c9)).setCell ⟨w.heap.size + 1, 0, none⟩ (.slice An k cn)).setCell ⟨w.heap.size + 1, 1, none⟩ (.slice Af lf cf)).setCell ⟨w.heap.size + 1, 2, none⟩ (.map (some bo))).setCell ⟨w.heap.size + 1, 3, none⟩ (.map (some bi))).setCell ⟨w.heap.size + 1, 4, none⟩ (.map (some mb))).setCell ⟨w.heap.size + 1, 5, none⟩ (.slice Av nv cv)).setCell ⟨w.heap.size + 1, 6, none⟩ (.int .i64 cl)).setCell ⟨w.heap.size + 1, 7, none⟩ (.slice A9 us.length c9)).heap.size = wr.heap.size := by simp
      have HRZ := Lib.hid (show Rd (((((((((wr.setCell ⟨w.heap.size, 7, none⟩ (.slice A9 us.length c9)).setCell ⟨w.heap.size + 1, 0, none⟩ (.slice An k cn)).setCell ⟨w.heap.size + 1, 1, none⟩ (.slice Af lf cf)).setCell ⟨w.heap.size + 1, 2, none⟩ (.map (some bo))).setCell ⟨w.heap.size + 1, 3, none⟩ (.map (some bi))).setCell ⟨w.heap.size + 1, 4, none⟩ (.map (some mb))).setCell ⟨w.heap.size + 1, 5, none⟩ (.slice Av nv cv)).setCell ⟨w.heap.size + 1, 6, none⟩ (.int .i64 cl)).setCell ⟨w.heap.size + 1, 7, none⟩ (.slice A9 us.length c9)) w.heap.size (((((((((wr.setCell ⟨w.heap.size, 7, none⟩ (.slice A9 us.length c9)).setCell ⟨w.heap.size + 1, 0, none⟩ (.slice An k cn)).setCell ⟨w.heap.size + 1, 1, none⟩ (.slice Af lf cf)).setCell ⟨w.heap.size + 1, 2, none⟩ (.map (some bo))).setCell ⟨w.heap.size + 1, 3, none⟩ (.map (some bi))).setCell ⟨w.heap.size + 1, 4, none⟩ (.map (some mb))).setCell ⟨w.heap.size + 1, 5, none⟩ (.slice Av nv cv)).setCell ⟨w.heap.size + 1, 6, none⟩ (.int .i64 cl)).setCell ⟨w.heap.size + 1, 7, none⟩ (.slice A9 us.length c9)).heap.size 2 A9 us.length (pvs us) from Rd.wide ((((((((((Rd.of_own HO.out).setCell (p := ⟨w.heap.size, 7, none⟩) (.inl (by show w.heap.size < w.heap.size + 1 + 1; omega)) (.slice A9 us.length c9)).setCell (p := ⟨w.heap.size + 1, 0, none⟩) (.inl (by show w.heap.size + 1 < w.heap.size + 1 + 1; omega)) (.slice An k cn)).setCell (p := ⟨w.heap.size + 1, 1, none⟩) (.inl (by show w.heap.size + 1 < w.heap.size + 1 + 1; omega)) (.slice Af lf cf)).setCell (p := ⟨w.heap.size + 1, 2, none⟩) (.inl (by show w.heap.size + 1 < w.heap.size + 1 + 1; omega)) (.map (some bo))).setCell (p := ⟨w.heap.size + 1, 3, none⟩) (.inl (by show w.heap.size + 1 < w.heap.size + 1 + 1; omega)) (.map (some bi))).setCell (p := ⟨w.heap.size + 1, 4, none⟩) (.inl (by show w.heap.size + 1 < w.heap.size + 1 + 1; omega)) (.map (some mb))).setCell (p := ⟨w.heap.size + 1, 5, none⟩) (.inl (by show w.heap.size + 1 < w.heap.size + 1 + 1; omega)) (.slice Av nv cv)).setCell (p := ⟨w.heap.size + 1, 6, none⟩) (.inl (by show w.heap.size + 1 < w.heap.size + 1 + 1; omega)) (.int .i64 cl)).setCell (p := ⟨w.heap.size + 1, 7, none⟩) (.inl (by show w.heap.size + 1 < w.heap.size + 1 + 1; omega)) (.slice A9 us.length c9)) (by omega) (Nat.le_of_eq hzs.symm))
      have hul9 : us.length ≤ ts.length + 3 * k := by rw [HLT.out]; exact hul
      have hge : ¬ ((k : Int) < (k : Int)) := by omega
      clear hzz hzs
      go_wp2
      exact bodyPost_ret (v := .agg #[.slice An k cn, .slice Af lf cf, .map (some bo), .map (some bi), .map (some mb), .slice Av nv cv, .int .i64 cl, .slice A9 us.length c9]) (by simp [results, Tryz.results152, go_sem, z0, z1, z2, z3, z4, z5, z6, z7]) rfl ⟨A9, c9, us, rfl, HP.out, HH.out, hul9, HRZ.out, HBZ.out⟩
end Go.Proofs.YtknphikoikdcjaaGreat

