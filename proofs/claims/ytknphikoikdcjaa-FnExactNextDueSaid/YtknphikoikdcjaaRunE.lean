/- The program: a valid instance of a valid process, as it runs. (Written by gen/rune.py.) -/
import Derived.Test.YtknphikoikdcjaaRunD
import Derived.Test.YtknphikoikdcjaaTokCountA
import Derived.Test.YtknphikoikdcjaaEvalB
set_option linter.unusedSimpArgs false
set_option linter.unusedVariables false
namespace Go.Proofs.Ytknphikoikdcjaa
open Go.RowKit

theorem Blk.newAtR {w : World} {t : TypeId} {cs : Array Value} {g : Nat} (h : w.heap.size = g) : Blk (w.alloc (.cells cs t)) g t cs := h ▸ Blk.new w t cs
theorem imap_set {P : Program} {kt : TypeId} {w : World} {b n : Nat} {g : Int → Option Value} (h : IMap P kt w b n g) {p : Addr} (hp : b ≠ p.block) (u : Value) : IMap P kt (w.setCell p u) b n g := h.same (Below.heap_setCell w p u b hp)
/-- What runningOf answers. -/
def RunPost (ns : List (Int × Int)) (fs : List Flw) (ms vs : List Int) (cl : Int) (ts : List Tm) (An : Option Addr) (nn cn : Nat) (Af : Option Addr) (lf cf : Nat) (Av : Option Addr) (nv cv : Nat) (At : Option Addr) (nt ct : Nat) (w : World) (e : Ending) (w' : World) : Prop :=
  ((vProc ns fs && vInst ns fs ms vs cl ts) = false ∧ e = .returned (.tuple #[.agg #[.slice none 0 0, .slice none 0 0, .map none, .map none, .map none, .slice none 0 0, .int .i64 0, .slice none 0 0], .bool false]) ∧ Below w.heap.size w w') ∨
  (vProc ns fs = true ∧ vInst ns fs ms vs cl ts = true ∧ ∃ bo bi mb m, e = .returned (.tuple #[.agg #[.slice An nn cn, .slice Af lf cf, .map (some bo), .map (some bi), .map (some mb), .slice Av nv cv, .int .i64 cl, .slice At nt ct], .bool true]) ∧ NetM w' ns fs ms An nn Af lf bo bi mb m ∧ w.heap.size ≤ mb ∧ Below w.heap.size w w')
section
variable {ns : List (Int × Int)} {fs : List Flw} {ms vs : List Int} {cl : Int} {ts : List Tm} {An : Option Addr} {nn cn : Nat} {Af : Option Addr} {lf cf : Nat} {Av : Option Addr} {nv cv : Nat} {At : Option Addr} {nt ct : Nat} {w w' : World}
theorem RunPost.no (h : (vProc ns fs && vInst ns fs ms vs cl ts) = false) (hb : Below w.heap.size w w') : RunPost ns fs ms vs cl ts An nn cn Af lf cf Av nv cv At nt ct w (.returned (.tuple #[.agg #[.slice none 0 0, .slice none 0 0, .map none, .map none, .map none, .slice none 0 0, .int .i64 0, .slice none 0 0], .bool false])) w' := .inl ⟨h, rfl, hb⟩
theorem RunPost.yes {bo bi mb m : Nat} (h : vInst ns fs ms vs cl ts = true) (hN : NetM w' ns fs ms An nn Af lf bo bi mb m) (hmb : w.heap.size ≤ mb) (hb : Below w.heap.size w w') : RunPost ns fs ms vs cl ts An nn cn Af lf cf Av nv cv At nt ct w (.returned (.tuple #[.agg #[.slice An nn cn, .slice Af lf cf, .map (some bo), .map (some bi), .map (some mb), .slice Av nv cv, .int .i64 cl, .slice At nt ct], .bool true])) w' := .inr ⟨hN.vp, h, bo, bi, mb, m, rfl, hN, hmb, hb⟩
end
theorem run_no {ns : List (Int × Int)} {fs : List Flw} {ms vs : List Int} {cl : Int} {ts : List Tm} (h : (vProc ns fs && vMarks fs ms) = false ∨ vVals vs = false ∨ inR cl 0 9999 = false ∨ (firstAuto ns fs ms).isSome = true ∨ hasT ns fs ms cl ts = false) : (vProc ns fs && vInst ns fs ms vs cl ts) = false := by
  cases hV : vProc ns fs with
  | false => rfl
  | true =>
    rw [Bool.true_and, vInst_is hV]
    rcases h with h | h | h | h | h
    · rw [hV, Bool.true_and] at h; rw [h]; rfl
    · rw [h]; simp
    · rw [h]; simp
    · cases hf : firstAuto ns fs ms with
      | none => rw [hf] at h; cases h
      | some k => simp
    · rw [h]; simp
theorem run_yes {ns : List (Int × Int)} {fs : List Flw} {ms vs : List Int} {cl : Int} {ts : List Tm} (hV : vProc ns fs = true) (h1 : vMarks fs ms = true) (h2 : vVals vs = true) (h3 : inR cl 0 9999 = true) (h4 : (firstAuto ns fs ms).isSome = false) (h5 : hasT ns fs ms cl ts = true) : vInst ns fs ms vs cl ts = true := by
  rw [vInst_is hV, h1, h2, h3, h5]
  cases hf : firstAuto ns fs ms with
  | none => rfl
  | some k => rw [hf] at h4; cases h4
set_option maxRecDepth 100000 in
set_option maxHeartbeats 6400000 in
theorem runningOf_any (lo hi nn cn : Nat) (An : Option Addr) (ns : List (Int × Int)) (lo1 hi1 lf cf : Nat) (Af : Option Addr) (fs : List Flw) (lom him nm cm : Nat) (Am : Option Addr) (ms : List Int) (lov hiv nv cv : Nat) (Av : Option Addr) (vs : List Int) (cl : Int) (lot hit nt ct : Nat) (At : Option Addr) (ts : List Tm) (w : World)
    (hrn : Rd w lo hi 2 An nn (pvs ns)) (hB : hi ≤ w.heap.size) (hnn : nn ≤ 1048576) (hr : Fls w lo1 hi1 Af lf fs) (hB1 : hi1 ≤ w.heap.size) (hn : lf ≤ 1048576)
    (hm : Rd w lom him 1 Am nm (ivs ms)) (hBm : him ≤ w.heap.size) (hnm : nm ≤ 1048576) (hv : Rd w lov hiv 1 Av nv (ivs vs)) (hBv : hiv ≤ w.heap.size) (hnv : nv ≤ 1048576) (ht : Rd w lot hit 2 At nt (pvs ts)) (hBt : hit ≤ w.heap.size) (hnt : nt ≤ 1048576) :
    Calls Try.prog 28 #[.agg #[.slice An nn cn, .slice Af lf cf], .agg #[.slice Am nm cm, .slice Av nv cv, .int .i64 cl, .slice At nt ct]] w (RunPost ns fs ms vs cl ts An nn cn Af lf cf Av nv cv At nt ct w) := by
  have hb0 := up_alloc (up_alloc (up_alloc (Below.refl _ w) (.cells #[.slice An nn cn, .slice Af lf cf] 36)) (.cells #[.slice Am nm cm, .slice Av nv cv, .int .i64 cl, .slice At nt ct] 40)) (.cells #[.slice none 0 0, .slice none 0 0, .map none, .map none, .map none, .slice none 0 0, .int .i64 0, .slice none 0 0] 64)
  have HP := Lib.hid (((Blk.new w 36 #[.slice An nn cn, .slice Af lf cf]).alloc (.cells #[.slice Am nm cm, .slice Av nv cv, .int .i64 cl, .slice At nt ct] 40)).alloc (.cells #[.slice none 0 0, .slice none 0 0, .map none, .map none, .map none, .slice none 0 0, .int .i64 0, .slice none 0 0] 64))
  have HX := Lib.hid (show Blk (((w.alloc (.cells #[.slice An nn cn, .slice Af lf cf] 36)).alloc (.cells #[.slice Am nm cm, .slice Av nv cv, .int .i64 cl, .slice At nt ct] 40)).alloc (.cells #[.slice none 0 0, .slice none 0 0, .map none, .map none, .map none, .slice none 0 0, .int .i64 0, .slice none 0 0] 64)) (w.heap.size + 1) 40 #[.slice Am nm cm, .slice Av nv cv, .int .i64 cl, .slice At nt ct] from (Blk.newAtR (by simp)).alloc _)
  have HQ := Lib.hid (show Blk (((w.alloc (.cells #[.slice An nn cn, .slice Af lf cf] 36)).alloc (.cells #[.slice Am nm cm, .slice Av nv cv, .int .i64 cl, .slice At nt ct] 40)).alloc (.cells #[.slice none 0 0, .slice none 0 0, .map none, .map none, .map none, .slice none 0 0, .int .i64 0, .slice none 0 0] 64)) (w.heap.size + 1 + 1) 64 #[.slice none 0 0, .slice none 0 0, .map none, .map none, .map none, .slice none 0 0, .int .i64 0, .slice none 0 0] from Blk.newAtR (by simp))
  have hz : (((w.alloc (.cells #[.slice An nn cn, .slice Af lf cf] 36)).alloc (.cells #[.slice Am nm cm, .slice Av nv cv, .int .i64 cl, .slice At nt ct] 40)).alloc (.cells #[.slice none 0 0, .slice none 0 0, .map none, .map none, .map none, .slice none 0 0, .int .i64 0, .slice none 0 0] 64)).heap.size = w.heap.size + 1 + 1 + 1 := by simp
  have HB := Lib.hid hb0
  clear hb0
  go_enter Try.func28, Try.ntmps28
  go_wp2_with (fail)
  generalize (((w.alloc (.cells #[.slice An nn cn, .slice Af lf cf] 36)).alloc (.cells #[.slice Am nm cm, .slice Av nv cv, .int .i64 cl, .slice At nt ct] 40)).alloc (.cells #[.slice none 0 0, .slice none 0 0, .map none, .map none, .map none, .slice none 0 0, .int .i64 0, .slice none 0 0] 64)) = w0 at *
  have HRN := Lib.hid (hrn.keep HB.out hB)
  have HRF := Lib.hid (hr.keep HB.out hB1)
  (with_reducible refine (countersOf_any lo hi nn cn An ns lo1 hi1 lf cf Af fs lom him nm cm Am ms w0 HRN.out (by omega) hnn HRF.out (by omega) hn (hm.keep HB.out hBm) (by omega) hnm).mono ?_)
  rintro e w1 (⟨hno, rfl, hb1⟩ | ⟨hV, hM, bo, bi, mb, m, rfl, hmo, hmi, hc, hm14, hmb, hb1⟩)
  · have hs1 := hb1.size
    have HB1 := Lib.hid (up HB.out hb1)
    have HQ1 := Lib.hid ((HQ.out.below hb1 (by omega)).alloc (.cells #[.slice none 0 0, .slice none 0 0, .map none, .map none] 59))
    have HB2 := Lib.hid (up_alloc HB1.out (.cells #[.slice none 0 0, .slice none 0 0, .map none, .map none] 59))
    clear hb1 HB HP HX HQ HRN HRF
    have HNO := Lib.hid (run_no (vs := vs) (cl := cl) (ts := ts) (.inl hno))
    have q0 : (w1.alloc (.cells #[.slice none 0 0, .slice none 0 0, .map none, .map none] 59)).cell? ⟨w.heap.size + 1 + 1, 0, none⟩ = some (.slice none 0 0) := HQ1.out.cell 0
    have q1 : (w1.alloc (.cells #[.slice none 0 0, .slice none 0 0, .map none, .map none] 59)).cell? ⟨w.heap.size + 1 + 1, 1, none⟩ = some (.slice none 0 0) := HQ1.out.cell 1
    have q2 : (w1.alloc (.cells #[.slice none 0 0, .slice none 0 0, .map none, .map none] 59)).cell? ⟨w.heap.size + 1 + 1, 2, none⟩ = some (.map none) := HQ1.out.cell 2
    have q3 : (w1.alloc (.cells #[.slice none 0 0, .slice none 0 0, .map none, .map none] 59)).cell? ⟨w.heap.size + 1 + 1, 3, none⟩ = some (.map none) := HQ1.out.cell 3
    have q4 : (w1.alloc (.cells #[.slice none 0 0, .slice none 0 0, .map none, .map none] 59)).cell? ⟨w.heap.size + 1 + 1, 4, none⟩ = some (.map none) := HQ1.out.cell 4
    have q5 : (w1.alloc (.cells #[.slice none 0 0, .slice none 0 0, .map none, .map none] 59)).cell? ⟨w.heap.size + 1 + 1, 5, none⟩ = some (.slice none 0 0) := HQ1.out.cell 5
    have q6 : (w1.alloc (.cells #[.slice none 0 0, .slice none 0 0, .map none, .map none] 59)).cell? ⟨w.heap.size + 1 + 1, 6, none⟩ = some (.int .i64 0) := HQ1.out.cell 6
    have q7 : (w1.alloc (.cells #[.slice none 0 0, .slice none 0 0, .map none, .map none] 59)).cell? ⟨w.heap.size + 1 + 1, 7, none⟩ = some (.slice none 0 0) := HQ1.out.cell 7
    have fq0 := HQ1.out.soft 0
    have fq1 := HQ1.out.soft 1
    have fq2 := HQ1.out.soft 2
    have fq3 := HQ1.out.soft 3
    have fq4 := HQ1.out.soft 4
    have fq5 := HQ1.out.soft 5
    have fq6 := HQ1.out.soft 6
    have fq7 := HQ1.out.soft 7
    have hzz := ((((((((HQ1.out.put 0 (.slice none 0 0)).put 1 (.slice none 0 0)).put 2 (.map none)).put 3 (.map none)).put 4 (.map none)).put 5 (.slice none 0 0)).put 6 (.int .i64 0)).put 7 (.slice none 0 0))
    have z0 := hzz.cell 0
    have z1 := hzz.cell 1
    have z2 := hzz.cell 2
    have z3 := hzz.cell 3
    have z4 := hzz.cell 4
    have z5 := hzz.cell 5
    have z6 := hzz.cell 6
    have z7 := hzz.cell 7
    simp at z0 z1 z2 z3 z4 z5 z6 z7
    have HBZ := Lib.hid ((((((((HB2.out.setCell (p := ⟨w.heap.size + 1 + 1, 0, none⟩) (by show w.heap.size ≤ w.heap.size + 1 + 1; omega) (.slice none 0 0)).setCell (p := ⟨w.heap.size + 1 + 1, 1, none⟩) (by show w.heap.size ≤ w.heap.size + 1 + 1; omega) (.slice none 0 0)).setCell (p := ⟨w.heap.size + 1 + 1, 2, none⟩) (by show w.heap.size ≤ w.heap.size + 1 + 1; omega) (.map none)).setCell (p := ⟨w.heap.size + 1 + 1, 3, none⟩) (by show w.heap.size ≤ w.heap.size + 1 + 1; omega) (.map none)).setCell (p := ⟨w.heap.size + 1 + 1, 4, none⟩) (by show w.heap.size ≤ w.heap.size + 1 + 1; omega) (.map none)).setCell (p := ⟨w.heap.size + 1 + 1, 5, none⟩) (by show w.heap.size ≤ w.heap.size + 1 + 1; omega) (.slice none 0 0)).setCell (p := ⟨w.heap.size + 1 + 1, 6, none⟩) (by show w.heap.size ≤ w.heap.size + 1 + 1; omega) (.int .i64 0)).setCell (p := ⟨w.heap.size + 1 + 1, 7, none⟩) (by show w.heap.size ≤ w.heap.size + 1 + 1; omega) (.slice none 0 0))
    clear hzz
    go_wp2
    exact bodyPost_ret (v := .tuple #[.agg #[.slice none 0 0, .slice none 0 0, .map none, .map none, .map none, .slice none 0 0, .int .i64 0, .slice none 0 0], .bool false]) (by simp [results, Try.results28, go_sem, z0, z1, z2, z3, z4, z5, z6, z7]) rfl (RunPost.no HNO.out HBZ.out)
  have hs1 := hb1.size
  have HN1 := Lib.hid (show NetM w1 ns fs ms An nn Af lf bo bi mb m from ⟨(HRN.out.keep hb1 (by omega)).wide (Nat.zero_le _) (by omega), (HRF.out.keep hb1 (by omega)).wide (Nat.zero_le _) (by omega), hmo.wide (Nat.zero_le _) (Nat.le_refl _), hmi.wide (Nat.zero_le _) (Nat.le_refl _), hc, hm14, hV, hM⟩)
  have HB1 := Lib.hid (up HB.out hb1)
  have HX1 := Lib.hid (HX.out.below hb1 (by omega))
  have HQ1 := Lib.hid (HQ.out.below hb1 (by omega))
  have hb2 := up_alloc (Below.refl _ w1) (.cells #[.slice An nn cn, .slice Af lf cf, .map (some bo), .map (some bi)] 59)
  have HT2 := Lib.hid (Blk.new w1 59 #[.slice An nn cn, .slice Af lf cf, .map (some bo), .map (some bi)])
  have HN2 := Lib.hid (HN1.out.keep hb2)
  have HB2 := Lib.hid (up HB1.out hb2)
  have HX2 := Lib.hid (HX1.out.below hb2 HX1.out.lt)
  have HQ2 := Lib.hid (HQ1.out.below hb2 HQ1.out.lt)
  have hs2 := hb2.size
  have HMO1 := Lib.hid hmo
  have HMI1 := Lib.hid hmi
  have HC1 := Lib.hid hc
  have HBC2 := Lib.hid hb2
  clear hb1 hb2 hmo hmi hc HB HP HX HQ HRN HRF HN1 HB1 HX1 HQ1
  have hmb2 : w.heap.size ≤ mb := by omega
  have x1 : (w1.alloc (.cells #[.slice An nn cn, .slice Af lf cf, .map (some bo), .map (some bi)] 59)).cell? ⟨w.heap.size + 1, 1, none⟩ = some (.slice Av nv cv) := HX2.out.cell 1
  go_wp2_with (fail)
  generalize w1.alloc (.cells #[.slice An nn cn, .slice Af lf cf, .map (some bo), .map (some bi)] 59) = w2 at *
  have hxl := HX2.out.lt
  have hql := HQ2.out.lt
  (with_reducible refine (validValuesI_any lov hiv nv cv Av vs w2 (hv.keep HB2.out hBv) (by omega)).mono ?_)
  rintro e w3 ⟨rfl, hw3⟩
  obtain rfl : w3 = w2 := by first | exact hw3 | exact hw3.symm
  clear hw3 x1
  have x2 : w3.cell? ⟨w.heap.size + 1, 2, none⟩ = some (.int .i64 cl) := HX2.out.cell 2
  cases hvv : vVals vs with
  | false =>
    have HNO := Lib.hid (run_no (ns := ns) (fs := fs) (ms := ms) (cl := cl) (ts := ts) (.inr (.inl hvv)))
    have q0 : w3.cell? ⟨w.heap.size + 1 + 1, 0, none⟩ = some (.slice none 0 0) := HQ2.out.cell 0
    have q1 : w3.cell? ⟨w.heap.size + 1 + 1, 1, none⟩ = some (.slice none 0 0) := HQ2.out.cell 1
    have q2 : w3.cell? ⟨w.heap.size + 1 + 1, 2, none⟩ = some (.map none) := HQ2.out.cell 2
    have q3 : w3.cell? ⟨w.heap.size + 1 + 1, 3, none⟩ = some (.map none) := HQ2.out.cell 3
    have q4 : w3.cell? ⟨w.heap.size + 1 + 1, 4, none⟩ = some (.map none) := HQ2.out.cell 4
    have q5 : w3.cell? ⟨w.heap.size + 1 + 1, 5, none⟩ = some (.slice none 0 0) := HQ2.out.cell 5
    have q6 : w3.cell? ⟨w.heap.size + 1 + 1, 6, none⟩ = some (.int .i64 0) := HQ2.out.cell 6
    have q7 : w3.cell? ⟨w.heap.size + 1 + 1, 7, none⟩ = some (.slice none 0 0) := HQ2.out.cell 7
    have fq0 := HQ2.out.soft 0
    have fq1 := HQ2.out.soft 1
    have fq2 := HQ2.out.soft 2
    have fq3 := HQ2.out.soft 3
    have fq4 := HQ2.out.soft 4
    have fq5 := HQ2.out.soft 5
    have fq6 := HQ2.out.soft 6
    have fq7 := HQ2.out.soft 7
    have hzz := ((((((((HQ2.out.put 0 (.slice none 0 0)).put 1 (.slice none 0 0)).put 2 (.map none)).put 3 (.map none)).put 4 (.map none)).put 5 (.slice none 0 0)).put 6 (.int .i64 0)).put 7 (.slice none 0 0))
    have z0 := hzz.cell 0
    have z1 := hzz.cell 1
    have z2 := hzz.cell 2
    have z3 := hzz.cell 3
    have z4 := hzz.cell 4
    have z5 := hzz.cell 5
    have z6 := hzz.cell 6
    have z7 := hzz.cell 7
    simp at z0 z1 z2 z3 z4 z5 z6 z7
    have HBZ := Lib.hid ((((((((HB2.out.setCell (p := ⟨w.heap.size + 1 + 1, 0, none⟩) (by show w.heap.size ≤ w.heap.size + 1 + 1; omega) (.slice none 0 0)).setCell (p := ⟨w.heap.size + 1 + 1, 1, none⟩) (by show w.heap.size ≤ w.heap.size + 1 + 1; omega) (.slice none 0 0)).setCell (p := ⟨w.heap.size + 1 + 1, 2, none⟩) (by show w.heap.size ≤ w.heap.size + 1 + 1; omega) (.map none)).setCell (p := ⟨w.heap.size + 1 + 1, 3, none⟩) (by show w.heap.size ≤ w.heap.size + 1 + 1; omega) (.map none)).setCell (p := ⟨w.heap.size + 1 + 1, 4, none⟩) (by show w.heap.size ≤ w.heap.size + 1 + 1; omega) (.map none)).setCell (p := ⟨w.heap.size + 1 + 1, 5, none⟩) (by show w.heap.size ≤ w.heap.size + 1 + 1; omega) (.slice none 0 0)).setCell (p := ⟨w.heap.size + 1 + 1, 6, none⟩) (by show w.heap.size ≤ w.heap.size + 1 + 1; omega) (.int .i64 0)).setCell (p := ⟨w.heap.size + 1 + 1, 7, none⟩) (by show w.heap.size ≤ w.heap.size + 1 + 1; omega) (.slice none 0 0))
    clear hzz
    go_wp2
    exact bodyPost_ret (v := .tuple #[.agg #[.slice none 0 0, .slice none 0 0, .map none, .map none, .map none, .slice none 0 0, .int .i64 0, .slice none 0 0], .bool false]) (by simp [results, Try.results28, go_sem, z0, z1, z2, z3, z4, z5, z6, z7]) rfl (RunPost.no HNO.out HBZ.out)
  | true =>
  by_cases h0 : cl < 0
  · have hin : inR cl 0 9999 = false := by rw [← Bool.not_eq_true, inR_iff]; omega
    have d0 : decide (cl < 0) = true := decide_eq_true h0
    clear h0
    have HNO := Lib.hid (run_no (ns := ns) (fs := fs) (ms := ms) (vs := vs) (ts := ts) (.inr (.inr (.inl hin))))
    have q0 : w3.cell? ⟨w.heap.size + 1 + 1, 0, none⟩ = some (.slice none 0 0) := HQ2.out.cell 0
    have q1 : w3.cell? ⟨w.heap.size + 1 + 1, 1, none⟩ = some (.slice none 0 0) := HQ2.out.cell 1
    have q2 : w3.cell? ⟨w.heap.size + 1 + 1, 2, none⟩ = some (.map none) := HQ2.out.cell 2
    have q3 : w3.cell? ⟨w.heap.size + 1 + 1, 3, none⟩ = some (.map none) := HQ2.out.cell 3
    have q4 : w3.cell? ⟨w.heap.size + 1 + 1, 4, none⟩ = some (.map none) := HQ2.out.cell 4
    have q5 : w3.cell? ⟨w.heap.size + 1 + 1, 5, none⟩ = some (.slice none 0 0) := HQ2.out.cell 5
    have q6 : w3.cell? ⟨w.heap.size + 1 + 1, 6, none⟩ = some (.int .i64 0) := HQ2.out.cell 6
    have q7 : w3.cell? ⟨w.heap.size + 1 + 1, 7, none⟩ = some (.slice none 0 0) := HQ2.out.cell 7
    have fq0 := HQ2.out.soft 0
    have fq1 := HQ2.out.soft 1
    have fq2 := HQ2.out.soft 2
    have fq3 := HQ2.out.soft 3
    have fq4 := HQ2.out.soft 4
    have fq5 := HQ2.out.soft 5
    have fq6 := HQ2.out.soft 6
    have fq7 := HQ2.out.soft 7
    have hzz := ((((((((HQ2.out.put 0 (.slice none 0 0)).put 1 (.slice none 0 0)).put 2 (.map none)).put 3 (.map none)).put 4 (.map none)).put 5 (.slice none 0 0)).put 6 (.int .i64 0)).put 7 (.slice none 0 0))
    have z0 := hzz.cell 0
    have z1 := hzz.cell 1
    have z2 := hzz.cell 2
    have z3 := hzz.cell 3
    have z4 := hzz.cell 4
    have z5 := hzz.cell 5
    have z6 := hzz.cell 6
    have z7 := hzz.cell 7
    simp at z0 z1 z2 z3 z4 z5 z6 z7
    have HBZ := Lib.hid ((((((((HB2.out.setCell (p := ⟨w.heap.size + 1 + 1, 0, none⟩) (by show w.heap.size ≤ w.heap.size + 1 + 1; omega) (.slice none 0 0)).setCell (p := ⟨w.heap.size + 1 + 1, 1, none⟩) (by show w.heap.size ≤ w.heap.size + 1 + 1; omega) (.slice none 0 0)).setCell (p := ⟨w.heap.size + 1 + 1, 2, none⟩) (by show w.heap.size ≤ w.heap.size + 1 + 1; omega) (.map none)).setCell (p := ⟨w.heap.size + 1 + 1, 3, none⟩) (by show w.heap.size ≤ w.heap.size + 1 + 1; omega) (.map none)).setCell (p := ⟨w.heap.size + 1 + 1, 4, none⟩) (by show w.heap.size ≤ w.heap.size + 1 + 1; omega) (.map none)).setCell (p := ⟨w.heap.size + 1 + 1, 5, none⟩) (by show w.heap.size ≤ w.heap.size + 1 + 1; omega) (.slice none 0 0)).setCell (p := ⟨w.heap.size + 1 + 1, 6, none⟩) (by show w.heap.size ≤ w.heap.size + 1 + 1; omega) (.int .i64 0)).setCell (p := ⟨w.heap.size + 1 + 1, 7, none⟩) (by show w.heap.size ≤ w.heap.size + 1 + 1; omega) (.slice none 0 0))
    clear hzz
    go_wp2
    exact bodyPost_ret (v := .tuple #[.agg #[.slice none 0 0, .slice none 0 0, .map none, .map none, .map none, .slice none 0 0, .int .i64 0, .slice none 0 0], .bool false]) (by simp [results, Try.results28, go_sem, z0, z1, z2, z3, z4, z5, z6, z7]) rfl (RunPost.no HNO.out HBZ.out)
  by_cases h9 : 9999 < cl
  · have hin : inR cl 0 9999 = false := by rw [← Bool.not_eq_true, inR_iff]; omega
    have d0 : decide (cl < 0) = false := decide_eq_false h0
    have d9 : decide (9999 < cl) = true := decide_eq_true h9
    clear h0 h9
    have HNO := Lib.hid (run_no (ns := ns) (fs := fs) (ms := ms) (vs := vs) (ts := ts) (.inr (.inr (.inl hin))))
    have q0 : w3.cell? ⟨w.heap.size + 1 + 1, 0, none⟩ = some (.slice none 0 0) := HQ2.out.cell 0
    have q1 : w3.cell? ⟨w.heap.size + 1 + 1, 1, none⟩ = some (.slice none 0 0) := HQ2.out.cell 1
    have q2 : w3.cell? ⟨w.heap.size + 1 + 1, 2, none⟩ = some (.map none) := HQ2.out.cell 2
    have q3 : w3.cell? ⟨w.heap.size + 1 + 1, 3, none⟩ = some (.map none) := HQ2.out.cell 3
    have q4 : w3.cell? ⟨w.heap.size + 1 + 1, 4, none⟩ = some (.map none) := HQ2.out.cell 4
    have q5 : w3.cell? ⟨w.heap.size + 1 + 1, 5, none⟩ = some (.slice none 0 0) := HQ2.out.cell 5
    have q6 : w3.cell? ⟨w.heap.size + 1 + 1, 6, none⟩ = some (.int .i64 0) := HQ2.out.cell 6
    have q7 : w3.cell? ⟨w.heap.size + 1 + 1, 7, none⟩ = some (.slice none 0 0) := HQ2.out.cell 7
    have fq0 := HQ2.out.soft 0
    have fq1 := HQ2.out.soft 1
    have fq2 := HQ2.out.soft 2
    have fq3 := HQ2.out.soft 3
    have fq4 := HQ2.out.soft 4
    have fq5 := HQ2.out.soft 5
    have fq6 := HQ2.out.soft 6
    have fq7 := HQ2.out.soft 7
    have hzz := ((((((((HQ2.out.put 0 (.slice none 0 0)).put 1 (.slice none 0 0)).put 2 (.map none)).put 3 (.map none)).put 4 (.map none)).put 5 (.slice none 0 0)).put 6 (.int .i64 0)).put 7 (.slice none 0 0))
    have z0 := hzz.cell 0
    have z1 := hzz.cell 1
    have z2 := hzz.cell 2
    have z3 := hzz.cell 3
    have z4 := hzz.cell 4
    have z5 := hzz.cell 5
    have z6 := hzz.cell 6
    have z7 := hzz.cell 7
    simp at z0 z1 z2 z3 z4 z5 z6 z7
    have HBZ := Lib.hid ((((((((HB2.out.setCell (p := ⟨w.heap.size + 1 + 1, 0, none⟩) (by show w.heap.size ≤ w.heap.size + 1 + 1; omega) (.slice none 0 0)).setCell (p := ⟨w.heap.size + 1 + 1, 1, none⟩) (by show w.heap.size ≤ w.heap.size + 1 + 1; omega) (.slice none 0 0)).setCell (p := ⟨w.heap.size + 1 + 1, 2, none⟩) (by show w.heap.size ≤ w.heap.size + 1 + 1; omega) (.map none)).setCell (p := ⟨w.heap.size + 1 + 1, 3, none⟩) (by show w.heap.size ≤ w.heap.size + 1 + 1; omega) (.map none)).setCell (p := ⟨w.heap.size + 1 + 1, 4, none⟩) (by show w.heap.size ≤ w.heap.size + 1 + 1; omega) (.map none)).setCell (p := ⟨w.heap.size + 1 + 1, 5, none⟩) (by show w.heap.size ≤ w.heap.size + 1 + 1; omega) (.slice none 0 0)).setCell (p := ⟨w.heap.size + 1 + 1, 6, none⟩) (by show w.heap.size ≤ w.heap.size + 1 + 1; omega) (.int .i64 0)).setCell (p := ⟨w.heap.size + 1 + 1, 7, none⟩) (by show w.heap.size ≤ w.heap.size + 1 + 1; omega) (.slice none 0 0))
    clear hzz
    go_wp2
    exact bodyPost_ret (v := .tuple #[.agg #[.slice none 0 0, .slice none 0 0, .map none, .map none, .map none, .slice none 0 0, .int .i64 0, .slice none 0 0], .bool false]) (by simp [results, Try.results28, go_sem, z0, z1, z2, z3, z4, z5, z6, z7]) rfl (RunPost.no HNO.out HBZ.out)
  have hin : inR cl 0 9999 = true := inR_iff.2 (by omega)
  have d0 : decide (cl < 0) = false := decide_eq_false h0
  have d9 : decide (9999 < cl) = false := decide_eq_false h9
  clear h0 h9
  have x1 : w3.cell? ⟨w.heap.size + 1, 1, none⟩ = some (.slice Av nv cv) := HX2.out.cell 1
  have x3 : w3.cell? ⟨w.heap.size + 1, 3, none⟩ = some (.slice At nt ct) := HX2.out.cell 3
  have t0 : w3.cell? ⟨w1.heap.size, 0, none⟩ = some (.slice An nn cn) := HT2.out.cell 0
  have t1 : w3.cell? ⟨w1.heap.size, 1, none⟩ = some (.slice Af lf cf) := HT2.out.cell 1
  have t2 : w3.cell? ⟨w1.heap.size, 2, none⟩ = some (.map (some bo)) := HT2.out.cell 2
  have t3 : w3.cell? ⟨w1.heap.size, 3, none⟩ = some (.map (some bi)) := HT2.out.cell 3
  have hb4 := up_alloc (Below.refl _ w3) (.cells #[.slice An nn cn, .slice Af lf cf, .map (some bo), .map (some bi), .map (some mb), .slice Av nv cv, .int .i64 cl, .slice At nt ct] 64)
  have HR4 := Lib.hid (Blk.new w3 64 #[.slice An nn cn, .slice Af lf cf, .map (some bo), .map (some bi), .map (some mb), .slice Av nv cv, .int .i64 cl, .slice At nt ct])
  have HN4 := Lib.hid (HN2.out.keep hb4)
  have HB4 := Lib.hid (up HB2.out hb4)
  have HQ4 := Lib.hid (HQ2.out.below hb4 hql)
  have HBC4 := Lib.hid (up HBC2.out hb4)
  have hs4 := hb4.size
  have HIN := Lib.hid hin
  have HVV := Lib.hid hvv
  clear hb4 hin hvv HN2 HB2 HQ2 HX2 HT2
  go_wp2_with (fail)
  generalize w3.alloc (.cells #[.slice An nn cn, .slice Af lf cf, .map (some bo), .map (some bi), .map (some mb), .slice Av nv cv, .int .i64 cl, .slice At nt ct] 64) = w4 at *
  clear x1 x2 x3 t0 t1 t2 t3
  (with_reducible refine (moving_any An nn cn ns Af lf cf fs bo bi mb m ms Av nv cv cl At nt ct w4 HN4.out hnn).mono ?_)
  rintro e w5 ⟨rfl, hb5⟩
  have HR5 := Lib.hid (HR4.out.below hb5 HR4.out.lt)
  have HN5 := Lib.hid (HN4.out.keep hb5)
  have HB5 := Lib.hid (up HB4.out hb5)
  have HQ5 := Lib.hid (HQ4.out.below hb5 (by omega))
  have hs5 := hb5.size
  have HBC5 := Lib.hid (up HBC4.out hb5)
  have hrl := HR5.out.lt
  clear hb5 HR4 HN4 HB4 HQ4
  cases hfa : (firstAuto ns fs ms).isSome with
  | true =>
    have hmv : (true : Bool) = true := rfl
    have HNO := Lib.hid (run_no (vs := vs) (cl := cl) (ts := ts) (.inr (.inr (.inr (.inl hfa)))))
    have q0 : w5.cell? ⟨w.heap.size + 1 + 1, 0, none⟩ = some (.slice none 0 0) := HQ5.out.cell 0
    have q1 : w5.cell? ⟨w.heap.size + 1 + 1, 1, none⟩ = some (.slice none 0 0) := HQ5.out.cell 1
    have q2 : w5.cell? ⟨w.heap.size + 1 + 1, 2, none⟩ = some (.map none) := HQ5.out.cell 2
    have q3 : w5.cell? ⟨w.heap.size + 1 + 1, 3, none⟩ = some (.map none) := HQ5.out.cell 3
    have q4 : w5.cell? ⟨w.heap.size + 1 + 1, 4, none⟩ = some (.map none) := HQ5.out.cell 4
    have q5 : w5.cell? ⟨w.heap.size + 1 + 1, 5, none⟩ = some (.slice none 0 0) := HQ5.out.cell 5
    have q6 : w5.cell? ⟨w.heap.size + 1 + 1, 6, none⟩ = some (.int .i64 0) := HQ5.out.cell 6
    have q7 : w5.cell? ⟨w.heap.size + 1 + 1, 7, none⟩ = some (.slice none 0 0) := HQ5.out.cell 7
    have fq0 := HQ5.out.soft 0
    have fq1 := HQ5.out.soft 1
    have fq2 := HQ5.out.soft 2
    have fq3 := HQ5.out.soft 3
    have fq4 := HQ5.out.soft 4
    have fq5 := HQ5.out.soft 5
    have fq6 := HQ5.out.soft 6
    have fq7 := HQ5.out.soft 7
    have hzz := ((((((((HQ5.out.put 0 (.slice none 0 0)).put 1 (.slice none 0 0)).put 2 (.map none)).put 3 (.map none)).put 4 (.map none)).put 5 (.slice none 0 0)).put 6 (.int .i64 0)).put 7 (.slice none 0 0))
    have z0 := hzz.cell 0
    have z1 := hzz.cell 1
    have z2 := hzz.cell 2
    have z3 := hzz.cell 3
    have z4 := hzz.cell 4
    have z5 := hzz.cell 5
    have z6 := hzz.cell 6
    have z7 := hzz.cell 7
    simp at z0 z1 z2 z3 z4 z5 z6 z7
    have HBZ := Lib.hid ((((((((HB5.out.setCell (p := ⟨w.heap.size + 1 + 1, 0, none⟩) (by show w.heap.size ≤ w.heap.size + 1 + 1; omega) (.slice none 0 0)).setCell (p := ⟨w.heap.size + 1 + 1, 1, none⟩) (by show w.heap.size ≤ w.heap.size + 1 + 1; omega) (.slice none 0 0)).setCell (p := ⟨w.heap.size + 1 + 1, 2, none⟩) (by show w.heap.size ≤ w.heap.size + 1 + 1; omega) (.map none)).setCell (p := ⟨w.heap.size + 1 + 1, 3, none⟩) (by show w.heap.size ≤ w.heap.size + 1 + 1; omega) (.map none)).setCell (p := ⟨w.heap.size + 1 + 1, 4, none⟩) (by show w.heap.size ≤ w.heap.size + 1 + 1; omega) (.map none)).setCell (p := ⟨w.heap.size + 1 + 1, 5, none⟩) (by show w.heap.size ≤ w.heap.size + 1 + 1; omega) (.slice none 0 0)).setCell (p := ⟨w.heap.size + 1 + 1, 6, none⟩) (by show w.heap.size ≤ w.heap.size + 1 + 1; omega) (.int .i64 0)).setCell (p := ⟨w.heap.size + 1 + 1, 7, none⟩) (by show w.heap.size ≤ w.heap.size + 1 + 1; omega) (.slice none 0 0))
    clear hzz
    go_wp2
    exact bodyPost_ret (v := .tuple #[.agg #[.slice none 0 0, .slice none 0 0, .map none, .map none, .map none, .slice none 0 0, .int .i64 0, .slice none 0 0], .bool false]) (by simp [results, Try.results28, go_sem, z0, z1, z2, z3, z4, z5, z6, z7]) rfl (RunPost.no HNO.out HBZ.out)
  | false =>
  have HFA := Lib.hid hfa
  clear hfa
  have r0 : w5.cell? ⟨w3.heap.size, 0, none⟩ = some (.slice An nn cn) := HR5.out.cell 0
  have r1 : w5.cell? ⟨w3.heap.size, 1, none⟩ = some (.slice Af lf cf) := HR5.out.cell 1
  have r2 : w5.cell? ⟨w3.heap.size, 2, none⟩ = some (.map (some bo)) := HR5.out.cell 2
  have r3 : w5.cell? ⟨w3.heap.size, 3, none⟩ = some (.map (some bi)) := HR5.out.cell 3
  have r4 : w5.cell? ⟨w3.heap.size, 4, none⟩ = some (.map (some mb)) := HR5.out.cell 4
  have r5 : w5.cell? ⟨w3.heap.size, 5, none⟩ = some (.slice Av nv cv) := HR5.out.cell 5
  have r6 : w5.cell? ⟨w3.heap.size, 6, none⟩ = some (.int .i64 cl) := HR5.out.cell 6
  have r7 : w5.cell? ⟨w3.heap.size, 7, none⟩ = some (.slice At nt ct) := HR5.out.cell 7
  go_wp2_with (fail)
  (with_reducible refine (hasItsTimers_any An nn cn ns Af lf cf fs bo bi mb m ms Av nv cv cl At nt ct ts w5 HN5.out hnn ((ht.keep HB5.out hBt).wide (Nat.zero_le _) (Nat.le_trans hBt HB5.out.size)) hnt).mono ?_)
  rintro e w6 ⟨rfl, hb6⟩
  clear r0 r1 r2 r3 r4 r5 r6 r7
  have HR6 := Lib.hid (HR5.out.below hb6 hrl)
  have HN6 := Lib.hid (HN5.out.keep hb6)
  have HB6 := Lib.hid (up HB5.out hb6)
  have HQ6 := Lib.hid (HQ5.out.below hb6 (by omega))
  have hs6 := hb6.size
  have HBC6 := Lib.hid (up HBC5.out hb6)
  clear hb6 HR5 HN5 HB5 HQ5
  cases hht : hasT ns fs ms cl ts with
  | false =>
    have HNO := Lib.hid (run_no (vs := vs) (.inr (.inr (.inr (.inr hht)))))
    have q0 : w6.cell? ⟨w.heap.size + 1 + 1, 0, none⟩ = some (.slice none 0 0) := HQ6.out.cell 0
    have q1 : w6.cell? ⟨w.heap.size + 1 + 1, 1, none⟩ = some (.slice none 0 0) := HQ6.out.cell 1
    have q2 : w6.cell? ⟨w.heap.size + 1 + 1, 2, none⟩ = some (.map none) := HQ6.out.cell 2
    have q3 : w6.cell? ⟨w.heap.size + 1 + 1, 3, none⟩ = some (.map none) := HQ6.out.cell 3
    have q4 : w6.cell? ⟨w.heap.size + 1 + 1, 4, none⟩ = some (.map none) := HQ6.out.cell 4
    have q5 : w6.cell? ⟨w.heap.size + 1 + 1, 5, none⟩ = some (.slice none 0 0) := HQ6.out.cell 5
    have q6 : w6.cell? ⟨w.heap.size + 1 + 1, 6, none⟩ = some (.int .i64 0) := HQ6.out.cell 6
    have q7 : w6.cell? ⟨w.heap.size + 1 + 1, 7, none⟩ = some (.slice none 0 0) := HQ6.out.cell 7
    have fq0 := HQ6.out.soft 0
    have fq1 := HQ6.out.soft 1
    have fq2 := HQ6.out.soft 2
    have fq3 := HQ6.out.soft 3
    have fq4 := HQ6.out.soft 4
    have fq5 := HQ6.out.soft 5
    have fq6 := HQ6.out.soft 6
    have fq7 := HQ6.out.soft 7
    have hzz := ((((((((HQ6.out.put 0 (.slice none 0 0)).put 1 (.slice none 0 0)).put 2 (.map none)).put 3 (.map none)).put 4 (.map none)).put 5 (.slice none 0 0)).put 6 (.int .i64 0)).put 7 (.slice none 0 0))
    have z0 := hzz.cell 0
    have z1 := hzz.cell 1
    have z2 := hzz.cell 2
    have z3 := hzz.cell 3
    have z4 := hzz.cell 4
    have z5 := hzz.cell 5
    have z6 := hzz.cell 6
    have z7 := hzz.cell 7
    simp at z0 z1 z2 z3 z4 z5 z6 z7
    have HBZ := Lib.hid ((((((((HB6.out.setCell (p := ⟨w.heap.size + 1 + 1, 0, none⟩) (by show w.heap.size ≤ w.heap.size + 1 + 1; omega) (.slice none 0 0)).setCell (p := ⟨w.heap.size + 1 + 1, 1, none⟩) (by show w.heap.size ≤ w.heap.size + 1 + 1; omega) (.slice none 0 0)).setCell (p := ⟨w.heap.size + 1 + 1, 2, none⟩) (by show w.heap.size ≤ w.heap.size + 1 + 1; omega) (.map none)).setCell (p := ⟨w.heap.size + 1 + 1, 3, none⟩) (by show w.heap.size ≤ w.heap.size + 1 + 1; omega) (.map none)).setCell (p := ⟨w.heap.size + 1 + 1, 4, none⟩) (by show w.heap.size ≤ w.heap.size + 1 + 1; omega) (.map none)).setCell (p := ⟨w.heap.size + 1 + 1, 5, none⟩) (by show w.heap.size ≤ w.heap.size + 1 + 1; omega) (.slice none 0 0)).setCell (p := ⟨w.heap.size + 1 + 1, 6, none⟩) (by show w.heap.size ≤ w.heap.size + 1 + 1; omega) (.int .i64 0)).setCell (p := ⟨w.heap.size + 1 + 1, 7, none⟩) (by show w.heap.size ≤ w.heap.size + 1 + 1; omega) (.slice none 0 0))
    clear hzz
    go_wp2
    exact bodyPost_ret (v := .tuple #[.agg #[.slice none 0 0, .slice none 0 0, .map none, .map none, .map none, .slice none 0 0, .int .i64 0, .slice none 0 0], .bool false]) (by simp [results, Try.results28, go_sem, z0, z1, z2, z3, z4, z5, z6, z7]) rfl (RunPost.no HNO.out HBZ.out)
  | true =>
  have HYES := Lib.hid (run_yes HN6.out.vp HN6.out.vm HVV.out HIN.out HFA.out hht)
  clear hht
  have r0 : w6.cell? ⟨w3.heap.size, 0, none⟩ = some (.slice An nn cn) := HR6.out.cell 0
  have r1 : w6.cell? ⟨w3.heap.size, 1, none⟩ = some (.slice Af lf cf) := HR6.out.cell 1
  have r2 : w6.cell? ⟨w3.heap.size, 2, none⟩ = some (.map (some bo)) := HR6.out.cell 2
  have r3 : w6.cell? ⟨w3.heap.size, 3, none⟩ = some (.map (some bi)) := HR6.out.cell 3
  have r4 : w6.cell? ⟨w3.heap.size, 4, none⟩ = some (.map (some mb)) := HR6.out.cell 4
  have r5 : w6.cell? ⟨w3.heap.size, 5, none⟩ = some (.slice Av nv cv) := HR6.out.cell 5
  have r6 : w6.cell? ⟨w3.heap.size, 6, none⟩ = some (.int .i64 cl) := HR6.out.cell 6
  have r7 : w6.cell? ⟨w3.heap.size, 7, none⟩ = some (.slice At nt ct) := HR6.out.cell 7
  have q0 : w6.cell? ⟨w.heap.size + 1 + 1, 0, none⟩ = some (.slice none 0 0) := HQ6.out.cell 0
  have q1 : w6.cell? ⟨w.heap.size + 1 + 1, 1, none⟩ = some (.slice none 0 0) := HQ6.out.cell 1
  have q2 : w6.cell? ⟨w.heap.size + 1 + 1, 2, none⟩ = some (.map none) := HQ6.out.cell 2
  have q3 : w6.cell? ⟨w.heap.size + 1 + 1, 3, none⟩ = some (.map none) := HQ6.out.cell 3
  have q4 : w6.cell? ⟨w.heap.size + 1 + 1, 4, none⟩ = some (.map none) := HQ6.out.cell 4
  have q5 : w6.cell? ⟨w.heap.size + 1 + 1, 5, none⟩ = some (.slice none 0 0) := HQ6.out.cell 5
  have q6 : w6.cell? ⟨w.heap.size + 1 + 1, 6, none⟩ = some (.int .i64 0) := HQ6.out.cell 6
  have q7 : w6.cell? ⟨w.heap.size + 1 + 1, 7, none⟩ = some (.slice none 0 0) := HQ6.out.cell 7
  have fq0 := HQ6.out.soft 0
  have fq1 := HQ6.out.soft 1
  have fq2 := HQ6.out.soft 2
  have fq3 := HQ6.out.soft 3
  have fq4 := HQ6.out.soft 4
  have fq5 := HQ6.out.soft 5
  have fq6 := HQ6.out.soft 6
  have fq7 := HQ6.out.soft 7
  have hzz := ((((((((HQ6.out.put 0 (.slice An nn cn)).put 1 (.slice Af lf cf)).put 2 (.map (some bo))).put 3 (.map (some bi))).put 4 (.map (some mb))).put 5 (.slice Av nv cv)).put 6 (.int .i64 cl)).put 7 (.slice At nt ct))
  have z0 := hzz.cell 0
  have z1 := hzz.cell 1
  have z2 := hzz.cell 2
  have z3 := hzz.cell 3
  have z4 := hzz.cell 4
  have z5 := hzz.cell 5
  have z6 := hzz.cell 6
  have z7 := hzz.cell 7
  simp at z0 z1 z2 z3 z4 z5 z6 z7
  have HBZ := Lib.hid ((((((((HB6.out.setCell (p := ⟨w.heap.size + 1 + 1, 0, none⟩) (by show w.heap.size ≤ w.heap.size + 1 + 1; omega) (.slice An nn cn)).setCell (p := ⟨w.heap.size + 1 + 1, 1, none⟩) (by show w.heap.size ≤ w.heap.size + 1 + 1; omega) (.slice Af lf cf)).setCell (p := ⟨w.heap.size + 1 + 1, 2, none⟩) (by show w.heap.size ≤ w.heap.size + 1 + 1; omega) (.map (some bo))).setCell (p := ⟨w.heap.size + 1 + 1, 3, none⟩) (by show w.heap.size ≤ w.heap.size + 1 + 1; omega) (.map (some bi))).setCell (p := ⟨w.heap.size + 1 + 1, 4, none⟩) (by show w.heap.size ≤ w.heap.size + 1 + 1; omega) (.map (some mb))).setCell (p := ⟨w.heap.size + 1 + 1, 5, none⟩) (by show w.heap.size ≤ w.heap.size + 1 + 1; omega) (.slice Av nv cv)).setCell (p := ⟨w.heap.size + 1 + 1, 6, none⟩) (by show w.heap.size ≤ w.heap.size + 1 + 1; omega) (.int .i64 cl)).setCell (p := ⟨w.heap.size + 1 + 1, 7, none⟩) (by show w.heap.size ≤ w.heap.size + 1 + 1; omega) (.slice At nt ct))
  have hzs : ((((((((w6.setCell ⟨w.heap.size + 1 + 1, 0, none⟩ (.slice An nn cn)).setCell ⟨w.heap.size + 1 + 1, 1, none⟩ (.slice Af lf cf)).setCell ⟨w.heap.size + 1 + 1, 2, none⟩ (.map (some bo))).setCell ⟨w.heap.size + 1 + 1, 3, none⟩ (.map (some bi))).setCell ⟨w.heap.size + 1 + 1, 4, none⟩ (.map (some mb))).setCell ⟨w.heap.size + 1 + 1, 5, none⟩ (.slice Av nv cv)).setCell ⟨w.heap.size + 1 + 1, 6, none⟩ (.int .i64 cl)).setCell ⟨w.heap.size + 1 + 1, 7, none⟩ (.slice At nt ct)).heap.size = w6.heap.size := by simp
  have hqlt : w.heap.size + 1 + 1 < w0.heap.size := by omega
  have hqmb : mb ≠ w.heap.size + 1 + 1 := by omega
  have HNZ := Lib.hid (show NetM ((((((((w6.setCell ⟨w.heap.size + 1 + 1, 0, none⟩ (.slice An nn cn)).setCell ⟨w.heap.size + 1 + 1, 1, none⟩ (.slice Af lf cf)).setCell ⟨w.heap.size + 1 + 1, 2, none⟩ (.map (some bo))).setCell ⟨w.heap.size + 1 + 1, 3, none⟩ (.map (some bi))).setCell ⟨w.heap.size + 1 + 1, 4, none⟩ (.map (some mb))).setCell ⟨w.heap.size + 1 + 1, 5, none⟩ (.slice Av nv cv)).setCell ⟨w.heap.size + 1 + 1, 6, none⟩ (.int .i64 cl)).setCell ⟨w.heap.size + 1 + 1, 7, none⟩ (.slice At nt ct)) ns fs ms An nn Af lf bo bi mb m from ⟨(hrn.keep HBZ.out hB).wide (Nat.zero_le _) (Nat.le_trans hB HBZ.out.size), (hr.keep HBZ.out hB1).wide (Nat.zero_le _) (Nat.le_trans hB1 HBZ.out.size), (((((((((HMO1.out.keep HBC6.out (Nat.le_refl _)).set (p := ⟨w.heap.size + 1 + 1, 0, none⟩) hqlt (.slice An nn cn)).set (p := ⟨w.heap.size + 1 + 1, 1, none⟩) hqlt (.slice Af lf cf)).set (p := ⟨w.heap.size + 1 + 1, 2, none⟩) hqlt (.map (some bo))).set (p := ⟨w.heap.size + 1 + 1, 3, none⟩) hqlt (.map (some bi))).set (p := ⟨w.heap.size + 1 + 1, 4, none⟩) hqlt (.map (some mb))).set (p := ⟨w.heap.size + 1 + 1, 5, none⟩) hqlt (.slice Av nv cv)).set (p := ⟨w.heap.size + 1 + 1, 6, none⟩) hqlt (.int .i64 cl)).set (p := ⟨w.heap.size + 1 + 1, 7, none⟩) hqlt (.slice At nt ct)).wide (Nat.zero_le _) (by omega), (((((((((HMI1.out.keep HBC6.out (Nat.le_refl _)).set (p := ⟨w.heap.size + 1 + 1, 0, none⟩) hqlt (.slice An nn cn)).set (p := ⟨w.heap.size + 1 + 1, 1, none⟩) hqlt (.slice Af lf cf)).set (p := ⟨w.heap.size + 1 + 1, 2, none⟩) hqlt (.map (some bo))).set (p := ⟨w.heap.size + 1 + 1, 3, none⟩) hqlt (.map (some bi))).set (p := ⟨w.heap.size + 1 + 1, 4, none⟩) hqlt (.map (some mb))).set (p := ⟨w.heap.size + 1 + 1, 5, none⟩) hqlt (.slice Av nv cv)).set (p := ⟨w.heap.size + 1 + 1, 6, none⟩) hqlt (.int .i64 cl)).set (p := ⟨w.heap.size + 1 + 1, 7, none⟩) hqlt (.slice At nt ct)).wide (Nat.zero_le _) (by omega), (imap_set (imap_set (imap_set (imap_set (imap_set (imap_set (imap_set (imap_set (HC1.out.keep HBC6.out HC1.out.lt) (p := ⟨w.heap.size + 1 + 1, 0, none⟩) hqmb (.slice An nn cn)) (p := ⟨w.heap.size + 1 + 1, 1, none⟩) hqmb (.slice Af lf cf)) (p := ⟨w.heap.size + 1 + 1, 2, none⟩) hqmb (.map (some bo))) (p := ⟨w.heap.size + 1 + 1, 3, none⟩) hqmb (.map (some bi))) (p := ⟨w.heap.size + 1 + 1, 4, none⟩) hqmb (.map (some mb))) (p := ⟨w.heap.size + 1 + 1, 5, none⟩) hqmb (.slice Av nv cv)) (p := ⟨w.heap.size + 1 + 1, 6, none⟩) hqmb (.int .i64 cl)) (p := ⟨w.heap.size + 1 + 1, 7, none⟩) hqmb (.slice At nt ct)), HN6.out.mm, HN6.out.vp, HN6.out.vm⟩)
  clear hzz
  go_wp2
  exact bodyPost_ret (v := .tuple #[.agg #[.slice An nn cn, .slice Af lf cf, .map (some bo), .map (some bi), .map (some mb), .slice Av nv cv, .int .i64 cl, .slice At nt ct], .bool true]) (by simp [results, Try.results28, go_sem, z0, z1, z2, z3, z4, z5, z6, z7]) rfl (RunPost.yes HYES.out HNZ.out hmb2 HBZ.out)
end Go.Proofs.Ytknphikoikdcjaa
