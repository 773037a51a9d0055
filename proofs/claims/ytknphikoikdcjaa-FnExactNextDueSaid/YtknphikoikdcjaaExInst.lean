/- The exact laws' helpers on instances: sizes, copies, comparisons. (Written by gen/exinst.py.) -/
import Derived.Test.YtknphikoikdcjaaExTimer
import Derived.Test.YtknphikoikdcjaaExInt
import Derived.Test.YtknphikoikdcjaaInstMath
set_option linter.unusedSimpArgs false
set_option linter.unusedVariables false
namespace Go.Proofs.Ytknphikoikdcjaa
open Go.RowKit

theorem Blk.newAt {w : World} {t : TypeId} {cs : Array Value} {g : Nat} (h : w.heap.size = g) : Blk (w.alloc (.cells cs t)) g t cs := h ▸ Blk.new w t cs
theorem szIntS_no (n c : Nat) (A : Option Addr) (left : Int) (w : World) (hn : n ≤ 9223372036854775807) (hl : 0 ≤ left) (hl2 : left ≤ 1048576) (h : left < n) :
    Calls Try.prog 20 #[.slice A n c, .int .i64 left] w fun e w' => e = .returned (.int .i64 (-1)) ∧ w = w' := by
  go_enter Try.func20, Try.ntmps20
  go_wp2
  go_ret
  exact ⟨rfl, rfl⟩
theorem szIntS_yes (n c : Nat) (A : Option Addr) (left : Int) (w : World) (hl : 0 ≤ left) (hl2 : left ≤ 1048576) (h : n ≤ left) :
    Calls Try.prog 20 #[.slice A n c, .int .i64 left] w fun e w' => e = .returned (.int .i64 (left - n)) ∧ w = w' := by
  go_enter Try.func20, Try.ntmps20
  go_wp2
  go_ret
  exact ⟨rfl, rfl⟩
set_option maxHeartbeats 1600000 in
theorem szInstance_any (nm cm nv cv nt ct : Nat) (Am Av At : Option Addr) (cl : Int) (left : Int) (w : World) (hnm : nm ≤ 9223372036854775807) (hnv : nv ≤ 9223372036854775807) (hnt : nt ≤ 9223372036854775807) (hl : 0 ≤ left) (hl2 : left ≤ 1048576) :
    Calls Try.prog 7 #[.agg #[.slice Am nm cm, .slice Av nv cv, .int .i64 cl, .slice At nt ct], .int .i64 left] w fun e w' => Below w.heap.size w w' ∧ (e = .returned (.int .i64 (-1)) ∨ ∃ r : Int, e = .returned (.int .i64 r) ∧ 0 ≤ r ∧ r ≤ left ∧ nm ≤ 1048576 ∧ nv ≤ 1048576 ∧ nt ≤ 1048576) := by
  have hb1 := up_alloc (Below.refl _ w) (.cells #[.slice Am nm cm, .slice Av nv cv, .int .i64 cl, .slice At nt ct] 29)
  by_cases h1 : left < nm
  · go_enter Try.func7, Try.ntmps7
    go_wp2_with (fail)
    (with_reducible refine (szIntS_no nm cm Am left _ hnm hl hl2 h1).mono ?_)
    rintro e w' ⟨rfl, rfl⟩
    go_wp2
    go_ret
    exact ⟨hb1, .inl rfl⟩
  by_cases h2 : left - nm < nv
  · have hp1 : decide (left - (nm : Int) < 0) = false := decide_eq_false (by omega)
    go_enter Try.func7, Try.ntmps7
    go_wp2_with (fail)
    (with_reducible refine (szIntS_yes nm cm Am left _ hl hl2 (by omega)).mono ?_)
    rintro e w' ⟨rfl, rfl⟩
    go_wp2_with (fail)
    (with_reducible refine (szIntS_no nv cv Av (left - nm) _ hnv (by omega) (by omega) h2).mono ?_)
    rintro e w' ⟨rfl, rfl⟩
    go_wp2
    go_ret
    exact ⟨hb1, .inl rfl⟩
  by_cases h3 : left - nm - nv < nt
  · have hp1 : decide (left - (nm : Int) < 0) = false := decide_eq_false (by omega)
    have hp2 : decide (left - (nm : Int) - (nv : Int) < 0) = false := decide_eq_false (by omega)
    go_enter Try.func7, Try.ntmps7
    go_wp2_with (fail)
    (with_reducible refine (szIntS_yes nm cm Am left _ hl hl2 (by omega)).mono ?_)
    rintro e w' ⟨rfl, rfl⟩
    go_wp2_with (fail)
    (with_reducible refine (szIntS_yes nv cv Av (left - nm) _ (by omega) (by omega) (by omega)).mono ?_)
    rintro e w' ⟨rfl, rfl⟩
    go_wp2_with (fail)
    (with_reducible refine (szTimerS_no nt ct At (left - nm - nv) _ hnt (by omega) (by omega) h3).mono ?_)
    rintro e w' ⟨rfl, rfl⟩
    go_wp2
    go_ret
    exact ⟨hb1, .inl rfl⟩
  have hp1 : decide (left - (nm : Int) < 0) = false := decide_eq_false (by omega)
  have hp2 : decide (left - (nm : Int) - (nv : Int) < 0) = false := decide_eq_false (by omega)
  have hp3 : decide (left - (nm : Int) - (nv : Int) - (nt : Int) < 0) = false := decide_eq_false (by omega)
  go_enter Try.func7, Try.ntmps7
  go_wp2_with (fail)
  (with_reducible refine (szIntS_yes nm cm Am left _ hl hl2 (by omega)).mono ?_)
  rintro e w' ⟨rfl, rfl⟩
  go_wp2_with (fail)
  (with_reducible refine (szIntS_yes nv cv Av (left - nm) _ (by omega) (by omega) (by omega)).mono ?_)
  rintro e w' ⟨rfl, rfl⟩
  go_wp2_with (fail)
  (with_reducible refine (szTimerS_yes nt ct At (left - nm - nv) _ (by omega) (by omega) (by omega)).mono ?_)
  rintro e w' ⟨rfl, rfl⟩
  go_wp2
  go_ret
  exact ⟨hb1, .inr ⟨_, rfl, by omega, by omega, by omega, by omega, by omega⟩⟩
/-- An instance, copied: three rows, one behind another. -/
def ToInst (ms vs : List Int) (cl : Int) (ts : List (Int × Int)) (nm nv nt : Nat) (w : World) (e : Ending) (w' : World) : Prop :=
  ∃ (A1 : Option Addr) (c1 : Nat) (A2 : Option Addr) (c2 : Nat) (A3 : Option Addr) (c3 m1 m2 : Nat), e = .returned (.agg #[.slice A1 nm c1, .slice A2 nv c2, .int .i64 cl, .slice A3 nt c3]) ∧ (nm ≤ c1 ∧ nv ≤ c2 ∧ nt ≤ c3) ∧ (w.heap.size ≤ m1 ∧ m1 ≤ m2 ∧ m2 ≤ w'.heap.size) ∧
    (Rd w' w.heap.size m1 1 A1 nm (ivs ms) ∧ Soft w' 1 A1 nm) ∧ (Rd w' m1 m2 1 A2 nv (ivs vs) ∧ Soft w' 1 A2 nv) ∧ (Rd w' m2 w'.heap.size 2 A3 nt (pvs ts) ∧ Soft w' 2 A3 nt) ∧ Below w.heap.size w w'
set_option maxRecDepth 100000 in
set_option maxHeartbeats 3200000 in
theorem toInstance_any (nm cm nv cv nt ct : Nat) (Am Av At : Option Addr) (cl : Int) (lom him lov hiv lot hit : Nat) (ms vs : List Int) (ts : List (Int × Int)) (w : World) (hm : Rd w lom him 1 Am nm (ivs ms)) (hBm : him ≤ w.heap.size) (hnm : nm ≤ 1048576) (hv : Rd w lov hiv 1 Av nv (ivs vs)) (hBv : hiv ≤ w.heap.size) (hnv : nv ≤ 1048576) (ht : Rd w lot hit 2 At nt (pvs ts)) (hBt : hit ≤ w.heap.size) (hnt : nt ≤ 1048576) :
    Calls Try.prog 10 #[.agg #[.slice Am nm cm, .slice Av nv cv, .int .i64 cl, .slice At nt ct]] w (ToInst ms vs cl ts nm nv nt w) := by
  have hb0 := up_alloc (up_alloc (up_alloc (Below.refl _ w) (.cells #[.slice Am nm cm, .slice Av nv cv, .int .i64 cl, .slice At nt ct] 29)) (.cells #[.slice none 0 0, .slice none 0 0, .int .i64 0, .slice none 0 0] 40)) (.cells #[.slice none 0 0, .slice none 0 0, .int .i64 0, .slice none 0 0] 40)
  have HX0 := Lib.hid (((Blk.new w 29 #[.slice Am nm cm, .slice Av nv cv, .int .i64 cl, .slice At nt ct]).alloc (.cells #[.slice none 0 0, .slice none 0 0, .int .i64 0, .slice none 0 0] 40)).alloc (.cells #[.slice none 0 0, .slice none 0 0, .int .i64 0, .slice none 0 0] 40))
  have HQ0 := Lib.hid (show Blk (((w.alloc (.cells #[.slice Am nm cm, .slice Av nv cv, .int .i64 cl, .slice At nt ct] 29)).alloc (.cells #[.slice none 0 0, .slice none 0 0, .int .i64 0, .slice none 0 0] 40)).alloc (.cells #[.slice none 0 0, .slice none 0 0, .int .i64 0, .slice none 0 0] 40)) (w.heap.size + 1) 40 #[.slice none 0 0, .slice none 0 0, .int .i64 0, .slice none 0 0] from (Blk.newAt (by simp)).alloc _)
  have HO0 := Lib.hid (show Blk (((w.alloc (.cells #[.slice Am nm cm, .slice Av nv cv, .int .i64 cl, .slice At nt ct] 29)).alloc (.cells #[.slice none 0 0, .slice none 0 0, .int .i64 0, .slice none 0 0] 40)).alloc (.cells #[.slice none 0 0, .slice none 0 0, .int .i64 0, .slice none 0 0] 40)) (w.heap.size + 1 + 1) 40 #[.slice none 0 0, .slice none 0 0, .int .i64 0, .slice none 0 0] from Blk.newAt (by simp))
  have HB0 := Lib.hid hb0
  have hz0 : (((w.alloc (.cells #[.slice Am nm cm, .slice Av nv cv, .int .i64 cl, .slice At nt ct] 29)).alloc (.cells #[.slice none 0 0, .slice none 0 0, .int .i64 0, .slice none 0 0] 40)).alloc (.cells #[.slice none 0 0, .slice none 0 0, .int .i64 0, .slice none 0 0] 40)).heap.size = w.heap.size + 1 + 1 + 1 := by simp
  clear hb0
  go_enter Try.func10, Try.ntmps10
  go_wp2_with (fail)
  generalize (((w.alloc (.cells #[.slice Am nm cm, .slice Av nv cv, .int .i64 cl, .slice At nt ct] 29)).alloc (.cells #[.slice none 0 0, .slice none 0 0, .int .i64 0, .slice none 0 0] 40)).alloc (.cells #[.slice none 0 0, .slice none 0 0, .int .i64 0, .slice none 0 0] 40)) = w0 at *
  (with_reducible refine (toIntS_any lom him nm cm Am ms w0 (hm.keep HB0.out hBm) (by omega) hnm).mono ?_)
  rintro e w1 ⟨A1, c1, rfl, hk1, hr1, hf1, hb1⟩
  have hz1 := hb1.size
  have HX1 := Lib.hid (HX0.out.below hb1 (by omega))
  have HQ1 := Lib.hid (HQ0.out.below hb1 (by omega))
  have HO1 := Lib.hid (HO0.out.below hb1 (by omega))
  have HB1 := Lib.hid (up HB0.out hb1)
  have o0 := HO1.out.cell 0
  have o1 := HO1.out.cell 1
  have o2 := HO1.out.cell 2
  have o3 := HO1.out.cell 3
  have fo0 := HO1.out.soft 0
  have fo1 := HO1.out.soft 1
  have fo2 := HO1.out.soft 2
  have fo3 := HO1.out.soft 3
  have xo0 := HX1.out.cell 0
  have xo1 := HX1.out.cell 1
  have xo2 := HX1.out.cell 2
  have xo3 := HX1.out.cell 3
  go_wp2_with (fail)
  clear o0 o1 o2 o3 fo0 fo1 fo2 fo3 xo0 xo1 xo2 xo3
  have HX2 := Lib.hid (HX1.out.far (p := ⟨w.heap.size + 1 + 1, 0, none⟩) (by show w.heap.size ≠ w.heap.size + 1 + 1; omega) (.slice A1 nm c1))
  have HQ2 := Lib.hid (HQ1.out.far (p := ⟨w.heap.size + 1 + 1, 0, none⟩) (by show w.heap.size + 1 ≠ w.heap.size + 1 + 1; omega) (.slice A1 nm c1))
  have HO2 := Lib.hid (HO1.out.put 0 (.slice A1 nm c1))
  have HB2 := Lib.hid (HB1.out.setCell (p := ⟨w.heap.size + 1 + 1, 0, none⟩) (by show w.heap.size ≤ w.heap.size + 1 + 1; omega) (.slice A1 nm c1))
  have HR1B := Lib.hid (hr1.setCell (p := ⟨w.heap.size + 1 + 1, 0, none⟩) (.inl (by show w.heap.size + 1 + 1 < w0.heap.size; omega)) (.slice A1 nm c1))
  have HF1B := Lib.hid (hf1.store ⟨w.heap.size + 1 + 1, 0, none⟩ (.slice A1 nm c1))
  have hz2 : (w1.setCell ⟨w.heap.size + 1 + 1, 0, none⟩ (.slice A1 nm c1)).heap.size = w1.heap.size := by simp
  clear HX0 HQ0 HO0 HB0 HX1 HQ1 HO1 HB1 hr1 hf1 hb1
  generalize (w1.setCell ⟨w.heap.size + 1 + 1, 0, none⟩ (.slice A1 nm c1)) = w2 at *
  simp at HO2
  (with_reducible refine (toIntS_any lov hiv nv cv Av vs w2 (hv.keep HB2.out hBv) (by omega) hnv).mono ?_)
  rintro e w3 ⟨A2, c2, rfl, hk2, hr2, hf2, hb3⟩
  have hz3 := hb3.size
  have HX3 := Lib.hid (HX2.out.below hb3 (by omega))
  have HQ3 := Lib.hid (HQ2.out.below hb3 (by omega))
  have HO3 := Lib.hid (HO2.out.below hb3 (by omega))
  have HB3 := Lib.hid (up HB2.out hb3)
  have HR1C := Lib.hid (HR1B.out.keep hb3 (by omega))
  have HF1C := Lib.hid (HF1B.out.kept HR1B.out hb3 (by omega))
  have o0 := HO3.out.cell 0
  have o1 := HO3.out.cell 1
  have o2 := HO3.out.cell 2
  have o3 := HO3.out.cell 3
  have fo0 := HO3.out.soft 0
  have fo1 := HO3.out.soft 1
  have fo2 := HO3.out.soft 2
  have fo3 := HO3.out.soft 3
  have xo0 := HX3.out.cell 0
  have xo1 := HX3.out.cell 1
  have xo2 := HX3.out.cell 2
  have xo3 := HX3.out.cell 3
  go_wp2_with (fail)
  clear o0 o1 o2 o3 fo0 fo1 fo2 fo3 xo0 xo1 xo2 xo3
  have HX4 := Lib.hid ((HX3.out.far (p := ⟨w.heap.size + 1 + 1, 1, none⟩) (by show w.heap.size ≠ w.heap.size + 1 + 1; omega) (.slice A2 nv c2)).far (p := ⟨w.heap.size + 1 + 1, 2, none⟩) (by show w.heap.size ≠ w.heap.size + 1 + 1; omega) (.int .i64 cl))
  have HQ4 := Lib.hid ((HQ3.out.far (p := ⟨w.heap.size + 1 + 1, 1, none⟩) (by show w.heap.size + 1 ≠ w.heap.size + 1 + 1; omega) (.slice A2 nv c2)).far (p := ⟨w.heap.size + 1 + 1, 2, none⟩) (by show w.heap.size + 1 ≠ w.heap.size + 1 + 1; omega) (.int .i64 cl))
  have HO4 := Lib.hid ((HO3.out.put 1 (.slice A2 nv c2)).put 2 (.int .i64 cl))
  have HB4 := Lib.hid ((HB3.out.setCell (p := ⟨w.heap.size + 1 + 1, 1, none⟩) (by show w.heap.size ≤ w.heap.size + 1 + 1; omega) (.slice A2 nv c2)).setCell (p := ⟨w.heap.size + 1 + 1, 2, none⟩) (by show w.heap.size ≤ w.heap.size + 1 + 1; omega) (.int .i64 cl))
  have HR1D := Lib.hid ((HR1C.out.setCell (p := ⟨w.heap.size + 1 + 1, 1, none⟩) (.inl (by show w.heap.size + 1 + 1 < w0.heap.size; omega)) (.slice A2 nv c2)).setCell (p := ⟨w.heap.size + 1 + 1, 2, none⟩) (.inl (by show w.heap.size + 1 + 1 < w0.heap.size; omega)) (.int .i64 cl))
  have HF1D := Lib.hid ((HF1C.out.store ⟨w.heap.size + 1 + 1, 1, none⟩ (.slice A2 nv c2)).store ⟨w.heap.size + 1 + 1, 2, none⟩ (.int .i64 cl))
  have HR2D := Lib.hid ((hr2.setCell (p := ⟨w.heap.size + 1 + 1, 1, none⟩) (.inl (by show w.heap.size + 1 + 1 < w2.heap.size; omega)) (.slice A2 nv c2)).setCell (p := ⟨w.heap.size + 1 + 1, 2, none⟩) (.inl (by show w.heap.size + 1 + 1 < w2.heap.size; omega)) (.int .i64 cl))
  have HF2D := Lib.hid ((hf2.store ⟨w.heap.size + 1 + 1, 1, none⟩ (.slice A2 nv c2)).store ⟨w.heap.size + 1 + 1, 2, none⟩ (.int .i64 cl))
  have hz4 : ((w3.setCell ⟨w.heap.size + 1 + 1, 1, none⟩ (.slice A2 nv c2)).setCell ⟨w.heap.size + 1 + 1, 2, none⟩ (.int .i64 cl)).heap.size = w3.heap.size := by simp
  clear HX2 HQ2 HO2 HB2 HX3 HQ3 HO3 HB3 hr2 hf2 hb3 HR1B HF1B HR1C HF1C
  generalize ((w3.setCell ⟨w.heap.size + 1 + 1, 1, none⟩ (.slice A2 nv c2)).setCell ⟨w.heap.size + 1 + 1, 2, none⟩ (.int .i64 cl)) = w4 at *
  simp at HO4
  (with_reducible refine (toTimerS_any lot hit nt ct At ts w4 (ht.keep HB4.out hBt) (by omega) hnt).mono ?_)
  rintro e w5 ⟨A3, c3, rfl, hk3, hr3, hf3, hb5⟩
  have hz5 := hb5.size
  have HX5 := Lib.hid (HX4.out.below hb5 (by omega))
  have HQ5 := Lib.hid (HQ4.out.below hb5 (by omega))
  have HO5 := Lib.hid (HO4.out.below hb5 (by omega))
  have HB5 := Lib.hid (up HB4.out hb5)
  have HR1E := Lib.hid (HR1D.out.keep hb5 (by omega))
  have HF1E := Lib.hid (HF1D.out.kept HR1D.out hb5 (by omega))
  have HR2E := Lib.hid (HR2D.out.keep hb5 (by omega))
  have HF2E := Lib.hid (HF2D.out.kept HR2D.out hb5 (by omega))
  have o0 := HO5.out.cell 0
  have o1 := HO5.out.cell 1
  have o2 := HO5.out.cell 2
  have o3 := HO5.out.cell 3
  have fo0 := HO5.out.soft 0
  have fo1 := HO5.out.soft 1
  have fo2 := HO5.out.soft 2
  have fo3 := HO5.out.soft 3
  have xo0 := HX5.out.cell 0
  have xo1 := HX5.out.cell 1
  have xo2 := HX5.out.cell 2
  have xo3 := HX5.out.cell 3
  have q0 := HQ5.out.cell 0
  have q1 := HQ5.out.cell 1
  have q2 := HQ5.out.cell 2
  have q3 := HQ5.out.cell 3
  have g0 := HQ5.out.soft 0
  have g1 := HQ5.out.soft 1
  have g2 := HQ5.out.soft 2
  have g3 := HQ5.out.soft 3
  have hzz := (((((HQ5.out.far (p := ⟨w.heap.size + 1 + 1, 3, none⟩) (by show w.heap.size + 1 ≠ w.heap.size + 1 + 1; omega) (.slice A3 nt c3)).put 0 (.slice A1 nm c1)).put 1 (.slice A2 nv c2)).put 2 (.int .i64 cl)).put 3 (.slice A3 nt c3))
  have z0 := hzz.cell 0
  have z1 := hzz.cell 1
  have z2 := hzz.cell 2
  have z3 := hzz.cell 3
  simp at z0 z1 z2 z3
  have HR1Z := Lib.hid (((((HR1E.out.setCell (p := ⟨w.heap.size + 1 + 1, 3, none⟩) (.inl (by show w.heap.size + 1 + 1 < w0.heap.size; omega)) (.slice A3 nt c3)).setCell (p := ⟨w.heap.size + 1, 0, none⟩) (.inl (by show w.heap.size + 1 < w0.heap.size; omega)) (.slice A1 nm c1)).setCell (p := ⟨w.heap.size + 1, 1, none⟩) (.inl (by show w.heap.size + 1 < w0.heap.size; omega)) (.slice A2 nv c2)).setCell (p := ⟨w.heap.size + 1, 2, none⟩) (.inl (by show w.heap.size + 1 < w0.heap.size; omega)) (.int .i64 cl)).setCell (p := ⟨w.heap.size + 1, 3, none⟩) (.inl (by show w.heap.size + 1 < w0.heap.size; omega)) (.slice A3 nt c3))
  have HF1Z := Lib.hid (((((HF1E.out.store ⟨w.heap.size + 1 + 1, 3, none⟩ (.slice A3 nt c3)).store ⟨w.heap.size + 1, 0, none⟩ (.slice A1 nm c1)).store ⟨w.heap.size + 1, 1, none⟩ (.slice A2 nv c2)).store ⟨w.heap.size + 1, 2, none⟩ (.int .i64 cl)).store ⟨w.heap.size + 1, 3, none⟩ (.slice A3 nt c3))
  have HR2Z := Lib.hid (((((HR2E.out.setCell (p := ⟨w.heap.size + 1 + 1, 3, none⟩) (.inl (by show w.heap.size + 1 + 1 < w2.heap.size; omega)) (.slice A3 nt c3)).setCell (p := ⟨w.heap.size + 1, 0, none⟩) (.inl (by show w.heap.size + 1 < w2.heap.size; omega)) (.slice A1 nm c1)).setCell (p := ⟨w.heap.size + 1, 1, none⟩) (.inl (by show w.heap.size + 1 < w2.heap.size; omega)) (.slice A2 nv c2)).setCell (p := ⟨w.heap.size + 1, 2, none⟩) (.inl (by show w.heap.size + 1 < w2.heap.size; omega)) (.int .i64 cl)).setCell (p := ⟨w.heap.size + 1, 3, none⟩) (.inl (by show w.heap.size + 1 < w2.heap.size; omega)) (.slice A3 nt c3))
  have HF2Z := Lib.hid (((((HF2E.out.store ⟨w.heap.size + 1 + 1, 3, none⟩ (.slice A3 nt c3)).store ⟨w.heap.size + 1, 0, none⟩ (.slice A1 nm c1)).store ⟨w.heap.size + 1, 1, none⟩ (.slice A2 nv c2)).store ⟨w.heap.size + 1, 2, none⟩ (.int .i64 cl)).store ⟨w.heap.size + 1, 3, none⟩ (.slice A3 nt c3))
  have HR3Z := Lib.hid (((((hr3.setCell (p := ⟨w.heap.size + 1 + 1, 3, none⟩) (.inl (by show w.heap.size + 1 + 1 < w4.heap.size; omega)) (.slice A3 nt c3)).setCell (p := ⟨w.heap.size + 1, 0, none⟩) (.inl (by show w.heap.size + 1 < w4.heap.size; omega)) (.slice A1 nm c1)).setCell (p := ⟨w.heap.size + 1, 1, none⟩) (.inl (by show w.heap.size + 1 < w4.heap.size; omega)) (.slice A2 nv c2)).setCell (p := ⟨w.heap.size + 1, 2, none⟩) (.inl (by show w.heap.size + 1 < w4.heap.size; omega)) (.int .i64 cl)).setCell (p := ⟨w.heap.size + 1, 3, none⟩) (.inl (by show w.heap.size + 1 < w4.heap.size; omega)) (.slice A3 nt c3))
  have HF3Z := Lib.hid (((((hf3.store ⟨w.heap.size + 1 + 1, 3, none⟩ (.slice A3 nt c3)).store ⟨w.heap.size + 1, 0, none⟩ (.slice A1 nm c1)).store ⟨w.heap.size + 1, 1, none⟩ (.slice A2 nv c2)).store ⟨w.heap.size + 1, 2, none⟩ (.int .i64 cl)).store ⟨w.heap.size + 1, 3, none⟩ (.slice A3 nt c3))
  have HBZ := Lib.hid (((((HB5.out.setCell (p := ⟨w.heap.size + 1 + 1, 3, none⟩) (by show w.heap.size ≤ w.heap.size + 1 + 1; omega) (.slice A3 nt c3)).setCell (p := ⟨w.heap.size + 1, 0, none⟩) (by show w.heap.size ≤ w.heap.size + 1; omega) (.slice A1 nm c1)).setCell (p := ⟨w.heap.size + 1, 1, none⟩) (by show w.heap.size ≤ w.heap.size + 1; omega) (.slice A2 nv c2)).setCell (p := ⟨w.heap.size + 1, 2, none⟩) (by show w.heap.size ≤ w.heap.size + 1; omega) (.int .i64 cl)).setCell (p := ⟨w.heap.size + 1, 3, none⟩) (by show w.heap.size ≤ w.heap.size + 1; omega) (.slice A3 nt c3))
  clear hzz hr3 hf3 hb5 HX4 HQ4 HO4 HB4 HX5 HQ5 HO5 HB5 HR1D HF1D HR2D HF2D HR1E HF1E HR2E HF2E
  go_wp2
  exact bodyPost_ret (v := .agg #[.slice A1 nm c1, .slice A2 nv c2, .int .i64 cl, .slice A3 nt c3]) (by simp [results, Try.results10, go_sem, z0, z1, z2, z3]) rfl ⟨A1, c1, A2, c2, A3, c3, w2.heap.size, w4.heap.size, rfl, ⟨hk1, hk2, hk3⟩, ⟨by omega, by omega, by simp; omega⟩, ⟨HR1Z.out.wide (by omega) (by omega), HF1Z.out⟩, ⟨HR2Z.out.wide (by omega) (by omega), HF2Z.out⟩, ⟨HR3Z.out.wide (by omega) (by simp), HF3Z.out⟩, HBZ.out⟩
set_option maxHeartbeats 1600000 in
theorem eqInstance_same (nm nv nt cm cv ct cm' cv' ct' : Nat) (Am Av At Am' Av' At' : Option Addr) (cl : Int) (lom him lov hiv lot hit lom' him' lov' hiv' lot' hit' : Nat) (ms vs : List Int) (ts : List (Int × Int)) (w : World)
    (hm : Rd w lom him 1 Am nm (ivs ms)) (hBm : him ≤ w.heap.size) (hnm : nm ≤ 1048576) (hv : Rd w lov hiv 1 Av nv (ivs vs)) (hBv : hiv ≤ w.heap.size) (hnv : nv ≤ 1048576) (ht : Rd w lot hit 2 At nt (pvs ts)) (hBt : hit ≤ w.heap.size) (hnt : nt ≤ 1048576)
    (hm' : Rd w lom' him' 1 Am' nm (ivs ms)) (hBm' : him' ≤ w.heap.size) (hv' : Rd w lov' hiv' 1 Av' nv (ivs vs)) (hBv' : hiv' ≤ w.heap.size) (ht' : Rd w lot' hit' 2 At' nt (pvs ts)) (hBt' : hit' ≤ w.heap.size) :
    Calls Try.prog 13 #[.agg #[.slice Am nm cm, .slice Av nv cv, .int .i64 cl, .slice At nt ct], .agg #[.slice Am' nm cm', .slice Av' nv cv', .int .i64 cl, .slice At' nt ct']] w fun e w' => e = .returned (.bool true) ∧ Below w.heap.size w w' := by
  have hb0 := up_alloc (up_alloc (Below.refl _ w) (.cells #[.slice Am nm cm, .slice Av nv cv, .int .i64 cl, .slice At nt ct] 40)) (.cells #[.slice Am' nm cm', .slice Av' nv cv', .int .i64 cl, .slice At' nt ct'] 40)
  have HA := Lib.hid ((Blk.new w 40 #[.slice Am nm cm, .slice Av nv cv, .int .i64 cl, .slice At nt ct]).alloc (.cells #[.slice Am' nm cm', .slice Av' nv cv', .int .i64 cl, .slice At' nt ct'] 40))
  have HC := Lib.hid (show Blk ((w.alloc (.cells #[.slice Am nm cm, .slice Av nv cv, .int .i64 cl, .slice At nt ct] 40)).alloc (.cells #[.slice Am' nm cm', .slice Av' nv cv', .int .i64 cl, .slice At' nt ct'] 40)) (w.heap.size + 1) 40 #[.slice Am' nm cm', .slice Av' nv cv', .int .i64 cl, .slice At' nt ct'] from Blk.newAt (by simp))
  have HB0 := Lib.hid hb0
  have hz0 : ((w.alloc (.cells #[.slice Am nm cm, .slice Av nv cv, .int .i64 cl, .slice At nt ct] 40)).alloc (.cells #[.slice Am' nm cm', .slice Av' nv cv', .int .i64 cl, .slice At' nt ct'] 40)).heap.size = w.heap.size + 1 + 1 := by simp
  have hcl : (cl != cl) = false := by simp
  clear hb0
  go_enter Try.func13, Try.ntmps13
  go_wp2_with (fail)
  generalize (w.alloc (.cells #[.slice Am nm cm, .slice Av nv cv, .int .i64 cl, .slice At nt ct] 40)).alloc (.cells #[.slice Am' nm cm', .slice Av' nv cv', .int .i64 cl, .slice At' nt ct'] 40) = w0 at *
  (with_reducible refine (eqIntS_any _ _ nm cm _ _ nm cm' Am Am' ms ms w0 (hm.keep HB0.out hBm) (by omega) hnm (hm'.keep HB0.out hBm') (by omega) hnm).mono ?_)
  rintro e w1 ⟨rfl, hb1⟩
  rw [beq_self_eq_true]
  have hz1 := hb1.size
  have HB1 := Lib.hid (up HB0.out hb1)
  have HA1 := Lib.hid (HA.out.below hb1 (by omega))
  have HC1 := Lib.hid (HC.out.below hb1 (by omega))
  clear HA HC
  have a10 := HA1.out.cell 0
  have a11 := HA1.out.cell 1
  have a12 := HA1.out.cell 2
  have a13 := HA1.out.cell 3
  have c10 := HC1.out.cell 0
  have c11 := HC1.out.cell 1
  have c12 := HC1.out.cell 2
  have c13 := HC1.out.cell 3
  clear hb1
  go_wp2_with (fail)
  (with_reducible refine (eqIntS_any _ _ nv cv _ _ nv cv' Av Av' vs vs w1 (hv.keep HB1.out hBv) (by omega) hnv (hv'.keep HB1.out hBv') (by omega) hnv).mono ?_)
  rintro e w2 ⟨rfl, hb2⟩
  rw [beq_self_eq_true]
  have hz2 := hb2.size
  have HB2 := Lib.hid (up HB1.out hb2)
  clear a10 c10 a11 c11 a12 c12 a13 c13
  have HA2 := Lib.hid (HA1.out.below hb2 (by omega))
  have HC2 := Lib.hid (HC1.out.below hb2 (by omega))
  clear HA1 HC1
  have a20 := HA2.out.cell 0
  have a21 := HA2.out.cell 1
  have a22 := HA2.out.cell 2
  have a23 := HA2.out.cell 3
  have c20 := HC2.out.cell 0
  have c21 := HC2.out.cell 1
  have c22 := HC2.out.cell 2
  have c23 := HC2.out.cell 3
  clear hb2
  go_wp2_with (fail)
  (with_reducible refine (eqTimerS_any _ _ nt ct _ _ nt ct' At At' ts ts w2 (ht.keep HB2.out hBt) (by omega) hnt (ht'.keep HB2.out hBt') (by omega) hnt).mono ?_)
  rintro e w3 ⟨rfl, hb3⟩
  rw [beq_self_eq_true]
  have HB3 := Lib.hid (up HB2.out hb3)
  clear hb3
  go_wp2
  go_ret
  exact ⟨rfl, HB3.out⟩
end Go.Proofs.Ytknphikoikdcjaa
