/- The reference: ValidInstance, IsDone, NextDue. (Written by gen/runs.py.) -/
import Derived.Test.YtknphikoikdcjaaRunF
import Derived.Test.YtknphikoikdcjaaInstS3
import Derived.Test.YtknphikoikdcjaaSmallS
set_option linter.unusedSimpArgs false
set_option linter.unusedVariables false
namespace Go.Proofs.Ytknphikoikdcjaa
open Go.RowKit

set_option maxRecDepth 100000 in
set_option maxHeartbeats 1600000 in
theorem ValidInstanceS_any (lo hi nn cn : Nat) (An : Option Addr) (ns : List (Int × Int)) (lo1 hi1 lf cf : Nat) (Af : Option Addr) (fs : List Flw) (lom him nm cm : Nat) (Am : Option Addr) (ms : List Int) (lov hiv nv cv : Nat) (Av : Option Addr) (vs : List Int) (cl : Int) (lot hit nt ct : Nat) (At : Option Addr) (ts : List Tm) (w : World) (hrn : Rd w lo hi 2 An nn (pvs ns)) (hB : hi ≤ w.heap.size) (hnn : nn ≤ 1048576) (hr : Fls w lo1 hi1 Af lf fs) (hB1 : hi1 ≤ w.heap.size) (hn : lf ≤ 1048576) (hm : Rd w lom him 1 Am nm (ivs ms)) (hBm : him ≤ w.heap.size) (hnm : nm ≤ 1048576) (hv : Rd w lov hiv 1 Av nv (ivs vs)) (hBv : hiv ≤ w.heap.size) (hnv : nv ≤ 1048576) (ht : Rd w lot hit 2 At nt (pvs ts)) (hBt : hit ≤ w.heap.size) (hnt : nt ≤ 1048576) :
    Calls Try.prog 8 #[.agg #[.slice An nn cn, .slice Af lf cf], .agg #[.slice Am nm cm, .slice Av nv cv, .int .i64 cl, .slice At nt ct]] w fun e w' => e = .returned (.bool (okInst ns fs ms vs cl ts)) ∧ Below w.heap.size w w' := by
  have hb0 := up_alloc (up_alloc (Below.refl _ w) (.cells #[.slice An nn cn, .slice Af lf cf] 36)) (.cells #[.slice Am nm cm, .slice Av nv cv, .int .i64 cl, .slice At nt ct] 40)
  have HP := Lib.hid ((Blk.new w 36 #[.slice An nn cn, .slice Af lf cf]).alloc (.cells #[.slice Am nm cm, .slice Av nv cv, .int .i64 cl, .slice At nt ct] 40))
  have HX := Lib.hid (show Blk ((w.alloc (.cells #[.slice An nn cn, .slice Af lf cf] 36)).alloc (.cells #[.slice Am nm cm, .slice Av nv cv, .int .i64 cl, .slice At nt ct] 40)) (w.heap.size + 1) 40 #[.slice Am nm cm, .slice Av nv cv, .int .i64 cl, .slice At nt ct] from Blk.newAtR (by simp))
  have hz : ((w.alloc (.cells #[.slice An nn cn, .slice Af lf cf] 36)).alloc (.cells #[.slice Am nm cm, .slice Av nv cv, .int .i64 cl, .slice At nt ct] 40)).heap.size = w.heap.size + 1 + 1 := by simp
  have HB := Lib.hid hb0
  have HLT := Lib.hid ht.len2
  clear hb0
  have p0 : ((w.alloc (.cells #[.slice An nn cn, .slice Af lf cf] 36)).alloc (.cells #[.slice Am nm cm, .slice Av nv cv, .int .i64 cl, .slice At nt ct] 40)).cell? ⟨w.heap.size, 0, none⟩ = some (.slice An nn cn) := HP.out.cell 0
  have p1 : ((w.alloc (.cells #[.slice An nn cn, .slice Af lf cf] 36)).alloc (.cells #[.slice Am nm cm, .slice Av nv cv, .int .i64 cl, .slice At nt ct] 40)).cell? ⟨w.heap.size, 1, none⟩ = some (.slice Af lf cf) := HP.out.cell 1
  go_enter Try.func8, Try.ntmps8
  go_wp2_with (fail)
  clear p0 p1
  generalize ((w.alloc (.cells #[.slice An nn cn, .slice Af lf cf] 36)).alloc (.cells #[.slice Am nm cm, .slice Av nv cv, .int .i64 cl, .slice At nt ct] 40)) = w0 at *
  (with_reducible refine (validProcessS_any lo hi nn cn An ns lo1 hi1 lf cf Af fs w0 (hrn.keep HB.out hB) (by omega) hnn (hr.keep HB.out hB1) (by omega) hn).mono ?_)
  rintro e w1 ⟨rfl, hb1⟩
  have hs1 := hb1.size
  have HB1 := Lib.hid (up HB.out hb1)
  have HP1 := Lib.hid (HP.out.below hb1 (by omega))
  have HX1 := Lib.hid (HX.out.below hb1 (by omega))
  clear hb1 HB HP HX
  have p0 : w1.cell? ⟨w.heap.size, 0, none⟩ = some (.slice An nn cn) := HP1.out.cell 0
  have p1 : w1.cell? ⟨w.heap.size, 1, none⟩ = some (.slice Af lf cf) := HP1.out.cell 1
  have x0 : w1.cell? ⟨w.heap.size + 1, 0, none⟩ = some (.slice Am nm cm) := HX1.out.cell 0
  have x1 : w1.cell? ⟨w.heap.size + 1, 1, none⟩ = some (.slice Av nv cv) := HX1.out.cell 1
  have x2 : w1.cell? ⟨w.heap.size + 1, 2, none⟩ = some (.int .i64 cl) := HX1.out.cell 2
  have x3 : w1.cell? ⟨w.heap.size + 1, 3, none⟩ = some (.slice At nt ct) := HX1.out.cell 3
  cases hV : vProc ns fs with
  | false =>
    have HNO := Lib.hid (show okInst ns fs ms vs cl ts = false by unfold okInst; rw [hV]; simp)
    clear hV
    go_wp2
    go_ret
    exact ⟨by rw [HNO.out]; rfl, HB1.out⟩
  | true =>
  have HV := Lib.hid hV
  clear hV
  go_wp2_with (fail)
  (with_reducible refine (validInstanceS_any lo hi nn cn An ns lo1 hi1 lf cf Af fs lom him nm cm Am ms lov hiv nv cv Av vs cl lot hit nt ct At ts w1 (hrn.keep HB1.out hB) (by omega) hnn (hr.keep HB1.out hB1) (by omega) hn (hm.keep HB1.out hBm) (by omega) hnm (hv.keep HB1.out hBv) (by omega) hnv (ht.keep HB1.out hBt) (by omega) hnt HV.out).mono ?_)
  clear p0 p1 x0 x1 x2 x3
  rintro e w2 ⟨rfl, hb2⟩
  have hs2 := hb2.size
  have HB2 := Lib.hid (up HB1.out hb2)
  have HX2 := Lib.hid (HX1.out.below hb2 (by omega))
  clear hb2 HB1 HP1 HX1
  have x0 : w2.cell? ⟨w.heap.size + 1, 0, none⟩ = some (.slice Am nm cm) := HX2.out.cell 0
  have x3 : w2.cell? ⟨w.heap.size + 1, 3, none⟩ = some (.slice At nt ct) := HX2.out.cell 3
  cases hI : vInst ns fs ms vs cl ts with
  | false =>
    have HNO := Lib.hid (show okInst ns fs ms vs cl ts = false by unfold okInst; rw [hI]; simp)
    clear hI
    go_wp2
    go_ret
    exact ⟨by rw [HNO.out]; rfl, HB2.out⟩
  | true =>
  have HI := Lib.hid hI
  clear hI
  have HYES := Lib.hid (show okInst ns fs ms vs cl ts = true by unfold okInst; rw [HV.out, HI.out]; rfl)
  go_wp2
  go_ret
  exact ⟨by rw [HYES.out]; rfl, HB2.out⟩
theorem emptyS_any (lo hi n c : Nat) (A : Option Addr) (xs : List Int) (w : World) (hr : Rd w lo hi 1 A n (ivs xs)) (hn : n ≤ 9223372036854775807) :
    Calls Try.prog 33 #[.slice A n c] w fun e w' => e = .returned (.bool (xs.all fun x => inR x 0 0)) ∧ w = w' := by
  go_enter Try.func33, Try.ntmps33
  go_wp2_with (fail)
  (with_reducible refine (allIn_any lo hi n c A xs 0 0 w hr hn).mono ?_)
  rintro e w' ⟨rfl, rfl⟩
  go_wp2
  go_ret
  exact ⟨rfl, rfl⟩
set_option maxRecDepth 100000 in
set_option maxHeartbeats 1600000 in
theorem IsDoneS_any (lo hi nn cn : Nat) (An : Option Addr) (ns : List (Int × Int)) (lo1 hi1 lf cf : Nat) (Af : Option Addr) (fs : List Flw) (lom him nm cm : Nat) (Am : Option Addr) (ms : List Int) (lov hiv nv cv : Nat) (Av : Option Addr) (vs : List Int) (cl : Int) (lot hit nt ct : Nat) (At : Option Addr) (ts : List Tm) (w : World) (hrn : Rd w lo hi 2 An nn (pvs ns)) (hB : hi ≤ w.heap.size) (hnn : nn ≤ 1048576) (hr : Fls w lo1 hi1 Af lf fs) (hB1 : hi1 ≤ w.heap.size) (hn : lf ≤ 1048576) (hm : Rd w lom him 1 Am nm (ivs ms)) (hBm : him ≤ w.heap.size) (hnm : nm ≤ 1048576) (hv : Rd w lov hiv 1 Av nv (ivs vs)) (hBv : hiv ≤ w.heap.size) (hnv : nv ≤ 1048576) (ht : Rd w lot hit 2 At nt (pvs ts)) (hBt : hit ≤ w.heap.size) (hnt : nt ≤ 1048576) :
    Calls Try.prog 14 #[.agg #[.slice An nn cn, .slice Af lf cf], .agg #[.slice Am nm cm, .slice Av nv cv, .int .i64 cl, .slice At nt ct]] w fun e w' => e = .returned (.bool (doneOf' ns fs ms vs cl ts)) ∧ Below w.heap.size w w' := by
  have hb0 := up_alloc (up_alloc (Below.refl _ w) (.cells #[.slice An nn cn, .slice Af lf cf] 36)) (.cells #[.slice Am nm cm, .slice Av nv cv, .int .i64 cl, .slice At nt ct] 40)
  have HP := Lib.hid ((Blk.new w 36 #[.slice An nn cn, .slice Af lf cf]).alloc (.cells #[.slice Am nm cm, .slice Av nv cv, .int .i64 cl, .slice At nt ct] 40))
  have HX := Lib.hid (show Blk ((w.alloc (.cells #[.slice An nn cn, .slice Af lf cf] 36)).alloc (.cells #[.slice Am nm cm, .slice Av nv cv, .int .i64 cl, .slice At nt ct] 40)) (w.heap.size + 1) 40 #[.slice Am nm cm, .slice Av nv cv, .int .i64 cl, .slice At nt ct] from Blk.newAtR (by simp))
  have hz : ((w.alloc (.cells #[.slice An nn cn, .slice Af lf cf] 36)).alloc (.cells #[.slice Am nm cm, .slice Av nv cv, .int .i64 cl, .slice At nt ct] 40)).heap.size = w.heap.size + 1 + 1 := by simp
  have HB := Lib.hid hb0
  have HLT := Lib.hid ht.len2
  clear hb0
  have p0 : ((w.alloc (.cells #[.slice An nn cn, .slice Af lf cf] 36)).alloc (.cells #[.slice Am nm cm, .slice Av nv cv, .int .i64 cl, .slice At nt ct] 40)).cell? ⟨w.heap.size, 0, none⟩ = some (.slice An nn cn) := HP.out.cell 0
  have p1 : ((w.alloc (.cells #[.slice An nn cn, .slice Af lf cf] 36)).alloc (.cells #[.slice Am nm cm, .slice Av nv cv, .int .i64 cl, .slice At nt ct] 40)).cell? ⟨w.heap.size, 1, none⟩ = some (.slice Af lf cf) := HP.out.cell 1
  go_enter Try.func14, Try.ntmps14
  go_wp2_with (fail)
  clear p0 p1
  generalize ((w.alloc (.cells #[.slice An nn cn, .slice Af lf cf] 36)).alloc (.cells #[.slice Am nm cm, .slice Av nv cv, .int .i64 cl, .slice At nt ct] 40)) = w0 at *
  (with_reducible refine (validProcessS_any lo hi nn cn An ns lo1 hi1 lf cf Af fs w0 (hrn.keep HB.out hB) (by omega) hnn (hr.keep HB.out hB1) (by omega) hn).mono ?_)
  rintro e w1 ⟨rfl, hb1⟩
  have hs1 := hb1.size
  have HB1 := Lib.hid (up HB.out hb1)
  have HP1 := Lib.hid (HP.out.below hb1 (by omega))
  have HX1 := Lib.hid (HX.out.below hb1 (by omega))
  clear hb1 HB HP HX
  have p0 : w1.cell? ⟨w.heap.size, 0, none⟩ = some (.slice An nn cn) := HP1.out.cell 0
  have p1 : w1.cell? ⟨w.heap.size, 1, none⟩ = some (.slice Af lf cf) := HP1.out.cell 1
  have x0 : w1.cell? ⟨w.heap.size + 1, 0, none⟩ = some (.slice Am nm cm) := HX1.out.cell 0
  have x1 : w1.cell? ⟨w.heap.size + 1, 1, none⟩ = some (.slice Av nv cv) := HX1.out.cell 1
  have x2 : w1.cell? ⟨w.heap.size + 1, 2, none⟩ = some (.int .i64 cl) := HX1.out.cell 2
  have x3 : w1.cell? ⟨w.heap.size + 1, 3, none⟩ = some (.slice At nt ct) := HX1.out.cell 3
  cases hV : vProc ns fs with
  | false =>
    have HNO := Lib.hid (show doneOf' ns fs ms vs cl ts = false by unfold doneOf' okInst; rw [hV]; simp)
    clear hV
    go_wp2
    go_ret
    exact ⟨by rw [HNO.out]; rfl, HB1.out⟩
  | true =>
  have HV := Lib.hid hV
  clear hV
  go_wp2_with (fail)
  (with_reducible refine (validInstanceS_any lo hi nn cn An ns lo1 hi1 lf cf Af fs lom him nm cm Am ms lov hiv nv cv Av vs cl lot hit nt ct At ts w1 (hrn.keep HB1.out hB) (by omega) hnn (hr.keep HB1.out hB1) (by omega) hn (hm.keep HB1.out hBm) (by omega) hnm (hv.keep HB1.out hBv) (by omega) hnv (ht.keep HB1.out hBt) (by omega) hnt HV.out).mono ?_)
  clear p0 p1 x0 x1 x2 x3
  rintro e w2 ⟨rfl, hb2⟩
  have hs2 := hb2.size
  have HB2 := Lib.hid (up HB1.out hb2)
  have HX2 := Lib.hid (HX1.out.below hb2 (by omega))
  clear hb2 HB1 HP1 HX1
  have x0 : w2.cell? ⟨w.heap.size + 1, 0, none⟩ = some (.slice Am nm cm) := HX2.out.cell 0
  have x3 : w2.cell? ⟨w.heap.size + 1, 3, none⟩ = some (.slice At nt ct) := HX2.out.cell 3
  cases hI : vInst ns fs ms vs cl ts with
  | false =>
    have HNO := Lib.hid (show doneOf' ns fs ms vs cl ts = false by unfold doneOf' okInst; rw [hI]; simp)
    clear hI
    go_wp2
    go_ret
    exact ⟨by rw [HNO.out]; rfl, HB2.out⟩
  | true =>
  have HI := Lib.hid hI
  clear hI
  have HYES := Lib.hid (show doneOf' ns fs ms vs cl ts = ms.all (fun x => inR x 0 0) by unfold doneOf' okInst; rw [HV.out, HI.out]; rfl)
  go_wp2_with (fail)
  (with_reducible refine (emptyS_any lom him nm cm Am ms w2 (hm.keep HB2.out hBm) (by omega)).mono ?_)
  rintro e w3 ⟨rfl, hw3⟩
  subst hw3
  go_wp2
  go_ret
  exact ⟨by rw [HYES.out]; rfl, HB2.out⟩
set_option maxRecDepth 100000 in
set_option maxHeartbeats 1600000 in
theorem NextDueS_any (lo hi nn cn : Nat) (An : Option Addr) (ns : List (Int × Int)) (lo1 hi1 lf cf : Nat) (Af : Option Addr) (fs : List Flw) (lom him nm cm : Nat) (Am : Option Addr) (ms : List Int) (lov hiv nv cv : Nat) (Av : Option Addr) (vs : List Int) (cl : Int) (lot hit nt ct : Nat) (At : Option Addr) (ts : List Tm) (w : World) (hrn : Rd w lo hi 2 An nn (pvs ns)) (hB : hi ≤ w.heap.size) (hnn : nn ≤ 1048576) (hr : Fls w lo1 hi1 Af lf fs) (hB1 : hi1 ≤ w.heap.size) (hn : lf ≤ 1048576) (hm : Rd w lom him 1 Am nm (ivs ms)) (hBm : him ≤ w.heap.size) (hnm : nm ≤ 1048576) (hv : Rd w lov hiv 1 Av nv (ivs vs)) (hBv : hiv ≤ w.heap.size) (hnv : nv ≤ 1048576) (ht : Rd w lot hit 2 At nt (pvs ts)) (hBt : hit ≤ w.heap.size) (hnt : nt ≤ 1048576) :
    Calls Try.prog 16 #[.agg #[.slice An nn cn, .slice Af lf cf], .agg #[.slice Am nm cm, .slice Av nv cv, .int .i64 cl, .slice At nt ct]] w fun e w' => e = .returned (.int .i64 (dueOf ns fs ms vs cl ts)) ∧ Below w.heap.size w w' := by
  have hb0 := up_alloc (up_alloc (Below.refl _ w) (.cells #[.slice An nn cn, .slice Af lf cf] 36)) (.cells #[.slice Am nm cm, .slice Av nv cv, .int .i64 cl, .slice At nt ct] 40)
  have HP := Lib.hid ((Blk.new w 36 #[.slice An nn cn, .slice Af lf cf]).alloc (.cells #[.slice Am nm cm, .slice Av nv cv, .int .i64 cl, .slice At nt ct] 40))
  have HX := Lib.hid (show Blk ((w.alloc (.cells #[.slice An nn cn, .slice Af lf cf] 36)).alloc (.cells #[.slice Am nm cm, .slice Av nv cv, .int .i64 cl, .slice At nt ct] 40)) (w.heap.size + 1) 40 #[.slice Am nm cm, .slice Av nv cv, .int .i64 cl, .slice At nt ct] from Blk.newAtR (by simp))
  have hz : ((w.alloc (.cells #[.slice An nn cn, .slice Af lf cf] 36)).alloc (.cells #[.slice Am nm cm, .slice Av nv cv, .int .i64 cl, .slice At nt ct] 40)).heap.size = w.heap.size + 1 + 1 := by simp
  have HB := Lib.hid hb0
  have HLT := Lib.hid ht.len2
  clear hb0
  have p0 : ((w.alloc (.cells #[.slice An nn cn, .slice Af lf cf] 36)).alloc (.cells #[.slice Am nm cm, .slice Av nv cv, .int .i64 cl, .slice At nt ct] 40)).cell? ⟨w.heap.size, 0, none⟩ = some (.slice An nn cn) := HP.out.cell 0
  have p1 : ((w.alloc (.cells #[.slice An nn cn, .slice Af lf cf] 36)).alloc (.cells #[.slice Am nm cm, .slice Av nv cv, .int .i64 cl, .slice At nt ct] 40)).cell? ⟨w.heap.size, 1, none⟩ = some (.slice Af lf cf) := HP.out.cell 1
  go_enter Try.func16, Try.ntmps16
  go_wp2_with (fail)
  clear p0 p1
  generalize ((w.alloc (.cells #[.slice An nn cn, .slice Af lf cf] 36)).alloc (.cells #[.slice Am nm cm, .slice Av nv cv, .int .i64 cl, .slice At nt ct] 40)) = w0 at *
  (with_reducible refine (validProcessS_any lo hi nn cn An ns lo1 hi1 lf cf Af fs w0 (hrn.keep HB.out hB) (by omega) hnn (hr.keep HB.out hB1) (by omega) hn).mono ?_)
  rintro e w1 ⟨rfl, hb1⟩
  have hs1 := hb1.size
  have HB1 := Lib.hid (up HB.out hb1)
  have HP1 := Lib.hid (HP.out.below hb1 (by omega))
  have HX1 := Lib.hid (HX.out.below hb1 (by omega))
  clear hb1 HB HP HX
  have p0 : w1.cell? ⟨w.heap.size, 0, none⟩ = some (.slice An nn cn) := HP1.out.cell 0
  have p1 : w1.cell? ⟨w.heap.size, 1, none⟩ = some (.slice Af lf cf) := HP1.out.cell 1
  have x0 : w1.cell? ⟨w.heap.size + 1, 0, none⟩ = some (.slice Am nm cm) := HX1.out.cell 0
  have x1 : w1.cell? ⟨w.heap.size + 1, 1, none⟩ = some (.slice Av nv cv) := HX1.out.cell 1
  have x2 : w1.cell? ⟨w.heap.size + 1, 2, none⟩ = some (.int .i64 cl) := HX1.out.cell 2
  have x3 : w1.cell? ⟨w.heap.size + 1, 3, none⟩ = some (.slice At nt ct) := HX1.out.cell 3
  cases hV : vProc ns fs with
  | false =>
    have HNO := Lib.hid (show dueOf ns fs ms vs cl ts = -1 by unfold dueOf okInst; rw [hV]; simp)
    clear hV
    go_wp2
    go_ret
    exact ⟨by rw [HNO.out]; rfl, HB1.out⟩
  | true =>
  have HV := Lib.hid hV
  clear hV
  go_wp2_with (fail)
  (with_reducible refine (validInstanceS_any lo hi nn cn An ns lo1 hi1 lf cf Af fs lom him nm cm Am ms lov hiv nv cv Av vs cl lot hit nt ct At ts w1 (hrn.keep HB1.out hB) (by omega) hnn (hr.keep HB1.out hB1) (by omega) hn (hm.keep HB1.out hBm) (by omega) hnm (hv.keep HB1.out hBv) (by omega) hnv (ht.keep HB1.out hBt) (by omega) hnt HV.out).mono ?_)
  clear p0 p1 x0 x1 x2 x3
  rintro e w2 ⟨rfl, hb2⟩
  have hs2 := hb2.size
  have HB2 := Lib.hid (up HB1.out hb2)
  have HX2 := Lib.hid (HX1.out.below hb2 (by omega))
  clear hb2 HB1 HP1 HX1
  have x0 : w2.cell? ⟨w.heap.size + 1, 0, none⟩ = some (.slice Am nm cm) := HX2.out.cell 0
  have x3 : w2.cell? ⟨w.heap.size + 1, 3, none⟩ = some (.slice At nt ct) := HX2.out.cell 3
  cases hI : vInst ns fs ms vs cl ts with
  | false =>
    have HNO := Lib.hid (show dueOf ns fs ms vs cl ts = -1 by unfold dueOf okInst; rw [hI]; simp)
    clear hI
    go_wp2
    go_ret
    exact ⟨by rw [HNO.out]; rfl, HB2.out⟩
  | true =>
  have HI := Lib.hid hI
  clear hI
  have HYES := Lib.hid (show dueOf ns fs ms vs cl ts = (ts.head?.map Prod.snd).getD (-1) by unfold dueOf okInst; rw [HV.out, HI.out]; rfl)
  by_cases h0 : nt = 0
  · have HQ := Lib.hid (show (ts.head?.map Prod.snd).getD (-1) = (-1 : Int) by
      have h1 := HLT.out
      rw [h0] at h1
      rw [List.eq_nil_of_length_eq_zero h1]; rfl)
    have d0 : ((nt : Int) == 0) = true := by simp [h0]
    have d1 : (nt == 0) = true := by simp [h0]
    clear h0
    go_wp2
    go_ret
    exact ⟨by rw [HYES.out, HQ.out]; rfl, HB2.out⟩
  · obtain ⟨b, off, x, y, hA, _, _, hg, _, hc1⟩ := (ht.keep HB2.out hBt).pair (k := 0) (by omega)
    have HQ := Lib.hid (show (ts.head?.map Prod.snd).getD (-1) = y by
      cases ts with
      | nil => cases hg
      | cons a l => simp at hg; subst hg; rfl)
    have d0 : ((nt : Int) == 0) = false := by rw [beq_eq_false_iff_ne]; omega
    have d1 : (nt == 0) = false := by rw [beq_eq_false_iff_ne]; omega
    have d2 : (0 : Int) < (nt : Int) := by omega
    have d3 : 0 < nt := by omega
    simp only [Nat.zero_mul, Nat.add_zero] at hc1
    clear h0 hg
    subst hA
    go_wp2
    go_ret
    exact ⟨by rw [HYES.out, HQ.out]; rfl, HB2.out⟩
end Go.Proofs.Ytknphikoikdcjaa
