/- The program: ValidInstance, IsDone, NextDue. (Written by gen/runf.py.) -/
import Derived.Test.YtknphikoikdcjaaRunE
import Derived.Test.YtknphikoikdcjaaTokSumA
set_option linter.unusedSimpArgs false
set_option linter.unusedVariables false
namespace Go.Proofs.Ytknphikoikdcjaa
open Go.RowKit

def okInst (ns : List (Int × Int)) (fs : List Flw) (ms vs : List Int) (cl : Int) (ts : List Tm) : Bool := vProc ns fs && vInst ns fs ms vs cl ts
def doneOf' (ns : List (Int × Int)) (fs : List Flw) (ms vs : List Int) (cl : Int) (ts : List Tm) : Bool := okInst ns fs ms vs cl ts && ms.all fun x => inR x 0 0
def dueOf (ns : List (Int × Int)) (fs : List Flw) (ms vs : List Int) (cl : Int) (ts : List Tm) : Int := if okInst ns fs ms vs cl ts then (ts.head?.map Prod.snd).getD (-1) else -1
theorem sum_zero : ∀ {ms : List Int}, (∀ z ∈ ms, 0 ≤ z) → (0 ≤ ms.sum ∧ (ms.sum = 0 ↔ ms.all (fun x => inR x 0 0) = true))
  | [], _ => by simp
  | a :: l, h => by
    obtain ⟨h1, h2⟩ := sum_zero (ms := l) (fun z hz => h z (List.mem_cons_of_mem _ hz))
    have ha := h a (List.mem_cons_self ..)
    rw [List.sum_cons, List.all_cons, Bool.and_eq_true, inR_iff, ← h2]
    omega
set_option maxRecDepth 100000 in
set_option maxHeartbeats 1600000 in
theorem ValidInstanceI_any (lo hi nn cn : Nat) (An : Option Addr) (ns : List (Int × Int)) (lo1 hi1 lf cf : Nat) (Af : Option Addr) (fs : List Flw) (lom him nm cm : Nat) (Am : Option Addr) (ms : List Int) (lov hiv nv cv : Nat) (Av : Option Addr) (vs : List Int) (cl : Int) (lot hit nt ct : Nat) (At : Option Addr) (ts : List Tm) (w : World) (hrn : Rd w lo hi 2 An nn (pvs ns)) (hB : hi ≤ w.heap.size) (hnn : nn ≤ 1048576) (hr : Fls w lo1 hi1 Af lf fs) (hB1 : hi1 ≤ w.heap.size) (hn : lf ≤ 1048576) (hm : Rd w lom him 1 Am nm (ivs ms)) (hBm : him ≤ w.heap.size) (hnm : nm ≤ 1048576) (hv : Rd w lov hiv 1 Av nv (ivs vs)) (hBv : hiv ≤ w.heap.size) (hnv : nv ≤ 1048576) (ht : Rd w lot hit 2 At nt (pvs ts)) (hBt : hit ≤ w.heap.size) (hnt : nt ≤ 1048576) :
    Calls Try.prog 11 #[.agg #[.slice An nn cn, .slice Af lf cf], .agg #[.slice Am nm cm, .slice Av nv cv, .int .i64 cl, .slice At nt ct]] w fun e w' => e = .returned (.bool (okInst ns fs ms vs cl ts)) ∧ Below w.heap.size w w' := by
  have hb0 := up_alloc (up_alloc (Below.refl _ w) (.cells #[.slice An nn cn, .slice Af lf cf] 36)) (.cells #[.slice Am nm cm, .slice Av nv cv, .int .i64 cl, .slice At nt ct] 40)
  have HP := Lib.hid ((Blk.new w 36 #[.slice An nn cn, .slice Af lf cf]).alloc (.cells #[.slice Am nm cm, .slice Av nv cv, .int .i64 cl, .slice At nt ct] 40))
  have HX := Lib.hid (show Blk ((w.alloc (.cells #[.slice An nn cn, .slice Af lf cf] 36)).alloc (.cells #[.slice Am nm cm, .slice Av nv cv, .int .i64 cl, .slice At nt ct] 40)) (w.heap.size + 1) 40 #[.slice Am nm cm, .slice Av nv cv, .int .i64 cl, .slice At nt ct] from Blk.newAtR (by simp))
  have hz : ((w.alloc (.cells #[.slice An nn cn, .slice Af lf cf] 36)).alloc (.cells #[.slice Am nm cm, .slice Av nv cv, .int .i64 cl, .slice At nt ct] 40)).heap.size = w.heap.size + 1 + 1 := by simp
  have HB := Lib.hid hb0
  have HLT := Lib.hid ht.len2
  have HNL := Lib.hid hrn.len2
  clear hb0
  have p0 : ((w.alloc (.cells #[.slice An nn cn, .slice Af lf cf] 36)).alloc (.cells #[.slice Am nm cm, .slice Av nv cv, .int .i64 cl, .slice At nt ct] 40)).cell? ⟨w.heap.size, 0, none⟩ = some (.slice An nn cn) := HP.out.cell 0
  have p1 : ((w.alloc (.cells #[.slice An nn cn, .slice Af lf cf] 36)).alloc (.cells #[.slice Am nm cm, .slice Av nv cv, .int .i64 cl, .slice At nt ct] 40)).cell? ⟨w.heap.size, 1, none⟩ = some (.slice Af lf cf) := HP.out.cell 1
  go_enter Try.func11, Try.ntmps11
  go_wp2_with (fail)
  clear p0 p1
  generalize ((w.alloc (.cells #[.slice An nn cn, .slice Af lf cf] 36)).alloc (.cells #[.slice Am nm cm, .slice Av nv cv, .int .i64 cl, .slice At nt ct] 40)) = w0 at *
  (with_reducible refine (runningOf_any lo hi nn cn An ns lo1 hi1 lf cf Af fs lom him nm cm Am ms lov hiv nv cv Av vs cl lot hit nt ct At ts w0 (hrn.keep HB.out hB) (by omega) hnn (hr.keep HB.out hB1) (by omega) hn (hm.keep HB.out hBm) (by omega) hnm (hv.keep HB.out hBv) (by omega) hnv (ht.keep HB.out hBt) (by omega) hnt).mono ?_)
  rintro e w1 (⟨hno, rfl, hb1⟩ | ⟨hV, hI, bo, bi, mb, m, rfl, hN, hmb, hb1⟩)
  · have HB1 := Lib.hid (up_alloc (up HB.out hb1) (.cells #[.slice none 0 0, .slice none 0 0, .map none, .map none, .map none, .slice none 0 0, .int .i64 0, .slice none 0 0] 64))
    have HNO := Lib.hid (show okInst ns fs ms vs cl ts = false from hno)
    clear hb1 hno
    go_wp2
    go_ret
    exact ⟨by rw [HNO.out]; rfl, HB1.out⟩
  · have HB1 := Lib.hid (up_alloc (up HB.out hb1) (.cells #[.slice An nn cn, .slice Af lf cf, .map (some bo), .map (some bi), .map (some mb), .slice Av nv cv, .int .i64 cl, .slice At nt ct] 64))
    have HYES := Lib.hid (show okInst ns fs ms vs cl ts = true by unfold okInst; rw [hV, hI]; rfl)
    clear hb1 hV hI hN
    go_wp2
    go_ret
    exact ⟨by rw [HYES.out]; rfl, HB1.out⟩
set_option maxRecDepth 100000 in
set_option maxHeartbeats 1600000 in
theorem IsDoneI_any (lo hi nn cn : Nat) (An : Option Addr) (ns : List (Int × Int)) (lo1 hi1 lf cf : Nat) (Af : Option Addr) (fs : List Flw) (lom him nm cm : Nat) (Am : Option Addr) (ms : List Int) (lov hiv nv cv : Nat) (Av : Option Addr) (vs : List Int) (cl : Int) (lot hit nt ct : Nat) (At : Option Addr) (ts : List Tm) (w : World) (hrn : Rd w lo hi 2 An nn (pvs ns)) (hB : hi ≤ w.heap.size) (hnn : nn ≤ 1048576) (hr : Fls w lo1 hi1 Af lf fs) (hB1 : hi1 ≤ w.heap.size) (hn : lf ≤ 1048576) (hm : Rd w lom him 1 Am nm (ivs ms)) (hBm : him ≤ w.heap.size) (hnm : nm ≤ 1048576) (hv : Rd w lov hiv 1 Av nv (ivs vs)) (hBv : hiv ≤ w.heap.size) (hnv : nv ≤ 1048576) (ht : Rd w lot hit 2 At nt (pvs ts)) (hBt : hit ≤ w.heap.size) (hnt : nt ≤ 1048576) :
    Calls Try.prog 15 #[.agg #[.slice An nn cn, .slice Af lf cf], .agg #[.slice Am nm cm, .slice Av nv cv, .int .i64 cl, .slice At nt ct]] w fun e w' => e = .returned (.bool (doneOf' ns fs ms vs cl ts)) ∧ Below w.heap.size w w' := by
  have hb0 := up_alloc (up_alloc (Below.refl _ w) (.cells #[.slice An nn cn, .slice Af lf cf] 36)) (.cells #[.slice Am nm cm, .slice Av nv cv, .int .i64 cl, .slice At nt ct] 40)
  have HP := Lib.hid ((Blk.new w 36 #[.slice An nn cn, .slice Af lf cf]).alloc (.cells #[.slice Am nm cm, .slice Av nv cv, .int .i64 cl, .slice At nt ct] 40))
  have HX := Lib.hid (show Blk ((w.alloc (.cells #[.slice An nn cn, .slice Af lf cf] 36)).alloc (.cells #[.slice Am nm cm, .slice Av nv cv, .int .i64 cl, .slice At nt ct] 40)) (w.heap.size + 1) 40 #[.slice Am nm cm, .slice Av nv cv, .int .i64 cl, .slice At nt ct] from Blk.newAtR (by simp))
  have hz : ((w.alloc (.cells #[.slice An nn cn, .slice Af lf cf] 36)).alloc (.cells #[.slice Am nm cm, .slice Av nv cv, .int .i64 cl, .slice At nt ct] 40)).heap.size = w.heap.size + 1 + 1 := by simp
  have HB := Lib.hid hb0
  have HLT := Lib.hid ht.len2
  have HNL := Lib.hid hrn.len2
  clear hb0
  have p0 : ((w.alloc (.cells #[.slice An nn cn, .slice Af lf cf] 36)).alloc (.cells #[.slice Am nm cm, .slice Av nv cv, .int .i64 cl, .slice At nt ct] 40)).cell? ⟨w.heap.size, 0, none⟩ = some (.slice An nn cn) := HP.out.cell 0
  have p1 : ((w.alloc (.cells #[.slice An nn cn, .slice Af lf cf] 36)).alloc (.cells #[.slice Am nm cm, .slice Av nv cv, .int .i64 cl, .slice At nt ct] 40)).cell? ⟨w.heap.size, 1, none⟩ = some (.slice Af lf cf) := HP.out.cell 1
  go_enter Try.func15, Try.ntmps15
  go_wp2_with (fail)
  clear p0 p1
  generalize ((w.alloc (.cells #[.slice An nn cn, .slice Af lf cf] 36)).alloc (.cells #[.slice Am nm cm, .slice Av nv cv, .int .i64 cl, .slice At nt ct] 40)) = w0 at *
  (with_reducible refine (runningOf_any lo hi nn cn An ns lo1 hi1 lf cf Af fs lom him nm cm Am ms lov hiv nv cv Av vs cl lot hit nt ct At ts w0 (hrn.keep HB.out hB) (by omega) hnn (hr.keep HB.out hB1) (by omega) hn (hm.keep HB.out hBm) (by omega) hnm (hv.keep HB.out hBv) (by omega) hnv (ht.keep HB.out hBt) (by omega) hnt).mono ?_)
  rintro e w1 (⟨hno, rfl, hb1⟩ | ⟨hV, hI, bo, bi, mb, m, rfl, hN, hmb, hb1⟩)
  · have HB1 := Lib.hid (up_alloc (up HB.out hb1) (.cells #[.slice none 0 0, .slice none 0 0, .map none, .map none, .map none, .slice none 0 0, .int .i64 0, .slice none 0 0] 64))
    have HNO := Lib.hid (show doneOf' ns fs ms vs cl ts = false by unfold doneOf' okInst; rw [hno]; rfl)
    clear hb1 hno
    go_wp2
    go_ret
    exact ⟨by rw [HNO.out]; rfl, HB1.out⟩
  · have HB1 := Lib.hid (up_alloc (up HB.out hb1) (.cells #[.slice An nn cn, .slice Af lf cf, .map (some bo), .map (some bi), .map (some mb), .slice Av nv cv, .int .i64 cl, .slice At nt ct] 64))
    have HYES := Lib.hid (show doneOf' ns fs ms vs cl ts = ms.all (fun x => inR x 0 0) by unfold doneOf' okInst; rw [hV, hI]; rfl)
    have hb2 := up_alloc (Below.refl _ w1) (.cells #[.slice An nn cn, .slice Af lf cf, .map (some bo), .map (some bi), .map (some mb), .slice Av nv cv, .int .i64 cl, .slice At nt ct] 64)
    have HR := Lib.hid (Blk.new w1 64 #[.slice An nn cn, .slice Af lf cf, .map (some bo), .map (some bi), .map (some mb), .slice Av nv cv, .int .i64 cl, .slice At nt ct])
    have hN2 := hN.keep hb2
    have h03 := vMarks_03 hN.vm
    have HZ := Lib.hid (sum_zero (fun z hz => (h03 z hz).1)).2
    have HC := Lib.hid (sumI_any mb m ms _ hN2.cm h03 (by rw [vMarks_lenR hN.vm]; exact (vProc_len hN.vp).2.2))
    have c4 : (w1.alloc (.cells #[.slice An nn cn, .slice Af lf cf, .map (some bo), .map (some bi), .map (some mb), .slice Av nv cv, .int .i64 cl, .slice At nt ct] 64)).cell? ⟨w1.heap.size, 4, none⟩ = some (.map (some mb)) := HR.out.cell 4
    clear hb1 hb2 hV hI hN hN2 h03
    go_wp2_with (fail)
    (with_reducible refine HC.out.mono ?_)
    rintro e w3 ⟨rfl, hb3⟩
    have HB3 := Lib.hid (up HB1.out hb3)
    clear hb3 HC c4
    generalize ms.sum = s at *
    by_cases hs : s = 0
    · have HQ := Lib.hid (HZ.out.1 hs)
      have ds : (s == 0) = true := by simp [hs]
      clear hs HZ
      go_wp2
      go_ret
      exact ⟨by rw [HYES.out, HQ.out]; rfl, HB3.out⟩
    · have HQ := Lib.hid (show (ms.all fun x => inR x 0 0) = false by rw [← Bool.not_eq_true]; exact fun h => hs (HZ.out.2 h))
      have ds : (s == 0) = false := by simpa using hs
      clear hs HZ
      go_wp2
      go_ret
      exact ⟨by rw [HYES.out, HQ.out]; rfl, HB3.out⟩
set_option maxRecDepth 100000 in
set_option maxHeartbeats 1600000 in
theorem NextDueI_any (lo hi nn cn : Nat) (An : Option Addr) (ns : List (Int × Int)) (lo1 hi1 lf cf : Nat) (Af : Option Addr) (fs : List Flw) (lom him nm cm : Nat) (Am : Option Addr) (ms : List Int) (lov hiv nv cv : Nat) (Av : Option Addr) (vs : List Int) (cl : Int) (lot hit nt ct : Nat) (At : Option Addr) (ts : List Tm) (w : World) (hrn : Rd w lo hi 2 An nn (pvs ns)) (hB : hi ≤ w.heap.size) (hnn : nn ≤ 1048576) (hr : Fls w lo1 hi1 Af lf fs) (hB1 : hi1 ≤ w.heap.size) (hn : lf ≤ 1048576) (hm : Rd w lom him 1 Am nm (ivs ms)) (hBm : him ≤ w.heap.size) (hnm : nm ≤ 1048576) (hv : Rd w lov hiv 1 Av nv (ivs vs)) (hBv : hiv ≤ w.heap.size) (hnv : nv ≤ 1048576) (ht : Rd w lot hit 2 At nt (pvs ts)) (hBt : hit ≤ w.heap.size) (hnt : nt ≤ 1048576) :
    Calls Try.prog 17 #[.agg #[.slice An nn cn, .slice Af lf cf], .agg #[.slice Am nm cm, .slice Av nv cv, .int .i64 cl, .slice At nt ct]] w fun e w' => e = .returned (.int .i64 (dueOf ns fs ms vs cl ts)) ∧ Below w.heap.size w w' := by
  have hb0 := up_alloc (up_alloc (Below.refl _ w) (.cells #[.slice An nn cn, .slice Af lf cf] 36)) (.cells #[.slice Am nm cm, .slice Av nv cv, .int .i64 cl, .slice At nt ct] 40)
  have HP := Lib.hid ((Blk.new w 36 #[.slice An nn cn, .slice Af lf cf]).alloc (.cells #[.slice Am nm cm, .slice Av nv cv, .int .i64 cl, .slice At nt ct] 40))
  have HX := Lib.hid (show Blk ((w.alloc (.cells #[.slice An nn cn, .slice Af lf cf] 36)).alloc (.cells #[.slice Am nm cm, .slice Av nv cv, .int .i64 cl, .slice At nt ct] 40)) (w.heap.size + 1) 40 #[.slice Am nm cm, .slice Av nv cv, .int .i64 cl, .slice At nt ct] from Blk.newAtR (by simp))
  have hz : ((w.alloc (.cells #[.slice An nn cn, .slice Af lf cf] 36)).alloc (.cells #[.slice Am nm cm, .slice Av nv cv, .int .i64 cl, .slice At nt ct] 40)).heap.size = w.heap.size + 1 + 1 := by simp
  have HB := Lib.hid hb0
  have HLT := Lib.hid ht.len2
  have HNL := Lib.hid hrn.len2
  clear hb0
  have p0 : ((w.alloc (.cells #[.slice An nn cn, .slice Af lf cf] 36)).alloc (.cells #[.slice Am nm cm, .slice Av nv cv, .int .i64 cl, .slice At nt ct] 40)).cell? ⟨w.heap.size, 0, none⟩ = some (.slice An nn cn) := HP.out.cell 0
  have p1 : ((w.alloc (.cells #[.slice An nn cn, .slice Af lf cf] 36)).alloc (.cells #[.slice Am nm cm, .slice Av nv cv, .int .i64 cl, .slice At nt ct] 40)).cell? ⟨w.heap.size, 1, none⟩ = some (.slice Af lf cf) := HP.out.cell 1
  go_enter Try.func17, Try.ntmps17
  go_wp2_with (fail)
  clear p0 p1
  generalize ((w.alloc (.cells #[.slice An nn cn, .slice Af lf cf] 36)).alloc (.cells #[.slice Am nm cm, .slice Av nv cv, .int .i64 cl, .slice At nt ct] 40)) = w0 at *
  (with_reducible refine (runningOf_any lo hi nn cn An ns lo1 hi1 lf cf Af fs lom him nm cm Am ms lov hiv nv cv Av vs cl lot hit nt ct At ts w0 (hrn.keep HB.out hB) (by omega) hnn (hr.keep HB.out hB1) (by omega) hn (hm.keep HB.out hBm) (by omega) hnm (hv.keep HB.out hBv) (by omega) hnv (ht.keep HB.out hBt) (by omega) hnt).mono ?_)
  rintro e w1 (⟨hno, rfl, hb1⟩ | ⟨hV, hI, bo, bi, mb, m, rfl, hN, hmb, hb1⟩)
  · have HB1 := Lib.hid (up_alloc (up HB.out hb1) (.cells #[.slice none 0 0, .slice none 0 0, .map none, .map none, .map none, .slice none 0 0, .int .i64 0, .slice none 0 0] 64))
    have HNO := Lib.hid (show dueOf ns fs ms vs cl ts = -1 by unfold dueOf okInst; rw [hno]; rfl)
    clear hb1 hno
    go_wp2
    go_ret
    exact ⟨by rw [HNO.out]; rfl, HB1.out⟩
  · have HB1 := Lib.hid (up_alloc (up HB.out hb1) (.cells #[.slice An nn cn, .slice Af lf cf, .map (some bo), .map (some bi), .map (some mb), .slice Av nv cv, .int .i64 cl, .slice At nt ct] 64))
    have HYES := Lib.hid (show dueOf ns fs ms vs cl ts = (ts.head?.map Prod.snd).getD (-1) by unfold dueOf okInst; rw [hV, hI]; rfl)
    have HR := Lib.hid (Blk.new w1 64 #[.slice An nn cn, .slice Af lf cf, .map (some bo), .map (some bi), .map (some mb), .slice Av nv cv, .int .i64 cl, .slice At nt ct])
    have HT := Lib.hid ((ht.keep (up HB.out hb1) hBt).keep (up_alloc (Below.refl _ w1) (.cells #[.slice An nn cn, .slice Af lf cf, .map (some bo), .map (some bi), .map (some mb), .slice Av nv cv, .int .i64 cl, .slice At nt ct] 64)) (by have := hb1.size; omega))
    have c7 : (w1.alloc (.cells #[.slice An nn cn, .slice Af lf cf, .map (some bo), .map (some bi), .map (some mb), .slice Av nv cv, .int .i64 cl, .slice At nt ct] 64)).cell? ⟨w1.heap.size, 7, none⟩ = some (.slice At nt ct) := HR.out.cell 7
    clear hb1 hV hI hN
    by_cases h0 : nt = 0
    · have HQ := Lib.hid (show (ts.head?.map Prod.snd).getD (-1) = (-1 : Int) by
        have h1 := HLT.out
        rw [h0] at h1
        rw [List.eq_nil_of_length_eq_zero h1]; rfl)
      have d0 : ((nt : Int) == 0) = true := by simp [h0]
      have d1 : (nt == 0) = true := by simp [h0]
      clear h0
      go_wp2
      go_ret
      exact ⟨by rw [HYES.out, HQ.out]; rfl, HB1.out⟩
    · obtain ⟨b, off, x, y, hA, _, _, hg, _, hc1⟩ := HT.out.pair (k := 0) (by omega)
      have HQ := Lib.hid (show (ts.head?.map Prod.snd).getD (-1) = y by
        cases ts with
        | nil => cases hg
        | cons a l => simp at hg; subst hg; rfl)
      have d0 : ((nt : Int) == 0) = false := by rw [beq_eq_false_iff_ne]; omega
      have d1 : (nt == 0) = false := by rw [beq_eq_false_iff_ne]; omega
      have d2 : (0 : Int) < (nt : Int) := by omega
      have d3 : 0 < nt := by omega
      simp only [Nat.zero_mul, Nat.add_zero] at hc1
      clear h0 hg
      subst hA
      go_wp2
      go_ret
      exact ⟨by rw [HYES.out, HQ.out]; rfl, HB1.out⟩
end Go.Proofs.Ytknphikoikdcjaa
