/- The program: ValidInstance, IsDone, NextDue. (Written by gen/runf.py.) -/
import Derived.Test.YtknphikoikdcjaaGreatRunE
import Derived.Test.YtknphikoikdcjaaGreatTokSumA
set_option linter.unusedSimpArgs false
set_option linter.unusedVariables false
namespace Go.Proofs.YtknphikoikdcjaaGreat
open Go.RowKit

def okInst (ns : List (Int × Int)) (fs : List Flw) (ms vs : List Int) (cl : Int) (ts : List Tm) : Bool := vProc ns fs && vInst ns fs ms vs cl ts
def doneOf' (ns : List (Int × Int)) (fs : List Flw) (ms vs : List Int) (cl : Int) (ts : List Tm) : Bool := okInst ns fs ms vs cl ts && ms.all fun x => inR x 0 0
def dueOf (ns : List (Int × Int)) (fs : List Flw) (ms vs : List Int) (cl : Int) (ts : List Tm) : Int := if okInst ns fs ms vs cl ts then (ts.head?.map Prod.snd).getD (-1) else -1
theorem sum_zero : ∀ {ms : List Int}, (∀ z ∈ ms, 0 ≤ z) → (0 ≤ ms.sum ∧ (ms.sum = 0 ↔ ms.all (fun x => inR x 0 0) = true))
  | [], _ => by simp
  | a :: l, h => by
    obtain ⟨h1, h2⟩ := sum_zero (ms := l) (fun z hz => h z (List.mem_cons_of_mem _ hz))
    have ha := h a (List.mem_cons_self ..)
    rw [List.sum_cons, List.all_cons, Bool.and_eq_true, inR_iff, ← h2]
    omega
set_option maxRecDepth 100000 in
set_option maxHeartbeats 1600000 in
theorem ValidInstanceI_any (lo hi nn cn : Nat) (An : Option Addr) (ns : List (Int × Int)) (lo1 hi1 lf cf : Nat) (Af : Option Addr) (fs : List Flw) (lom him nm cm : Nat) (Am : Option Addr) (ms : List Int) (lov hiv nv cv : Nat) (Av : Option Addr) (vs : List Int) (cl : Int) (lot hit nt ct : Nat) (At : Option Addr) (ts : List Tm) (w : World) (hrn : Rd w lo hi 2 An nn (pvs ns)) (hB : hi ≤ w.heap.size) (hnn : nn ≤ 1048576) (hr : Fls w lo1 hi1 Af lf fs) (hB1 : hi1 ≤ w.heap.size) (hn : lf ≤ 1048576) (hm : Rd w lom him 1 Am nm (ivs ms)) (hBm : him ≤ w.heap.size) (hnm : nm ≤ 1048576) (hv : Rd w lov hiv 1 Av nv (ivs vs)) (hBv : hiv ≤ w.heap.size) (hnv : nv ≤ 1048576) (ht : Rd w lot hit 2 At nt (pvs ts)) (hBt : hit ≤ w.heap.size) (hnt : nt ≤ 1048576) :
    Calls Tryz.prog 74 #[.agg #[.slice An nn cn, .slice Af lf cf], .agg #[.slice Am nm cm, .slice Av nv cv, .int .i64 cl, .slice At nt ct]] w fun e w' => e = .returned (.bool (okInst ns fs ms vs cl ts)) ∧ Below w.heap.size w w' := by
  have hb0 := up_alloc (up_alloc (Below.refl _ w) (.cells #[.slice An nn cn, .slice Af lf cf] 40)) (.cells #[.slice Am nm cm, .slice Av nv cv, .int .i64 cl, .slice At nt ct] 34)
  have HP := Lib.hid ((Blk.new w 40 #[.slice An nn cn, .slice Af lf cf]).alloc (.cells #[.slice Am nm cm, .slice Av nv cv, .int .i64 cl, .slice At nt ct] 34))
  have HX := Lib.hid (show Blk ((w.alloc (.cells #[.slice An nn cn, .slice Af lf cf] 40)).alloc (.cells #[.slice Am nm cm, .slice Av nv cv, .int .i64 cl, .slice At nt ct] 34)) (w.heap.size + 1) 34 #[.slice Am nm cm, .slice Av nv cv, .int .i64 cl, .slice At nt ct] from Blk.newAtR (by simp))
  have hz : ((w.alloc (.cells #[.slice An nn cn, .slice Af lf cf] 40)).alloc (.cells #[.slice Am nm cm, .slice Av nv cv, .int .i64 cl, .slice At nt ct] 34)).heap.size = w.heap.size + 1 + 1 := by simp
  have HB := Lib.hid hb0
  have HLT := Lib.hid ht.len2
  have HNL := Lib.hid hrn.len2
  clear hb0
  have p0 : ((w.alloc (.cells #[.slice An nn cn, .slice Af lf cf] 40)).alloc (.cells #[.slice Am nm cm, .slice Av nv cv, .int .i64 cl, .slice At nt ct] 34)).cell? ⟨w.heap.size, 0, none⟩ = some (.slice An nn cn) := HP.out.cell 0
  have p1 : ((w.alloc (.cells #[.slice An nn cn, .slice Af lf cf] 40)).alloc (.cells #[.slice Am nm cm, .slice Av nv cv, .int .i64 cl, .slice At nt ct] 34)).cell? ⟨w.heap.size, 1, none⟩ = some (.slice Af lf cf) := HP.out.cell 1
  go_enter Tryz.func74, Tryz.ntmps74
  go_wp2_with (fail)
  clear p0 p1
  generalize ((w.alloc (.cells #[.slice An nn cn, .slice Af lf cf] 40)).alloc (.cells #[.slice Am nm cm, .slice Av nv cv, .int .i64 cl, .slice At nt ct] 34)) = w0 at *
  (with_reducible refine (runningOf_any lo hi nn cn An ns lo1 hi1 lf cf Af fs lom him nm cm Am ms lov hiv nv cv Av vs cl lot hit nt ct At ts w0 (hrn.keep HB.out hB) (by omega) hnn (hr.keep HB.out hB1) (by omega) hn (hm.keep HB.out hBm) (by omega) hnm (hv.keep HB.out hBv) (by omega) hnv (ht.keep HB.out hBt) (by omega) hnt).mono ?_)
  rintro e w1 (⟨hno, rfl, hb1⟩ | ⟨hV, hI, bo, bi, mb, m, rfl, hN, hmb, hb1⟩)
  · have HB1 := Lib.hid (up_alloc (up HB.out hb1) (.cells #[.slice none 0 0, .slice none 0 0, .map none, .map none, .map none, .slice none 0 0, .int .i64 0, .slice none 0 0] 114))
    have HNO := Lib.hid (show okInst ns fs ms vs cl ts = false from hno)
    clear hb1 hno
    go_wp2
    go_ret
    exact ⟨by rw [HNO.out]; rfl, HB1.out⟩
  · have HB1 := Lib.hid (up_alloc (up HB.out hb1) (.cells #[.slice An nn cn, .slice Af lf cf, .map (some bo), .map (some bi), .map (some mb), .slice Av nv cv, .int .i64 cl, .slice At nt ct] 114))
    have HYES := Lib.hid (show okInst ns fs ms vs cl ts = true by unfold okInst; rw [hV, hI]; rfl)
    clear hb1 hV hI hN
    go_wp2
    go_ret
    exact ⟨by rw [HYES.out]; rfl, HB1.out⟩
end Go.Proofs.YtknphikoikdcjaaGreat
