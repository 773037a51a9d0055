/- What an instance that runs tells of itself: waiting, waitsAt, timersByNode. (Written by gen/runb.py.) -/
import Derived.Test.YtknphikoikdcjaaRunA
set_option linter.unusedSimpArgs false
set_option linter.unusedVariables false
namespace Go.Proofs.Ytknphikoikdcjaa
open Go.RowKit

theorem zeroIntR (w : World) : (zeroValue 3).run Try.prog w = .ok (.int .i64 0) w := by kernel_rfl
theorem zeroIntsR (w : World) : (zeroValue 26).run Try.prog w = .ok (.slice none 0 0) w := by kernel_rfl
theorem one_inR {ns : List (Int × Int)} {fs : List Flw} (hV : vProc ns fs = true) {k : Nat} {x y : Int} (h : ns[k]? = some (x, y)) (hx : x = 2 ∨ x = 3 ∨ x = 4) : (flOf fs false (k : Int)).length = 1 := by
  have hn := (vProc_node hV h).2
  rcases hx with h | h | h <;> subst h <;> simp [vKind] at hn <;> omega
theorem waitAt_one {fs : List Flw} {ms : List Int} {node : Int} {q : Int} (h : (flOf fs false node)[0]? = some q) : waitAt fs ms node = ms.getD q.toNat 0 := by
  unfold waitAt
  cases hf : flOf fs false node with
  | nil => rw [hf] at h; cases h
  | cons a l => rw [hf] at h; simp at h; subst h; rfl
set_option maxRecDepth 100000 in
set_option maxHeartbeats 1600000 in
theorem waiting_any (An : Option Addr) (nn cn : Nat) (ns : List (Int × Int)) (Af : Option Addr) (lf cf : Nat) (fs : List Flw) (bo bi mb m : Nat) (ms : List Int) (Av : Option Addr) (nv cv : Nat) (cl : Int) (At : Option Addr) (nt ct : Nat) (k : Nat) (x y : Int) (w : World) (hN : NetM w ns fs ms An nn Af lf bo bi mb m) (hkx : ns[k]? = some (x, y)) (hx : x = 2 ∨ x = 3 ∨ x = 4) (hk : k ≤ 1048576) :
    Calls Try.prog 67 #[.agg #[.slice An nn cn, .slice Af lf cf, .map (some bo), .map (some bi), .map (some mb), .slice Av nv cv, .int .i64 cl, .slice At nt ct], .int .i64 (k : Int)] w fun e w' => e = .returned (.int .i64 (waitAt fs ms (k : Int))) ∧ Below w.heap.size w w' := by
  have hb1 := up_alloc (Below.refl _ w) (.cells #[.slice An nn cn, .slice Af lf cf, .map (some bo), .map (some bi), .map (some mb), .slice Av nv cv, .int .i64 cl, .slice At nt ct] 64)
  have hbk := Blk.new w 64 #[.slice An nn cn, .slice Af lf cf, .map (some bo), .map (some bi), .map (some mb), .slice Av nv cv, .int .i64 cl, .slice At nt ct]
  have hN1 := hN.keep hb1
  have hlen := one_inR hN.vp hkx hx
  have hk64 : in64 (k : Int) := by unfold in64; omega
  generalize hw0 : w.alloc (.cells #[.slice An nn cn, .slice Af lf cf, .map (some bo), .map (some bi), .map (some mb), .slice Av nv cv, .int .i64 cl, .slice At nt ct] 64) = w0 at *
  have hbd := up_drew (Below.refl _ w0)
  have hN2 := hN1.keep hbd
  obtain ⟨A, c, hlk, hcc, hrr, _⟩ := hN2.im.look keyedInt Try.underlying3 Try.underlying55 zeroIntsR hk64
  rw [hlen] at hlk hcc hrr
  obtain ⟨b, off, q, hA, _, _, hq, hcq⟩ := hrr.one (show 0 < 1 by omega)
  subst hA
  obtain ⟨q', hq', hq14⟩ : ∃ q' : Nat, q = (q' : Int) ∧ q' < ms.length := by
    obtain ⟨i, f, hf, hi, _⟩ := flOf_mem.1 (List.mem_of_getElem? hq)
    have hl := vMarks_lenR hN.vm
    exact ⟨i, hf, by rw [hl]; exact (List.getElem?_eq_some_iff.1 hi).1⟩
  subst hq'
  have hq64 : in64 (q' : Int) := by have h1 := vMarks_lenR hN.vm; have h2 := (vProc_len hN.vp).2.2; unfold in64; omega
  have hlt := hN2.cm.look keyedInt Try.underlying3 Try.underlying61 (zeroIntR w0.drew) hq64 rfl
  rw [markAt_get _ q' hq14] at hlt
  have HW := Lib.hid (waitAt_one (ms := ms) hq)
  rw [Int.toNat_natCast] at HW
  have HB := Lib.hid hb1
  generalize ms.getD q' 0 = v at hlt HW
  subst hw0
  have c3 : (w.alloc (.cells #[.slice An nn cn, .slice Af lf cf, .map (some bo), .map (some bi), .map (some mb), .slice Av nv cv, .int .i64 cl, .slice At nt ct] 64)).cell? ⟨w.heap.size, 3, none⟩ = some (.map (some bi)) := hbk.cell 3
  have c4 : (w.alloc (.cells #[.slice An nn cn, .slice Af lf cf, .map (some bo), .map (some bi), .map (some mb), .slice Av nv cv, .int .i64 cl, .slice At nt ct] 64)).cell? ⟨w.heap.size, 4, none⟩ = some (.map (some mb)) := hbk.cell 4
  have hcq3 : (w.alloc (.cells #[.slice An nn cn, .slice Af lf cf, .map (some bo), .map (some bi), .map (some mb), .slice Av nv cv, .int .i64 cl, .slice At nt ct] 64)).cell? ⟨b, off, none⟩ = some (.int .i64 (q' : Int)) := hcq
  clear hcq
  clear hN hN1 hN2 hkx hx hrr hq hk64 hlen hb1 hbk hbd
  go_enter Try.func67, Try.ntmps67
  go_wp2_with (fail)
  go_region
  all_goals
    go_wp2
    go_ret
    exact ⟨by rw [HW.out]; rfl, up_drew HB.out⟩
set_option maxRecDepth 100000 in
set_option maxHeartbeats 800000 in
theorem isReady_noR (An : Option Addr) (nn cn : Nat) (Af : Option Addr) (lf cf bo bi mb : Nat) (node : Int) (w : World) (hin : inR node 0 ((nn : Int) - 1) = false) :
    Calls Try.prog 76 #[.agg #[.slice An nn cn, .slice Af lf cf, .map (some bo), .map (some bi)], .map (some mb), .int .i64 node] w fun e w' => e = .returned (.bool false) ∧ Below w.heap.size w w' := by
  have hb1 := up_alloc (Below.refl _ w) (.cells #[.slice An nn cn, .slice Af lf cf, .map (some bo), .map (some bi)] 59)
  go_enter Try.func76, Try.ntmps76
  go_wp2_with (fail)
  (with_reducible refine (isNode_any An nn cn node _).mono ?_)
  rintro e w2 ⟨rfl, rfl⟩
  rw [hin]
  have HB := Lib.hid hb1
  clear hin hb1
  go_wp2
  go_ret
  exact ⟨rfl, HB.out⟩
set_option maxRecDepth 100000 in
set_option maxHeartbeats 1600000 in
theorem waitsAt_any (An : Option Addr) (nn cn : Nat) (ns : List (Int × Int)) (Af : Option Addr) (lf cf : Nat) (fs : List Flw) (bo bi mb m : Nat) (ms : List Int) (Av : Option Addr) (nv cv : Nat) (cl : Int) (At : Option Addr) (nt ct : Nat) (node kind : Int) (w : World) (hN : NetM w ns fs ms An nn Af lf bo bi mb m) (hnn : nn ≤ 1048576) :
    Calls Try.prog 65 #[.agg #[.slice An nn cn, .slice Af lf cf, .map (some bo), .map (some bi), .map (some mb), .slice Av nv cv, .int .i64 cl, .slice At nt ct], .int .i64 node, .int .i64 kind] w fun e w' => e = .returned (.bool (inR node 0 ((nn : Int) - 1) && readyB (kindAt ns node.toNat) ms (flOf fs false node) && (kindAt ns node.toNat == kind))) ∧ Below w.heap.size w w' := by
  have hb1 := up_alloc (Below.refl _ w) (.cells #[.slice An nn cn, .slice Af lf cf, .map (some bo), .map (some bi), .map (some mb), .slice Av nv cv, .int .i64 cl, .slice At nt ct] 64)
  have HK := Lib.hid (Blk.new w 64 #[.slice An nn cn, .slice Af lf cf, .map (some bo), .map (some bi), .map (some mb), .slice Av nv cv, .int .i64 cl, .slice At nt ct])
  have HN1 := Lib.hid (hN.keep hb1)
  have HB := Lib.hid hb1
  have hz : (w.alloc (.cells #[.slice An nn cn, .slice Af lf cf, .map (some bo), .map (some bi), .map (some mb), .slice Av nv cv, .int .i64 cl, .slice At nt ct] 64)).heap.size = w.heap.size + 1 := by simp
  clear hb1 hN
  cases hin : inR node 0 ((nn : Int) - 1) with
  | false =>
    have HC := Lib.hid (isReady_noR An nn cn Af lf cf bo bi mb node (w.alloc (.cells #[.slice An nn cn, .slice Af lf cf, .map (some bo), .map (some bi), .map (some mb), .slice Av nv cv, .int .i64 cl, .slice At nt ct] 64)) hin)
    clear hin
    go_enter Try.func65, Try.ntmps65
    go_wp2_with (fail)
    (with_reducible refine HC.out.mono ?_)
    rintro e w1 ⟨rfl, hb1⟩
    have HB1 := Lib.hid (up HB.out hb1)
    clear hb1
    go_wp2
    go_ret
    exact ⟨rfl, HB1.out⟩
  | true =>
    rw [inR_iff] at hin
    obtain ⟨k, rfl⟩ : ∃ k : Nat, node = (k : Int) := ⟨node.toNat, by omega⟩
    have hk : k < nn := by omega
    obtain ⟨b, off, x, y, hA, _, _, hkx, hc0, hc1⟩ := HN1.out.nodes.pair hk
    have hx := kindAt_is hkx
    rw [Int.toNat_natCast, hx]
    subst hA
    have HC := Lib.hid (isReady_any _ nn cn 0 _ ns Af lf cf bo bi fs 0 _ mb m ms k x y _ HN1.out.nodes (Nat.le_refl _) HN1.out.im (Nat.le_refl _) HN1.out.cm (vMarks_lenR HN1.out.vm) (vProc_len HN1.out.vp).2.2 hk hnn hkx)
    clear hkx hx hin
    go_enter Try.func65, Try.ntmps65
    go_wp2_with (fail)
    (with_reducible refine HC.out.mono ?_)
    rintro e w1 ⟨rfl, hb1⟩
    have HB1 := Lib.hid (up HB.out hb1)
    have HK1 := Lib.hid (HK.out.below hb1 (by omega))
    have d0 := (hb1.cell (p := ⟨b, off + k * 2, none⟩) (by show b < _; omega)).trans hc0
    have k0 : w1.cell? ⟨w.heap.size, 0, none⟩ = some (.slice (some ⟨b, off, none⟩) nn cn) := HK1.out.cell 0
    have hk0 : (0 : Int) ≤ (k : Int) := by omega
    have hk1 : (k : Int) < (nn : Int) := by omega
    clear hb1 hc0 hc1 HN1 HC HK HK1
    cases hrb : readyB x ms (flOf fs false (k : Int)) with
    | false =>
      have HRB := Lib.hid hrb
      clear hrb
      go_wp2
      go_ret
      exact ⟨by simp [HRB.out], HB1.out⟩
    | true =>
      have HRB := Lib.hid hrb
      clear hrb
      go_wp2
      go_ret
      exact ⟨by simp [HRB.out], HB1.out⟩
/-- How many timers each node has, as a map tells it. -/
def cntAt (ts : List (Int × Int)) (z : Int) : Option Value := if tAt ts z = 0 then none else some (.int .i64 (tAt ts z : Nat))
theorem cntAt_get (ts : List (Int × Int)) (z : Int) : (cntAt ts z).getD (.int .i64 0) = .int .i64 (tAt ts z : Nat) := by
  unfold cntAt
  split
  · rename_i h; rw [h]; rfl
  · rfl
theorem tAt_snoc (ts : List (Int × Int)) (t : Int × Int) (z : Int) : tAt (ts ++ [t]) z = tAt ts z + (if t.1 = z then 1 else 0) := by
  unfold tAt
  rw [List.countP_append, List.countP_cons, List.countP_nil, Nat.zero_add]
  by_cases h : t.1 = z <;> simp [h]
theorem cntAt_snoc (ts : List (Int × Int)) (x y : Int) (z : Int) : (if z = x then some (Value.int .i64 ((tAt ts x : Nat) + 1 : Int)) else cntAt ts z) = cntAt (ts ++ [(x, y)]) z := by
  unfold cntAt
  rw [tAt_snoc]
  by_cases h : z = x
  · subst h
    simp
  · rw [if_neg h, if_neg (show ¬ (x, y).1 = z from fun e => h e.symm), Nat.add_zero]
set_option maxRecDepth 100000 in
set_option maxHeartbeats 1600000 in
theorem timersByNode_any (An : Option Addr) (nn cn : Nat) (ns : List (Int × Int)) (Af : Option Addr) (lf cf : Nat) (fs : List Flw) (bo bi mb m : Nat) (ms : List Int) (Av : Option Addr) (nv cv : Nat) (cl : Int) (At : Option Addr) (nt ct : Nat) (ts : List (Int × Int)) (w : World) (ht : Rd w 0 w.heap.size 2 At nt (pvs ts)) (hnt : nt ≤ 1048576) (h64 : ∀ t ∈ ts, in64 t.1) :
    Calls Try.prog 66 #[.agg #[.slice An nn cn, .slice Af lf cf, .map (some bo), .map (some bi), .map (some mb), .slice Av nv cv, .int .i64 cl, .slice At nt ct]] w fun e w' => ∃ hb, e = .returned (.map (some hb)) ∧ IMap Try.prog 3 w' hb nt (cntAt ts) ∧ w.heap.size ≤ hb ∧ Below w.heap.size w w' := by
  have HL := Lib.hid ht.len2
  have H64 := Lib.hid h64
  have hb1 := up_alloc (up_alloc (Below.refl _ w) (.cells #[.slice An nn cn, .slice Af lf cf, .map (some bo), .map (some bi), .map (some mb), .slice Av nv cv, .int .i64 cl, .slice At nt ct] 64)) (.map #[] 0)
  have HK := Lib.hid ((Blk.new w 64 #[.slice An nn cn, .slice Af lf cf, .map (some bo), .map (some bi), .map (some mb), .slice Av nv cv, .int .i64 cl, .slice At nt ct]).alloc (.map #[] 0))
  have HT := Lib.hid (ht.keep hb1 (Nat.le_refl _))
  have hz : ((w.alloc (.cells #[.slice An nn cn, .slice Af lf cf, .map (some bo), .map (some bi), .map (some mb), .slice Av nv cv, .int .i64 cl, .slice At nt ct] 64)).alloc (.map #[] 0)).heap.size = w.heap.size + 1 + 1 := by simp
  have HM := Lib.hid (show IMap Try.prog 3 ((w.alloc (.cells #[.slice An nn cn, .slice Af lf cf, .map (some bo), .map (some bi), .map (some mb), .slice Av nv cv, .int .i64 cl, .slice At nt ct] 64)).alloc (.map #[] 0)) (w.heap.size + 1) 0 (cntAt (ts.take 0)) from by
    have := IMap.made Try.prog 3 (w.alloc (.cells #[.slice An nn cn, .slice Af lf cf, .map (some bo), .map (some bi), .map (some mb), .slice Av nv cv, .int .i64 cl, .slice At nt ct] 64))
    rw [show (w.alloc (.cells #[.slice An nn cn, .slice Af lf cf, .map (some bo), .map (some bi), .map (some mb), .slice Av nv cv, .int .i64 cl, .slice At nt ct] 64)).heap.size = w.heap.size + 1 by simp] at this
    exact this.congr (fun z => by simp [cntAt, tAt]))
  have HB := Lib.hid hb1
  clear hb1 h64
  go_enter Try.func66, Try.ntmps66
  have hmm := @run_makeMap Try.prog
  have k7 : ((w.alloc (.cells #[.slice An nn cn, .slice Af lf cf, .map (some bo), .map (some bi), .map (some mb), .slice Av nv cv, .int .i64 cl, .slice At nt ct] 64)).alloc (.map #[] 0)).cell? ⟨w.heap.size, 7, none⟩ = some (.slice At nt ct) := HK.out.cell 7
  go_wp2
  clear hmm k7
  generalize (w.alloc (.cells #[.slice An nn cn, .slice Af lf cf, .map (some bo), .map (some bi), .map (some mb), .slice Av nv cv, .int .i64 cl, .slice At nt ct] 64)).alloc (.map #[] 0) = w1 at *
  go_loopw [10] (fun iv wr => ∃ (k : Nat), k ≤ nt ∧ iv = .int .i64 k ∧ Hid (IMap Try.prog 3 wr (w.heap.size + 1) k (cntAt (ts.take k))) ∧ Hid (Below w.heap.size w wr) ∧ Hid (Rd wr 0 w.heap.size 2 At nt (pvs ts)) ∧ w.heap.size + 1 + 1 ≤ wr.heap.size)
     (fun iv _ => nt - (intOf iv).toNat)
  case atStart => exact ⟨0, by omega, rfl, HM.out, HB.out, HT.out, by omega⟩
  case round =>
    clear HM HB HT HK
    obtain ⟨k, hk, rfl, HM, HB, HT, hsz⟩ := hrel
    by_cases hlt : k < nt
    · obtain ⟨b, off, x, y, hA, hbl, _, hg, hc0, hc1⟩ := HT.out.pair hlt
      subst hA
      have hx64 : in64 x := H64.out _ (List.mem_of_getElem? hg)
      have hb2 := up_alloc (Below.refl _ wr) (.cells #[.int .i64 x, .int .i64 y] 74)
      have HM2 := Lib.hid (HM.out.keep hb2 HM.out.lt)
      have HB2 := Lib.hid (up HB.out hb2)
      have HT2 := Lib.hid (HT.out.keep hb2 (by omega))
      have hlk := HM2.out.look keyedInt Try.underlying3 Try.underlying60 (zeroIntR _) hx64 rfl
      rw [cntAt_get] at hlk
      have HS := Lib.hid (fun z => cntAt_snoc (ts.take k) x y z)
      rw [← take_snoc hg] at HS
      have hcl : tAt (ts.take k) x ≤ k := by
        have h1 : tAt (ts.take k) x ≤ (ts.take k).length := List.countP_le_length
        rw [List.length_take] at h1; omega
      generalize hv : tAt (ts.take k) x = v at *
      obtain ⟨w4, hrun, him4, hgr⟩ := HM2.out.put keyedInt Try.underlying3 Try.underlying60 (by unfold maxLen; omega) hx64 (.int .i64 ((v : Int) + 1))
      have HM4 := Lib.hid (him4.congr HS.out)
      have HB4 := Lib.hid (HB2.out.grown hgr (by have := hb2.size; omega) (fun g e => by injection e with e; omega))
      have HT4 := Lib.hid (HT2.out.far hgr (by have := hb2.size; omega) (fun g e => by injection e with e; omega))
      have hs4 := hgr.size
      have hsw : (wr.alloc (.cells #[.int .i64 x, .int .i64 y] 74)).heap.size = wr.heap.size + 1 := by simp
      have hwv : IntKind.i64.wrap ((v : Int) + 1) = (v : Int) + 1 := IntWalk.i64_in _ (by omega)
      have hk1 : (k : Int) < (nt : Int) := by omega
      have hk0 : (0 : Int) ≤ (k : Int) := by omega
      clear HM HB HT HM2 HB2 HT2 him4 hgr hg hv hb2
      go_wp2
      go_roundw
      case rel => exact ⟨k + 1, by omega, by go_num, HM4, HB4, HT4, by omega⟩
      case measure => simp [intOf]; omega
    · obtain rfl : k = nt := by omega
      have HM2 := Lib.hid (show IMap Try.prog 3 wr (w.heap.size + 1) k (cntAt ts) from by have := HM.out; rwa [List.take_of_length_le (by rw [HL.out]; exact Nat.le_refl _)] at this)
      go_wp2
      go_ret
      exact ⟨_, rfl, HM2.out, by omega, HB.out⟩
end Go.Proofs.Ytknphikoikdcjaa
