/- spec.ValidProcess, spec.FlowsOut, spec.FlowsIn. -/
import Derived.Test.YthlcbdjjegageaaProcValidS
namespace Go.Proofs.Ythlcbdjjegageaa
open Go.RowKit

/-- The flows out of a node of a valid process, or into it. -/
def flowsAt (ns : List (Int × Int)) (fs : List Flw) (out : Bool) (node : Int) : List Int := if vProc ns fs && inR node 0 ((ns.length : Int) - 1) then flOf fs out node else []

theorem ValidProcessS_any (lo hi nn cn : Nat) (An : Option Addr) (ns : List (Int × Int)) (lo' hi' n c : Nat) (A : Option Addr) (fs : List Flw) (w : World) (hrn : Rd w lo hi 2 An nn (pvs ns)) (hB : hi ≤ w.heap.size) (hnn : nn ≤ 1048576)
    (hr : Fls w lo' hi' A n fs) (hB' : hi' ≤ w.heap.size) (hn : n ≤ 1048576) :
    Calls Try.prog 17 #[.agg #[.slice An nn cn, .slice A n c]] w fun e w' => e = .returned (.bool (vProc ns fs)) ∧ Below w.heap.size w w' := by
  have hb1 := up_alloc (Below.refl _ w) (.cells #[.slice An nn cn, .slice A n c] 26)
  have hs1 := hb1.size
  go_enter Try.func17, Try.ntmps17
  go_wp2_with (fail)
  (with_reducible refine (validProcessS_any lo hi nn cn An ns lo' hi' n c A fs _ (hrn.keep hb1 hB) (by omega) hnn (hr.keep hb1 hB') (by omega) hn).mono ?_)
  rintro e w1 ⟨rfl, hb2⟩
  have HB := Lib.hid (up hb1 hb2)
  clear hb1 hb2
  go_wp2
  go_ret
  exact ⟨rfl, HB.out⟩

set_option maxHeartbeats 800000 in
theorem FlowsOutS_any (lo hi nn cn : Nat) (An : Option Addr) (ns : List (Int × Int)) (lo' hi' n c : Nat) (A : Option Addr) (fs : List Flw) (node : Int) (w : World) (hrn : Rd w lo hi 2 An nn (pvs ns)) (hB : hi ≤ w.heap.size) (hnn : nn ≤ 1048576)
    (hr : Fls w lo' hi' A n fs) (hB' : hi' ≤ w.heap.size) (hn : n ≤ 1048576) :
    Calls Try.prog 23 #[.agg #[.slice An nn cn, .slice A n c], .int .i64 node] w (Fresh (ivs (flowsAt ns fs true node)) 1 (flowsAt ns fs true node).length w) := by
  have HL := Lib.hid hrn.len2
  have hb1 := up_alloc (Below.refl _ w) (.cells #[.slice An nn cn, .slice A n c] 26)
  have hbp := Blk.new w 26 #[.slice An nn cn, .slice A n c]
  have hs1 := hb1.size
  have hs0 := hbp.lt
  go_enter Try.func23, Try.ntmps23
  go_wp2_with (fail)
  (with_reducible refine (validProcessS_any lo hi nn cn An ns lo' hi' n c A fs _ (hrn.keep hb1 hB) (by omega) hnn (hr.keep hb1 hB') (by omega) hn).mono ?_)
  rintro e w1 ⟨rfl, hb2⟩
  have hbp2 := hbp.below hb2 hs0
  have hb02 := up hb1 hb2
  have hs2 := hb2.size
  clear hb1 hb2 hbp
  have hs3 := hbp2.lt
  have hd0 : w1.cell? ⟨w.heap.size, 0, none⟩ = some (.slice An nn cn) := hbp2.cell 0
  have hd1 : w1.cell? ⟨w.heap.size, 1, none⟩ = some (.slice A n c) := hbp2.cell 1
  have hr2 := hr.keep hb02 hB'
  clear hbp2
  by_cases hV : vProc ns fs = true
  · have HV := Lib.hid hV
    rw [hV]; clear hV
    by_cases hi : inR node 0 ((nn : Int) - 1) = true
    · have HU : Hid (flowsAt ns fs true node = flOf fs true node) := by simp [Hid, flowsAt, HV.out, HL.out, hi]
      go_wp2_with (go_at_call 57; refine (inRange_any _ _ _ _).mono ?_; rintro e w' ⟨rfl, rfl⟩)
      (with_reducible refine (flowsOf_any lo' hi' n c A _ fs node true w1 hr2 (by omega) hn).mono ?_)
      rintro e w3 ⟨A3, c3, rfl, hc3, hr3, hf3, hb3⟩
      have HB := Lib.hid (up hb02 hb3)
      have HR := Lib.hid hr3
      have HF := Lib.hid hf3
      clear hb02 hb3 hr3 hf3
      go_wp2
      go_ret
      rw [HU.out]
      exact ⟨A3, c3, rfl, hc3, HR.out.wide (by omega) (Nat.le_refl _), HF.out, HB.out⟩
    · have hi' : inR node 0 ((nn : Int) - 1) = false := by simpa using hi
      have HU : Hid (flowsAt ns fs true node = []) := by simp [Hid, flowsAt, HL.out, hi']
      clear hi
      go_wp2_with (go_at_call 57; refine (inRange_any _ _ _ _).mono ?_; rintro e w' ⟨rfl, rfl⟩)
      go_ret
      rw [HU.out]
      exact Fresh.nil 1 hb02
  · have hV' : vProc ns fs = false := by simpa using hV
    have HU : Hid (flowsAt ns fs true node = []) := by simp [Hid, flowsAt, hV']
    rw [hV']; clear hV hV'
    go_wp2
    go_ret
    rw [HU.out]
    exact Fresh.nil 1 hb02

set_option maxHeartbeats 800000 in
theorem FlowsInS_any (lo hi nn cn : Nat) (An : Option Addr) (ns : List (Int × Int)) (lo' hi' n c : Nat) (A : Option Addr) (fs : List Flw) (node : Int) (w : World) (hrn : Rd w lo hi 2 An nn (pvs ns)) (hB : hi ≤ w.heap.size) (hnn : nn ≤ 1048576)
    (hr : Fls w lo' hi' A n fs) (hB' : hi' ≤ w.heap.size) (hn : n ≤ 1048576) :
    Calls Try.prog 25 #[.agg #[.slice An nn cn, .slice A n c], .int .i64 node] w (Fresh (ivs (flowsAt ns fs false node)) 1 (flowsAt ns fs false node).length w) := by
  have HL := Lib.hid hrn.len2
  have hb1 := up_alloc (Below.refl _ w) (.cells #[.slice An nn cn, .slice A n c] 26)
  have hbp := Blk.new w 26 #[.slice An nn cn, .slice A n c]
  have hs1 := hb1.size
  have hs0 := hbp.lt
  go_enter Try.func25, Try.ntmps25
  go_wp2_with (fail)
  (with_reducible refine (validProcessS_any lo hi nn cn An ns lo' hi' n c A fs _ (hrn.keep hb1 hB) (by omega) hnn (hr.keep hb1 hB') (by omega) hn).mono ?_)
  rintro e w1 ⟨rfl, hb2⟩
  have hbp2 := hbp.below hb2 hs0
  have hb02 := up hb1 hb2
  have hs2 := hb2.size
  clear hb1 hb2 hbp
  have hs3 := hbp2.lt
  have hd0 : w1.cell? ⟨w.heap.size, 0, none⟩ = some (.slice An nn cn) := hbp2.cell 0
  have hd1 : w1.cell? ⟨w.heap.size, 1, none⟩ = some (.slice A n c) := hbp2.cell 1
  have hr2 := hr.keep hb02 hB'
  clear hbp2
  by_cases hV : vProc ns fs = true
  · have HV := Lib.hid hV
    rw [hV]; clear hV
    by_cases hi : inR node 0 ((nn : Int) - 1) = true
    · have HU : Hid (flowsAt ns fs false node = flOf fs false node) := by simp [Hid, flowsAt, HV.out, HL.out, hi]
      go_wp2_with (go_at_call 57; refine (inRange_any _ _ _ _).mono ?_; rintro e w' ⟨rfl, rfl⟩)
      (with_reducible refine (flowsOf_any lo' hi' n c A _ fs node false w1 hr2 (by omega) hn).mono ?_)
      rintro e w3 ⟨A3, c3, rfl, hc3, hr3, hf3, hb3⟩
      have HB := Lib.hid (up hb02 hb3)
      have HR := Lib.hid hr3
      have HF := Lib.hid hf3
      clear hb02 hb3 hr3 hf3
      go_wp2
      go_ret
      rw [HU.out]
      exact ⟨A3, c3, rfl, hc3, HR.out.wide (by omega) (Nat.le_refl _), HF.out, HB.out⟩
    · have hi' : inR node 0 ((nn : Int) - 1) = false := by simpa using hi
      have HU : Hid (flowsAt ns fs false node = []) := by simp [Hid, flowsAt, HL.out, hi']
      clear hi
      go_wp2_with (go_at_call 57; refine (inRange_any _ _ _ _).mono ?_; rintro e w' ⟨rfl, rfl⟩)
      go_ret
      rw [HU.out]
      exact Fresh.nil 1 hb02
  · have hV' : vProc ns fs = false := by simpa using hV
    have HU : Hid (flowsAt ns fs false node = []) := by simp [Hid, flowsAt, hV']
    rw [hV']; clear hV hV'
    go_wp2
    go_ret
    rw [HU.out]
    exact Fresh.nil 1 hb02
end Go.Proofs.Ythlcbdjjegageaa
