/- impl.netOf: a valid process with the flows of each node. -/
import Derived.Test.YtknphikoikdcjaaGreatProcOutI
import Derived.Test.YtknphikoikdcjaaGreatBase
import Derived.Deep.RegionLaw
set_option linter.unusedSimpArgs false
set_option linter.unusedVariables false
namespace Go.Proofs.YtknphikoikdcjaaGreat
open Go.RowKit

theorem RowMap.set {P : Program} {kt : TypeId} {w : World} {lo hi b : Nat} {G : Int → List Int} (h : RowMap P kt w lo hi b G) {p : Addr} (hp : p.block < lo) (u : Value) : RowMap P kt (w.setCell p u) lo hi b G := by
  obtain ⟨n, g, h1, h2, h3, h4⟩ := h
  refine ⟨n, g, h1.same (Below.heap_setCell w p u b (by omega)), h2, h3, fun z => ?_⟩
  obtain ⟨A, c, e, hc, hr, hs⟩ := h4 z
  refine ⟨A, c, e, hc, hr.setCell (.inl hp) u, fun b' off ea j hj => ?_⟩
  rw [World.frozen?_setCell]
  exact hs b' off ea j hj
/-- A net in memory: the process, and the maps of its flows. -/
def netV (An : Option Addr) (nn cn : Nat) (Af : Option Addr) (lf cf bo bi : Nat) : Value := .agg #[.slice An nn cn, .slice Af lf cf, .map (some bo), .map (some bi)]
def NetPost (ns : List (Int × Int)) (fs : List Flw) (An : Option Addr) (nn cn : Nat) (Af : Option Addr) (lf cf : Nat) (w : World) (e : Ending) (w' : World) : Prop :=
  (vProc ns fs = false ∧ e = .returned (.tuple #[.agg #[.slice none 0 0, .slice none 0 0, .map none, .map none], .bool false]) ∧ Below w.heap.size w w') ∨
  (vProc ns fs = true ∧ ∃ bo bi, e = .returned (.tuple #[netV An nn cn Af lf cf bo bi, .bool true]) ∧ RowMap Tryz.prog 3 w' w.heap.size w'.heap.size bo (fun z => flOf fs true z) ∧ RowMap Tryz.prog 3 w' w.heap.size w'.heap.size bi (fun z => flOf fs false z) ∧ Below w.heap.size w w')

set_option maxRecDepth 100000 in
set_option maxHeartbeats 1600000 in
theorem netOf_any (lo hi nn cn : Nat) (An : Option Addr) (ns : List (Int × Int)) (lo' hi' lf cf : Nat) (Af : Option Addr) (fs : List Flw) (w : World) (hrn : Rd w lo hi 2 An nn (pvs ns)) (hB : hi ≤ w.heap.size) (hnn : nn ≤ 1048576)
    (hr : Fls w lo' hi' Af lf fs) (hB' : hi' ≤ w.heap.size) (hn : lf ≤ 1048576) :
    Calls Tryz.prog 86 #[.agg #[.slice An nn cn, .slice Af lf cf]] w (NetPost ns fs An nn cn Af lf cf w) := by
  have hb1 := up_alloc (up_alloc (Below.refl _ w) (.cells #[.slice An nn cn, .slice Af lf cf] 40)) (.cells #[.slice none 0 0, .slice none 0 0, .map none, .map none] 104)
  have hp := (Blk.new w 40 #[.slice An nn cn, .slice Af lf cf]).alloc (.cells #[.slice none 0 0, .slice none 0 0, .map none, .map none] 104)
  have hq : Blk ((w.alloc (.cells #[.slice An nn cn, .slice Af lf cf] 40)).alloc (.cells #[.slice none 0 0, .slice none 0 0, .map none, .map none] 104)) (w.heap.size + 1) 104 #[.slice none 0 0, .slice none 0 0, .map none, .map none] := by
    simpa using Blk.new (w.alloc (.cells #[.slice An nn cn, .slice Af lf cf] 40)) 104 #[.slice none 0 0, .slice none 0 0, .map none, .map none]
  have hs1 : ((w.alloc (.cells #[.slice An nn cn, .slice Af lf cf] 40)).alloc (.cells #[.slice none 0 0, .slice none 0 0, .map none, .map none] 104)).heap.size = w.heap.size + 1 + 1 := by simp
  have HF := Lib.hid hr.1
  have HL := Lib.hid hrn.len2
  have HC := Lib.hid (ValidProcessI_any lo hi nn cn An ns lo' hi' lf cf Af fs _ (hrn.keep hb1 hB) (by omega) hnn (hr.keep hb1 hB') (by omega) hn)
  go_enter Tryz.func86, Tryz.ntmps86
  go_wp2_with (fail)
  (with_reducible refine HC.out.mono ?_)
  rintro e w1 ⟨rfl, hb2⟩
  have hb02 := up hb1 hb2
  have hs2 := hb2.size
  rw [hs1] at hs2
  have hp1 := hp.below hb2 (by omega)
  have hq1 := hq.below hb2 (by omega)
  clear hb1 hb2 hp hq HC
  have k0 : w1.cell? ⟨w.heap.size, 0, none⟩ = some (.slice An nn cn) := hp1.cell 0
  have k1 : w1.cell? ⟨w.heap.size, 1, none⟩ = some (.slice Af lf cf) := hp1.cell 1
  cases hV : vProc ns fs with
  | false =>
    have HV := Lib.hid hV
    have r0 : w1.cell? ⟨w.heap.size + 1, 0, none⟩ = some (.slice none 0 0) := hq1.cell 0
    have r1 : w1.cell? ⟨w.heap.size + 1, 1, none⟩ = some (.slice none 0 0) := hq1.cell 1
    have r2 : w1.cell? ⟨w.heap.size + 1, 2, none⟩ = some (.map none) := hq1.cell 2
    have r3 : w1.cell? ⟨w.heap.size + 1, 3, none⟩ = some (.map none) := hq1.cell 3
    have q0 := hq1.soft 0
    have q1 := hq1.soft 1
    have q2 := hq1.soft 2
    have q3 := hq1.soft 3
    have hZ := (((hq1.put 0 (.slice none 0 0)).put 1 (.slice none 0 0)).put 2 (.map none)).put 3 (.map none)
    have b0 := hZ.cell 0
    have b1 := hZ.cell 1
    have b2 := hZ.cell 2
    have b3 := hZ.cell 3
    simp at b0 b1 b2 b3
    have HB := Lib.hid ((((hb02.setCell (p := ⟨w.heap.size + 1, 0, none⟩) (by simp) (.slice none 0 0)).setCell (p := ⟨w.heap.size + 1, 1, none⟩) (by simp) (.slice none 0 0)).setCell (p := ⟨w.heap.size + 1, 2, none⟩) (by simp) (.map none)).setCell (p := ⟨w.heap.size + 1, 3, none⟩) (by simp) (.map none))
    clear hZ hq1 hp1 hb02 hV
    go_wp2
    refine bodyPost_ret (v := .tuple #[.agg #[.slice none 0 0, .slice none 0 0, .map none, .map none], .bool false]) (by simp [results, Tryz.results86, go_sem, b0, b1, b2, b3]) rfl (.inl ⟨HV.out, rfl, HB.out⟩)
  | true =>
    have HV := Lib.hid hV
    have hlen := vProc_len hV
    have h14 : lf ≤ 14 := by have := HF.out; omega
    have HI := Lib.hid (inside_in64 (vProc_inside hV) (by omega))
    have HM := Lib.hid (mapFlows_any lo' hi' lf cf Af fs w1.drew (hr.keep (up_drew hb02) hB') (Nat.le_trans hB' hb02.size) h14 HI.out)
    have HP1 := Lib.hid hp1
    have HQ1 := Lib.hid hq1
    have HB2 := Lib.hid hb02
    clear hp1 hq1 hb02 hV hlen
    go_wp2_with (fail)
    go_region_law (go_simp; go_at_call 149; (with_reducible refine HM.out.mono ?_); rintro e w3 ⟨bo, bi, rfl, hmo, hmi, hb3⟩; have hp3 := HP1.out.drew.below hb3 (by show w.heap.size < w1.heap.size; omega); have hq3 := HQ1.out.drew.below hb3 (by show w.heap.size + 1 < w1.heap.size; omega); have j0 : w3.cell? ⟨w.heap.size, 0, none⟩ = some (.slice An nn cn) := hp3.cell 0; have j1 : w3.cell? ⟨w.heap.size, 1, none⟩ = some (.slice Af lf cf) := hp3.cell 1; have r0 : w3.cell? ⟨w.heap.size + 1, 0, none⟩ = some (.slice none 0 0) := hq3.cell 0; have r1 : w3.cell? ⟨w.heap.size + 1, 1, none⟩ = some (.slice none 0 0) := hq3.cell 1; have r2 : w3.cell? ⟨w.heap.size + 1, 2, none⟩ = some (.map none) := hq3.cell 2; have r3 : w3.cell? ⟨w.heap.size + 1, 3, none⟩ = some (.map none) := hq3.cell 3; have q0 := hq3.soft 0; have q1 := hq3.soft 1; have q2 := hq3.soft 2; have q3 := hq3.soft 3; have HQ3 := Lib.hid hq3; have HMO := Lib.hid hmo; have HMI := Lib.hid hmi; have HB3 := Lib.hid hb3; clear hp3 hq3 hmo hmi hb3)
    all_goals
      have hZ := (((HQ3.out.put 0 (.slice An nn cn)).put 1 (.slice Af lf cf)).put 2 (.map (some bo))).put 3 (.map (some bi))
      have b0 := hZ.cell 0
      have b1 := hZ.cell 1
      have b2 := hZ.cell 2
      have b3 := hZ.cell 3
      simp at b0 b1 b2 b3
      have hl : w.heap.size + 1 < w1.drew.heap.size := by show w.heap.size + 1 < w1.heap.size; omega
      have HMO2 := Lib.hid ((((HMO.out.set (p := ⟨w.heap.size + 1, 0, none⟩) hl (.slice An nn cn)).set (p := ⟨w.heap.size + 1, 1, none⟩) hl (.slice Af lf cf)).set (p := ⟨w.heap.size + 1, 2, none⟩) hl (.map (some bo))).set (p := ⟨w.heap.size + 1, 3, none⟩) hl (.map (some bi)))
      have HMI2 := Lib.hid ((((HMI.out.set (p := ⟨w.heap.size + 1, 0, none⟩) hl (.slice An nn cn)).set (p := ⟨w.heap.size + 1, 1, none⟩) hl (.slice Af lf cf)).set (p := ⟨w.heap.size + 1, 2, none⟩) hl (.map (some bo))).set (p := ⟨w.heap.size + 1, 3, none⟩) hl (.map (some bi)))
      have HB := Lib.hid (((((up (up_drew HB2.out) HB3.out).setCell (p := ⟨w.heap.size + 1, 0, none⟩) (by simp) (.slice An nn cn)).setCell (p := ⟨w.heap.size + 1, 1, none⟩) (by simp) (.slice Af lf cf)).setCell (p := ⟨w.heap.size + 1, 2, none⟩) (by simp) (.map (some bo))).setCell (p := ⟨w.heap.size + 1, 3, none⟩) (by simp) (.map (some bi)))
      have HSZ : Hid (w3.heap.size ≤ ((((w3.setCell ⟨w.heap.size + 1, 0, none⟩ (.slice An nn cn)).setCell ⟨w.heap.size + 1, 1, none⟩ (.slice Af lf cf)).setCell ⟨w.heap.size + 1, 2, none⟩ (.map (some bo))).setCell ⟨w.heap.size + 1, 3, none⟩ (.map (some bi))).heap.size) := by simp [Hid, World.setCell]
      have HW : Hid (w.heap.size ≤ w1.drew.heap.size) := by show w.heap.size ≤ w1.heap.size; omega
      clear hZ HM HP1 HQ1 HQ3 HMO HMI HB3 HB2 hl j0 j1
      go_wp2
      refine bodyPost_ret (v := .tuple #[netV An nn cn Af lf cf bo bi, .bool true]) (by simp [results, Tryz.results86, go_sem, b0, b1, b2, b3, netV]) rfl (.inr ⟨HV.out, bo, bi, rfl, HMO2.out.wide HW.out HSZ.out, HMI2.out.wide HW.out HSZ.out, HB.out⟩)
end Go.Proofs.YtknphikoikdcjaaGreat
