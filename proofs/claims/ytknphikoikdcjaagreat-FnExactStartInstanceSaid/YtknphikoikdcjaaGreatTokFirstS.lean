/- spec.first, spec.FirstMarks. -/
import Derived.Test.YtknphikoikdcjaaGreatTokList
import Derived.Test.YtknphikoikdcjaaGreatProcOutA
import Derived.Deep.RegionLaw
set_option linter.unusedSimpArgs false
set_option linter.unusedVariables false
namespace Go.Proofs.YtknphikoikdcjaaGreat
open Go.RowKit

theorem infoIntG : (Tryz.prog.info? 3).map (fun i => (i.zero, i.size, i.bytes)) = some (some (.int .i64 0), 1, 8) := by kernel_rfl
set_option maxRecDepth 100000 in
set_option maxHeartbeats 1600000 in
theorem first_S (lo hi nn cn : Nat) (An : Option Addr) (ns : List (Int × Int)) (lo1 hi1 lf cf : Nat) (Af : Option Addr) (fs : List Flw) (w : World) (hrn : Rd w lo hi 2 An nn (pvs ns)) (hB : hi ≤ w.heap.size) (hnn : nn ≤ 1048576)
    (hr : Fls w lo1 hi1 Af lf fs) (hB1 : hi1 ≤ w.heap.size) (hn : lf ≤ 1048576) (hV : vProc ns fs = true) :
    Calls Tryz.prog 85 #[.agg #[.slice An nn cn, .slice Af lf cf]] w (Fresh (ivs (firstOf ns fs)) 1 (firstOf ns fs).length w) := by
  obtain ⟨i0, hi0, hz0, hz1, hz2⟩ := info_parts infoIntG
  have hb1 := up_alloc (Below.refl _ w) (.cells #[.slice An nn cn, .slice Af lf cf] 40)
  have hp := Blk.new w 40 #[.slice An nn cn, .slice Af lf cf]
  have hs1 : (w.alloc (.cells #[.slice An nn cn, .slice Af lf cf] 40)).heap.size = w.heap.size + 1 := by simp
  have HF := Lib.hid hr.1
  obtain ⟨q, hq, hql, hs0, hs9⟩ := start_flow hV
  have HX := Lib.hid (firstOf_yes hV hq)
  obtain ⟨wm, hmk, hown, hgr⟩ := run_make_full (P := Tryz.prog) (w.alloc (.cells #[.slice An nn cn, .slice Af lf cf] 40)) (w.heap.size + 1) 26 3 i0 _ 1 Tryz.underlying26 hi0 hz0 hz1 .i64 .i64 lf (by rw [hz2]; omega) (by unfold maxLen; omega) (by rw [hs1]; exact Nat.le_refl _)
  have hbm := hb1.grown hgr (by rw [hs1]; omega) (by simp)
  have hpm := hp.grown hgr (by simp)
  rw [hs1] at hown hmk
  have hsm : w.heap.size + 1 + 1 ≤ wm.heap.size := by
    rcases hown.2 with ⟨hv, _⟩ | ⟨g, cap, cur, hv, _, hh, _⟩
    · cases hv
    · injection hv with hv; injection hv with hv; injection hv with hv
      subst hv
      have := (Array.getElem?_eq_some_iff.1 hh).1
      omega
  have hcell0 : (madeCells (Value.int .i64 0).cells (lf * 1)).toList = ivs (List.replicate lf 0) := by
    show (madeCells #[.int .i64 0] (lf * 1)).toList = _
    rw [toList_madeCells_one, Nat.mul_one]; simp [ivs]
  rw [hcell0] at hown
  have HSA := Lib.hid (startS_any lo hi nn cn An ns (.slice Af lf cf) wm.drew (hrn.keep (up_drew hbm) hB) (Nat.le_trans hB (up_drew hbm).size) hnn)
  have HP := Lib.hid hpm
  have HO := Lib.hid hown
  have HB := Lib.hid hbm
  have k0 : wm.cell? ⟨w.heap.size, 0, none⟩ = some (.slice An nn cn) := hpm.cell 0
  have k1 : wm.cell? ⟨w.heap.size, 1, none⟩ = some (.slice Af lf cf) := hpm.cell 1
  have HQ := Lib.hid hq
  have hqf : q < lf := by rw [← HF.out]; exact hql
  have hqi : (q : Int) < (lf : Int) := by omega
  have hqi0 : (0 : Int) ≤ (q : Int) := by omega
  clear hcell0 hgr hi0 hz0 hz1 hz2 hp hb1 hown hbm hpm hq hql
  go_enter Tryz.func85, Tryz.ntmps85
  go_wp2_with (fail)
  clear hmk
  go_region_law (first
    | (go_simp; go_at_call 147; (with_reducible refine HSA.out.mono ?_); rintro e w3 ⟨rfl, hb3⟩; have HB3 := Lib.hid (up (up_drew HB.out) hb3); have hp3 := HP.out.drew.below hb3 (by show w.heap.size < wm.heap.size; omega); have j0 : w3.cell? ⟨w.heap.size, 0, none⟩ = some (.slice An nn cn) := hp3.cell 0; have j1 : w3.cell? ⟨w.heap.size, 1, none⟩ = some (.slice Af lf cf) := hp3.cell 1; have HO3 := Lib.hid (own_keep HO.out.drew hb3); have HFO := Lib.hid (flowsOf_any lo1 hi1 lf cf Af (.slice An nn cn) fs (startAt ns 0) true w3 (hr.keep HB3.out hB1) (Nat.le_trans hB1 HB3.out.size) hn); clear hb3 hp3)
    | (go_simp; go_at_call 118; (with_reducible refine HFO.out.mono ?_); rintro e w4 ⟨Ai, ci, rfl, _, hri, _, hb4⟩; rw [HQ.out] at hri ⊢; have HB4 := Lib.hid (up HB3.out hb4); have HO4 := Lib.hid (own_keep HO3.out hb4); obtain ⟨bq, oq, xq, rfl, _, _, hgq, hcq⟩ := hri.one (k := 0) (by simp); simp at hgq hcq; subst hgq; have d0 := HO4.out.cellAt q (by omega); have f0 := HO4.out.frozenAt q; have hzq : (ivs (List.replicate lf (0 : Int)))[q]? = some (.int .i64 0) := by simp [ivs, hqf]
       rw [hzq] at d0; clear hb4 hri hzq))
  all_goals
    have hst := (HO4.out.stored q (.int .i64 1)).1
    have he : (ivs (List.replicate lf (0 : Int))).set q (.int .i64 1) = ivs ((List.replicate lf (0 : Int)).set q 1) := by simp [ivs, List.map_set]
    rw [he] at hst
    have HST := Lib.hid hst
    have HBF := Lib.hid (HB4.out.setCell (p := ⟨w.heap.size + 1, q, none⟩) (by show w.heap.size ≤ w.heap.size + 1; omega) (.int .i64 1))
    have HXL := Lib.hid (show (firstOf ns fs).length = lf by rw [HX.out]; simpa using HF.out)
    clear hst he
    go_wp2
    go_ret
    rw [HXL.out, HX.out, HF.out]
    exact ⟨_, _, rfl, Nat.le_refl _, (Rd.of_own HST.out).wide (by omega) (Nat.le_refl _), Soft.of_own HST.out, HBF.out⟩
end Go.Proofs.YtknphikoikdcjaaGreat
