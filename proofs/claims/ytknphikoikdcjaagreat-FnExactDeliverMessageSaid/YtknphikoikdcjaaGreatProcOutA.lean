/- Merged: ProcValidS, ProcOutS. -/
import Derived.Test.YtknphikoikdcjaaGreatProcSpecA
import Derived.Test.YtknphikoikdcjaaGreatProcNodeS
import Derived.Test.YtknphikoikdcjaaGreatEvalA
import Derived.Deep.RegionLaw
/- spec.validProcess. -/
set_option linter.unusedSimpArgs false
set_option linter.unusedVariables false
namespace Go.Proofs.YtknphikoikdcjaaGreat
open Go.RowKit

set_option maxRecDepth 100000 in
set_option maxHeartbeats 1600000 in
theorem validProcessS_any (lo hi nn cn : Nat) (An : Option Addr) (ns : List (Int × Int)) (lo' hi' n c : Nat) (A : Option Addr) (fs : List Flw) (w : World) (hrn : Rd w lo hi 2 An nn (pvs ns)) (hB : hi ≤ w.heap.size) (hnn : nn ≤ 1048576)
    (hr : Fls w lo' hi' A n fs) (hB' : hi' ≤ w.heap.size) (hn : n ≤ 1048576) :
    Calls Tryz.prog 82 #[.agg #[.slice An nn cn, .slice A n c]] w fun e w' => e = .returned (.bool (vProc ns fs)) ∧ Below w.heap.size w w' := by
  have HL := Lib.hid hrn.len2
  have HF := Lib.hid hr.1
  have hblk1 := Blk.new w 40 #[.slice An nn cn, .slice A n c]
  have hb1 := up_alloc (Below.refl _ w) (.cells #[.slice An nn cn, .slice A n c] 40)
  by_cases h1 : inR (nn : Int) 2 10 = true
  · by_cases h2 : (14 : Int) < (n : Int)
    · have hv : Hid (vProc ns fs = false) := by simp [Hid, vProc, HF.out]; omega
      go_enter Tryz.func82, Tryz.ntmps82
      go_wp2_with (go_at_call 101; refine (inRange_any _ _ _ _).mono ?_; rintro e w' ⟨rfl, rfl⟩)
      go_ret
      exact ⟨ret_bool hv.out.symm, hb1⟩
    have hv : Hid (vProc ns fs = (fs.all (vFlow ns) && vNodesR fs ns 0 && decide (nStarts ns = 1))) := by
      simp [Hid, vProc, HF.out, HL.out, h1, show n ≤ 14 by omega]
    go_enter Tryz.func82, Tryz.ntmps82
    go_wp2_with (go_at_call 101; refine (inRange_any _ _ _ _).mono ?_; rintro e w' ⟨rfl, rfl⟩)
    go_loopw [4] (fun iv wr => ∃ (k : Nat), k ≤ n ∧ iv = .int .i64 k ∧ Hid (fs.all (vFlow ns) = (fs.drop k).all (vFlow ns)) ∧ Blk wr w.heap.size 40 #[.slice An nn cn, .slice A n c] ∧ Below w.heap.size w wr)
       (fun iv _ => n - (intOf iv).toNat)
    case atStart => exact ⟨0, by omega, rfl, rfl, hblk1, hb1⟩
    case round =>
      clear hblk1 hb1
      obtain ⟨k, hk, rfl, hS, hblk, hbl⟩ := hrel
      have hsz := hblk.lt
      have hd0 : wr.cell? ⟨w.heap.size, 0, none⟩ = some (.slice An nn cn) := hblk.cell 0
      have hd1 : wr.cell? ⟨w.heap.size, 1, none⟩ = some (.slice A n c) := hblk.cell 1
      by_cases hkn : k < n
      · obtain ⟨b, off, x, y, ps, A', m, c', hA, hbB, _, hg, hx, hy, hz, hrp, hm⟩ := (hr.keep hbl hB').at hkn
        subst hA
        have hcall := validFlowS_any lo hi nn cn An ns (.slice (some ⟨b, off, none⟩) n c) x y lo' hi' m c' A' ps wr.drew (hrn.keep (up_drew hbl) hB) (Nat.le_trans hB hbl.size) hnn hrp (Nat.le_trans hB' hbl.size) hm
        have hk4 : (k : Int) < (n : Int) := by omega
        have hk0 : (0 : Int) ≤ (k : Int) := by omega
        by_cases hf : vFlow ns (x, y, ps) = true
        · rw [hf] at hcall
          have HC := Lib.hid hcall
          have HS := Lib.hid (hS.out.trans (flw_hit hg hf))
          clear hcall hg hf hS hrp
          go_wp2
          go_region_law (go_simp; refine HC.out.mono ?_; rintro e w9 ⟨rfl, hb9⟩)
          all_goals
            have HB := Lib.hid (up (up_drew hbl) hb9)
            have HK := Lib.hid (hblk.drew.below hb9 hsz)
            clear hb9 hblk
            go_wp2
            go_roundw
            case rel => exact ⟨k + 1, by omega, by go_num, HS, HK.out, HB.out⟩
            case measure => simp [intOf]; omega
        · have hf' : vFlow ns (x, y, ps) = false := by simpa using hf
          rw [hf'] at hcall
          have HC := Lib.hid hcall
          have HS : Hid (vProc ns fs = false) := by rw [Hid, hv.out, hS.out, flw_miss hg hf']; rfl
          clear hcall hg hf hf' hS hrp
          go_wp2
          go_region_law (go_simp; refine HC.out.mono ?_; rintro e w9 ⟨rfl, hb9⟩)
          all_goals
            have HB := Lib.hid (up (up_drew hbl) hb9)
            clear hb9 hblk
            go_wp2
            go_ret
            exact ⟨ret_bool HS.out.symm, HB.out⟩
      · obtain rfl : k = n := by omega
        have hv2 : Hid (vProc ns fs = (vNodesR fs ns 0 && decide (nStarts ns = 1))) := by
          rw [Hid, hv.out, hS.out, List.drop_of_length_le (by rw [HF.out]; omega)]; rfl
        clear hS hv
        go_wp2
        go_loopw [3, 5] (fun sv iv wr => ∃ (j s : Nat), j ≤ nn ∧ iv = .int .i64 j ∧ sv = .int .i64 s ∧ s ≤ j ∧ Hid (vNodesR fs ns 0 = vNodesR fs (ns.drop j) j) ∧ Hid (nStarts ns = s + nStarts (ns.drop j)) ∧ Blk wr w.heap.size 40 #[.slice An nn cn, .slice A k c] ∧ Below w.heap.size w wr)
           (fun _ iv _ => nn - (intOf iv).toNat)
        case atStart => exact ⟨0, 0, by omega, rfl, rfl, Nat.le_refl _, rfl, by simp [Hid], hblk, hbl⟩
        case round =>
          clear hblk hbl hd0 hd1 hsz
          obtain ⟨j, s, hj, rfl, rfl, hsj, hN, hT, hblk, hbl⟩ := hrel
          have hsz := hblk.lt
          have hd0 : wr.cell? ⟨w.heap.size, 0, none⟩ = some (.slice An nn cn) := hblk.cell 0
          have hd1 : wr.cell? ⟨w.heap.size, 1, none⟩ = some (.slice A k c) := hblk.cell 1
          by_cases hjn : j < nn
          · obtain ⟨b, off, kd, vl, hA, hbB, _, hg, hc0, hc1⟩ := (hrn.keep hbl hB).pair hjn
            subst hA
            go_wp2_with (fail)
            (with_reducible refine (validNodeS_any lo hi nn cn _ ns lo' hi' k c A fs j kd vl wr (hrn.keep hbl hB) (Nat.le_trans hB hbl.size) hnn (hr.keep hbl hB') (Nat.le_trans hB' hbl.size) hn hjn hg).mono ?_)
            rintro e w2 ⟨rfl, hb2⟩
            have hblk2 := hblk.below hb2 hsz
            have hsz2 := hb2.size
            have hbl2 := up hbl hb2
            have hc0' := (hb2.cell (p := ⟨b, off + j * 2, none⟩) (by show b < _; have := hbl.size; omega)).trans hc0
            have hd0' : w2.cell? ⟨w.heap.size, 0, none⟩ = some (.slice (some ⟨b, off, none⟩) nn cn) := hblk2.cell 0
            have HK := Lib.hid hblk2
            have HB := Lib.hid hbl2
            clear hb2 hblk hblk2 hbl hbl2 hd0 hd1 hc0 hc1
            by_cases hf : vNode kd vl (flOf fs false j).length (flOf fs true j).length = true
            · have HN := Lib.hid (hN.out.trans (node_hit hg hf))
              rw [hf]
              clear hf hN
              by_cases h0 : kd = 0
              · subst h0
                have HT : Hid (nStarts ns = (s + 1) + nStarts (ns.drop (j + 1))) := by rw [Hid, hT.out, start_hit hg]; omega
                have ht : tr true = 1 := rfl
                clear hg hT
                go_wp2_with (go_at_call 144; refine (toInt_any _ _).mono ?_; rintro e w' ⟨rfl, rfl⟩)
                go_roundw
                case rel => exact ⟨j + 1, s + 1, by omega, by go_num, by go_num, by omega, HN, HT, HK.out, HB.out⟩
                case measure => simp [intOf]; omega
              · have HT : Hid (nStarts ns = s + nStarts (ns.drop (j + 1))) := by rw [Hid, hT.out, start_miss hg h0]
                have h0' : (kd == 0) = false := by simpa using h0
                have ht : tr false = 0 := rfl
                clear hg hT h0
                go_wp2_with (go_at_call 144; refine (toInt_any _ _).mono ?_; rintro e w' ⟨rfl, rfl⟩)
                go_roundw
                case rel => exact ⟨j + 1, s, by omega, by go_num, by go_num, by omega, HN, HT, HK.out, HB.out⟩
                case measure => simp [intOf]; omega
            · have hf' : vNode kd vl (flOf fs false j).length (flOf fs true j).length = false := by simpa using hf
              have HS : Hid (vProc ns fs = false) := by rw [Hid, hv2.out, hN.out, node_miss hg hf']; rfl
              rw [hf']
              clear hf hf' hN hg hT
              go_wp2
              go_ret
              exact ⟨ret_bool HS.out.symm, HB.out⟩
          · obtain rfl : j = nn := by omega
            have HS : Hid (vProc ns fs = ((s : Int) == 1)) := by
              rw [Hid, hv2.out, hN.out, hT.out, List.drop_of_length_le (by rw [HL.out]; omega)]
              simp [vNodesR, nStarts]
              by_cases hs1 : s = 1
              · subst hs1; rfl
              · have : ((s : Int) == 1) = false := by simp; omega
                rw [this]; exact decide_eq_false hs1
            have HB := Lib.hid hbl
            clear hN hT hblk hbl
            go_wp2
            go_ret
            exact ⟨ret_bool HS.out.symm, HB.out⟩
  · have h1' : inR (nn : Int) 2 10 = false := by simpa using h1
    have hv : Hid (vProc ns fs = false) := by simp [Hid, vProc, HL.out, h1']
    clear h1
    go_enter Tryz.func82, Tryz.ntmps82
    go_wp2_with (go_at_call 101; refine (inRange_any _ _ _ _).mono ?_; rintro e w' ⟨rfl, rfl⟩)
    go_ret
    exact ⟨ret_bool hv.out.symm, hb1⟩
end Go.Proofs.YtknphikoikdcjaaGreat


/- spec.ValidProcess, spec.FlowsOut, spec.FlowsIn. -/
namespace Go.Proofs.YtknphikoikdcjaaGreat
open Go.RowKit

/-- The flows out of a node of a valid process, or into it. -/
def flowsAt (ns : List (Int × Int)) (fs : List Flw) (out : Bool) (node : Int) : List Int := if vProc ns fs && inR node 0 ((ns.length : Int) - 1) then flOf fs out node else []

end Go.Proofs.YtknphikoikdcjaaGreat

