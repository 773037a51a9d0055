/- impl.FlowsOut, impl.FlowsIn. -/
import Derived.Test.YtonlkodenfiljaaProcValidI
import Derived.Test.YtonlkodenfiljaaProcOutS
set_option linter.unusedSimpArgs false
set_option linter.unusedVariables false
namespace Go.Proofs.Ytonlkodenfiljaa
open Go.RowKit

theorem flowsAt_yes {ns : List (Int × Int)} {fs : List Flw} {out : Bool} {node : Int} (h : vProc ns fs = true) : flowsAt ns fs out node = flOf fs out node := by
  unfold flowsAt
  by_cases hi : inR node 0 ((ns.length : Int) - 1) = true
  · rw [h, hi]; rfl
  · have hi' : inR node 0 ((ns.length : Int) - 1) = false := by simpa using hi
    rw [h, hi', flOf_none (vProc_inside h) (by
      rcases Int.lt_or_le node 0 with h0 | h0
      · exact .inl h0
      · rcases Int.lt_or_le node ns.length with h1 | h1
        · exact absurd (inR_iff.2 ⟨h0, by omega⟩) hi
        · exact .inr h1)]
    rfl
theorem flowsAt_no {ns : List (Int × Int)} {fs : List Flw} {out : Bool} {node : Int} (h : vProc ns fs = false) : flowsAt ns fs out node = [] := by simp [flowsAt, h]
theorem fieldMaps0 (bo bi : Nat) (w : World) : (Instr.field 50 (.agg #[.map (some bo), .map (some bi)]) 0).run Try.prog w = .ok (.map (some bo)) w := by kernel_rfl
theorem fieldMaps1 (bo bi : Nat) (w : World) : (Instr.field 50 (.agg #[.map (some bo), .map (some bi)]) 1).run Try.prog w = .ok (.map (some bi)) w := by kernel_rfl

set_option maxRecDepth 100000 in
set_option maxHeartbeats 1600000 in
theorem FlowsOutI_any (lo hi nn cn : Nat) (An : Option Addr) (ns : List (Int × Int)) (lo' hi' n c : Nat) (A : Option Addr) (fs : List Flw) (node : Int) (w : World) (hrn : Rd w lo hi 2 An nn (pvs ns)) (hB : hi ≤ w.heap.size) (hnn : nn ≤ 1048576)
    (hr : Fls w lo' hi' A n fs) (hB' : hi' ≤ w.heap.size) (hn : n ≤ 1048576) (hnode : in64 node) :
    Calls Try.prog 27 #[.agg #[.slice An nn cn, .slice A n c], .int .i64 node] w (Fresh (ivs (flowsAt ns fs true node)) 1 (flowsAt ns fs true node).length w) := by
  have hb1 := up_alloc (Below.refl _ w) (.cells #[.slice An nn cn, .slice A n c] 26)
  have hbp := Blk.new w 26 #[.slice An nn cn, .slice A n c]
  have hs1 := hb1.size
  have hs0 := hbp.lt
  have HF := Lib.hid hr.1
  have HL := Lib.hid hrn.len2
  go_enter Try.func27, Try.ntmps27
  go_wp2_with (fail)
  (with_reducible refine (ValidProcessI_any lo hi nn cn An ns lo' hi' n c A fs _ (hrn.keep hb1 hB) (by omega) hnn (hr.keep hb1 hB') (by omega) hn).mono ?_)
  rintro e w1 ⟨rfl, hb2⟩
  have hbp2 := hbp.below hb2 hs0
  have hb02 := up hb1 hb2
  have hs2 := hb2.size
  clear hb1 hb2 hbp
  have hs3 := hbp2.lt
  have hd1 : w1.cell? ⟨w.heap.size, 1, none⟩ = some (.slice A n c) := hbp2.cell 1
  have hr2 := hr.keep hb02 hB'
  clear hbp2
  by_cases hV : vProc ns fs = true
  · have HV := Lib.hid hV
    have hlen := vProc_len hV
    have HI := Lib.hid (inside_in64 (vProc_inside hV) (by omega))
    have h14 : n ≤ 14 := by have := HF.out; omega
    rw [hV]; clear hV hlen
    go_wp2_with (fail)
    (with_reducible refine (mapFlows_any lo' hi' n c A fs w1 hr2 (by omega) h14 HI.out).mono ?_)
    rintro e w3 ⟨bo, bi, rfl, hmo, _, hb3⟩
    obtain ⟨Ao, co, hlo, hco, hro, hso⟩ := hmo.look keyedInt Try.underlying3 Try.underlying48 zeroInts hnode
    have hfld0 := fieldMaps0 bo bi w3
    have hfld1 := fieldMaps1 bo bi w3
    have HB := Lib.hid (up hb02 hb3)
    have HR := Lib.hid hro
    have HS := Lib.hid hso
    clear hb02 hb3 hmo hro hso hr2 hd1
    go_wp2
    go_ret
    rw [flowsAt_yes HV.out]
    exact ⟨Ao, co, rfl, hco, HR.out.wide (by omega) (Nat.le_refl _), HS.out, HB.out⟩
  · have hV' : vProc ns fs = false := by simpa using hV
    have HU := Lib.hid (flowsAt_no (out := true) (node := node) hV')
    rw [hV']; clear hV hV'
    go_wp2
    go_ret
    rw [HU.out]
    exact Fresh.nil 1 hb02
set_option maxRecDepth 100000 in
set_option maxHeartbeats 1600000 in
theorem FlowsInI_any (lo hi nn cn : Nat) (An : Option Addr) (ns : List (Int × Int)) (lo' hi' n c : Nat) (A : Option Addr) (fs : List Flw) (node : Int) (w : World) (hrn : Rd w lo hi 2 An nn (pvs ns)) (hB : hi ≤ w.heap.size) (hnn : nn ≤ 1048576)
    (hr : Fls w lo' hi' A n fs) (hB' : hi' ≤ w.heap.size) (hn : n ≤ 1048576) (hnode : in64 node) :
    Calls Try.prog 26 #[.agg #[.slice An nn cn, .slice A n c], .int .i64 node] w (Fresh (ivs (flowsAt ns fs false node)) 1 (flowsAt ns fs false node).length w) := by
  have hb1 := up_alloc (Below.refl _ w) (.cells #[.slice An nn cn, .slice A n c] 26)
  have hbp := Blk.new w 26 #[.slice An nn cn, .slice A n c]
  have hs1 := hb1.size
  have hs0 := hbp.lt
  have HF := Lib.hid hr.1
  have HL := Lib.hid hrn.len2
  go_enter Try.func26, Try.ntmps26
  go_wp2_with (fail)
  (with_reducible refine (ValidProcessI_any lo hi nn cn An ns lo' hi' n c A fs _ (hrn.keep hb1 hB) (by omega) hnn (hr.keep hb1 hB') (by omega) hn).mono ?_)
  rintro e w1 ⟨rfl, hb2⟩
  have hbp2 := hbp.below hb2 hs0
  have hb02 := up hb1 hb2
  have hs2 := hb2.size
  clear hb1 hb2 hbp
  have hs3 := hbp2.lt
  have hd1 : w1.cell? ⟨w.heap.size, 1, none⟩ = some (.slice A n c) := hbp2.cell 1
  have hr2 := hr.keep hb02 hB'
  clear hbp2
  by_cases hV : vProc ns fs = true
  · have HV := Lib.hid hV
    have hlen := vProc_len hV
    have HI := Lib.hid (inside_in64 (vProc_inside hV) (by omega))
    have h14 : n ≤ 14 := by have := HF.out; omega
    rw [hV]; clear hV hlen
    go_wp2_with (fail)
    (with_reducible refine (mapFlows_any lo' hi' n c A fs w1 hr2 (by omega) h14 HI.out).mono ?_)
    rintro e w3 ⟨bo, bi, rfl, _, hmo, hb3⟩
    obtain ⟨Ao, co, hlo, hco, hro, hso⟩ := hmo.look keyedInt Try.underlying3 Try.underlying48 zeroInts hnode
    have hfld0 := fieldMaps0 bo bi w3
    have hfld1 := fieldMaps1 bo bi w3
    have HB := Lib.hid (up hb02 hb3)
    have HR := Lib.hid hro
    have HS := Lib.hid hso
    clear hb02 hb3 hmo hro hso hr2 hd1
    go_wp2
    go_ret
    rw [flowsAt_yes HV.out]
    exact ⟨Ao, co, rfl, hco, HR.out.wide (by omega) (Nat.le_refl _), HS.out, HB.out⟩
  · have hV' : vProc ns fs = false := by simpa using hV
    have HU := Lib.hid (flowsAt_no (out := false) (node := node) hV')
    rw [hV']; clear hV hV'
    go_wp2
    go_ret
    rw [HU.out]
    exact Fresh.nil 1 hb02
end Go.Proofs.Ytonlkodenfiljaa
