/- impl.FirstMarks. -/
import Derived.Test.YthlcbdjjegageaaTokFirstI
namespace Go.Proofs.Ythlcbdjjegageaa
open Go.RowKit

set_option maxRecDepth 100000 in
set_option maxHeartbeats 1600000 in
theorem FirstMarksI_any (lo hi nn cn : Nat) (An : Option Addr) (ns : List (Int × Int)) (lo1 hi1 lf cf : Nat) (Af : Option Addr) (fs : List Flw) (w : World) (hrn : Rd w lo hi 2 An nn (pvs ns)) (hB : hi ≤ w.heap.size) (hnn : nn ≤ 1048576)
    (hr : Fls w lo1 hi1 Af lf fs) (hB1 : hi1 ≤ w.heap.size) (hn : lf ≤ 1048576) :
    Calls Try.prog 36 #[.agg #[.slice An nn cn, .slice Af lf cf]] w (Fresh (ivs (firstOf ns fs)) 1 (firstOf ns fs).length w) := by
  have hb1 := up_alloc (Below.refl _ w) (.cells #[.slice An nn cn, .slice Af lf cf] 26)
  have hp := Blk.new w 26 #[.slice An nn cn, .slice Af lf cf]
  have hs1 : (w.alloc (.cells #[.slice An nn cn, .slice Af lf cf] 26)).heap.size = w.heap.size + 1 := by simp
  have HL := Lib.hid hrn.len2
  have HF := Lib.hid hr.1
  have HC := Lib.hid (netOf_any lo hi nn cn An ns lo1 hi1 lf cf Af fs _ (hrn.keep hb1 hB) (by omega) hnn (hr.keep hb1 hB1) (by omega) hn)
  go_enter Try.func36, Try.ntmps36
  go_wp2_with (fail)
  (with_reducible refine HC.out.mono ?_)
  clear HC
  rintro e w1 (⟨hV, rfl, hb2⟩ | ⟨hV, bo, bi, rfl, hmo, hmi, hb2⟩)
  · have HX := Lib.hid (show firstOf ns fs = [] by simp [firstOf, hV])
    have HB := Lib.hid (up_alloc (up hb1 hb2) (.cells #[.slice none 0 0, .slice none 0 0, .map none, .map none] 81))
    clear hb1 hb2 hV hp
    go_wp2
    go_ret
    rw [HX.out]
    exact Fresh.nil 1 HB.out
  unfold netV
  have hs2 := hb2.size
  rw [hs1] at hs2
  have hb3 := up_drew (up_alloc (Below.refl _ w1) (.cells #[.slice An nn cn, .slice Af lf cf, .map (some bo), .map (some bi)] 81))
  have HB := Lib.hid (up (up hb1 hb2) hb3)
  have HP := Lib.hid ((hp.below hb2 (by omega)).below hb3 (by omega))
  obtain ⟨q, hq, hql, hs0, hs9⟩ := start_flow hV
  have hlen := vProc_len hV
  have HX := Lib.hid (show firstOf ns fs = (List.range lf).map fun i => if i = q then (1 : Int) else 0 by rw [firstOf_yes hV hq, ← HF.out]; exact first_map hql)
  have HXL := Lib.hid (show (firstOf ns fs).length = lf by rw [HX.out]; simp)
  have HFI := Lib.hid (first_I An nn cn lo hi ns Af lf cf bo bi fs _ _ q _ (hrn.keep HB.out hB) (Nat.le_trans hB HB.out.size) hnn (hmo.keep hb3 (Nat.le_refl _)) hb3.size hq (by omega) hs0 (by omega))
  have k1 : (w1.alloc (.cells #[.slice An nn cn, .slice Af lf cf, .map (some bo), .map (some bi)] 81)).cell? ⟨w.heap.size, 1, none⟩ = some (.slice Af lf cf) := HP.out.cell 1
  have hszx : w1.heap.size ≤ ((w1.alloc (.cells #[.slice An nn cn, .slice Af lf cf, .map (some bo), .map (some bi)] 81)).drew).heap.size := hb3.size
  clear hb1 hb2 hb3 hp hmo hmi hV hq hlen
  go_wp2_with (fail)
  go_region_law (first
    | (go_simp; go_at_call 69; (with_reducible refine HFI.out.mono ?_); rintro e w3 ⟨mb, rfl, him, hmb, hb4⟩; have HB4 := Lib.hid (up HB.out hb4); have j1 : w3.cell? ⟨w.heap.size, 1, none⟩ = some (.slice Af lf cf) := (HP.out.below hb4 (by omega)).cell 1; have HLS := Lib.hid (list_any mb 1 lf (oneAt q) (fun i => if i = q then (1 : Int) else 0) w3 him (fun i _ => oneAt_get q i) hn); clear hb4 him)
    | (go_simp; go_at_call 70; (with_reducible refine HLS.out.mono ?_); rintro e w4 ⟨Ar, cr, rfl, hcr, hrr, hsr, hb5⟩; have HB5 := Lib.hid (up HB4.out hb5); have HRR := Lib.hid hrr; have HSR := Lib.hid hsr; clear hb5 hrr hsr))
  all_goals
    have hsz3 := HB4.out.size
    go_wp2
    go_ret
    rw [HXL.out, HX.out]
    exact ⟨Ar, cr, rfl, hcr, HRR.out.wide hsz3 (Nat.le_refl _), HSR.out, HB5.out⟩
end Go.Proofs.Ythlcbdjjegageaa
