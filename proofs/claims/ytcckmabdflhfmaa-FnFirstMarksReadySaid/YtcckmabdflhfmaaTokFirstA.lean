/- Merged: TokFirstI, TokFirstJ. -/
import Derived.Test.YtcckmabdflhfmaaTokList
import Derived.Deep.RegionLaw
/- impl.first, impl.FirstMarks. -/
namespace Go.Proofs.Ytcckmabdflhfmaa
open Go.RowKit

/-- One token, on the flow q. -/
def oneAt (q : Nat) (z : Int) : Option Value := if z = (q : Int) then some (.int .i64 1) else none
theorem oneAt_get (q i : Nat) : (oneAt q (i : Int)).getD (.int .i64 0) = .int .i64 (if i = q then 1 else 0) := by
  unfold oneAt
  by_cases h : i = q
  · subst h; simp
  · rw [if_neg (by omega), if_neg h]; rfl
set_option maxRecDepth 100000 in
set_option maxHeartbeats 3200000 in
theorem first_I (An : Option Addr) (nn cn lo hi : Nat) (ns : List (Int × Int)) (Af : Option Addr) (lf cf bo bi : Nat) (fs : List Flw) (lo2 hi2 q : Nat) (w : World)
    (hrn : Rd w lo hi 2 An nn (pvs ns)) (hB : hi ≤ w.heap.size) (hnn : nn ≤ 1048576) (hm : RowMap Try.prog 3 w lo2 hi2 bo (fun z => flOf fs true z)) (hB2 : hi2 ≤ w.heap.size) (hq : flOf fs true (startAt ns 0) = [(q : Int)]) (hq2 : q ≤ 1048576) (hs0 : 0 ≤ startAt ns 0) (hs9 : startAt ns 0 ≤ 1048576) :
    Calls Try.prog 66 #[.agg #[.slice An nn cn, .slice Af lf cf, .map (some bo), .map (some bi)]] w fun e w' => ∃ mb, e = .returned (.map (some mb)) ∧ IMap Try.prog 3 w' mb 1 (oneAt q) ∧ w.heap.size ≤ mb ∧ Below w.heap.size w w' := by
  have hb1 := up_alloc (Below.refl _ w) (.cells #[.slice An nn cn, .slice Af lf cf, .map (some bo), .map (some bi)] 76)
  have hbk := Blk.new w 76 #[.slice An nn cn, .slice Af lf cf, .map (some bo), .map (some bi)]
  have hs1 : (w.alloc (.cells #[.slice An nn cn, .slice Af lf cf, .map (some bo), .map (some bi)] 76)).heap.size = w.heap.size + 1 := by simp
  have HLK := Lib.hid (show ∀ (w' : World), Below w.heap.size w w' → ∃ (b off c : Nat), (Instr.lookup 72 (.map (some bo)) (.int .i64 (startAt ns 0)) false).run Try.prog w' = .ok (.slice (some ⟨b, off, none⟩) 1 c) w' ∧ 1 ≤ c ∧ b < hi2 ∧ w'.cell? ⟨b, off, none⟩ = some (.int .i64 (q : Int)) from fun w' hb => by
    obtain ⟨A, c, h1, h2, h3, _⟩ := (hm.keep hb hB2).look keyedInt Try.underlying3 Try.underlying72 zeroInts (by unfold in64; omega : in64 (startAt ns 0))
    rw [hq] at h1 h2 h3
    obtain ⟨b, off, x, rfl, hbh, _, hg, hc⟩ := h3.one (k := 0) (by simp)
    simp at hg
    subst hg
    exact ⟨b, off, c, h1, h2, hbh, by simpa using hc⟩)
  have hbmA := up_drew (up_alloc hb1 (.map #[] 0))
  have HCa := Lib.hid (startI_any lo hi nn cn An ns (.slice Af lf cf) (w.alloc (.cells #[.slice An nn cn, .slice Af lf cf, .map (some bo), .map (some bi)] 76)).drew (hrn.keep (up_drew hb1) hB) (Nat.le_trans hB (up_drew hb1).size) hnn)
  have HCb := Lib.hid (startI_any lo hi nn cn An ns (.slice Af lf cf) ((w.alloc (.cells #[.slice An nn cn, .slice Af lf cf, .map (some bo), .map (some bi)] 76)).alloc (.map #[] 0)).drew (hrn.keep hbmA hB) (Nat.le_trans hB hbmA.size) hnn)
  have hkm := hbk.alloc (.map #[] 0)
  have a0 : ((w.alloc (.cells #[.slice An nn cn, .slice Af lf cf, .map (some bo), .map (some bi)] 76)).alloc (.map #[] 0)).cell? ⟨w.heap.size, 0, none⟩ = some (.slice An nn cn) := hkm.cell 0
  have a1 : ((w.alloc (.cells #[.slice An nn cn, .slice Af lf cf, .map (some bo), .map (some bi)] 76)).alloc (.map #[] 0)).cell? ⟨w.heap.size, 1, none⟩ = some (.slice Af lf cf) := hkm.cell 1
  have a2 : ((w.alloc (.cells #[.slice An nn cn, .slice Af lf cf, .map (some bo), .map (some bi)] 76)).alloc (.map #[] 0)).cell? ⟨w.heap.size, 2, none⟩ = some (.map (some bo)) := hkm.cell 2
  have hmade : IMap Try.prog 3 ((w.alloc (.cells #[.slice An nn cn, .slice Af lf cf, .map (some bo), .map (some bi)] 76)).alloc (.map #[] 0)).drew (w.heap.size + 1) 0 (fun _ => none) := by
    have := IMap.made Try.prog 3 (w.alloc (.cells #[.slice An nn cn, .slice Af lf cf, .map (some bo), .map (some bi)] 76))
    rw [hs1] at this
    exact this.same rfl
  have HMD := Lib.hid hmade
  have HK := Lib.hid hbk
  have HKM := Lib.hid hkm
  have HB1 := Lib.hid hb1
  have HBM := Lib.hid hbmA
  have hq64 : in64 (q : Int) := by unfold in64; omega
  generalize startAt ns 0 = sa at *
  clear hmade hbk hkm hb1 hbmA
  have hmm := @run_makeMap Try.prog
  go_enter Try.func66, Try.ntmps66
  go_wp2_with (fail)
  go_region_law (first
    | (go_simp; go_at_call 105; (with_reducible refine HCa.out.mono ?_); rintro e w3 ⟨rfl, hb3⟩; have HB3 := Lib.hid (up (up_drew HB1.out) hb3); have hk3 := HK.out.drew.below hb3 (by simp [World.drew]); have j0 : w3.cell? ⟨w.heap.size, 0, none⟩ = some (.slice An nn cn) := hk3.cell 0; have j1 : w3.cell? ⟨w.heap.size, 1, none⟩ = some (.slice Af lf cf) := hk3.cell 1; have j2 : w3.cell? ⟨w.heap.size, 2, none⟩ = some (.map (some bo)) := hk3.cell 2
       have HB4 := Lib.hid (up_alloc HB3.out (.map #[] 0)); have hk4 := hk3.alloc (.map #[] 0); have l0 : (w3.alloc (.map #[] 0)).cell? ⟨w.heap.size, 0, none⟩ = some (.slice An nn cn) := hk4.cell 0; have l1 : (w3.alloc (.map #[] 0)).cell? ⟨w.heap.size, 1, none⟩ = some (.slice Af lf cf) := hk4.cell 1; have l2 : (w3.alloc (.map #[] 0)).cell? ⟨w.heap.size, 2, none⟩ = some (.map (some bo)) := hk4.cell 2
       obtain ⟨b, off, c, hl3, hc1, hbh, hc0⟩ := HLK.out w3 HB3.out; obtain ⟨b', off', c', hl4, hc1', hbh', hc0'⟩ := HLK.out _ HB4.out; have hc0x := ((up_alloc (Below.refl _ w3) (.map #[] 0)).cell (p := ⟨b, off, none⟩) (by have := HB3.out.size; show b < w3.heap.size; omega)).trans hc0
       obtain ⟨w5, hrun, him5, hg5⟩ := (IMap.made Try.prog 3 w3).put keyedInt Try.underlying3 Try.underlying78 (by unfold maxLen; omega) hq64 (.int .i64 1); have HF := Lib.hid (And.intro (him5.congr (g' := oneAt q) (fun z => rfl)) (And.intro HB3.out.size (HB4.out.grown hg5 HB4.out.size (fun k e => by injection e with e; have := HB3.out.size; omega)))); clear hb3 hk3 hk4 him5 hg5)
    | (go_simp; go_at_call 105; (with_reducible refine HCb.out.mono ?_); rintro e w3 ⟨rfl, hb3⟩; have HB3 := Lib.hid (up HBM.out hb3); have hk3 := HKM.out.drew.below hb3 (by simp [World.drew] <;> omega); have j0 : w3.cell? ⟨w.heap.size, 0, none⟩ = some (.slice An nn cn) := hk3.cell 0; have j1 : w3.cell? ⟨w.heap.size, 1, none⟩ = some (.slice Af lf cf) := hk3.cell 1; have j2 : w3.cell? ⟨w.heap.size, 2, none⟩ = some (.map (some bo)) := hk3.cell 2
       obtain ⟨b, off, c, hl3, hc1, hbh, hc0⟩ := HLK.out w3 HB3.out
       obtain ⟨w5, hrun, him5, hg5⟩ := (HMD.out.keep hb3 HMD.out.lt).put keyedInt Try.underlying3 Try.underlying78 (by unfold maxLen; omega) hq64 (.int .i64 1); have HF := Lib.hid (And.intro (him5.congr (g' := oneAt q) (fun z => rfl)) (And.intro (Nat.le_succ w.heap.size) (HB3.out.grown hg5 HB3.out.size (fun k e => by injection e with e; omega)))); clear hb3 hk3 him5 hg5))
  all_goals
    go_wp2
    go_ret
    exact ⟨_, rfl, HF.out.1, HF.out.2.1, HF.out.2.2⟩
end Go.Proofs.Ytcckmabdflhfmaa


/- impl.FirstMarks. -/
namespace Go.Proofs.Ytcckmabdflhfmaa
open Go.RowKit

set_option maxRecDepth 100000 in
set_option maxHeartbeats 1600000 in
theorem FirstMarksI_any (lo hi nn cn : Nat) (An : Option Addr) (ns : List (Int × Int)) (lo1 hi1 lf cf : Nat) (Af : Option Addr) (fs : List Flw) (w : World) (hrn : Rd w lo hi 2 An nn (pvs ns)) (hB : hi ≤ w.heap.size) (hnn : nn ≤ 1048576)
    (hr : Fls w lo1 hi1 Af lf fs) (hB1 : hi1 ≤ w.heap.size) (hn : lf ≤ 1048576) :
    Calls Try.prog 27 #[.agg #[.slice An nn cn, .slice Af lf cf]] w (Fresh (ivs (firstOf ns fs)) 1 (firstOf ns fs).length w) := by
  have hb1 := up_alloc (Below.refl _ w) (.cells #[.slice An nn cn, .slice Af lf cf] 33)
  have hp := Blk.new w 33 #[.slice An nn cn, .slice Af lf cf]
  have hs1 : (w.alloc (.cells #[.slice An nn cn, .slice Af lf cf] 33)).heap.size = w.heap.size + 1 := by simp
  have HL := Lib.hid hrn.len2
  have HF := Lib.hid hr.1
  have HC := Lib.hid (netOf_any lo hi nn cn An ns lo1 hi1 lf cf Af fs _ (hrn.keep hb1 hB) (by omega) hnn (hr.keep hb1 hB1) (by omega) hn)
  go_enter Try.func27, Try.ntmps27
  go_wp2_with (fail)
  (with_reducible refine HC.out.mono ?_)
  clear HC
  rintro e w1 (⟨hV, rfl, hb2⟩ | ⟨hV, bo, bi, rfl, hmo, hmi, hb2⟩)
  · have HX := Lib.hid (show firstOf ns fs = [] by simp [firstOf, hV])
    have HB := Lib.hid (up_alloc (up hb1 hb2) (.cells #[.slice none 0 0, .slice none 0 0, .map none, .map none] 76))
    clear hb1 hb2 hV hp
    go_wp2
    go_ret
    rw [HX.out]
    exact Fresh.nil 1 HB.out
  unfold netV
  have hs2 := hb2.size
  rw [hs1] at hs2
  have hb3 := up_drew (up_alloc (Below.refl _ w1) (.cells #[.slice An nn cn, .slice Af lf cf, .map (some bo), .map (some bi)] 76))
  have HB := Lib.hid (up (up hb1 hb2) hb3)
  have HP := Lib.hid ((hp.below hb2 (by omega)).below hb3 (by omega))
  obtain ⟨q, hq, hql, hs0, hs9⟩ := start_flow hV
  have hlen := vProc_len hV
  have HX := Lib.hid (show firstOf ns fs = (List.range lf).map fun i => if i = q then (1 : Int) else 0 by rw [firstOf_yes hV hq, ← HF.out]; exact first_map hql)
  have HXL := Lib.hid (show (firstOf ns fs).length = lf by rw [HX.out]; simp)
  have HFI := Lib.hid (first_I An nn cn lo hi ns Af lf cf bo bi fs _ _ q _ (hrn.keep HB.out hB) (Nat.le_trans hB HB.out.size) hnn (hmo.keep hb3 (Nat.le_refl _)) hb3.size hq (by omega) hs0 (by omega))
  have k1 : (w1.alloc (.cells #[.slice An nn cn, .slice Af lf cf, .map (some bo), .map (some bi)] 76)).cell? ⟨w.heap.size, 1, none⟩ = some (.slice Af lf cf) := HP.out.cell 1
  have hszx : w1.heap.size ≤ ((w1.alloc (.cells #[.slice An nn cn, .slice Af lf cf, .map (some bo), .map (some bi)] 76)).drew).heap.size := hb3.size
  clear hb1 hb2 hb3 hp hmo hmi hV hq hlen
  go_wp2_with (fail)
  go_region_law (first
    | (go_simp; go_at_call 66; (with_reducible refine HFI.out.mono ?_); rintro e w3 ⟨mb, rfl, him, hmb, hb4⟩; have HB4 := Lib.hid (up HB.out hb4); have j1 : w3.cell? ⟨w.heap.size, 1, none⟩ = some (.slice Af lf cf) := (HP.out.below hb4 (by omega)).cell 1; have HLS := Lib.hid (list_any mb 1 lf (oneAt q) (fun i => if i = q then (1 : Int) else 0) w3 him (fun i _ => oneAt_get q i) hn); clear hb4 him)
    | (go_simp; go_at_call 58; (with_reducible refine HLS.out.mono ?_); rintro e w4 ⟨Ar, cr, rfl, hcr, hrr, hsr, hb5⟩; have HB5 := Lib.hid (up HB4.out hb5); have HRR := Lib.hid hrr; have HSR := Lib.hid hsr; clear hb5 hrr hsr))
  all_goals
    have hsz3 := HB4.out.size
    go_wp2
    go_ret
    rw [HXL.out, HX.out]
    exact ⟨Ar, cr, rfl, hcr, HRR.out.wide hsz3 (Nat.le_refl _), HSR.out, HB5.out⟩
end Go.Proofs.Ytcckmabdflhfmaa

