/- Merged: TokFirstI, TokFirstJ. -/
import Derived.Test.YtknphikoikdcjaaGreatTokList
import Derived.Deep.RegionLaw
/- impl.first, impl.FirstMarks. -/
set_option linter.unusedSimpArgs false
set_option linter.unusedVariables false
namespace Go.Proofs.YtknphikoikdcjaaGreat
open Go.RowKit

/-- One token, on the flow q. -/
def oneAt (q : Nat) (z : Int) : Option Value := if z = (q : Int) then some (.int .i64 1) else none
theorem oneAt_get (q i : Nat) : (oneAt q (i : Int)).getD (.int .i64 0) = .int .i64 (if i = q then 1 else 0) := by
  unfold oneAt
  by_cases h : i = q
  · subst h; simp
  · rw [if_neg (by omega), if_neg h]; rfl
set_option maxRecDepth 100000 in
set_option maxHeartbeats 3200000 in
theorem first_I (An : Option Addr) (nn cn lo hi : Nat) (ns : List (Int × Int)) (Af : Option Addr) (lf cf bo bi : Nat) (fs : List Flw) (lo2 hi2 q : Nat) (w : World)
    (hrn : Rd w lo hi 2 An nn (pvs ns)) (hB : hi ≤ w.heap.size) (hnn : nn ≤ 1048576) (hm : RowMap Tryz.prog 3 w lo2 hi2 bo (fun z => flOf fs true z)) (hB2 : hi2 ≤ w.heap.size) (hq : flOf fs true (startAt ns 0) = [(q : Int)]) (hq2 : q ≤ 1048576) (hs0 : 0 ≤ startAt ns 0) (hs9 : startAt ns 0 ≤ 1048576) :
    Calls Tryz.prog 88 #[.agg #[.slice An nn cn, .slice Af lf cf, .map (some bo), .map (some bi)]] w fun e w' => ∃ mb, e = .returned (.map (some mb)) ∧ IMap Tryz.prog 3 w' mb 1 (oneAt q) ∧ w.heap.size ≤ mb ∧ Below w.heap.size w w' := by
  have hb1 := up_alloc (Below.refl _ w) (.cells #[.slice An nn cn, .slice Af lf cf, .map (some bo), .map (some bi)] 104)
  have hbk := Blk.new w 104 #[.slice An nn cn, .slice Af lf cf, .map (some bo), .map (some bi)]
  have hs1 : (w.alloc (.cells #[.slice An nn cn, .slice Af lf cf, .map (some bo), .map (some bi)] 104)).heap.size = w.heap.size + 1 := by simp
  have HLK := Lib.hid (show ∀ (w' : World), Below w.heap.size w w' → ∃ (b off c : Nat), (Instr.lookup 100 (.map (some bo)) (.int .i64 (startAt ns 0)) false).run Tryz.prog w' = .ok (.slice (some ⟨b, off, none⟩) 1 c) w' ∧ 1 ≤ c ∧ b < hi2 ∧ w'.cell? ⟨b, off, none⟩ = some (.int .i64 (q : Int)) from fun w' hb => by
    obtain ⟨A, c, h1, h2, h3, _⟩ := (hm.keep hb hB2).look keyedInt Tryz.underlying3 Tryz.underlying100 zeroInts (by unfold in64; omega : in64 (startAt ns 0))
    rw [hq] at h1 h2 h3
    obtain ⟨b, off, x, rfl, hbh, _, hg, hc⟩ := h3.one (k := 0) (by simp)
    simp at hg
    subst hg
    exact ⟨b, off, c, h1, h2, hbh, by simpa using hc⟩)
  have hbmA := up_drew (up_alloc hb1 (.map #[] 0))
  have HCa := Lib.hid (startI_any lo hi nn cn An ns (.slice Af lf cf) (w.alloc (.cells #[.slice An nn cn, .slice Af lf cf, .map (some bo), .map (some bi)] 104)).drew (hrn.keep (up_drew hb1) hB) (Nat.le_trans hB (up_drew hb1).size) hnn)
  have HCb := Lib.hid (startI_any lo hi nn cn An ns (.slice Af lf cf) ((w.alloc (.cells #[.slice An nn cn, .slice Af lf cf, .map (some bo), .map (some bi)] 104)).alloc (.map #[] 0)).drew (hrn.keep hbmA hB) (Nat.le_trans hB hbmA.size) hnn)
  have hkm := hbk.alloc (.map #[] 0)
  have a0 : ((w.alloc (.cells #[.slice An nn cn, .slice Af lf cf, .map (some bo), .map (some bi)] 104)).alloc (.map #[] 0)).cell? ⟨w.heap.size, 0, none⟩ = some (.slice An nn cn) := hkm.cell 0
  have a1 : ((w.alloc (.cells #[.slice An nn cn, .slice Af lf cf, .map (some bo), .map (some bi)] 104)).alloc (.map #[] 0)).cell? ⟨w.heap.size, 1, none⟩ = some (.slice Af lf cf) := hkm.cell 1
  have a2 : ((w.alloc (.cells #[.slice An nn cn, .slice Af lf cf, .map (some bo), .map (some bi)] 104)).alloc (.map #[] 0)).cell? ⟨w.heap.size, 2, none⟩ = some (.map (some bo)) := hkm.cell 2
  have hmade : IMap Tryz.prog 3 ((w.alloc (.cells #[.slice An nn cn, .slice Af lf cf, .map (some bo), .map (some bi)] 104)).alloc (.map #[] 0)).drew (w.heap.size + 1) 0 (fun _ => none) := by
    have := IMap.made Tryz.prog 3 (w.alloc (.cells #[.slice An nn cn, .slice Af lf cf, .map (some bo), .map (some bi)] 104))
    rw [hs1] at this
    exact this.same rfl
  have HMD := Lib.hid hmade
  have HK := Lib.hid hbk
  have HKM := Lib.hid hkm
  have HB1 := Lib.hid hb1
  have HBM := Lib.hid hbmA
  have hq64 : in64 (q : Int) := by unfold in64; omega
  generalize startAt ns 0 = sa at *
  clear hmade hbk hkm hb1 hbmA
  have hmm := @run_makeMap Tryz.prog
  go_enter Tryz.func88, Tryz.ntmps88
  go_wp2_with (fail)
  go_region_law (first
    | (go_simp; go_at_call 151; (with_reducible refine HCa.out.mono ?_); rintro e w3 ⟨rfl, hb3⟩; have HB3 := Lib.hid (up (up_drew HB1.out) hb3); have hk3 := HK.out.drew.below hb3 (by simp [World.drew]); have j0 : w3.cell? ⟨w.heap.size, 0, none⟩ = some (.slice An nn cn) := hk3.cell 0; have j1 : w3.cell? ⟨w.heap.size, 1, none⟩ = some (.slice Af lf cf) := hk3.cell 1; have j2 : w3.cell? ⟨w.heap.size, 2, none⟩ = some (.map (some bo)) := hk3.cell 2
       have HB4 := Lib.hid (up_alloc HB3.out (.map #[] 0)); have hk4 := hk3.alloc (.map #[] 0); have l0 : (w3.alloc (.map #[] 0)).cell? ⟨w.heap.size, 0, none⟩ = some (.slice An nn cn) := hk4.cell 0; have l1 : (w3.alloc (.map #[] 0)).cell? ⟨w.heap.size, 1, none⟩ = some (.slice Af lf cf) := hk4.cell 1; have l2 : (w3.alloc (.map #[] 0)).cell? ⟨w.heap.size, 2, none⟩ = some (.map (some bo)) := hk4.cell 2
       obtain ⟨b, off, c, hl3, hc1, hbh, hc0⟩ := HLK.out w3 HB3.out; obtain ⟨b', off', c', hl4, hc1', hbh', hc0'⟩ := HLK.out _ HB4.out; have hc0x := ((up_alloc (Below.refl _ w3) (.map #[] 0)).cell (p := ⟨b, off, none⟩) (by have := HB3.out.size; show b < w3.heap.size; omega)).trans hc0
       obtain ⟨w5, hrun, him5, hg5⟩ := (IMap.made Tryz.prog 3 w3).put keyedInt Tryz.underlying3 Tryz.underlying111 (by unfold maxLen; omega) hq64 (.int .i64 1); have HF := Lib.hid (And.intro (him5.congr (g' := oneAt q) (fun z => rfl)) (And.intro HB3.out.size (HB4.out.grown hg5 HB4.out.size (fun k e => by injection e with e; have := HB3.out.size; omega)))); clear hb3 hk3 hk4 him5 hg5)
    | (go_simp; go_at_call 151; (with_reducible refine HCb.out.mono ?_); rintro e w3 ⟨rfl, hb3⟩; have HB3 := Lib.hid (up HBM.out hb3); have hk3 := HKM.out.drew.below hb3 (by simp [World.drew] <;> omega); have j0 : w3.cell? ⟨w.heap.size, 0, none⟩ = some (.slice An nn cn) := hk3.cell 0; have j1 : w3.cell? ⟨w.heap.size, 1, none⟩ = some (.slice Af lf cf) := hk3.cell 1; have j2 : w3.cell? ⟨w.heap.size, 2, none⟩ = some (.map (some bo)) := hk3.cell 2
       obtain ⟨b, off, c, hl3, hc1, hbh, hc0⟩ := HLK.out w3 HB3.out
       obtain ⟨w5, hrun, him5, hg5⟩ := (HMD.out.keep hb3 HMD.out.lt).put keyedInt Tryz.underlying3 Tryz.underlying111 (by unfold maxLen; omega) hq64 (.int .i64 1); have HF := Lib.hid (And.intro (him5.congr (g' := oneAt q) (fun z => rfl)) (And.intro (Nat.le_succ w.heap.size) (HB3.out.grown hg5 HB3.out.size (fun k e => by injection e with e; omega)))); clear hb3 hk3 him5 hg5))
  all_goals
    go_wp2
    go_ret
    exact ⟨_, rfl, HF.out.1, HF.out.2.1, HF.out.2.2⟩
end Go.Proofs.YtknphikoikdcjaaGreat


/- impl.FirstMarks. -/
namespace Go.Proofs.YtknphikoikdcjaaGreat
open Go.RowKit

end Go.Proofs.YtknphikoikdcjaaGreat

