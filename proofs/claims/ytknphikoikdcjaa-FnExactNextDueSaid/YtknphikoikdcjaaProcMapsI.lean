/- impl.mapFlows: the flows out of and into each node. -/
import Derived.Test.YtknphikoikdcjaaProcLeafA
import Derived.Test.YtknphikoikdcjaaProcSpecA
import Derived.Test.YtknphikoikdcjaaBase
import Derived.Deep.RegionHeld3
import Derived.Deep.AppendLies
import Derived.Deep.DrawnRows
set_option linter.unusedSimpArgs false
set_option linter.unusedVariables false
namespace Go.Proofs.Ytknphikoikdcjaa
open Go.RowKit
attribute [local go_sem ↓] Go.wp_at_zero Go.wp_at_succ

theorem keyedInt : Maps.Keyed Try.prog 3 := Maps.int_keyed Try.underlying3
theorem zeroInts (w : World) : (zeroValue 26).run Try.prog w = .ok (.slice none 0 0) w := by kernel_rfl

/-- The flows below k with that end, told by the direction. -/
def flDir (fs : List Flw) (k : Nat) : Bool → Int → List Int := fun d z => flUp fs d z k
theorem flDir_step {fs : List Flw} {k : Nat} {x y : Int} {ps : List (Int × Int)} (hg : fs[k]? = some (x, y, ps)) (d : Bool) (z : Int) : updG (updG (flDir fs k) true x k) false y k d z = flDir fs (k + 1) d z := by
  cases d
  · by_cases hz : z = y
    · subst hz
      simp only [updG, and_self, if_true, flDir]
      rw [flUp_yes (out := false) (node := z) hg (by rfl), if_neg (by simp)]
    · simp only [updG, flDir]
      rw [if_neg (by simp [hz]), if_neg (by simp), flUp_no (out := false) hg (fun e => hz e.symm)]
  · by_cases hz : z = x
    · subst hz
      simp only [updG, flDir]
      rw [if_neg (by simp), if_pos (by simp), flUp_yes (out := true) (node := z) hg (by rfl)]
    · simp only [updG, flDir]
      rw [if_neg (by simp), if_neg (by simp [hz]), flUp_no (out := true) hg (fun e => hz e.symm)]

/-- What mapFlows leaves. -/
def Mapped (fs : List Flw) (w : World) (e : Ending) (w' : World) : Prop :=
  ∃ bo bi, e = .returned (.agg #[.map (some bo), .map (some bi)]) ∧ RowMap Try.prog 3 w' w.heap.size w'.heap.size bo (fun z => flOf fs true z) ∧ RowMap Try.prog 3 w' w.heap.size w'.heap.size bi (fun z => flOf fs false z) ∧ Below w.heap.size w w'

set_option maxRecDepth 100000 in
set_option maxHeartbeats 3200000 in
theorem mapFlows_any (lo hi n c : Nat) (A : Option Addr) (fs : List Flw) (w : World) (hr : Fls w lo hi A n fs) (hB : hi ≤ w.heap.size) (hn : n ≤ 14) (hin : ∀ f ∈ fs, in64 f.1 ∧ in64 f.2.1) :
    Calls Try.prog 75 #[.slice A n c] w (Mapped fs w) := by
  have HL := Lib.hid hr.1
  obtain ⟨i0, hi0, hz0, hz1, hz2⟩ := info_parts infoInt
  have hmm := @run_makeMap Try.prog
  go_enter Try.func75, Try.ntmps75
  go_wp2
  clear hmm
  go_loopw [11] (fun iv wr => ∃ (k : Nat) (sel : Bool → Int → Option Value), k ≤ n ∧ iv = .int .i64 k ∧ Below w.heap.size w wr ∧ Blk wr (w.heap.size + 1 + 1 + 1) 57 #[.map (some (w.heap.size + 1)), .map (some (w.heap.size + 1 + 1))] ∧ Blk wr w.heap.size 57 #[.map none, .map none] ∧
       IMap Try.prog 3 wr (w.heap.size + 1) k (sel true) ∧ IMap Try.prog 3 wr (w.heap.size + 1 + 1) k (sel false) ∧ Rows wr (w.heap.size + 1 + 1 + 1 + 1) 3 sel (flDir fs k))
     (fun iv _ => n - (intOf iv).toNat)
  case atStart =>
    refine ⟨0, fun _ _ => none, by omega, rfl, up_alloc (up_alloc (up_alloc (up_alloc (Below.refl _ _) _) _) _) _, ?_, ?_, ?_, ?_, ?_⟩
    · simpa using Blk.new (((w.alloc (.cells #[.map none, .map none] 57)).alloc (.map #[] 0)).alloc (.map #[] 0)) 57 #[.map (some (w.heap.size + 1)), .map (some (w.heap.size + 1 + 1))]
    · exact (((Blk.new w 57 #[.map none, .map none]).alloc _).alloc _).alloc _
    · have h1 := ((IMap.made Try.prog 3 (w.alloc (.cells #[.map none, .map none] 57))).alloc (.map #[] 0)).alloc (.cells #[.map (some (w.heap.size + 1)), .map (some (w.heap.size + 1 + 1))] 57)
      simpa using h1
    · have h1 := (IMap.made Try.prog 3 ((w.alloc (.cells #[.map none, .map none] 57)).alloc (.map #[] 0))).alloc (.cells #[.map (some (w.heap.size + 1)), .map (some (w.heap.size + 1 + 1))] 57)
      simpa using h1
    · exact (Rows.start _ _ _).congr fun d z => by simp [flDir, flUp]
  case round =>
    obtain ⟨k, sel, hk, rfl, hbl, hblk, hres, hmo, hmi, hrows⟩ := hrel
    by_cases hkn : k < n
    · obtain ⟨b, off, x, y, ps, A', m, c', rfl, hbB, _, hg, hx, hy, hz, _, _⟩ := (hr.keep hbl hB).at hkn
      have hd0 : wr.cell? ⟨w.heap.size + 1 + 1 + 1, 0, none⟩ = some (.map (some (w.heap.size + 1))) := hblk.cell 0
      have hd1 : wr.cell? ⟨w.heap.size + 1 + 1 + 1, 1, none⟩ = some (.map (some (w.heap.size + 1 + 1))) := hblk.cell 1
      have Hg := Lib.hid hg
      have HR := Lib.hid hrows
      have HMO := Lib.hid hmo
      have HMI := Lib.hid hmi
      have HRES0 := Lib.hid (hres.alloc (.cells #[.int .i64 x, .int .i64 y, .slice A' m c'] 83))
      clear hg hrows hmo hmi hres
      go_wp2
      obtain ⟨hx64, hy64⟩ := hin _ (List.mem_of_getElem? Hg.out)
      have hf0 := Blk.new wr 83 #[.int .i64 x, .int .i64 y, .slice A' m c']
      have hbl0 := up_alloc hbl (.cells #[.int .i64 x, .int .i64 y, .slice A' m c'] 83)
      have hblk0 := hblk.alloc (.cells #[.int .i64 x, .int .i64 y, .slice A' m c'] 83)
      have HMO0 := Lib.hid (HMO.out.alloc (.cells #[.int .i64 x, .int .i64 y, .slice A' m c'] 83))
      have HMI0 := Lib.hid (HMI.out.alloc (.cells #[.int .i64 x, .int .i64 y, .slice A' m c'] 83))
      have HR0 := Lib.hid (HR.out.kept (World.grownBy_alloc wr (.cells #[.int .i64 x, .int .i64 y, .slice A' m c'] 83) none) (fun j e => by cases e))
      have hsz0 : (wr.alloc (.cells #[.int .i64 x, .int .i64 y, .slice A' m c'] 83)).heap.size = wr.heap.size + 1 := by simp
      have hlt3 := hblk.lt
      have HFF : Hid (∀ d z g, (rowAt (sel d z)).ownBlock = some g → g ≠ wr.heap.size) := fun d z g hg => by have := ((HR.out.1 d z).lt g hg).2; omega
      have HVL := Lib.hid (fun (d : Bool) (z : Int) (g : Nat) (hg : (rowAt (sel d z)).ownBlock = some g) => (HR.out.1 d z).lt g hg)
      clear HMO HMI HR hblk hd0 hd1 hx hy hz hbl
      generalize hF : wr.heap.size = F at *
      generalize hw0 : wr.alloc (.cells #[.int .i64 x, .int .i64 y, .slice A' m c'] 83) = w0 at *
      clear hw0 hF
      have HSZ := Lib.hid hsz0
      have hszl : F + 1 ≤ w0.heap.size := by omega
      clear hsz0
      -- the flow's out
      have hv := HR0.out.1 true x
      have hul := flUp_le fs true x k
      have hlk : ∀ w1 : World, w1.heap[w.heap.size + 1]? = w0.heap[w.heap.size + 1]? → (Instr.lookup 55 (.map (some (w.heap.size + 1))) (.int .i64 x) false).run Try.prog w1 = .ok (rowAt (sel true x)) w1 :=
        fun w1 he => HMO0.out.look keyedInt Try.underlying3 Try.underlying55 (zeroInts _) hx64 he
      have hl1 := hlk w0.drew rfl
      have hl2 := hlk ((w0.alloc (.cells #[.int .i64 (k : Int)] 3)).drew) (Below.heap_alloc w0 _ _ (by show w.heap.size + 1 < w0.heap.size; omega))
      clear hlk
      have hc0 : w0.cell? ⟨w.heap.size + 1 + 1 + 1, 0, none⟩ = some (.map (some (w.heap.size + 1))) := hblk0.cell 0
      have hc1 : w0.cell? ⟨F, 0, none⟩ = some (.int .i64 x) := hf0.cell 0
      have hk0 : ((w0.alloc (.cells #[.int .i64 (k : Int)] 3)).drew).cell? ⟨w.heap.size + 1 + 1 + 1, 0, none⟩ = some (.map (some (w.heap.size + 1))) := (hblk0.alloc _).drew.cell 0
      have hk1 : ((w0.alloc (.cells #[.int .i64 (k : Int)] 3)).drew).cell? ⟨F, 0, none⟩ = some (.int .i64 x) := (hf0.alloc _).drew.cell 0
      have hvl := HVL.out true x
      have HMOa := Lib.hid (IMap.same (w1 := (w0.alloc (.cells #[.int .i64 (k : Int)] 3)).drew) (HMO0.out.alloc (.cells #[.int .i64 (k : Int)] 3)) rfl)
      have HVA := Lib.hid ((hv.alloc (.cells #[.int .i64 (k : Int)] 3)).drew)
      generalize hvv : rowAt (sel true x) = v at *
      have HV := Lib.hid hvv
      have HXS := Lib.hid hv.1
      clear hvv hv
      go_region_held3 (fun w' => w'.cell? ⟨w.heap.size + 1 + 1 + 1, 0, none⟩ = some (.map (some (w.heap.size + 1))) ∧ w'.cell? ⟨F, 0, none⟩ = some (.int .i64 x))
        (first
          | exact ⟨hc0, hc1⟩
          | exact ⟨hk0, hk1⟩
          | exact ⟨(hgrow.cell_far _ (by simp <;> omega) hne0).trans hk0, (hgrow.cell_far _ (by simp <;> omega) hne1).trans hk1⟩
          | exact ⟨(hgrow2.cell_far _ (by have := hgrow.size; simp at this ⊢; omega) (by simp <;> omega)).trans ((hgrow.cell_far _ (by simp <;> omega) hne0).trans hk0), (hgrow2.cell_far _ (by have := hgrow.size; simp at this ⊢; omega) (by simp <;> omega)).trans ((hgrow.cell_far _ (by simp <;> omega) hne1).trans hk1)⟩)
        ((refine step_append_lies _ (by rfl) _ _ _ (by rfl) (w.heap.size + 1 + 1 + 1 + 1) 3 i0 _ 1 8 Try.underlying26 hi0 hz0 hz1 hz2 rfl (by omega) v (flUp fs true x k).length (ivs (flUp fs true x k)) (by rfl) HVA.out
            ⟨w0.heap.size, 0, none⟩ 1 1 [.int .i64 (k : Int)] (by rfl) (by rfl) (World.news_of_block (cs := #[.int .i64 (k : Int)]) (t := 3) (fr := (0, 0)) (heap_alloc_new w0 _)) (by simp [Value.oneCell'])
            (by omega) (by unfold maxLen; omega) (by omega) (by simp <;> omega) (w0.heap.size + 1) (by simp) ?_
          intro g cap w1 hown1 hgrow hat hlt
          have hne0 : some (w.heap.size + 1 + 1 + 1) ≠ v.ownBlock := fun e => by have := (hvl _ e.symm).1; omega
          have hne1 : some F ≠ v.ownBlock := fun e => by have := (hvl _ e.symm).2; omega
          obtain ⟨w2, hrun2, hmap2, hgrow2⟩ := (HMOa.out.kept hgrow (fun e => by have := (hvl _ e.symm).1; omega)).put keyedInt Try.underlying3 Try.underlying55 (by unfold maxLen; omega) hx64 (.slice (some ⟨g, 0, none⟩) ((flUp fs true x k).length + 1) cap)))
      all_goals
        obtain ⟨hbl2, hblk2, hf2, hmi2, hrows2, hF2, hs2, hk2⟩ := map_step (z := x) (d := true) hbl0 hblk0 hf0 HMI0.out HR0.out HFF.out (by rw [HV.out]; exact hgrow) hown1 (by rw [HV.out]; exact hat.imp Eq.symm fun h => ⟨g, rfl, by omega⟩) hgrow2 (by omega) (by omega) (by omega) (by omega) (by omega) (by omega) (by omega)
        have HMO2 := Lib.hid (hmap2.congr (updSel_at sel true x (.slice (some ⟨g, 0, none⟩) ((flUp fs true x k).length + 1) cap)))
        have HMI2 := Lib.hid (hmi2.congr (updSel_other sel true false x (.slice (some ⟨g, 0, none⟩) ((flUp fs true x k).length + 1) cap) (by simp)))
        have HR2 := Lib.hid hrows2
        have HF2 := Lib.hid hF2
        have hsz2 : F + 1 ≤ w2.heap.size := by omega
        have HRES2 : Hid (Blk w2 w.heap.size 57 #[.map none, .map none]) := (hk2 w.heap.size (by omega) (by omega) (by omega)).trans HRES0.out
        clear hk2 HRES0
        clear hrun2 hmap2 hgrow2 hgrow hown1 hat hlt hne0 hne1 hbl0 hblk0 hf0 HMI0 HMO0 HR0 HFF HVL hmi2 hrows2 hF2 hs2 hl1 hl2 hc0 hc1 hk0 hk1 hvl HMOa HVA HXS HSZ hszl
        go_wp2
        -- the flow's in
        have hblk0 := hblk2
        have hf0 := hf2
        have hlt4 := hblk0.lt
        have hv0 := HR2.out.1 false y
        have he0 : updG (flDir fs k) true x k false y = flUp fs false y k := by simp [updG, flDir]
        rw [he0] at hv0
        have HE0 := Lib.hid he0
        clear he0
        have hul2 := flUp_le fs false y k
        have hvl : ∀ j, (rowAt (updSel sel true x (.slice (some ⟨g, 0, none⟩) ((flUp fs true x k).length + 1) cap) false y)).ownBlock = some j → w.heap.size + 1 + 1 + 1 + 1 ≤ j ∧ j ≠ F := fun j hj => ⟨(hv0.lt j hj).1, HF2.out false y j hj⟩
        generalize hS2 : updSel sel true x (.slice (some ⟨g, 0, none⟩) ((flUp fs true x k).length + 1) cap) = sel2 at *
        clear hS2
        have hlk : ∀ w1 : World, w1.heap[w.heap.size + 1 + 1]? = w2.heap[w.heap.size + 1 + 1]? → (Instr.lookup 55 (.map (some (w.heap.size + 1 + 1))) (.int .i64 y) false).run Try.prog w1 = .ok (rowAt (sel2 false y)) w1 :=
          fun w1 he => HMI2.out.look keyedInt Try.underlying3 Try.underlying55 (zeroInts _) hy64 he
        have hl1 := hlk w2.drew rfl
        have hl2 := hlk ((w2.alloc (.cells #[.int .i64 (k : Int)] 3)).drew) (Below.heap_alloc w2 _ _ (by show w.heap.size + 1 + 1 < w2.heap.size; omega))
        clear hlk
        have hc0 : w2.cell? ⟨w.heap.size + 1 + 1 + 1, 1, none⟩ = some (.map (some (w.heap.size + 1 + 1))) := hblk0.cell 1
        have hc1 : w2.cell? ⟨F, 1, none⟩ = some (.int .i64 y) := hf0.cell 1
        have hk0 : ((w2.alloc (.cells #[.int .i64 (k : Int)] 3)).drew).cell? ⟨w.heap.size + 1 + 1 + 1, 1, none⟩ = some (.map (some (w.heap.size + 1 + 1))) := (hblk0.alloc _).drew.cell 1
        have hk1 : ((w2.alloc (.cells #[.int .i64 (k : Int)] 3)).drew).cell? ⟨F, 1, none⟩ = some (.int .i64 y) := (hf0.alloc _).drew.cell 1
        have HMIa := Lib.hid (IMap.same (w1 := (w2.alloc (.cells #[.int .i64 (k : Int)] 3)).drew) (HMI2.out.alloc (.cells #[.int .i64 (k : Int)] 3)) rfl)
        have HVA := Lib.hid ((hv0.alloc (.cells #[.int .i64 (k : Int)] 3)).drew)
        generalize hvv : rowAt (sel2 false y) = v2 at *
        have HV2 := Lib.hid hvv
        clear hvv hv0
        go_region_held3 (fun w' => w'.cell? ⟨w.heap.size + 1 + 1 + 1, 1, none⟩ = some (.map (some (w.heap.size + 1 + 1))) ∧ w'.cell? ⟨F, 1, none⟩ = some (.int .i64 y))
          (first
            | exact ⟨hc0, hc1⟩
            | exact ⟨hk0, hk1⟩
            | exact ⟨(hgrow.cell_far _ (by simp <;> omega) hne0).trans hk0, (hgrow.cell_far _ (by simp <;> omega) hne1).trans hk1⟩
            | exact ⟨(hgrow2.cell_far _ (by have := hgrow.size; simp at this ⊢; omega) (by simp <;> omega)).trans ((hgrow.cell_far _ (by simp <;> omega) hne0).trans hk0), (hgrow2.cell_far _ (by have := hgrow.size; simp at this ⊢; omega) (by simp <;> omega)).trans ((hgrow.cell_far _ (by simp <;> omega) hne1).trans hk1)⟩)
          ((refine step_append_lies _ (by rfl) _ _ _ (by rfl) (w.heap.size + 1 + 1 + 1 + 1) 3 i0 _ 1 8 Try.underlying26 hi0 hz0 hz1 hz2 rfl (by omega) v2 (flUp fs false y k).length (ivs (flUp fs false y k)) (by rfl) HVA.out
              ⟨w2.heap.size, 0, none⟩ 1 1 [.int .i64 (k : Int)] (by rfl) (by rfl) (World.news_of_block (cs := #[.int .i64 (k : Int)]) (t := 3) (fr := (0, 0)) (heap_alloc_new w2 _)) (by simp [Value.oneCell'])
              (by omega) (by unfold maxLen; omega) (by omega) (by simp <;> omega) (w2.heap.size + 1) (by simp) ?_
            intro g2 cap2 w3 hown1 hgrow hat hlt
            have hne0 : some (w.heap.size + 1 + 1 + 1) ≠ v2.ownBlock := fun e => by have := (hvl _ e.symm).1; omega
            have hne1 : some F ≠ v2.ownBlock := fun e => by have := (hvl _ e.symm).2; omega
            obtain ⟨w4, hrun2, hmap2, hgrow2⟩ := (HMIa.out.kept hgrow (fun e => by have := (hvl _ e.symm).1; omega)).put keyedInt Try.underlying3 Try.underlying55 (by unfold maxLen; omega) hy64 (.slice (some ⟨g2, 0, none⟩) ((flUp fs false y k).length + 1) cap2)))
        all_goals
          obtain ⟨hbl4, hblk4, hf4, hmo4, hrows4, hF4, hs4, hk4⟩ := map_step (z := y) (d := false) hbl2 hblk0 hf0 HMO2.out HR2.out HF2.out (by rw [HV2.out]; exact hgrow) (by rw [HE0.out]; exact hown1) (by rw [HV2.out]; exact hat.imp Eq.symm fun h => ⟨g2, rfl, by omega⟩) hgrow2 (by omega) (by omega) (by omega) (by omega) (by omega) (by omega) (by omega)
          have HMI4 := Lib.hid (hmap2.congr (updSel_at sel2 false y (.slice (some ⟨g2, 0, none⟩) ((flUp fs false y k).length + 1) cap2)))
          have HMO4 := Lib.hid (hmo4.congr (updSel_other sel2 false true y (.slice (some ⟨g2, 0, none⟩) ((flUp fs false y k).length + 1) cap2) (by simp)))
          have HR4 := Lib.hid (hrows4.congr (flDir_step Hg.out))
          have HK4 := Lib.hid hblk4
          have HRES4 : Hid (Blk w4 w.heap.size 57 #[.map none, .map none]) := (hk4 w.heap.size (by omega) (by omega) (by omega)).trans HRES2.out
          clear hk4
          clear hrun2 hmap2 hgrow2 hgrow hown1 hat hlt hne0 hne1 hmo4 hrows4 hF4 hs4 hl1 hl2 hc0 hc1 hk0 hk1 hvl HMIa HVA hblk0 hf0 hblk2 hf2 hbl2 hblk4 hf4
          go_wp2
          go_roundw
          case rel => exact ⟨k + 1, _, by omega, by go_num, hbl4, HK4.out, HRES4.out, HMO4.out, HMI4.out, HR4.out⟩
          case measure => simp [intOf]; omega
    · obtain rfl : k = n := by omega
      have HRW := Lib.hid hrows
      have HMO := Lib.hid hmo
      have HMI := Lib.hid hmi
      have hd : wr.cell? ⟨w.heap.size + 1 + 1 + 1, 0, none⟩ = some (.map (some (w.heap.size + 1))) := hblk.cell 0
      have hd1 : wr.cell? ⟨w.heap.size + 1 + 1 + 1, 1, none⟩ = some (.map (some (w.heap.size + 1 + 1))) := hblk.cell 1
      have hr0 : wr.cell? ⟨w.heap.size, 0, none⟩ = some (.map none) := hres.cell 0
      have hr1 : wr.cell? ⟨w.heap.size, 1, none⟩ = some (.map none) := hres.cell 1
      have hfr0 := hres.soft 0
      have hfr1 := hres.soft 1
      clear hrows hmo hmi
      have hB2 := (hres.put 0 (.map (some (w.heap.size + 1)))).put 1 (.map (some (w.heap.size + 1 + 1)))
      have hb0 : ((wr.setCell ⟨w.heap.size, 0, none⟩ (.map (some (w.heap.size + 1)))).setCell ⟨w.heap.size, 1, none⟩ (.map (some (w.heap.size + 1 + 1)))).cell? ⟨w.heap.size, 0, none⟩ = some (.map (some (w.heap.size + 1))) := by simpa using hB2.cell 0
      have hb1 : ((wr.setCell ⟨w.heap.size, 0, none⟩ (.map (some (w.heap.size + 1)))).setCell ⟨w.heap.size, 1, none⟩ (.map (some (w.heap.size + 1 + 1)))).cell? ⟨w.heap.size, 1, none⟩ = some (.map (some (w.heap.size + 1 + 1))) := by simpa using hB2.cell 1
      have hgs := (grown_set wr ⟨w.heap.size, 0, none⟩ (.map (some (w.heap.size + 1)))).trans (grown_set (wr.setCell ⟨w.heap.size, 0, none⟩ (.map (some (w.heap.size + 1)))) ⟨w.heap.size, 1, none⟩ (.map (some (w.heap.size + 1 + 1))))
      have HG := Lib.hid hgs
      clear hB2 hgs
      go_wp2
      refine bodyPost_ret (v := .agg #[.map (some (w.heap.size + 1)), .map (some (w.heap.size + 1 + 1))]) (by simp [results, Try.results75, go_sem, hb0, hb1]) rfl ⟨_, _, rfl, ?_, ?_, (hbl.setCell (by show _ ≤ w.heap.size; omega) _).setCell (by show _ ≤ w.heap.size; omega) _⟩
      · have hR := HRW.out.kept HG.out (fun j e => by injection e with e; omega)
        have he : flDir fs k = fun d z => flOf fs d z := by funext d z; simp [flDir, flOf, HL.out]
        rw [he] at hR
        exact RowMap.of_rows (d := true) hR (HMO.out.kept HG.out (by simp)) (by omega) (by omega)
      · have hR := HRW.out.kept HG.out (fun j e => by injection e with e; omega)
        have he : flDir fs k = fun d z => flOf fs d z := by funext d z; simp [flDir, flOf, HL.out]
        rw [he] at hR
        exact RowMap.of_rows (d := false) hR (HMI.out.kept HG.out (by simp; omega)) (by omega) (by omega)
end Go.Proofs.Ytknphikoikdcjaa
