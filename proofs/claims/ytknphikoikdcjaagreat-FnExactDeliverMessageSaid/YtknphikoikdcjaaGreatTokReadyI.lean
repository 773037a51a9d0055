/- impl.isReady, impl.ready, impl.ReadyNodes. -/
import Derived.Test.YtknphikoikdcjaaGreatTokCountA
set_option linter.unusedSimpArgs false
set_option linter.unusedVariables false
namespace Go.Proofs.YtknphikoikdcjaaGreat
open Go.RowKit

set_option maxRecDepth 100000 in
set_option maxHeartbeats 1600000 in
theorem isReady_any (An : Option Addr) (nn cn lo hi : Nat) (ns : List (Int × Int)) (Af : Option Addr) (lf cf bo bi : Nat) (fs : List Flw) (lo2 hi2 mb m : Nat) (ms : List Int) (k : Nat) (x y : Int) (w : World)
    (hrn : Rd w lo hi 2 An nn (pvs ns)) (hB : hi ≤ w.heap.size) (hm : RowMap Tryz.prog 3 w lo2 hi2 bi (fun z => flOf fs false z)) (hB2 : hi2 ≤ w.heap.size) (hc : MkM Tryz.prog 3 w mb m (markAt ms)) (hlen : ms.length = fs.length) (h14 : fs.length ≤ 14) (hk : k < nn) (hn : nn ≤ 1048576) (hkx : ns[k]? = some (x, y)) :
    Calls Tryz.prog 154 #[.agg #[.slice An nn cn, .slice Af lf cf, .map (some bo), .map (some bi)], .map (some mb), .int .i64 (k : Int)] w fun e w' => e = .returned (.bool (readyB x ms (flOf fs false (k : Int)))) ∧ Below w.heap.size w w' := by
  have hb1 := up_alloc (Below.refl _ w) (.cells #[.slice An nn cn, .slice Af lf cf, .map (some bo), .map (some bi)] 104)
  have hbk := Blk.new w 104 #[.slice An nn cn, .slice Af lf cf, .map (some bo), .map (some bi)]
  have hs1 := hb1.size
  have HK := Lib.hid hbk
  have HT := Lib.hid (takesFrom_any An nn cn lo hi ns Af lf cf bo bi fs lo2 hi2 mb m ms k x y _ (hrn.keep hb1 hB) (Nat.le_trans hB hs1) (hm.keep hb1 hB2) (Nat.le_trans hB2 hs1) (hc.keep hb1 hc.lt) hlen h14 hk hn hkx)
  have hin : inR (k : Int) 0 ((nn : Int) - 1) = true := inR_iff.2 ⟨by omega, by omega⟩
  have HRD := Lib.hid (takes_ready x ms (flOf fs false (k : Int)))
  have hle : (takesOf x ms (flOf fs false (k : Int))).length ≤ 14 := by
    have h1 := having_le ms (flOf fs false (k : Int))
    have h2 := flUp_le fs false (k : Int) fs.length
    have h3 : (flOf fs false (k : Int)).length ≤ fs.length := h2
    unfold takesOf
    split
    · split
      · simp
      · omega
    · rw [List.length_take]; omega
  clear hbk
  go_enter Tryz.func154, Tryz.ntmps154
  go_wp2_with (fail)
  (with_reducible refine (isNode_any An nn cn (k : Int) _).mono ?_)
  rintro e w2 ⟨rfl, rfl⟩
  rw [hin]
  have n0 := HK.out.cell 0
  have n1 := HK.out.cell 1
  have n2 := HK.out.cell 2
  have n3 := HK.out.cell 3
  simp at n0 n1 n2 n3
  clear hin
  go_wp2_with (fail)
  (with_reducible refine HT.out.mono ?_)
  rintro e w3 ⟨At, ct, rfl, _, _, _, hb3⟩
  have HB := Lib.hid (up hb1 hb3)
  generalize (takesOf x ms (flOf fs false (k : Int))).length = tl at *
  clear hb3 hb1 HT
  by_cases h0 : 0 < tl
  · have h0' : decide (0 < tl) = true := decide_eq_true h0
    have h0z : decide ((0 : Int) < (tl : Int)) = true := decide_eq_true (by omega)
    go_wp2
    go_ret
    exact ⟨ret_bool (h0'.symm.trans HRD.out), HB.out⟩
  · have h0' : decide (0 < tl) = false := decide_eq_false h0
    have h0z : decide ((0 : Int) < (tl : Int)) = false := decide_eq_false (by omega)
    go_wp2
    go_ret
    exact ⟨ret_bool (h0'.symm.trans HRD.out), HB.out⟩

set_option maxRecDepth 100000 in
set_option maxHeartbeats 1600000 in
theorem readyI_any (An : Option Addr) (nn cn lo hi : Nat) (ns : List (Int × Int)) (Af : Option Addr) (lf cf bo bi : Nat) (fs : List Flw) (lo2 hi2 mb m : Nat) (ms : List Int) (w : World)
    (hrn : Rd w lo hi 2 An nn (pvs ns)) (hB : hi ≤ w.heap.size) (hm : RowMap Tryz.prog 3 w lo2 hi2 bi (fun z => flOf fs false z)) (hB2 : hi2 ≤ w.heap.size) (hc : MkM Tryz.prog 3 w mb m (markAt ms)) (hlen : ms.length = fs.length) (h14 : fs.length ≤ 14) (hn : nn ≤ 1048576) :
    Calls Tryz.prog 162 #[.agg #[.slice An nn cn, .slice Af lf cf, .map (some bo), .map (some bi)], .map (some mb)] w (Fresh (ivs (readyUp ns fs ms nn)) 1 (readyUp ns fs ms nn).length w) := by
  obtain ⟨i0, hi0, hz0, hz1, hz2⟩ := info_parts infoIntT
  have hb1 := up_alloc (Below.refl _ w) (.cells #[.slice An nn cn, .slice Af lf cf, .map (some bo), .map (some bi)] 104)
  have hbk := Blk.new w 104 #[.slice An nn cn, .slice Af lf cf, .map (some bo), .map (some bi)]
  have hs1 : (w.alloc (.cells #[.slice An nn cn, .slice Af lf cf, .map (some bo), .map (some bi)] 104)).heap.size = w.heap.size + 1 := by simp
  have hmb := hc.lt
  go_enter Tryz.func162, Tryz.ntmps162
  go_wp2
  go_loopw [5, 11] (fun hv iv wr => ∃ (j : Nat), j ≤ nn ∧ iv = .int .i64 j ∧ Hid (Blk wr w.heap.size 104 #[.slice An nn cn, .slice Af lf cf, .map (some bo), .map (some bi)] ∧ Below w.heap.size w wr) ∧ Hid (wr.ownsRow (w.heap.size + 1) 3 1 hv (readyUp ns fs ms j).length (ivs (readyUp ns fs ms j))) ∧ w.heap.size + 1 ≤ wr.heap.size)
     (fun _ iv _ => nn - (intOf iv).toNat)
  case atStart => exact ⟨0, by omega, rfl, ⟨hbk, hb1⟩, World.ownsRow_nil _ _ _ _, by rw [hs1]; exact Nat.le_refl _⟩
  case round =>
    clear hbk hb1
    obtain ⟨j, hj, rfl, HR, HO, hsw⟩ := hrel
    have HB := Lib.hid HR.out.2
    have n0 : wr.cell? ⟨w.heap.size, 0, none⟩ = some (.slice An nn cn) := HR.out.1.cell 0
    have n1 : wr.cell? ⟨w.heap.size, 1, none⟩ = some (.slice Af lf cf) := HR.out.1.cell 1
    have n2 : wr.cell? ⟨w.heap.size, 2, none⟩ = some (.map (some bo)) := HR.out.1.cell 2
    have n3 : wr.cell? ⟨w.heap.size, 3, none⟩ = some (.map (some bi)) := HR.out.1.cell 3
    by_cases hlt : j < nn
    · obtain ⟨bz, oz, x, y, hAe, _, _, hkx, hz0, hz1⟩ := hrn.pair hlt
      clear hAe hz0 hz1
      have HKI := Lib.hid (kindAt_is hkx)
      have HI := Lib.hid (isReady_any An nn cn lo hi ns Af lf cf bo bi fs lo2 hi2 mb m ms j x y wr (hrn.keep HB.out hB) (Nat.le_trans hB HB.out.size) (hm.keep HB.out hB2) (Nat.le_trans hB2 HB.out.size) (hc.keep HB.out hmb) hlen h14 hlt hn hkx)
      have hj1 : (j : Int) < (nn : Int) := by omega
      clear hkx
      go_wp2_with (fail)
      (with_reducible refine HI.out.mono ?_)
      rintro e w2 ⟨rfl, hb2⟩
      have HB2 := Lib.hid (up HB.out hb2)
      have HO2 := Lib.hid (own_keep HO.out hb2)
      have HK2 := Lib.hid (HR.out.1.below hb2 (by omega))
      have hs2 := hb2.size
      clear hb2 HI
      cases hrb : readyB x ms (flOf fs false (j : Int)) with
      | false =>
        have HU := Lib.hid (readyUp_no (ns := ns) (fs := fs) (ms := ms) (k := j) (by rw [HKI.out]; exact hrb))
        clear hrb
        go_wp2
        go_roundw
        case rel => exact ⟨j + 1, by omega, by go_num, ⟨HK2.out, HB2.out⟩, by rw [HU.out]; exact HO2, by omega⟩
        case measure => simp [intOf]; omega
      | true =>
        have HU := Lib.hid (readyUp_yes (ns := ns) (fs := fs) (ms := ms) (k := j) (by rw [HKI.out]; exact hrb))
        have hle := readyUp_le ns fs ms j
        clear hrb
        go_wp2_with (at_builtin; refine wpList_append_own _ rfl _ _ 26 rfl (w.heap.size + 1) 3 i0 (.int .i64 0) 1 8 Tryz.underlying26 hi0 hz0 hz1 hz2 rfl (by decide) _ _ _ rfl (HO2.out.alloc _) _ 1 1 [.int .i64 (j : Int)] rfl rfl (cell_one_new _ _ _) ?c2 ?c3 ?c4 ?c5 ?_)
        case c2 => intro u hu; simp at hu; subst hu; rfl
        case c3 => unfold maxLen; omega
        case c4 => omega
        case c5 => simp; omega
        intro v' w4 hown4 hg4 _
        have HB4 := Lib.hid (up_grown (up_alloc HB2.out (.cells #[.int .i64 (j : Int)] 3)) (HO2.out.alloc _) hg4 (by omega))
        have HK4 := Lib.hid ((HK2.out.alloc (.cells #[.int .i64 (j : Int)] 3)).own_grown (HO2.out.alloc _) hg4 (by omega))
        have hs4' : w.heap.size + 1 ≤ w4.heap.size := by have := HK4.out.lt; omega
        have HO4 := Lib.hid hown4
        clear hg4 hown4
        go_wp2
        go_roundw
        case rel =>
          refine ⟨j + 1, by omega, by go_num, ⟨HK4.out, HB4.out⟩, ?_, hs4'⟩
          rw [Hid, HU.out, ivs_append, List.length_append]
          exact HO4.out
        case measure => simp [intOf]; omega
    · obtain rfl : j = nn := by omega
      obtain ⟨Ah, ch, rfl, hch, hrh, hsh⟩ := own_form HO.out
      go_wp2
      go_ret
      exact ⟨Ah, ch, rfl, hch, hrh.wide (by omega) (Nat.le_refl _), hsh, HB.out⟩

end Go.Proofs.YtknphikoikdcjaaGreat
