/- The program: does an instance have its timers? (Written by gen/rund.py.) -/
import Derived.Test.YtknphikoikdcjaaRunC
import Derived.Deep.RegionHeld3
set_option linter.unusedSimpArgs false
set_option linter.unusedVariables false
namespace Go.Proofs.Ytknphikoikdcjaa
open Go.RowKit

theorem has_no1 {ns : List (Int × Int)} {fs : List Flw} {ms : List Int} {cl : Int} {ts : List Tm} {k : Nat} {t : Tm} (hg : ts[k]? = some t) (h : tmI ns fs ms cl t = false) : hasT ns fs ms cl ts = false := by
  have : ts.all (tmI ns fs ms cl) = false := List.all_eq_false.2 ⟨t, List.mem_of_getElem? hg, by simp [h]⟩
  unfold hasT
  rw [this]; rfl
theorem has_no2 {ns : List (Int × Int)} {fs : List Flw} {ms : List Int} {cl : Int} {ts : List Tm} {k : Nat} (hk : k < ns.length) (h : lackAt ns fs ms ts k = true) : hasT ns fs ms cl ts = false := by
  have : (List.range ns.length).all (fun k => !lackAt ns fs ms ts k) = false := List.all_eq_false.2 ⟨k, List.mem_range.2 hk, by simp [h]⟩
  unfold hasT
  rw [this, Bool.and_false]; rfl
theorem has_yes {ns : List (Int × Int)} {fs : List Flw} {ms : List Int} {cl : Int} {ts : List Tm} (h1 : ts.all (tmI ns fs ms cl) = true) (h2 : (List.range ns.length).all (fun k => !lackAt ns fs ms ts k) = true) : hasT ns fs ms cl ts = tSortB ts := by
  unfold hasT
  rw [h1, h2]; rfl
theorem tmI_in {ns : List (Int × Int)} {fs : List Flw} {ms : List Int} {cl : Int} {t : Tm} (h : tmI ns fs ms cl t = true) : 0 ≤ t.1 ∧ t.1 < (ns.length : Int) := by
  unfold tmI at h
  simp only [Bool.and_eq_true] at h
  have := inR_iff.1 h.1.1.1.1
  omega
set_option maxRecDepth 100000 in
set_option maxHeartbeats 6400000 in
theorem hasItsTimers_any (An : Option Addr) (nn cn : Nat) (ns : List (Int × Int)) (Af : Option Addr) (lf cf : Nat) (fs : List Flw) (bo bi mb m : Nat) (ms : List Int) (Av : Option Addr) (nv cv : Nat) (cl : Int) (At : Option Addr) (nt ct : Nat) (ts : List (Int × Int)) (w : World) (hN : NetM w ns fs ms An nn Af lf bo bi mb m) (hnn : nn ≤ 1048576) (ht : Rd w 0 w.heap.size 2 At nt (pvs ts)) (hnt : nt ≤ 1048576) :
    Calls Try.prog 53 #[.agg #[.slice An nn cn, .slice Af lf cf, .map (some bo), .map (some bi), .map (some mb), .slice Av nv cv, .int .i64 cl, .slice At nt ct]] w fun e w' => e = .returned (.bool (hasT ns fs ms cl ts)) ∧ Below w.heap.size w w' := by
  have HL := Lib.hid ht.len2
  have HNL := Lib.hid hN.nl
  have hb1 := up_alloc (Below.refl _ w) (.cells #[.slice An nn cn, .slice Af lf cf, .map (some bo), .map (some bi), .map (some mb), .slice Av nv cv, .int .i64 cl, .slice At nt ct] 64)
  have HK := Lib.hid (Blk.new w 64 #[.slice An nn cn, .slice Af lf cf, .map (some bo), .map (some bi), .map (some mb), .slice Av nv cv, .int .i64 cl, .slice At nt ct])
  have HN := Lib.hid (hN.keep hb1)
  have HT := Lib.hid (rd_up ht hb1)
  have HB := Lib.hid hb1
  have hz : (w.alloc (.cells #[.slice An nn cn, .slice Af lf cf, .map (some bo), .map (some bi), .map (some mb), .slice Av nv cv, .int .i64 cl, .slice At nt ct] 64)).heap.size = w.heap.size + 1 := by simp
  clear hb1 hN ht
  have c0 : (w.alloc (.cells #[.slice An nn cn, .slice Af lf cf, .map (some bo), .map (some bi), .map (some mb), .slice Av nv cv, .int .i64 cl, .slice At nt ct] 64)).cell? ⟨w.heap.size, 0, none⟩ = some (.slice An nn cn) := HK.out.cell 0
  have c1 : (w.alloc (.cells #[.slice An nn cn, .slice Af lf cf, .map (some bo), .map (some bi), .map (some mb), .slice Av nv cv, .int .i64 cl, .slice At nt ct] 64)).cell? ⟨w.heap.size, 1, none⟩ = some (.slice Af lf cf) := HK.out.cell 1
  have c2 : (w.alloc (.cells #[.slice An nn cn, .slice Af lf cf, .map (some bo), .map (some bi), .map (some mb), .slice Av nv cv, .int .i64 cl, .slice At nt ct] 64)).cell? ⟨w.heap.size, 2, none⟩ = some (.map (some bo)) := HK.out.cell 2
  have c3 : (w.alloc (.cells #[.slice An nn cn, .slice Af lf cf, .map (some bo), .map (some bi), .map (some mb), .slice Av nv cv, .int .i64 cl, .slice At nt ct] 64)).cell? ⟨w.heap.size, 3, none⟩ = some (.map (some bi)) := HK.out.cell 3
  have c4 : (w.alloc (.cells #[.slice An nn cn, .slice Af lf cf, .map (some bo), .map (some bi), .map (some mb), .slice Av nv cv, .int .i64 cl, .slice At nt ct] 64)).cell? ⟨w.heap.size, 4, none⟩ = some (.map (some mb)) := HK.out.cell 4
  have c5 : (w.alloc (.cells #[.slice An nn cn, .slice Af lf cf, .map (some bo), .map (some bi), .map (some mb), .slice Av nv cv, .int .i64 cl, .slice At nt ct] 64)).cell? ⟨w.heap.size, 5, none⟩ = some (.slice Av nv cv) := HK.out.cell 5
  have c6 : (w.alloc (.cells #[.slice An nn cn, .slice Af lf cf, .map (some bo), .map (some bi), .map (some mb), .slice Av nv cv, .int .i64 cl, .slice At nt ct] 64)).cell? ⟨w.heap.size, 6, none⟩ = some (.int .i64 cl) := HK.out.cell 6
  have c7 : (w.alloc (.cells #[.slice An nn cn, .slice Af lf cf, .map (some bo), .map (some bi), .map (some mb), .slice Av nv cv, .int .i64 cl, .slice At nt ct] 64)).cell? ⟨w.heap.size, 7, none⟩ = some (.slice At nt ct) := HK.out.cell 7
  go_enter Try.func53, Try.ntmps53
  go_wp2
  clear c0 c1 c2 c3 c4 c5 c6 c7
  generalize w.alloc (.cells #[.slice An nn cn, .slice Af lf cf, .map (some bo), .map (some bi), .map (some mb), .slice Av nv cv, .int .i64 cl, .slice At nt ct] 64) = w1 at *
  go_loopw [11] (fun iv wr => ∃ (k : Nat), k ≤ nt ∧ iv = .int .i64 k ∧ Hid ((ts.take k).all (tmI ns fs ms cl) = true) ∧ Hid (Below w1.heap.size w1 wr))
     (fun iv _ => nt - (intOf iv).toNat)
  case atStart => exact ⟨0, by omega, rfl, rfl, Below.refl _ _⟩
  case round =>
    obtain ⟨k, hk, rfl, HS, HBR⟩ := hrel
    have hsr := HBR.out.size
    by_cases hlt : k < nt
    · obtain ⟨b, off, x, y, hA, _, _, hg, hc0, hc1⟩ := (rd_up HT.out HBR.out).pair hlt
      subst hA
      have HG := Lib.hid hg
      have hb2 := up_alloc (Below.refl _ wr) (.cells #[.int .i64 x, .int .i64 y] 74)
      have HB2 := Lib.hid (up HBR.out hb2)
      have HK2 := Lib.hid (HK.out.below HB2.out (by omega))
      have HV2 := Lib.hid (Blk.new wr 74 #[.int .i64 x, .int .i64 y])
      have HW := Lib.hid (waitsAt_any An nn cn ns Af lf cf fs bo bi mb m ms Av nv cv cl (some ⟨b, off, none⟩) nt ct x 3 _ (HN.out.keep HB2.out) hnn)
      have htm : tmI ns fs ms cl (x, y) = ((inR x 0 ((nn : Int) - 1) && readyB (kindAt ns x.toNat) ms (flOf fs false x) && (kindAt ns x.toNat == 3)) && decide (cl < y) && decide (y ≤ 10099)) := by
        unfold tmI
        rw [HNL.out]
      generalize (inR x 0 ((nn : Int) - 1) && readyB (kindAt ns x.toNat) ms (flOf fs false x) && (kindAt ns x.toNat == 3)) = bw at *
      have hk1 : (k : Int) < (nt : Int) := by omega
      have hk0 : (0 : Int) ≤ (k : Int) := by omega
      have c0 : (wr.alloc (.cells #[.int .i64 x, .int .i64 y] 74)).cell? ⟨w.heap.size, 0, none⟩ = some (.slice An nn cn) := HK2.out.cell 0
      have c1 : (wr.alloc (.cells #[.int .i64 x, .int .i64 y] 74)).cell? ⟨w.heap.size, 1, none⟩ = some (.slice Af lf cf) := HK2.out.cell 1
      have c2 : (wr.alloc (.cells #[.int .i64 x, .int .i64 y] 74)).cell? ⟨w.heap.size, 2, none⟩ = some (.map (some bo)) := HK2.out.cell 2
      have c3 : (wr.alloc (.cells #[.int .i64 x, .int .i64 y] 74)).cell? ⟨w.heap.size, 3, none⟩ = some (.map (some bi)) := HK2.out.cell 3
      have c4 : (wr.alloc (.cells #[.int .i64 x, .int .i64 y] 74)).cell? ⟨w.heap.size, 4, none⟩ = some (.map (some mb)) := HK2.out.cell 4
      have c5 : (wr.alloc (.cells #[.int .i64 x, .int .i64 y] 74)).cell? ⟨w.heap.size, 5, none⟩ = some (.slice Av nv cv) := HK2.out.cell 5
      have c6 : (wr.alloc (.cells #[.int .i64 x, .int .i64 y] 74)).cell? ⟨w.heap.size, 6, none⟩ = some (.int .i64 cl) := HK2.out.cell 6
      have c7 : (wr.alloc (.cells #[.int .i64 x, .int .i64 y] 74)).cell? ⟨w.heap.size, 7, none⟩ = some (.slice (some ⟨b, off, none⟩) nt ct) := HK2.out.cell 7
      clear hg hb2
      go_wp2_with (fail)
      (with_reducible refine HW.out.mono ?_)
      rintro e w3 ⟨rfl, hb3⟩
      have HB3 := Lib.hid (up HB2.out hb3)
      have HB1 := Lib.hid (up HB.out HB3.out)
      have v0 : w3.cell? ⟨wr.heap.size, 0, none⟩ = some (.int .i64 x) := (HV2.out.below hb3 HV2.out.lt).cell 0
      have v1 : w3.cell? ⟨wr.heap.size, 1, none⟩ = some (.int .i64 y) := (HV2.out.below hb3 HV2.out.lt).cell 1
      have k6 : w3.cell? ⟨w.heap.size, 6, none⟩ = some (.int .i64 cl) := (HK2.out.below hb3 HK2.out.lt).cell 6
      clear hb3 HW c0 c1 c2 c3 c4 c5 c6 c7 hc0 hc1
      cases bw with
      | false =>
        have HX := Lib.hid (has_no1 HG.out (show tmI ns fs ms cl (x, y) = false by rw [htm]; rfl))
        clear htm
        go_wp2
        go_ret
        exact ⟨by rw [HX.out]; rfl, HB1.out⟩
      | true =>
        by_cases h1 : y ≤ cl
        · have HX := Lib.hid (has_no1 HG.out (show tmI ns fs ms cl (x, y) = false by rw [htm, decide_eq_false (show ¬ cl < y by omega)]; rfl))
          have d1 : decide (y ≤ cl) = true := decide_eq_true h1
          clear htm h1
          go_wp2
          go_ret
          exact ⟨by rw [HX.out]; rfl, HB1.out⟩
        · by_cases h2 : 10099 < y
          · have HX := Lib.hid (has_no1 HG.out (show tmI ns fs ms cl (x, y) = false by rw [htm, decide_eq_false (show ¬ y ≤ 10099 by omega), Bool.and_false]))
            have d1 : decide (y ≤ cl) = false := decide_eq_false h1
            have d2 : decide (10099 < y) = true := decide_eq_true h2
            clear htm h1 h2
            go_wp2
            go_ret
            exact ⟨by rw [HX.out]; rfl, HB1.out⟩
          · have HY := Lib.hid (show tmI ns fs ms cl (x, y) = true by rw [htm, decide_eq_true (show cl < y by omega), decide_eq_true (show y ≤ 10099 by omega)]; rfl)
            have HS2 := Lib.hid (show (ts.take (k + 1)).all (tmI ns fs ms cl) = true by rw [take_snoc HG.out, List.all_append, HS.out]; simp [HY.out])
            have d1 : decide (y ≤ cl) = false := decide_eq_false h1
            have d2 : decide (10099 < y) = false := decide_eq_false h2
            clear htm h1 h2
            go_wp2
            go_roundw
            case rel => exact ⟨k + 1, by omega, by go_num, HS2, HB3⟩
            case measure => simp [intOf]; omega
    · obtain rfl : k = nt := by omega
      have HA := Lib.hid (show ts.all (tmI ns fs ms cl) = true by have := HS.out; rwa [List.take_of_length_le (by rw [HL.out]; exact Nat.le_refl _)] at this)
      have HN2 := Lib.hid (HN.out.keep HBR.out)
      have HT2 := Lib.hid (rd_up HT.out HBR.out)
      have HK2 := Lib.hid (HK.out.below HBR.out (by omega))
      have HC := Lib.hid (timersByNode_any An nn cn ns Af lf cf fs bo bi mb m ms Av nv cv cl At k ct ts wr HT2.out hnt (fun t h => by have := tmI_in ((List.all_eq_true.1 HA.out) t h); have := HNL.out; unfold in64; omega))
      have c0 : wr.cell? ⟨w.heap.size, 0, none⟩ = some (.slice An nn cn) := HK2.out.cell 0
      have c1 : wr.cell? ⟨w.heap.size, 1, none⟩ = some (.slice Af lf cf) := HK2.out.cell 1
      have c2 : wr.cell? ⟨w.heap.size, 2, none⟩ = some (.map (some bo)) := HK2.out.cell 2
      have c3 : wr.cell? ⟨w.heap.size, 3, none⟩ = some (.map (some bi)) := HK2.out.cell 3
      have c4 : wr.cell? ⟨w.heap.size, 4, none⟩ = some (.map (some mb)) := HK2.out.cell 4
      have c5 : wr.cell? ⟨w.heap.size, 5, none⟩ = some (.slice Av nv cv) := HK2.out.cell 5
      have c6 : wr.cell? ⟨w.heap.size, 6, none⟩ = some (.int .i64 cl) := HK2.out.cell 6
      have c7 : wr.cell? ⟨w.heap.size, 7, none⟩ = some (.slice At k ct) := HK2.out.cell 7
      go_wp2_with (fail)
      (with_reducible refine HC.out.mono ?_)
      rintro e w3 ⟨hbk, rfl, him, hmb, hb3⟩
      clear c0 c1 c2 c3 c4 c5 c6 c7 HC
      have HN3 := Lib.hid (HN2.out.keep hb3)
      have HT3 := Lib.hid (rd_up HT2.out hb3)
      have HK3 := Lib.hid (HK2.out.below hb3 HK2.out.lt)
      have HB3 := Lib.hid (up HB.out (up HBR.out hb3))
      have HM3 := Lib.hid him
      have hkl := HK3.out.lt
      clear him hb3 HN HT HK HB HN2 HT2 HK2 HBR HS
      have c0 : w3.cell? ⟨w.heap.size, 0, none⟩ = some (.slice An nn cn) := HK3.out.cell 0
      have c1 : w3.cell? ⟨w.heap.size, 1, none⟩ = some (.slice Af lf cf) := HK3.out.cell 1
      have c2 : w3.cell? ⟨w.heap.size, 2, none⟩ = some (.map (some bo)) := HK3.out.cell 2
      have c3 : w3.cell? ⟨w.heap.size, 3, none⟩ = some (.map (some bi)) := HK3.out.cell 3
      have c4 : w3.cell? ⟨w.heap.size, 4, none⟩ = some (.map (some mb)) := HK3.out.cell 4
      have c5 : w3.cell? ⟨w.heap.size, 5, none⟩ = some (.slice Av nv cv) := HK3.out.cell 5
      have c6 : w3.cell? ⟨w.heap.size, 6, none⟩ = some (.int .i64 cl) := HK3.out.cell 6
      have c7 : w3.cell? ⟨w.heap.size, 7, none⟩ = some (.slice At k ct) := HK3.out.cell 7
      go_wp2
      clear c0 c1 c2 c3 c4 c5 c6 c7
      go_loopw [40] (fun iv wr => ∃ (j : Nat), j ≤ nn ∧ iv = .int .i64 j ∧ Hid ((List.range j).all (fun k => !lackAt ns fs ms ts k) = true) ∧ Hid (Below w3.heap.size w3 wr))
         (fun iv _ => nn - (intOf iv).toNat)
      case atStart => exact ⟨0, by omega, rfl, rfl, Below.refl _ _⟩
      case round =>
        obtain ⟨j, hj, rfl, HS, HBQ⟩ := hrel
        have hsq := HBQ.out.size
        by_cases hlt : j < nn
        · obtain ⟨b, off, x, y, hA, _, _, hg, hc0, hc1⟩ := (HN3.out.keep HBQ.out).nodes.pair hlt
          subst hA
          have HG := Lib.hid hg
          have HX0 := Lib.hid (kindAt_is hg)
          have hb2 := up_alloc (Below.refl _ wr) (.cells #[.int .i64 x, .int .i64 y] 87)
          have HB2 := Lib.hid (up HBQ.out hb2)
          have HK2 := Lib.hid (HK3.out.below HB2.out HK3.out.lt)
          have HV2 := Lib.hid (Blk.new wr 87 #[.int .i64 x, .int .i64 y])
          have HBW := Lib.hid (up HB3.out HB2.out)
          have hj1 : (j : Int) < (nn : Int) := by omega
          have hj0 : (0 : Int) ≤ (j : Int) := by omega
          have hk64 : in64 (j : Int) := by unfold in64; omega
          clear hg
          by_cases hx : x = 3
          · subst hx
            have HN4 := Lib.hid (HN3.out.keep HB2.out)
            have HM4 := Lib.hid (HM3.out.keep HB2.out HM3.out.lt)
            have hwl : (wr.alloc (.cells #[.int .i64 3, .int .i64 y] 87)).heap.size = wr.heap.size + 1 := by simp
            have HLA := Lib.hid (show lackAt ns fs ms ts j = !((tAt ts (j : Int) : Int) == waitAt fs ms (j : Int)) by unfold lackAt; rw [HX0.out]; rfl)
            go_wp2_with (fail)
            generalize wr.alloc (.cells #[.int .i64 3, .int .i64 y] 87) = w4 at *
            have HCW := Lib.hid (show ∀ wx, Below w4.heap.size w4 wx → Calls Try.prog 67 #[.agg #[.slice (some ⟨b, off, none⟩) nn cn, .slice Af lf cf, .map (some bo), .map (some bi), .map (some mb), .slice Av nv cv, .int .i64 cl, .slice At k ct], .int .i64 (j : Int)] wx fun e w' => e = .returned (.int .i64 (waitAt fs ms (j : Int))) ∧ Below w4.heap.size w4 w' from fun wx hb => (waiting_any (some ⟨b, off, none⟩) nn cn ns Af lf cf fs bo bi mb m ms Av nv cv cl At k ct j 3 y wx (HN4.out.keep hb) HG.out (.inr (.inl rfl)) (by omega)).mono fun e w' h => ⟨h.1, up hb h.2⟩)
            have HSW := Lib.hid (show ∀ wx, Below w4.heap.size w4 wx → ((wx.cell? ⟨w.heap.size, 0, none⟩ = some (.slice (some ⟨b, off, none⟩) nn cn) ∧ wx.cell? ⟨w.heap.size, 1, none⟩ = some (.slice Af lf cf) ∧ wx.cell? ⟨w.heap.size, 2, none⟩ = some (.map (some bo)) ∧ wx.cell? ⟨w.heap.size, 3, none⟩ = some (.map (some bi)) ∧ wx.cell? ⟨w.heap.size, 4, none⟩ = some (.map (some mb)) ∧ wx.cell? ⟨w.heap.size, 5, none⟩ = some (.slice Av nv cv) ∧ wx.cell? ⟨w.heap.size, 6, none⟩ = some (.int .i64 cl) ∧ wx.cell? ⟨w.heap.size, 7, none⟩ = some (.slice At k ct)) ∧ wx.cell? ⟨wr.heap.size, 0, none⟩ = some (.int .i64 3) ∧ (Instr.lookup 60 (.map (some hbk)) (.int .i64 (j : Int)) false).run Try.prog wx = .ok (.int .i64 (tAt ts (j : Int) : Nat)) wx) from fun wx hb => ⟨⟨(HK2.out.below hb HK2.out.lt).cell 0, (HK2.out.below hb HK2.out.lt).cell 1, (HK2.out.below hb HK2.out.lt).cell 2, (HK2.out.below hb HK2.out.lt).cell 3, (HK2.out.below hb HK2.out.lt).cell 4, (HK2.out.below hb HK2.out.lt).cell 5, (HK2.out.below hb HK2.out.lt).cell 6, (HK2.out.below hb HK2.out.lt).cell 7⟩, (HV2.out.below hb HV2.out.lt).cell 0, by
              have := (HM4.out.keep hb HM4.out.lt).look keyedInt Try.underlying3 Try.underlying60 (zeroIntR wx) hk64 rfl
              rwa [cntAt_get] at this⟩)
            generalize waitAt fs ms (j : Int) = wa at *
            generalize tAt ts (j : Int) = ta at *
            by_cases hne : (ta : Int) = wa
            · have HS2 := Lib.hid (all_snoc HS.out (show (!lackAt ns fs ms ts j) = true by rw [HLA.out]; simp [hne]))
              have dn : ((ta : Int) != wa) = false := by simp [hne]
              clear hne
              obtain ⟨⟨e0, e1, e2, e3, e4, e5, e6, e7⟩, n0, l0⟩ := HSW.out _ (Below.refl _ _)
              clear e0 e1 e2 e3 e4 e5 e6 e7 n0 l0
              go_region_held3 (fun wx => (wx.cell? ⟨w.heap.size, 0, none⟩ = some (.slice (some ⟨b, off, none⟩) nn cn) ∧ wx.cell? ⟨w.heap.size, 1, none⟩ = some (.slice Af lf cf) ∧ wx.cell? ⟨w.heap.size, 2, none⟩ = some (.map (some bo)) ∧ wx.cell? ⟨w.heap.size, 3, none⟩ = some (.map (some bi)) ∧ wx.cell? ⟨w.heap.size, 4, none⟩ = some (.map (some mb)) ∧ wx.cell? ⟨w.heap.size, 5, none⟩ = some (.slice Av nv cv) ∧ wx.cell? ⟨w.heap.size, 6, none⟩ = some (.int .i64 cl) ∧ wx.cell? ⟨w.heap.size, 7, none⟩ = some (.slice At k ct)) ∧ wx.cell? ⟨wr.heap.size, 0, none⟩ = some (.int .i64 3) ∧ (Instr.lookup 60 (.map (some hbk)) (.int .i64 (j : Int)) false).run Try.prog wx = .ok (.int .i64 (ta : Nat)) wx)
                (first | with_reducible exact HSW.out _ (Below.refl _ _) | with_reducible exact HSW.out _ (up_drew (Below.refl _ _)) | with_reducible exact HSW.out _ HX1.out)
                ((first
                  | (go_at_call 67; (with_reducible refine (HCW.out _ (up_drew (Below.refl _ _))).mono ?_); rintro e x1 ⟨rfl, hbx⟩; have HX1 := Lib.hid hbx; clear hbx)
                  | (go_at_call 67; (with_reducible refine (HCW.out _ (Below.refl _ _)).mono ?_); rintro e x1 ⟨rfl, hbx⟩; have HX1 := Lib.hid hbx; clear hbx)
                  | fail "no arm"))
              all_goals
                have HB5 := Lib.hid (up HB2.out HX1.out)
                clear HSW HCW
                go_wp2
                go_roundw
                case rel => exact ⟨j + 1, by omega, by go_num, HS2, HB5⟩
                case measure => simp [intOf]; omega
            · have HX := Lib.hid (has_no2 (cl := cl) (by rw [HNL.out]; exact hlt) (show lackAt ns fs ms ts j = true by rw [HLA.out]; simp [hne]))
              have dn : ((ta : Int) != wa) = true := by simpa using hne
              clear hne
              obtain ⟨⟨e0, e1, e2, e3, e4, e5, e6, e7⟩, n0, l0⟩ := HSW.out _ (Below.refl _ _)
              clear e0 e1 e2 e3 e4 e5 e6 e7 n0 l0
              go_region_held3 (fun wx => (wx.cell? ⟨w.heap.size, 0, none⟩ = some (.slice (some ⟨b, off, none⟩) nn cn) ∧ wx.cell? ⟨w.heap.size, 1, none⟩ = some (.slice Af lf cf) ∧ wx.cell? ⟨w.heap.size, 2, none⟩ = some (.map (some bo)) ∧ wx.cell? ⟨w.heap.size, 3, none⟩ = some (.map (some bi)) ∧ wx.cell? ⟨w.heap.size, 4, none⟩ = some (.map (some mb)) ∧ wx.cell? ⟨w.heap.size, 5, none⟩ = some (.slice Av nv cv) ∧ wx.cell? ⟨w.heap.size, 6, none⟩ = some (.int .i64 cl) ∧ wx.cell? ⟨w.heap.size, 7, none⟩ = some (.slice At k ct)) ∧ wx.cell? ⟨wr.heap.size, 0, none⟩ = some (.int .i64 3) ∧ (Instr.lookup 60 (.map (some hbk)) (.int .i64 (j : Int)) false).run Try.prog wx = .ok (.int .i64 (ta : Nat)) wx)
                (first | with_reducible exact HSW.out _ (Below.refl _ _) | with_reducible exact HSW.out _ (up_drew (Below.refl _ _)) | with_reducible exact HSW.out _ HX1.out)
                ((first
                  | (go_at_call 67; (with_reducible refine (HCW.out _ (up_drew (Below.refl _ _))).mono ?_); rintro e x1 ⟨rfl, hbx⟩; have HX1 := Lib.hid hbx; clear hbx)
                  | (go_at_call 67; (with_reducible refine (HCW.out _ (Below.refl _ _)).mono ?_); rintro e x1 ⟨rfl, hbx⟩; have HX1 := Lib.hid hbx; clear hbx)
                  | fail "no arm"))
              all_goals
                have HB5 := Lib.hid (up HBW.out HX1.out)
                clear HSW HCW
                go_wp2
                go_ret
                exact ⟨by rw [HX.out]; rfl, HB5.out⟩
          · have HS2 := Lib.hid (all_snoc HS.out (show (!lackAt ns fs ms ts j) = true by unfold lackAt; rw [HX0.out]; simp [hx]))
            have dx : (x == 3) = false := by simpa using hx
            clear hx
            go_wp2_with (fail)
            generalize wr.alloc (.cells #[.int .i64 x, .int .i64 y] 87) = w4 at *
            have n0 : w4.cell? ⟨wr.heap.size, 0, none⟩ = some (.int .i64 x) := HV2.out.cell 0
            go_quiet (fail)
            have HB5 := Lib.hid (up_drewN HB2.out)
            go_wp2
            go_roundw
            case rel => exact ⟨j + 1, by omega, by go_num, HS2, HB5.out _⟩
            case measure => simp [intOf]; omega
        · obtain rfl : j = nn := by omega
          have HX := Lib.hid (has_yes HA.out (show (List.range ns.length).all (fun k => !lackAt ns fs ms ts k) = true by rw [HNL.out]; exact HS.out))
          have HC := Lib.hid (isSortedT_any 0 _ k ct At ts wr (rd_up HT3.out HBQ.out) (Nat.le_refl _) hnt)
          have HK4 := Lib.hid (HK3.out.below HBQ.out hkl)
          have c7 : wr.cell? ⟨w.heap.size, 7, none⟩ = some (.slice At k ct) := HK4.out.cell 7
          go_wp2_with (fail)
          (with_reducible refine HC.out.mono ?_)
          rintro e w5 ⟨rfl, hb5⟩
          have HB5 := Lib.hid (up HB3.out (up HBQ.out hb5))
          clear hb5 HC c7
          go_wp2
          go_ret
          exact ⟨by rw [HX.out]; rfl, HB5.out⟩
end Go.Proofs.Ytknphikoikdcjaa
