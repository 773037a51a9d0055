/- impl.MoveMarks. (Written by gen/movek.py.) -/
import Derived.Test.YtmhbfdcikdhehaaMoveJ
import Derived.Test.YtmhbfdcikdhehaaMoveS
set_option linter.unusedSimpArgs false
set_option linter.unusedVariables false
namespace Go.Proofs.Ytmhbfdcikdhehaa
open Go.RowKit

theorem someAt_get {ms : List Int} {i : Nat} (h : i < ms.length) : (someAt ms (i : Int)).getD (.int .i64 0) = .int .i64 (ms.getD i 0) := by
  unfold someAt
  have h1 : (0 : Int) ≤ (i : Int) := by omega
  simp only [h1, if_true, Int.toNat_natCast, List.getD_eq_getElem?_getD, List.getElem?_eq_getElem h, Option.getD_some]
  by_cases h0 : ms[i] = 0
  · rw [if_pos h0, h0]; rfl
  · rw [if_neg h0]; rfl
theorem marks_len0 {fs : List Flw} {ms : List Int} (h : vMarks fs ms = true) : ms.length = fs.length := by
  unfold vMarks at h; rw [Bool.and_eq_true, decide_eq_true_eq] at h; exact h.1
theorem mv_range (l : List Int) : (List.range l.length).map (fun i => l.getD i 0) = l := by
  apply List.ext_getElem?
  intro i
  by_cases hi : i < l.length
  · rw [List.getElem?_map, List.getElem?_range hi]
    show some (l.getD i 0) = l[i]?
    rw [List.getD_eq_getElem?_getD, List.getElem?_eq_getElem hi]; rfl
  · rw [List.getElem?_eq_none (by simp; omega), List.getElem?_eq_none (by omega)]
theorem move_len (ns : List (Int × Int)) (fs : List Flw) (ns' : List (Int × Int)) (gs : List Flw) (fl ms : List Int) : ((moveOf ns fs ns' gs fl ms).getD []).length ≤ gs.length := by
  unfold moveOf
  split
  · show (movedTo fl ms gs.length).length ≤ gs.length
    rw [moved_len]; exact Nat.le_refl _
  · simp
set_option maxRecDepth 100000 in
set_option maxHeartbeats 6400000 in
theorem MoveMarksI_any (lo hi nn cn : Nat) (An : Option Addr) (ns : List (Int × Int)) (lo1 hi1 lf cf : Nat) (Af : Option Addr) (fs : List Flw) (lo2 hi2 nq cq : Nat) (Aq : Option Addr) (nsq : List (Int × Int)) (lo3 hi3 lg cg : Nat) (Ag : Option Addr) (gs : List Flw)
    (lo4 hi4 n4 c4 : Nat) (A4 : Option Addr) (fl : List Int) (lo5 hi5 n5 c5 : Nat) (A5 : Option Addr) (ms : List Int) (w : World)
    (hrn : Rd w lo hi 2 An nn (pvs ns)) (hB : hi ≤ w.heap.size) (hnn : nn ≤ 1048576) (hr : Fls w lo1 hi1 Af lf fs) (hB1 : hi1 ≤ w.heap.size) (hn : lf ≤ 1048576)
    (hrq : Rd w lo2 hi2 2 Aq nq (pvs nsq)) (hB2 : hi2 ≤ w.heap.size) (hnq : nq ≤ 1048576) (hrg : Fls w lo3 hi3 Ag lg gs) (hB3 : hi3 ≤ w.heap.size) (hng : lg ≤ 1048576)
    (h4 : Rd w lo4 hi4 1 A4 n4 (ivs fl)) (hB4 : hi4 ≤ w.heap.size) (hn4 : n4 ≤ 1048576) (h5 : Rd w lo5 hi5 1 A5 n5 (ivs ms)) (hB5 : hi5 ≤ w.heap.size) (hn5 : n5 ≤ 1048576) :
    Calls Try.prog 10 #[.agg #[.slice An nn cn, .slice Af lf cf], .agg #[.slice Aq nq cq, .slice Ag lg cg], .slice A4 n4 c4, .slice A5 n5 c5] w (MvB ((moveOf ns fs nsq gs fl ms).getD []) (moveOf ns fs nsq gs fl ms).isSome w) := by
  have hb1 := up_alloc (up_alloc (Below.refl _ w) (.cells #[.slice An nn cn, .slice Af lf cf] 26)) (.cells #[.slice Aq nq cq, .slice Ag lg cg] 26)
  have hp1 := (Blk.new w 26 #[.slice An nn cn, .slice Af lf cf]).alloc (.cells #[.slice Aq nq cq, .slice Ag lg cg] 26)
  have hq1 := Blk.new (w.alloc (.cells #[.slice An nn cn, .slice Af lf cf] 26)) 26 #[.slice Aq nq cq, .slice Ag lg cg]
  have hs0 : (w.alloc (.cells #[.slice An nn cn, .slice Af lf cf] 26)).heap.size = w.heap.size + 1 := by simp
  rw [hs0] at hq1
  have hs1 : ((w.alloc (.cells #[.slice An nn cn, .slice Af lf cf] 26)).alloc (.cells #[.slice Aq nq cq, .slice Ag lg cg] 26)).heap.size = w.heap.size + 1 + 1 := by simp
  have HF := Lib.hid hr.1
  have HG := Lib.hid hrg.1
  have HL4 := Lib.hid h4.len1
  have HL5 := Lib.hid h5.len1
  have HC := Lib.hid (migrationOf_any lo hi nn cn An ns lo1 hi1 lf cf Af fs lo2 hi2 nq cq Aq nsq lo3 hi3 lg cg Ag gs lo4 hi4 n4 c4 A4 fl _ (hrn.keep hb1 hB) (by omega) hnn (hr.keep hb1 hB1) (by omega) hn (hrq.keep hb1 hB2) (by omega) hnq (hrg.keep hb1 hB3) (by omega) hng (h4.keep hb1 hB4) (by omega) hn4)
  go_enter Try.func10, Try.ntmps10
  go_wp2_with (fail)
  (with_reducible refine HC.out.mono ?_)
  clear HC
  rintro e w1 (⟨hbad, rfl, hb2⟩ | ⟨hV, hV2, hVM, x2, x3, y2, y3, fb, fm, rfl, hfm, _, hfb, hb2⟩)
  · have hs2 := hb2.size
    rw [hs1] at hs2
    have HB := Lib.hid (up_alloc (up hb1 hb2) (.cells #[.slice none 0 0, .slice none 0 0, .map none, .map none, .slice none 0 0, .slice none 0 0, .map none, .map none, .map none] 73))
    have HP := Lib.hid ((hp1.below hb2 (by omega)).alloc (.cells #[.slice none 0 0, .slice none 0 0, .map none, .map none, .slice none 0 0, .slice none 0 0, .map none, .map none, .map none] 73))
    have HX := Lib.hid (show moveOf ns fs nsq gs fl ms = none by unfold moveOf; rw [hbad]; rfl)
    have k0 := HP.out.cell 0
    have k1 := HP.out.cell 1
    simp only [List.getElem?_toArray, List.getElem?_cons_zero, List.getElem?_cons_succ] at k0 k1
    have HC := Lib.hid (countersOf_any lo hi nn cn An ns lo1 hi1 lf cf Af fs lo5 hi5 n5 c5 A5 ms _ (hrn.keep HB.out hB) (Nat.le_trans hB HB.out.size) hnn (hr.keep HB.out hB1) (Nat.le_trans hB1 HB.out.size) hn (h5.keep HB.out hB5) (Nat.le_trans hB5 HB.out.size) hn5)
    clear hb1 hb2 hp1 hq1 hbad
    go_wp2_with (fail)
    (with_reducible refine HC.out.mono ?_)
    clear HC k0 k1
    rintro e w2 (⟨_, rfl, hb3⟩ | ⟨_, _, bo, bi, mb, m, rfl, _, _, _, _, _, hb3⟩)
    · have HBX := Lib.hid (up_alloc (up HB.out hb3) (.cells #[.slice none 0 0, .slice none 0 0, .map none, .map none] 69))
      clear hb3 HB HP
      go_wp2
      exact bodyPost_ret (v := .tuple #[.slice none 0 0, .bool false]) (by simp [results, Try.results10, go_sem]) rfl (MvB.none HX.out HBX.out)
    · have HBX := Lib.hid (up_alloc (up HB.out hb3) (.cells #[.slice An nn cn, .slice Af lf cf, .map (some bo), .map (some bi)] 69))
      clear hb3 HB HP
      go_wp2
      exact bodyPost_ret (v := .tuple #[.slice none 0 0, .bool false]) (by simp [results, Try.results10, go_sem]) rfl (MvB.none HX.out HBX.out)
  · have hs2 := hb2.size
    rw [hs1] at hs2
    have HB := Lib.hid (up_alloc (up hb1 hb2) (.cells #[.slice An nn cn, .slice Af lf cf, .map x2, .map x3, .slice Aq nq cq, .slice Ag lg cg, .map y2, .map y3, .map (some fb)] 73))
    have HP := Lib.hid ((hp1.below hb2 (by omega)).alloc (.cells #[.slice An nn cn, .slice Af lf cf, .map x2, .map x3, .slice Aq nq cq, .slice Ag lg cg, .map y2, .map y3, .map (some fb)] 73))
    have HQ := Lib.hid ((hq1.below hb2 (by omega)).alloc (.cells #[.slice An nn cn, .slice Af lf cf, .map x2, .map x3, .slice Aq nq cq, .slice Ag lg cg, .map y2, .map y3, .map (some fb)] 73))
    have HM := Lib.hid (Blk.new w1 73 #[.slice An nn cn, .slice Af lf cf, .map x2, .map x3, .slice Aq nq cq, .slice Ag lg cg, .map y2, .map y3, .map (some fb)])
    have HFM := Lib.hid (hfm.alloc (.cells #[.slice An nn cn, .slice Af lf cf, .map x2, .map x3, .slice Aq nq cq, .slice Ag lg cg, .map y2, .map y3, .map (some fb)] 73))
    have hsm : (w1.alloc (.cells #[.slice An nn cn, .slice Af lf cf, .map x2, .map x3, .slice Aq nq cq, .slice Ag lg cg, .map y2, .map y3, .map (some fb)] 73)).heap.size = w1.heap.size + 1 := by simp
    have HV := Lib.hid hV
    have HV2 := Lib.hid hV2
    have HVM := Lib.hid hVM
    have k0 := HP.out.cell 0
    have k1 := HP.out.cell 1
    simp only [List.getElem?_toArray, List.getElem?_cons_zero, List.getElem?_cons_succ] at k0 k1
    have HC := Lib.hid (countersOf_any lo hi nn cn An ns lo1 hi1 lf cf Af fs lo5 hi5 n5 c5 A5 ms _ (hrn.keep HB.out hB) (Nat.le_trans hB HB.out.size) hnn (hr.keep HB.out hB1) (Nat.le_trans hB1 HB.out.size) hn (h5.keep HB.out hB5) (Nat.le_trans hB5 HB.out.size) hn5)
    clear hb1 hb2 hp1 hq1 hV hV2 hVM hfm
    go_wp2_with (fail)
    (with_reducible refine HC.out.mono ?_)
    clear HC k0 k1
    rintro e w2 (⟨hbad, rfl, hb3⟩ | ⟨_, hVK, bo, bi, mb, m, rfl, _, _, him, hm14, hmb, hb3⟩)
    · have HBX := Lib.hid (up_alloc (up HB.out hb3) (.cells #[.slice none 0 0, .slice none 0 0, .map none, .map none] 69))
      have HX := Lib.hid (show moveOf ns fs nsq gs fl ms = none from moveOf_no (.inr (.inr (.inr (.inl (by rw [HV.out, Bool.true_and] at hbad; exact hbad))))))
      clear hb3 HB HP HQ HM HFM hbad
      go_wp2
      exact bodyPost_ret (v := .tuple #[.slice none 0 0, .bool false]) (by simp [results, Try.results10, go_sem]) rfl (MvB.none HX.out HBX.out)
    have hs3 := hb3.size
    rw [hsm] at hs3
    have HB4 := Lib.hid (up_alloc (up HB.out hb3) (.cells #[.slice An nn cn, .slice Af lf cf, .map (some bo), .map (some bi)] 69))
    have HQ4 := Lib.hid ((HQ.out.below hb3 (by omega)).alloc (.cells #[.slice An nn cn, .slice Af lf cf, .map (some bo), .map (some bi)] 69))
    have HM4 := Lib.hid ((HM.out.below hb3 (by omega)).alloc (.cells #[.slice An nn cn, .slice Af lf cf, .map (some bo), .map (some bi)] 69))
    have HFM4 := Lib.hid ((HFM.out.keep hb3 HFM.out.lt).alloc (.cells #[.slice An nn cn, .slice Af lf cf, .map (some bo), .map (some bi)] 69))
    have HIM4 := Lib.hid (him.alloc (.cells #[.slice An nn cn, .slice Af lf cf, .map (some bo), .map (some bi)] 69))
    have HVK := Lib.hid hVK
    have hlg14 := (vProc_len HV2.out).2.2
    have hlf14 := (vProc_len HV.out).2.2
    have hmk := marks_len0 hVK
    obtain ⟨hvl, hvf⟩ := vMap_iff.1 HVM.out
    have H03 := Lib.hid (show ∀ z ∈ ms, 0 ≤ z ∧ z ≤ 3 from fun z hz => by
      simp only [vMarks, Bool.and_eq_true] at hVK
      exact inR_iff.1 (List.all_eq_true.1 hVK.2 z hz))
    have HC := Lib.hid (tokensI_any (.slice An nn cn) (.slice Af lf cf) (.map x2) (.map x3) (.slice Aq nq cq) (.slice Ag lg cg) (.map y2) (.map y3) fb fm mb m fl ms lg _ HFM4.out HIM4.out H03.out (by omega) hm14 (by omega) (fun f hf => by have := hvf f hf; have := HG.out; omega) (by have := HG.out; omega))
    have m0 := HM4.out.cell 0
    have m1 := HM4.out.cell 1
    have m2 := HM4.out.cell 2
    have m3 := HM4.out.cell 3
    have m4 := HM4.out.cell 4
    have m5 := HM4.out.cell 5
    have m6 := HM4.out.cell 6
    have m7 := HM4.out.cell 7
    have m8 := HM4.out.cell 8
    simp only [List.getElem?_toArray, List.getElem?_cons_zero, List.getElem?_cons_succ] at m0 m1 m2 m3 m4 m5 m6 m7 m8
    clear hb3 HB HP HQ HM HFM him hVK
    go_wp2_with (fail)
    (with_reducible refine HC.out.mono ?_)
    clear HC m0 m1 m2 m3 m4 m5 m6 m7 m8
    rintro e w5 (⟨hpl, rfl, hb5⟩ | ⟨hpl, nb, n, rfl, hnm, hnb, hb5⟩)
    · have HBX := Lib.hid (up HB4.out hb5)
      have HX := Lib.hid (show moveOf ns fs nsq gs fl ms = none from moveOf_no (.inr (.inr (.inr (.inr (.inl hpl))))))
      clear hb5 hpl
      go_wp2
      exact bodyPost_ret (v := .tuple #[.slice none 0 0, .bool false]) (by simp [results, Try.results10, go_sem]) rfl (MvB.none HX.out HBX.out)
    have HPL := Lib.hid hpl
    have hmm := most_marks (fs := gs) (ms := movedTo fl ms lg) (by rw [moved_len, HG.out]) (moved_nonneg (by omega) H03.out)
    have HB5 := Lib.hid (up HB4.out hb5)
    have HQ5 := Lib.hid (HQ4.out.below hb5 (by simp; omega))
    cases hvk : decide (maxOf (movedTo fl ms lg) ≤ 3) with
    | false =>
      have HX := Lib.hid (show moveOf ns fs nsq gs fl ms = none from moveOf_no (.inr (.inr (.inr (.inr (.inr (by rw [HG.out, hmm, hvk])))))))
      have HBX := Lib.hid HB5.out
      clear hb5 hpl hmm hvk
      go_wp2
      exact bodyPost_ret (v := .tuple #[.slice none 0 0, .bool false]) (by simp [results, Try.results10, go_sem]) rfl (MvB.none HX.out HBX.out)
    | true =>
      have HX := Lib.hid (show moveOf ns fs nsq gs fl ms = some (movedTo fl ms lg) from by
        rw [← HG.out]
        exact moveOf_yes HV.out HV2.out HVM.out HVK.out HPL.out (by rw [HG.out, hmm, hvk]))
      have HLS := Lib.hid (list_any nb n lg (someAt (movedTo fl ms lg)) (fun i => (movedTo fl ms lg).getD i 0) w5 hnm (fun i hi => someAt_get (by rw [moved_len]; exact hi)) hng)
      have hrg := mv_range (movedTo fl ms lg)
      have hml := moved_len fl ms lg
      rw [hml] at hrg
      have HRG := Lib.hid hrg
      have HML := Lib.hid hml
      have q1 := HQ5.out.cell 1
      simp only [List.getElem?_toArray, List.getElem?_cons_zero, List.getElem?_cons_succ] at q1
      clear hb5 hpl hmm hvk hnm hrg hml
      generalize movedTo fl ms lg = nx at *
      go_wp2_with (fail)
      (with_reducible refine HLS.out.mono ?_)
      clear HLS
      rw [HRG.out]
      rintro e w6 ⟨Ar, cr, rfl, hcr, hrr, hsr, hb6⟩
      have HB6 := Lib.hid (up HB5.out hb6)
      have HRR := Lib.hid hrr
      have HSR := Lib.hid hsr
      clear hb6 hrr hsr q1
      go_wp2
      refine bodyPost_ret (v := .tuple #[.slice Ar lg cr, .bool true]) (by simp [results, Try.results10, go_sem]) rfl ?_
      rw [HX.out]
      refine ⟨Ar, cr, by rw [Option.getD_some, HML.out]; rfl, by rw [Option.getD_some, HML.out]; exact hcr, ?_, ?_, HB6.out⟩
      · rw [Option.getD_some, HML.out]; exact HRR.out.wide HB5.out.size (Nat.le_refl _)
      · rw [Option.getD_some, HML.out]; exact HSR.out
end Go.Proofs.Ytmhbfdcikdhehaa
