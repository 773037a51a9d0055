/- The reference's MoveMarks. -/
import Derived.Test.YtmhbfdcikdhehaaMoveMath
import Derived.Test.YtmhbfdcikdhehaaTokReadyS
set_option linter.unusedSimpArgs false
set_option linter.unusedVariables false
namespace Go.Proofs.Ytmhbfdcikdhehaa
open Go.RowKit

/-- A list and whether it is one. -/
def MvB (l : List Int) (b : Bool) (w : World) (e : Ending) (w' : World) : Prop :=
  ∃ A c, e = .returned (.tuple #[.slice A l.length c, .bool b]) ∧ l.length ≤ c ∧ Rd w' w.heap.size w'.heap.size 1 A l.length (ivs l) ∧ Soft w' 1 A l.length ∧ Below w.heap.size w w'
theorem MvB.none {w w' : World} {r : Option (List Int)} (hr : r = Option.none) (hb : Below w.heap.size w w') : MvB (r.getD []) r.isSome w (.returned (.tuple #[.slice Option.none 0 0, .bool false])) w' := by
  subst hr
  exact ⟨Option.none, 0, rfl, Nat.le_refl _, Rd.nil _ _ _ _ _, (fun b off e j hj => by simp at hj), hb⟩
set_option maxRecDepth 100000 in
set_option maxHeartbeats 800000 in
theorem validMap_any (vn vn' : Value) (lf cf lg cg lo hi n c : Nat) (Af Ag A : Option Addr) (fs gs : List Flw) (fl : List Int) (w : World) (hf : fs.length = lf) (hg : gs.length = lg) (hlg : lg ≤ 1048576) (hr : Rd w lo hi 1 A n (ivs fl)) (hB : hi ≤ w.heap.size) (hn : n ≤ 1048576) :
    Calls Try.prog 39 #[.agg #[vn, .slice Af lf cf], .agg #[vn', .slice Ag lg cg], .slice A n c] w fun e w' => e = .returned (.bool (vMap fs gs fl)) ∧ Below w.heap.size w w' := by
  have hb1 := up_alloc (up_alloc (Below.refl _ w) (.cells #[vn, .slice Af lf cf] 26)) (.cells #[vn', .slice Ag lg cg] 26)
  have HB := Lib.hid hb1
  have HL := Lib.hid hr.len1
  by_cases hne : n = lf
  · subst hne
    have HA := Lib.hid (allIn_any lo hi n c A fl (-1) ((lg : Int) - 1) _ (hr.keep hb1 hB) (by omega))
    have HX := Lib.hid (show vMap fs gs fl = allR fl (-1) ((lg : Int) - 1) by simp [vMap, allR, HL.out, hf, hg])
    have hwr : IntKind.i64.wrap ((lg : Int) - 1) = (lg : Int) - 1 := IntWalk.i64_in _ (by omega)
    clear hb1
    go_enter Try.func39, Try.ntmps39
    go_wp2_with (fail)
    (with_reducible refine HA.out.mono ?_)
    rintro e w2 ⟨rfl, rfl⟩
    go_wp2
    go_ret
    exact ⟨ret_bool HX.out.symm, HB.out⟩
  · have hne' : ((n : Int) == (lf : Int)) = false := by rw [beq_eq_false_iff_ne]; omega
    have HX := Lib.hid (show vMap fs gs fl = false by
      have : ¬ fl.length = fs.length := by have := HL.out; omega
      simp [vMap, this])
    clear hb1
    go_enter Try.func39, Try.ntmps39
    go_wp2
    go_ret
    exact ⟨ret_bool HX.out.symm, HB.out⟩
theorem infoIntMv : (Try.prog.info? 3).map (fun i => (i.zero, i.size, i.bytes)) = some (some (.int .i64 0), 1, 8) := by kernel_rfl
set_option maxRecDepth 100000 in
set_option maxHeartbeats 3200000 in
theorem MoveMarksS_any (lo hi nn cn : Nat) (An : Option Addr) (ns : List (Int × Int)) (lo1 hi1 lf cf : Nat) (Af : Option Addr) (fs : List Flw) (lo2 hi2 nq cq : Nat) (Aq : Option Addr) (nsq : List (Int × Int)) (lo3 hi3 lg cg : Nat) (Ag : Option Addr) (gs : List Flw)
    (lo4 hi4 n4 c4 : Nat) (A4 : Option Addr) (fl : List Int) (lo5 hi5 n5 c5 : Nat) (A5 : Option Addr) (ms : List Int) (w : World)
    (hrn : Rd w lo hi 2 An nn (pvs ns)) (hB : hi ≤ w.heap.size) (hnn : nn ≤ 1048576) (hr : Fls w lo1 hi1 Af lf fs) (hB1 : hi1 ≤ w.heap.size) (hn : lf ≤ 1048576)
    (hrq : Rd w lo2 hi2 2 Aq nq (pvs nsq)) (hB2 : hi2 ≤ w.heap.size) (hnq : nq ≤ 1048576) (hrg : Fls w lo3 hi3 Ag lg gs) (hB3 : hi3 ≤ w.heap.size) (hng : lg ≤ 1048576)
    (h4 : Rd w lo4 hi4 1 A4 n4 (ivs fl)) (hB4 : hi4 ≤ w.heap.size) (hn4 : n4 ≤ 1048576) (h5 : Rd w lo5 hi5 1 A5 n5 (ivs ms)) (hB5 : hi5 ≤ w.heap.size) (hn5 : n5 ≤ 1048576) :
    Calls Try.prog 11 #[.agg #[.slice An nn cn, .slice Af lf cf], .agg #[.slice Aq nq cq, .slice Ag lg cg], .slice A4 n4 c4, .slice A5 n5 c5] w (MvB ((moveOf ns fs nsq gs fl ms).getD []) (moveOf ns fs nsq gs fl ms).isSome w) := by
  obtain ⟨i0, hi0, hz0, hz1, hz2⟩ := info_parts infoIntMv
  have hb1 := up_alloc (up_alloc (Below.refl _ w) (.cells #[.slice An nn cn, .slice Af lf cf] 26)) (.cells #[.slice Aq nq cq, .slice Ag lg cg] 26)
  have hp1 := (Blk.new w 26 #[.slice An nn cn, .slice Af lf cf]).alloc (.cells #[.slice Aq nq cq, .slice Ag lg cg] 26)
  have hq1 := Blk.new (w.alloc (.cells #[.slice An nn cn, .slice Af lf cf] 26)) 26 #[.slice Aq nq cq, .slice Ag lg cg]
  have hs0 : (w.alloc (.cells #[.slice An nn cn, .slice Af lf cf] 26)).heap.size = w.heap.size + 1 := by simp
  rw [hs0] at hq1
  have hs1 : ((w.alloc (.cells #[.slice An nn cn, .slice Af lf cf] 26)).alloc (.cells #[.slice Aq nq cq, .slice Ag lg cg] 26)).heap.size = w.heap.size + 1 + 1 := by simp
  have HL := Lib.hid hrn.len2
  have HF := Lib.hid hr.1
  have HG := Lib.hid hrg.1
  have HL4 := Lib.hid h4.len1
  have HL5 := Lib.hid h5.len1
  have HC := Lib.hid (validProcessS_any lo hi nn cn An ns lo1 hi1 lf cf Af fs _ (hrn.keep hb1 hB) (by omega) hnn (hr.keep hb1 hB1) (by omega) hn)
  go_enter Try.func11, Try.ntmps11
  go_wp2_with (fail)
  (with_reducible refine HC.out.mono ?_)
  clear HC
  rintro e w1 ⟨rfl, hb2⟩
  have HB := Lib.hid (up hb1 hb2)
  have hs2 := hb2.size
  rw [hs1] at hs2
  have HP := Lib.hid (hp1.below hb2 (by omega))
  have HQ := Lib.hid (hq1.below hb2 (by omega))
  clear hb1 hb2 hp1 hq1 hs0 hs1
  have k0 : w1.cell? ⟨w.heap.size, 0, none⟩ = some (.slice An nn cn) := HP.out.cell 0
  have k1 : w1.cell? ⟨w.heap.size, 1, none⟩ = some (.slice Af lf cf) := HP.out.cell 1
  have q0 : w1.cell? ⟨w.heap.size + 1, 0, none⟩ = some (.slice Aq nq cq) := HQ.out.cell 0
  have q1 : w1.cell? ⟨w.heap.size + 1, 1, none⟩ = some (.slice Ag lg cg) := HQ.out.cell 1
  cases hV : vProc ns fs with
  | false =>
    have HX := Lib.hid (moveOf_no (ns := ns) (fs := fs) (ns' := nsq) (gs := gs) (fl := fl) (ms := ms) (.inl hV))
    clear hV
    go_wp2
    exact bodyPost_ret (v := .tuple #[.slice none 0 0, .bool false]) (by simp [results, Try.results11, go_sem]) rfl (MvB.none HX.out HB.out)
  | true =>
  have HC := Lib.hid (validProcessS_any lo2 hi2 nq cq Aq nsq lo3 hi3 lg cg Ag gs w1 (hrq.keep HB.out hB2) (Nat.le_trans hB2 HB.out.size) hnq (hrg.keep HB.out hB3) (Nat.le_trans hB3 HB.out.size) hng)
  have HV := Lib.hid hV
  clear hV
  go_wp2_with (fail)
  (with_reducible refine HC.out.mono ?_)
  clear HC
  rintro e w2 ⟨rfl, hb2⟩
  have HB2 := Lib.hid (up HB.out hb2)
  have HP2 := Lib.hid (HP.out.below hb2 (by omega))
  have HQ2 := Lib.hid (HQ.out.below hb2 (by omega))
  have hs3 := hb2.size
  clear hb2 HP HQ k0 k1 q0 q1 HB
  have k0 : w2.cell? ⟨w.heap.size, 0, none⟩ = some (.slice An nn cn) := HP2.out.cell 0
  have k1 : w2.cell? ⟨w.heap.size, 1, none⟩ = some (.slice Af lf cf) := HP2.out.cell 1
  have q0 : w2.cell? ⟨w.heap.size + 1, 0, none⟩ = some (.slice Aq nq cq) := HQ2.out.cell 0
  have q1 : w2.cell? ⟨w.heap.size + 1, 1, none⟩ = some (.slice Ag lg cg) := HQ2.out.cell 1
  cases hV : vProc nsq gs with
  | false =>
    have HX := Lib.hid (moveOf_no (ns := ns) (fs := fs) (ns' := nsq) (gs := gs) (fl := fl) (ms := ms) (.inr (.inl hV)))
    clear hV
    go_wp2
    exact bodyPost_ret (v := .tuple #[.slice none 0 0, .bool false]) (by simp [results, Try.results11, go_sem]) rfl (MvB.none HX.out HB2.out)
  | true =>
  have HVQ := Lib.hid hV
  have hlg14 := (vProc_len hV).2.2
  rw [HG.out] at hlg14
  clear hV
  have HC := Lib.hid (validMap_any (.slice An nn cn) (.slice Aq nq cq) lf cf lg cg lo4 hi4 n4 c4 Af Ag A4 fs gs fl w2 HF.out HG.out hng (h4.keep HB2.out hB4) (Nat.le_trans hB4 HB2.out.size) hn4)
  go_wp2_with (fail)
  (with_reducible refine HC.out.mono ?_)
  clear HC
  rintro e w3 ⟨rfl, hb2⟩
  have HB3 := Lib.hid (up HB2.out hb2)
  have HP3 := Lib.hid (HP2.out.below hb2 (by omega))
  have HQ3 := Lib.hid (HQ2.out.below hb2 (by omega))
  have hs4 := hb2.size
  clear hb2 HP2 HQ2 k0 k1 q0 q1 HB2
  have k0 : w3.cell? ⟨w.heap.size, 0, none⟩ = some (.slice An nn cn) := HP3.out.cell 0
  have k1 : w3.cell? ⟨w.heap.size, 1, none⟩ = some (.slice Af lf cf) := HP3.out.cell 1
  cases hV : vMap fs gs fl with
  | false =>
    have HX := Lib.hid (moveOf_no (ns := ns) (fs := fs) (ns' := nsq) (gs := gs) (fl := fl) (ms := ms) (.inr (.inr (.inl hV))))
    clear hV
    go_wp2
    exact bodyPost_ret (v := .tuple #[.slice none 0 0, .bool false]) (by simp [results, Try.results11, go_sem]) rfl (MvB.none HX.out HB3.out)
  | true =>
  have HVM := Lib.hid hV
  clear hV
  have HC := Lib.hid (validMarks_any (.slice An nn cn) An nn cn lo1 hi1 lf cf Af fs lo5 hi5 n5 c5 A5 ms w3 HF.out (h5.keep HB3.out hB5) (Nat.le_trans hB5 HB3.out.size) hn5)
  go_wp2_with (fail)
  (with_reducible refine HC.out.mono ?_)
  clear HC
  rintro e w4 ⟨rfl, hb2⟩
  have HB4 := Lib.hid (up HB3.out hb2)
  have HQ4 := Lib.hid (HQ3.out.below hb2 (by omega))
  have hs5 := hb2.size
  clear hb2 HP3 HQ3 k0 k1 HB3
  have q1 : w4.cell? ⟨w.heap.size + 1, 1, none⟩ = some (.slice Ag lg cg) := HQ4.out.cell 1
  cases hV : vMarks fs ms with
  | false =>
    have HX := Lib.hid (moveOf_no (ns := ns) (fs := fs) (ns' := nsq) (gs := gs) (fl := fl) (ms := ms) (.inr (.inr (.inr (.inl hV)))))
    clear hV
    go_wp2
    exact bodyPost_ret (v := .tuple #[.slice none 0 0, .bool false]) (by simp [results, Try.results11, go_sem]) rfl (MvB.none HX.out HB4.out)
  | true =>
  have HVA := Lib.hid hV
  obtain ⟨hml, hmv⟩ := vMap_iff.1 HVM.out
  have hmk3 : ms.length = fs.length := by
    unfold vMarks at hV; rw [Bool.and_eq_true, decide_eq_true_eq] at hV; exact hV.1
  have H03 := Lib.hid (show ∀ z ∈ ms, 0 ≤ z ∧ z ≤ 3 from fun z hz => by
    simp only [vMarks, Bool.and_eq_true] at hV
    exact inR_iff.1 (List.all_eq_true.1 hV.2 z hz))
  have HMV := Lib.hid hmv
  have h14 := (vProc_len HV.out).2.2
  have h45 : n4 = n5 := by have h1 := HL4.out; have h2 := HL5.out; omega
  subst h45
  have hn14 : n4 ≤ 14 := by have h1 := HL5.out; omega
  clear hV hml hmv hmk3 h14
  obtain ⟨wm, hmk, hown, hgr⟩ := run_make_full (P := Try.prog) w4 w4.heap.size 27 3 i0 _ 1 Try.underlying27 hi0 hz0 hz1 .i64 .i64 lg (by rw [hz2]; omega) (by unfold maxLen; omega) (Nat.le_refl _)
  have hcell0 : (madeCells (Value.int .i64 0).cells (lg * 1)).toList = ivs (List.replicate lg 0) := by
    show (madeCells #[.int .i64 0] (lg * 1)).toList = _
    rw [toList_madeCells_one, Nat.mul_one]; simp [ivs]
  rw [hcell0, ← moved_none fl ms lg] at hown
  have hbm := (Below.refl w4.heap.size w4).grown hgr (Nat.le_refl _) (by simp)
  have HREL := Lib.hid (show wm.ownsRow w4.heap.size 3 1 (.slice (some ⟨w4.heap.size, 0, none⟩) lg lg) lg (ivs (movedTo (fl.take 0) (ms.take 0) lg)) ∧ Below w4.heap.size w4 wm ∧ placedUp fl ms 0 = true from ⟨hown, hbm, rfl⟩)
  clear hcell0 hown hgr hbm
  go_wp2
  clear hmk
  go_loopw [11] (fun iv wr => ∃ (k : Nat), k ≤ n4 ∧ iv = .int .i64 k ∧ Hid (wr.ownsRow w4.heap.size 3 1 (.slice (some ⟨w4.heap.size, 0, none⟩) lg lg) lg (ivs (movedTo (fl.take k) (ms.take k) lg)) ∧ Below w4.heap.size w4 wr ∧ placedUp fl ms k = true))
    (fun iv _ => n4 - (intOf iv).toNat)
  case atStart => exact ⟨0, by omega, rfl, HREL⟩
  case round =>
    clear HREL q1
    obtain ⟨k, hk, rfl, HR⟩ := hrel
    by_cases hkn : k < n4
    · obtain ⟨b4, o4, f, rfl, _, _, hgf, hcf⟩ := (h4.keep (up HB4.out HR.out.2.1) hB4).one hkn
      obtain ⟨b5, o5, m, rfl, _, _, hgm, hcm⟩ := (h5.keep (up HB4.out HR.out.2.1) hB5).one hkn
      obtain ⟨f0, f1⟩ := HMV.out f (List.mem_of_getElem? hgf)
      obtain ⟨m0, m1⟩ := H03.out m (List.mem_of_getElem? hgm)
      have hkn1 : (k : Int) < (n4 : Int) := by omega
      have hkn0 : (0 : Int) ≤ (k : Int) := by omega
      have HPS := Lib.hid (placed_step hgf hgm)
      by_cases hf : f < 0
      · have hfd : decide (f < 0) = true := decide_eq_true hf
        have hfd2 : decide (0 ≤ f) = false := decide_eq_false (by omega)
        by_cases hm0 : 0 < m
        · have hmd : decide (0 < m) = true := decide_eq_true hm0
          have HX := Lib.hid (moveOf_no (ns := ns) (fs := fs) (ns' := nsq) (gs := gs) (fl := fl) (ms := ms) (.inr (.inr (.inr (.inr (.inl (placed_no hgf hgm hf hm0)))))))
          have HBX := Lib.hid (up HB4.out HR.out.2.1)
          clear HR hgf hgm
          go_wp2
          exact bodyPost_ret (v := .tuple #[.slice none 0 0, .bool false]) (by simp [results, Try.results11, go_sem]) rfl (MvB.none HX.out HBX.out)
        · have hmd : decide (0 < m) = false := decide_eq_false hm0
          have HY : Hid (wr.ownsRow w4.heap.size 3 1 (.slice (some ⟨w4.heap.size, 0, none⟩) lg lg) lg (ivs (movedTo (fl.take (k + 1)) (ms.take (k + 1)) lg)) ∧ Below w4.heap.size w4 wr ∧ placedUp fl ms (k + 1) = true) :=
            ⟨by rw [moved_skip hgf hgm hf]; exact HR.out.1, HR.out.2.1, by rw [HPS.out, HR.out.2.2, hmd, Bool.and_false]; rfl⟩
          clear HR hgf hgm
          go_wp2
          go_roundw
          case rel => exact ⟨k + 1, by omega, by go_num, HY⟩
          case measure => simp [intOf]; omega
      · have hfd : decide (f < 0) = false := decide_eq_false hf
        have hfd2 : decide (0 ≤ f) = true := decide_eq_true (by omega)
        obtain ⟨j, rfl⟩ := Int.eq_ofNat_of_zero_le (show 0 ≤ f by omega)
        have hjl : j < lg := by have := HG.out; omega
        have hj0 : (0 : Int) ≤ (j : Int) := by omega
        have hj1 : (j : Int) < (lg : Int) := by omega
        have hbd := mask_bd (fl := fl) H03.out (j : Int) k (by have := HL5.out; omega) (by have := HL4.out; omega)
        have hca := HR.out.1.cellAt j (by omega)
        rw [mv_atD (by rw [moved_len]; exact hjl), List.getD_eq_getElem?_getD, moved_at hjl, Option.getD_some] at hca
        have hfr := HR.out.1.frozenAt j
        have hst := (HR.out.1.stored j (.int .i64 ((maskOf (fl.take k) (ms.take k) (j : Int)).sum + m))).1
        rw [mv_put, ← moved_step hgf hgm hjl] at hst
        have HY : Hid (World.ownsRow (wr.setCell ⟨w4.heap.size, j, none⟩ (.int .i64 ((maskOf (fl.take k) (ms.take k) (j : Int)).sum + m))).drew w4.heap.size 3 1 (.slice (some ⟨w4.heap.size, 0, none⟩) lg lg) lg (ivs (movedTo (fl.take (k + 1)) (ms.take (k + 1)) lg)) ∧ Below w4.heap.size w4 (wr.setCell ⟨w4.heap.size, j, none⟩ (.int .i64 ((maskOf (fl.take k) (ms.take k) (j : Int)).sum + m))).drew ∧ placedUp fl ms (k + 1) = true) :=
          ⟨hst.drew, up_drew (HR.out.2.1.setCell (Nat.le_refl _) _), by rw [HPS.out, HR.out.2.2, hfd]; rfl⟩
        have hsz := HR.out.2.1.size
        clear HR hgf hgm hst HPS
        generalize (maskOf (fl.take k) (ms.take k) (j : Int)).sum = x at *
        have hwr : IntKind.i64.wrap (x + m) = x + m := IntWalk.i64_in _ (by omega)
        go_wp2_with (fail)
        go_region
        go_wp2
        go_roundw
        case rel => exact ⟨k + 1, by omega, by go_num, HY⟩
        case measure => simp [intOf]; omega
    · obtain rfl : k = n4 := by omega
      have HOW := Lib.hid HR.out.1
      have HBW := Lib.hid HR.out.2.1
      have HPL := Lib.hid (placed_all (by have h1 := HL4.out; have h2 := HL5.out; omega) HL5.out HR.out.2.2)
      have hal : fl.take k = fl := List.take_of_length_le (by have := HL4.out; omega)
      have hal2 : ms.take k = ms := List.take_of_length_le (by have := HL5.out; omega)
      rw [hal, hal2] at HOW
      have HQW := Lib.hid (HQ4.out.below HBW.out (by omega))
      have q0 : wr.cell? ⟨w.heap.size + 1, 0, none⟩ = some (.slice Aq nq cq) := HQW.out.cell 0
      have q1 : wr.cell? ⟨w.heap.size + 1, 1, none⟩ = some (.slice Ag lg cg) := HQW.out.cell 1
      have HC := Lib.hid (validMarks_any (.slice Aq nq cq) Aq nq cq lo3 hi3 lg cg Ag gs _ _ lg lg (some ⟨w4.heap.size, 0, none⟩) (movedTo fl ms lg) wr HG.out (Rd.of_own HOW.out) (Nat.le_refl _) hng)
      clear HR hal hal2
      go_wp2_with (fail)
      (with_reducible refine HC.out.mono ?_)
      clear HC q0 q1
      rintro e w6 ⟨rfl, hb6⟩
      have HB6 := Lib.hid (up (up HB4.out HBW.out) hb6)
      have HO6 := Lib.hid (own_keep HOW.out hb6)
      have hs6 := HB4.out.size
      clear hb6
      cases hV : vMarks gs (movedTo fl ms lg) with
      | false =>
        have HX := Lib.hid (moveOf_no (ns := ns) (fs := fs) (ns' := nsq) (gs := gs) (fl := fl) (ms := ms) (.inr (.inr (.inr (.inr (.inr (by rw [HG.out]; exact hV)))))))
        clear hV
        go_wp2
        exact bodyPost_ret (v := .tuple #[.slice none 0 0, .bool false]) (by simp [results, Try.results11, go_sem]) rfl (MvB.none HX.out HB6.out)
      | true =>
        have HX := Lib.hid (moveOf_yes HV.out HVQ.out HVM.out HVA.out HPL.out (by rw [HG.out]; exact hV))
        rw [HG.out] at HX
        clear hV
        go_wp2
        refine bodyPost_ret (v := .tuple #[.slice (some ⟨w4.heap.size, 0, none⟩) lg lg, .bool true]) (by simp [results, Try.results11, go_sem]) rfl ?_
        rw [HX.out]
        have hl := moved_len fl ms lg
        refine ⟨some ⟨w4.heap.size, 0, none⟩, lg, by rw [Option.getD_some, hl]; rfl, by rw [Option.getD_some, hl]; exact Nat.le_refl _, ?_, ?_, HB6.out⟩
        · rw [Option.getD_some, hl]; exact (Rd.of_own HO6.out).wide (by omega) (Nat.le_refl _)
        · rw [Option.getD_some, hl]; exact Soft.of_own HO6.out
end Go.Proofs.Ytmhbfdcikdhehaa
