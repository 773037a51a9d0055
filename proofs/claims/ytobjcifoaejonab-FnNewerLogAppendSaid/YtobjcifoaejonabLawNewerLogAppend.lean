/- The law FnNewerLogAppend, walked: it returns true. (Written by a program over gen/lawlib.py.) -/
import Derived.Test.YtobjcifoaejonabDrawL2
import Derived.Test.YtobjcifoaejonabLogJ
import Derived.Test.YtobjcifoaejonabLogS1
import Derived.Test.YtobjcifoaejonabEqLists
import Derived.Test.YtobjcifoaejonabLawLogM
import Derived.BigQuiet
import Derived.Deep.RegionLaw
import Derived.Test.YtobjcifoaejonabLogS2
import Derived.Deep.RegionHeld3
import Derived.Test.YtobjcifoaejonabDelRun
set_option linter.unusedSimpArgs false
set_option linter.unusedVariables false
namespace Go.Proofs.Ytobjcifoaejonab
open Go.RowKit

set_option maxRecDepth 100000 in
set_option maxHeartbeats 6400000 in
theorem lawNewerLogAppend_any (n c : Nat) (A : Option Addr) (xs : List Int) (w : World) (hr : Rd w 0 w.heap.size 1 A n (bvs xs)) (hby : Bytes xs) (hc : n ≤ c) (hc2 : c ≤ 9223372036854775807) :
    Calls Try.prog 7 #[.slice A n c] w fun e w' => e = .returned (.bool true) ∧ Below w.heap.size w w' := by
  by_cases hbig : (1048576 : Int) < n
  · go_enter Try.func7, Try.ntmps7
    go_wp2
    go_ret
    exact ⟨rfl, Below.refl _ _⟩
  go_enter Try.func7, Try.ntmps7
  go_wp2_with (fail)
  (with_reducible refine (drawNewerLog_any n c A xs w hr hby (by omega) hc hc2).mono ?_)
  rintro e w1 ⟨A1, m, c1, ps, A2, m2, c2, qs, rfl, hm, hc1, hsm, hrd, hm2, hc2', hsm2, hrd2, hb1⟩
  clear hbig hr
  have HB_0 := Lib.hid hb1
  have hz_1 := hb1.size
  clear hb1
  have HSM := Lib.hid hsm
  clear hsm
  have HPL := Lib.hid hrd.len2
  have HQL := Lib.hid hrd2.len2
  clear hsm2
  have HL_1 := Lib.hid (hrd.wide (Nat.zero_le _) (Nat.le_refl _))
  clear hrd
  have HR_2 := Lib.hid (hrd2.wide (Nat.zero_le _) (Nat.le_refl _))
  clear hrd2
  cases hV : vLog ps with
  | false =>
    have HV := Lib.hid hV
    have HU := Lib.hid (newer_no (b := qs) (.inl hV))
    clear hV
    go_wp2_with (fail)
    (with_reducible refine (NewerLogI_any 0 _ m c1 A1 ps 0 _ m2 c2 A2 qs _ HL_1.out (by omega) (by omega) (by omega) HR_2.out (by omega) (by omega) (by omega)).mono ?_)
    rintro e w2 ⟨rfl, hbt⟩
    rw [HU.out]
    have HL_3 := Lib.hid (HL_1.out.keep hbt (by omega))
    have HR_4 := Lib.hid (HR_2.out.keep hbt (by omega))
    have HB_5 := Lib.hid (up HB_0.out hbt)
    have hz_2 := hbt.size
    clear HL_1 HR_2 HB_0
    clear hbt
    go_wp2_with (fail)
    (with_reducible refine (NewerLogS_any 0 _ m c1 A1 ps 0 _ m2 c2 A2 qs _ HL_3.out (by omega) (by omega) HR_4.out (by omega) (by omega)).mono ?_)
    rintro e w3 ⟨rfl, hbt⟩
    rw [HU.out]
    have HL_6 := Lib.hid (HL_3.out.keep hbt (by omega))
    have HR_7 := Lib.hid (HR_4.out.keep hbt (by omega))
    have HB_8 := Lib.hid (up HB_5.out hbt)
    have hz_3 := hbt.size
    clear HL_3 HR_4 HB_5
    clear hbt
    go_wp2_with (fail)
    (with_reducible refine (ValidLogI_any 0 _ m c1 A1 ps _ HL_6.out (by omega) (by omega) (by omega)).mono ?_)
    rintro e w4 ⟨rfl, hbt⟩
    rw [HV.out]
    have HL_9 := Lib.hid (HL_6.out.keep hbt (by omega))
    have HR_10 := Lib.hid (HR_7.out.keep hbt (by omega))
    have HB_11 := Lib.hid (up HB_8.out hbt)
    have hz_4 := hbt.size
    clear HL_6 HR_7 HB_8
    clear hbt
    go_wp2_with (fail)
    (with_reducible refine (NewerLogS_any 0 _ m c1 A1 ps 0 _ m2 c2 A2 qs _ HL_9.out (by omega) (by omega) HR_10.out (by omega) (by omega)).mono ?_)
    rintro e w5 ⟨rfl, hbt⟩
    rw [HU.out]
    have HL_12 := Lib.hid (HL_9.out.keep hbt (by omega))
    have HR_13 := Lib.hid (HR_10.out.keep hbt (by omega))
    have HB_14 := Lib.hid (up HB_11.out hbt)
    have hz_5 := hbt.size
    clear HL_9 HR_10 HB_11
    clear hbt
    go_wp2
    go_ret
    exact ⟨rfl, HB_14.out⟩
  | true =>
    have HV := Lib.hid hV
    have hm16 := vLog_len hV
    rw [HPL.out] at hm16
    clear hV
    generalize hU : newerOf ps qs = o
    have HU := Lib.hid hU
    clear hU
    have hoo : (o != o) = false := by simp
    have hoe : (o == o) = true := by simp
    go_wp2_with (fail)
    (with_reducible refine (NewerLogI_any 0 _ m c1 A1 ps 0 _ m2 c2 A2 qs _ HL_1.out (by omega) (by omega) (by omega) HR_2.out (by omega) (by omega) (by omega)).mono ?_)
    rintro e w2 ⟨rfl, hbt⟩
    rw [HU.out]
    have HL_15 := Lib.hid (HL_1.out.keep hbt (by omega))
    have HR_16 := Lib.hid (HR_2.out.keep hbt (by omega))
    have HB_17 := Lib.hid (up HB_0.out hbt)
    have hz_2 := hbt.size
    clear HL_1 HR_2 HB_0
    clear hbt
    go_wp2_with (fail)
    (with_reducible refine (NewerLogS_any 0 _ m c1 A1 ps 0 _ m2 c2 A2 qs _ HL_15.out (by omega) (by omega) HR_16.out (by omega) (by omega)).mono ?_)
    rintro e w3 ⟨rfl, hbt⟩
    rw [HU.out]
    have HL_18 := Lib.hid (HL_15.out.keep hbt (by omega))
    have HR_19 := Lib.hid (HR_16.out.keep hbt (by omega))
    have HB_20 := Lib.hid (up HB_17.out hbt)
    have hz_3 := hbt.size
    clear HL_15 HR_16 HB_17
    clear hbt
    go_wp2_with (fail)
    (with_reducible refine (ValidLogI_any 0 _ m c1 A1 ps _ HL_18.out (by omega) (by omega) (by omega)).mono ?_)
    rintro e w4 ⟨rfl, hbt⟩
    rw [HV.out]
    have HL_21 := Lib.hid (HL_18.out.keep hbt (by omega))
    have HR_22 := Lib.hid (HR_19.out.keep hbt (by omega))
    have HB_23 := Lib.hid (up HB_20.out hbt)
    have hz_4 := hbt.size
    clear HL_18 HR_19 HB_20
    clear hbt
    rcases Nat.eq_zero_or_pos m with hz | hz
    · subst hz
      go_wp2_with (fail)
      (with_reducible refine (NewerLogS_any 0 _ 0 c1 A1 ps 0 _ m2 c2 A2 qs _ HL_21.out (by omega) (by omega) HR_22.out (by omega) (by omega)).mono ?_)
      rintro e w5 ⟨rfl, hbt⟩
      rw [HU.out]
      have HL_24 := Lib.hid (HL_21.out.keep hbt (by omega))
      have HR_25 := Lib.hid (HR_22.out.keep hbt (by omega))
      have HB_26 := Lib.hid (up HB_23.out hbt)
      have hz_5 := hbt.size
      clear HL_21 HR_22 HB_23
      clear hbt
      go_wp2
      go_ret
      exact ⟨rfl, HB_26.out⟩
    by_cases h16 : m = 16
    · subst h16
      go_wp2_with (fail)
      (with_reducible refine (NewerLogS_any 0 _ 16 c1 A1 ps 0 _ m2 c2 A2 qs _ HL_21.out (by omega) (by omega) HR_22.out (by omega) (by omega)).mono ?_)
      rintro e w5 ⟨rfl, hbt⟩
      rw [HU.out]
      have HL_27 := Lib.hid (HL_21.out.keep hbt (by omega))
      have HR_28 := Lib.hid (HR_22.out.keep hbt (by omega))
      have HB_29 := Lib.hid (up HB_23.out hbt)
      have hz_5 := hbt.size
      clear HL_21 HR_22 HB_23
      clear hbt
      go_wp2
      go_ret
      exact ⟨rfl, HB_29.out⟩
    obtain ⟨j, rfl⟩ : ∃ j, m = j + 1 := ⟨m - 1, by omega⟩
    clear HR_22
    clear HU HQL
    have e0 : (((j + 1 : Nat) : Int) == 0) = false := by rw [beq_eq_false_iff_ne]; omega
    have e1 : (((j + 1 : Nat) : Int) == 16) = false := by rw [beq_eq_false_iff_ne]; omega
    have e2 : ((j : Int) + 1 == 0) = false := by rw [beq_eq_false_iff_ne]; omega
    have e3 : ((j : Int) + 1 == 16) = false := by rw [beq_eq_false_iff_ne]; omega
    have hw : IntKind.i64.wrap (((j + 1 : Nat) : Int) - 1) = (j : Int) := by rw [IntWalk.i64_in _ (by omega)]; omega
    have hw3 : IntKind.i64.wrap (j : Int) = (j : Int) := IntWalk.i64_in _ (by omega)
    have hw4 : IntKind.i64.wrap ((j : Int) + 1 - 1) = (j : Int) := by rw [IntWalk.i64_in _ (by omega)]; omega
    have hjn2 : (j : Int) < (j : Int) + 1 := by omega
    have hj0 : (0 : Int) ≤ (j : Int) := by omega
    have hjn : (j : Int) < ((j + 1 : Nat) : Int) := by omega
    obtain ⟨b, off, x, y, hA, hbB, _, hg, c0, c1'⟩ := HL_21.out.pair (k := j) (by omega)
    obtain ⟨hvm, hn1, hn2⟩ := log_more HV.out HPL.out (by omega) hg
    have HN1 := Lib.hid hn1
    have HN2 := Lib.hid hn2
    clear hvm hn1 hn2 hg h16 hz
    subst hA
    obtain ⟨i0, hi0, hq0, hq1, hq2⟩ := info_parts infoEntry
    have HS := Lib.hid (show ∀ wx, Below w4.heap.size w4 wx → wx.cell? ⟨b, off + j * 2, none⟩ = some (.int .i64 x) ∧ wx.cell? ⟨b, off + j * 2 + 1, none⟩ = some (.int .i64 y) from fun wx hb => ⟨(hb.cell (by show b < _; omega)).trans c0, (hb.cell (by show b < _; omega)).trans c1'⟩)
    have OA : (w4.alloc (.cells #[] 31)).drew.ownsRow w4.heap.size 31 2 (.slice (some ⟨w4.heap.size, 0, none⟩) 0 0) 0 [] := own_keep (World.ownsRow_made w4 #[] 0 (Nat.le_refl _) (by unfold maxLen; omega) (by simp)) (up_drew (Below.refl _ _))
    have OB : ((w4.alloc (.cells #[] 31)).alloc (.cells #[.int .i64 x, .int .i64 y] 31)).drew.ownsRow w4.heap.size 31 2 (.slice (some ⟨w4.heap.size, 0, none⟩) 0 0) 0 [] := own_keep (World.ownsRow_made w4 #[] 0 (Nat.le_refl _) (by unfold maxLen; omega) (by simp)) (up_drew (up_alloc (Below.refl _ _) _))
    have OC : ((w4.alloc (.cells #[.int .i64 x, .int .i64 y] 31)).alloc (.cells #[] 31)).drew.ownsRow w4.heap.size 31 2 (.slice (some ⟨w4.heap.size + 1, 0, none⟩) 0 0) 0 [] := by
      have h := World.ownsRow_made (e := 31) (size := 2) (base := w4.heap.size) (w4.alloc (.cells #[.int .i64 x, .int .i64 y] 31)) #[] 0 (by simp only [World.size_alloc]; omega) (by unfold maxLen; omega) (by simp)
      rw [World.size_alloc] at h
      exact own_keep h (up_drew (Below.refl _ _))
    have OA := Lib.hid OA
    have OB := Lib.hid OB
    have OC := Lib.hid OC
    have UA := Lib.hid (up_drew (up_alloc (Below.refl _ w4) (.cells #[] 31)))
    have UB := Lib.hid (up_drew (up_alloc (up_alloc (Below.refl _ w4) (.cells #[] 31)) (.cells #[.int .i64 x, .int .i64 y] 31)))
    have UC := Lib.hid (up_drew (up_alloc (up_alloc (Below.refl _ w4) (.cells #[.int .i64 x, .int .i64 y] 31)) (.cells #[] 31)))
    have EB : Blk ((w4.alloc (.cells #[] 31)).alloc (.cells #[.int .i64 x, .int .i64 y] 31)).drew (w4.heap.size + 1) 31 #[.int .i64 x, .int .i64 y] := (Blk.new2 (by simp)).drew
    have EC : Blk ((w4.alloc (.cells #[.int .i64 x, .int .i64 y] 31)).alloc (.cells #[] 31)).drew w4.heap.size 31 #[.int .i64 x, .int .i64 y] := ((Blk.new _ _ _).alloc _).drew
    have EB := Lib.hid EB
    have EC := Lib.hid EC
    go_wp2_with (fail)
    go_region_held3 (fun wx => wx.cell? ⟨b, off + j * 2, none⟩ = some (.int .i64 x) ∧ wx.cell? ⟨b, off + j * 2 + 1, none⟩ = some (.int .i64 y))
      (first | exact HS.out _ HB3.out | exact HS.out _ HB2.out | exact HS.out _ (up_alloc HB2.out _) | exact HS.out _ UA.out | exact HS.out _ UB.out | exact HS.out _ UC.out | exact HS.out _ (up_drew (Below.refl _ _)) | exact HS.out _ (up_drew (up_alloc (Below.refl _ _) _)) | exact HS.out _ (Below.refl _ _))
      ((first
        | (refine step_append_rd _ (by rfl) (.tmp 43) (.tmp 44) 23 rfl w4.heap.size 31 i0 _ 2 16 Try.underlying23 hi0 hq0 hq1 hq2 rfl (by decide) (.slice (some ⟨w4.heap.size, 0, none⟩) 0 0) 0 [] (by rfl) OA.out 0 _ (some ⟨b, off, none⟩) (j + 1) c1 (pvs ps) (by rfl) (HL_21.out.keep UA.out (by omega)) (pvs_one _) (by unfold maxLen; omega) (by omega) (by simp only [World.size_drew, World.size_alloc]; omega) ?_; intro v2 x2 hown2 hg2 _; try simp only [Nat.zero_add, List.nil_append] at hown2; have HB2 := Lib.hid (up_grown UA.out OA.out hg2 (Nat.le_refl _)); have HO2 := Lib.hid hown2; skip; clear hown2 hg2)
        | (refine step_append_rd _ (by rfl) (.tmp 43) (.tmp 44) 23 rfl w4.heap.size 31 i0 _ 2 16 Try.underlying23 hi0 hq0 hq1 hq2 rfl (by decide) (.slice (some ⟨w4.heap.size, 0, none⟩) 0 0) 0 [] (by rfl) OB.out 0 _ (some ⟨b, off, none⟩) (j + 1) c1 (pvs ps) (by rfl) (HL_21.out.keep UB.out (by omega)) (pvs_one _) (by unfold maxLen; omega) (by omega) (by simp only [World.size_drew, World.size_alloc]; omega) ?_; intro v2 x2 hown2 hg2 _; try simp only [Nat.zero_add, List.nil_append] at hown2; have HB2 := Lib.hid (up_grown UB.out OB.out hg2 (Nat.le_refl _)); have HO2 := Lib.hid hown2; have hE2 := EB.out.grown hg2 (by simp [Value.ownBlock]); clear hown2 hg2)
        | (refine step_append_rd _ (by rfl) (.tmp 43) (.tmp 44) 23 rfl w4.heap.size 31 i0 _ 2 16 Try.underlying23 hi0 hq0 hq1 hq2 rfl (by decide) (.slice (some ⟨w4.heap.size + 1, 0, none⟩) 0 0) 0 [] (by rfl) OC.out 0 _ (some ⟨b, off, none⟩) (j + 1) c1 (pvs ps) (by rfl) (HL_21.out.keep UC.out (by omega)) (pvs_one _) (by unfold maxLen; omega) (by omega) (by simp only [World.size_drew, World.size_alloc]; omega) ?_; intro v2 x2 hown2 hg2 _; try simp only [Nat.zero_add, List.nil_append] at hown2; have HB2 := Lib.hid (up_grown UC.out OC.out hg2 (Nat.le_refl _)); have HO2 := Lib.hid hown2; have hE2 := EC.out.grown hg2 (by simp [Value.ownBlock]); clear hown2 hg2)
        | (refine step_append_rd _ (by rfl) (.tmp 45) (.tmp 52) 23 rfl w4.heap.size 31 i0 _ 2 16 Try.underlying23 hi0 hq0 hq1 hq2 rfl (by decide) v2 (j + 1) (pvs ps) (by rfl) HO2.out _ _ _ 1 1 (pvs [(x, y)]) (by rfl) (Rd.of_blk2 hE2) (pvs_one _) (by unfold maxLen; omega) (by omega) (HB2.out.size) ?_; intro v3 x3 hown3 hg3 _; have HB3 := Lib.hid (up_grown HB2.out HO2.out hg3 (Nat.le_refl _)); have HO3 := Lib.hid (show x3.ownsRow w4.heap.size 31 2 v3 (j + 1 + 1) (pvs (ps ++ [(x, y)])) by rw [pvs_append]; exact hown3); clear hown3 hg3)
        | (refine step_append_rd _ (by rfl) (.tmp 45) (.tmp 52) 23 rfl w4.heap.size 31 i0 _ 2 16 Try.underlying23 hi0 hq0 hq1 hq2 rfl (by decide) v2 (j + 1) (pvs ps) (by rfl) (HO2.out.alloc _) _ _ _ 1 1 (pvs [(x, y)]) (by rfl) (Rd.of_blk2 (Blk.new x2 31 #[.int .i64 x, .int .i64 y])) (pvs_one _) (by unfold maxLen; omega) (by omega) ((up_alloc HB2.out _).size) ?_; intro v3 x3 hown3 hg3 _; have HB3 := Lib.hid (up_grown (up_alloc HB2.out _) (HO2.out.alloc _) hg3 (Nat.le_refl _)); have HO3 := Lib.hid (show x3.ownsRow w4.heap.size 31 2 v3 (j + 1 + 1) (pvs (ps ++ [(x, y)])) by rw [pvs_append]; exact hown3); clear hown3 hg3)
        | fail "no arm"))
    all_goals
      obtain ⟨A3, c3, rfl, hc3, hr3, _⟩ := own_form HO3.out
      have HX3 := Lib.hid (hr3.wide (Nat.zero_le _) (Nat.le_refl _))
      have HL3 := Lib.hid (HL_21.out.keep HB3.out (by omega))
      have HB4 := Lib.hid (up HB_23.out HB3.out)
      have hz3 := HB3.out.size
      clear hr3
      go_wp2_with (fail)
      (with_reducible refine (NewerLogI_any 0 _ (j + 1 + 1) c3 A3 (ps ++ [(x, y)]) 0 _ (j + 1) c1 _ ps _ HX3.out (by omega) (by omega) (by omega) HL3.out (by omega) (by omega) (by omega)).mono ?_)
      rintro e x4 ⟨rfl, hb4⟩
      rw [HN1.out]
      have HX4 := Lib.hid (HX3.out.keep hb4 (by omega))
      have HL4 := Lib.hid (HL3.out.keep hb4 (by omega))
      have HB5 := Lib.hid (up HB4.out hb4)
      have hz4 := hb4.size
      clear hb4
      go_wp2_with (fail)
      (with_reducible refine (NewerLogI_any 0 _ (j + 1) c1 _ ps 0 _ (j + 1 + 1) c3 A3 (ps ++ [(x, y)]) _ HL4.out (by omega) (by omega) (by omega) HX4.out (by omega) (by omega) (by omega)).mono ?_)
      rintro e x5 ⟨rfl, hb5⟩
      rw [HN2.out]
      have HB6 := Lib.hid (up HB5.out hb5)
      clear hb5
      go_wp2
      go_ret
      exact ⟨rfl, HB6.out⟩
end Go.Proofs.Ytobjcifoaejonab
