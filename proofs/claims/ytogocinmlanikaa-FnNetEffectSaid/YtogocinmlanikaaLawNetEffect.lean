/- The law FnNetEffect, walked: it returns true. (Written by a program over gen/lawlib.py.) -/
import Derived.Test.YtogocinmlanikaaDrawSt2
import Derived.Test.YtogocinmlanikaaSagaD
import Derived.Test.YtogocinmlanikaaSagaS
import Derived.Test.YtogocinmlanikaaLawLists
import Derived.Test.YtogocinmlanikaaLawSagaM
import Derived.BigQuiet
import Derived.Deep.RegionLaw
import Derived.Deep.RegionHeld3
set_option linter.unusedSimpArgs false
set_option linter.unusedVariables false
namespace Go.Proofs.Ytogocinmlanikaa
open Go.RowKit

set_option maxRecDepth 100000 in
set_option maxHeartbeats 6400000 in
theorem lawNetEffect_any (n c : Nat) (A : Option Addr) (xs : List Int) (w : World) (hr : Rd w 0 w.heap.size 1 A n (bvs xs)) (hby : Bytes xs) (hc : n ≤ c) (hc2 : c ≤ 9223372036854775807) :
    Calls Try.prog 8 #[.slice A n c] w fun e w' => e = .returned (.bool true) ∧ Below w.heap.size w w' := by
  by_cases hbig : (1048576 : Int) < n
  · go_enter Try.func8, Try.ntmps8
    go_wp2
    go_ret
    exact ⟨rfl, Below.refl _ _⟩
  go_enter Try.func8, Try.ntmps8
  go_wp2_with (fail)
  (with_reducible refine (drawNetEffect_any n c A xs w hr hby (by omega) hc hc2).mono ?_)
  rintro e w1 ⟨A1, m, c1, ys, rfl, hm, hc1, hcc, hsm, hrd, hb1⟩
  clear hbig hr
  have HB_0 := Lib.hid hb1
  have hz_1 := hb1.size
  clear hb1
  have HSM := Lib.hid hsm
  clear hsm
  have HPL := Lib.hid hrd.len1
  have HL_1 := Lib.hid (hrd.wide (Nat.zero_le _) (Nat.le_refl _))
  clear hrd
  obtain ⟨i0, hi0, hq0, hq1, hq2⟩ := info_parts infoIntD
  by_cases h20 : m ≤ 20
  case neg =>
    generalize hU : netOf ys = o
    have HU := Lib.hid hU
    clear hU
    have hoo : (o != o) = false := by simp
    have hoe : (o == o) = true := by simp
    go_wp2_with (fail)
    (with_reducible refine (NetEffectI_any 0 _ m c1 A1 ys _ HL_1.out (by omega) (by omega)).mono ?_)
    rintro e w2 ⟨rfl, hbt⟩
    rw [HU.out]
    have HL_2 := Lib.hid (HL_1.out.keep hbt (by omega))
    have HB_3 := Lib.hid (up HB_0.out hbt)
    have hz_2 := hbt.size
    clear HL_1 HB_0
    clear hbt
    go_wp2_with (fail)
    (with_reducible refine (NetEffectS_any 0 _ m c1 A1 ys _ HL_2.out (by omega) (by omega)).mono ?_)
    rintro e w3 ⟨rfl, hbt⟩
    rw [HU.out]
    have HL_4 := Lib.hid (HL_2.out.keep hbt (by omega))
    have HB_5 := Lib.hid (up HB_3.out hbt)
    have hz_3 := hbt.size
    clear HL_2 HB_3
    clear hbt
    go_wp2_with (fail)
    (with_reducible refine (NetEffectS_any 0 _ m c1 A1 ys _ HL_4.out (by omega) (by omega)).mono ?_)
    rintro e w4 ⟨rfl, hbt⟩
    rw [HU.out]
    have HL_6 := Lib.hid (HL_4.out.keep hbt (by omega))
    have HB_7 := Lib.hid (up HB_5.out hbt)
    have hz_4 := hbt.size
    clear HL_4 HB_5
    clear hbt
    go_wp2
    go_ret
    exact ⟨rfl, HB_7.out⟩
  generalize hU : netOf ys = o
  have HU := Lib.hid hU
  have hob := netOf_bound ys
  rw [hU] at hob
  obtain ⟨hob0, hob1⟩ := hob
  have HUB := Lib.hid (show netOf ys.reverse = o by rw [netOf_reverse, hU])
  clear hU
  have hoo : (o != o) = false := by simp
  have hoe : (o == o) = true := by simp
  have hwm : IntKind.i64.wrap ((m : Int) - 1) = (m : Int) - 1 := IntWalk.i64_in _ (by omega)
  go_wp2_with (fail)
  (with_reducible refine (NetEffectI_any 0 _ m c1 A1 ys _ HL_1.out (by omega) (by omega)).mono ?_)
  rintro e w2 ⟨rfl, hbt⟩
  rw [HU.out]
  have HL_8 := Lib.hid (HL_1.out.keep hbt (by omega))
  have HB_9 := Lib.hid (up HB_0.out hbt)
  have hz_2 := hbt.size
  clear HL_1 HB_0
  clear hbt
  go_wp2_with (fail)
  (with_reducible refine (NetEffectS_any 0 _ m c1 A1 ys _ HL_8.out (by omega) (by omega)).mono ?_)
  rintro e w3 ⟨rfl, hbt⟩
  rw [HU.out]
  have HL_10 := Lib.hid (HL_8.out.keep hbt (by omega))
  have HB_11 := Lib.hid (up HB_9.out hbt)
  have hz_3 := hbt.size
  clear HL_8 HB_9
  clear hbt
  have HBZ := Lib.hid HB_11.out
  have HOW := Lib.hid (show (w3.alloc (.cells #[] 3)).ownsRow w3.heap.size 3 1 (.slice (some ⟨w3.heap.size, 0, none⟩) 0 0) (m - m) (ivs (ys.drop m).reverse) from by rw [Nat.sub_self, List.drop_of_length_le (by rw [HPL.out]; omega)]; exact World.ownsRow_made w3 #[] 0 (Nat.le_refl _) (by unfold maxLen; omega) (by simp))
  go_wp2
  go_loopw [5, 6] (fun v iv wr => (∃ (k : Nat), k ≤ m ∧ iv = .int .i64 ((k : Int) - 1) ∧ Hid (allIn (-9999) 9999 (ys.drop k) = true) ∧ Hid (wr.ownsRow w3.heap.size 3 1 v (m - k) (ivs (ys.drop k).reverse))) ∧ Hid (Below w3.heap.size w3 wr))
     (fun _ iv _ => (intOf iv + 1).toNat)
  case atStart => exact ⟨⟨m, by omega, rfl, by rw [List.drop_of_length_le (by rw [HPL.out]; omega)]; rfl, HOW.out⟩, up_alloc (Below.refl _ _) _⟩
  case round =>
    clear HOW
    obtain ⟨w4, HWR⟩ : ∃ x : World, x = wr := ⟨_, rfl⟩
    subst HWR
    obtain ⟨⟨k, hk, rfl, hALL, HO⟩, HLP⟩ := hrel
    have hlb := HLP.out
    have HL_12 := Lib.hid (HL_10.out.keep hlb (by omega))
    have HB_13 := Lib.hid (up HB_11.out hlb)
    have hz_4 := hlb.size
    clear HL_10 HB_11
    clear hlb
    rcases Nat.eq_zero_or_pos k with hz | hz
    ·
      subst hz
      have HOK := Lib.hid (show netOk ys = true by have := hALL.out; rw [List.drop_zero] at this; rw [netOk, this, HPL.out, decide_eq_true h20]; rfl)
      clear hALL
      obtain ⟨a, ha, ha1, HQH⟩ := half_factsZ m (by omega)
      clear ha
      obtain ⟨o1, hU1⟩ : ∃ o, netOf (ys.take a) = o := ⟨_, rfl⟩
      obtain ⟨o2, hU2⟩ : ∃ o, netOf (ys.drop a) = o := ⟨_, rfl⟩
      have hS : o1 + o2 = o := by rw [← hU1, ← hU2, net_halves HOK.out a, HU.out]
      have HS12 := Lib.hid hS
      have HU1 := Lib.hid hU1
      have HU2 := Lib.hid hU2
      clear hU1 hU2 hS
      have haz : (0 : Int) ≤ (a : Int) := by omega
      have ham : (a : Int) ≤ (m : Int) := by omega
      have hac : (a : Int) ≤ (c1 : Int) := by omega
      have hmc : (m : Int) ≤ (c1 : Int) := by omega
      have hw12 : IntKind.i64.wrap (o1 + o2) = o := by rw [HS12.out]; exact IntWalk.i64_in _ (by omega)
      have HQ1 := Lib.hid (HL_12.out.headI (k := a) ha1)
      have HQ2 := Lib.hid (HL_12.out.tailI (k := a) ha1 hc1)
      obtain ⟨AT, hAT⟩ : ∃ AT : Option Addr, (if c1 = a then A1 else A1.map fun x => x.add a) = AT := ⟨_, rfl⟩
      rw [hAT] at HQ2
      have HAT := Lib.hid hAT
      clear hAT
      obtain ⟨A3, c3, rfl, hc3, hr3, _⟩ := own_form HO.out
      rw [List.drop_zero, Nat.sub_zero] at hr3
      have HR3 := Lib.hid hr3
      clear hr3
      have hq1 := HQH.out.1
      have hq2 := HQH.out.2.1
      go_wp2
      clear hq1 hq2
      have HC1 := Lib.hid (fun n : Nat => NetEffectI_same _ _ a c1 A1 (ys.take a) (w4.drewN n) (HQ1.out.keep (up_drewN (Below.refl _ _) n) (by omega)) (Nat.le_trans (by omega) (up_drewN (Below.refl _ _) n).size) (by omega))
      rw [HU1.out] at HC1
      have HC2 := Lib.hid (fun n : Nat => NetEffectI_same _ _ (m - a) (c1 - a) AT (ys.drop a) (w4.drewN n) (HQ2.out.keep (up_drewN (Below.refl _ _) n) (by omega)) (Nat.le_trans (by omega) (up_drewN (Below.refl _ _) n).size) (by omega))
      rw [HU2.out] at HC2
      have HC3 := Lib.hid (fun n : Nat => NetEffectI_same _ _ m c3 A3 ys.reverse (w4.drewN n) (HR3.out.keep (up_drewN (Below.refl _ _) n) (by omega)) (Nat.le_trans (by omega) (up_drewN (Below.refl _ _) n).size) (by omega))
      rw [HUB.out] at HC3
      have hAT := HAT.out
      go_quiet ((go_at_call 21; first | (with_reducible exact Calls.quiet_of_same ((HC1.out _).mono fun _ _ h => ⟨h.1, h.2.symm⟩)) | (with_reducible exact Calls.quiet_of_same ((HC2.out _).mono fun _ _ h => ⟨h.1, h.2.symm⟩)) | (with_reducible exact Calls.quiet_of_same ((HC3.out _).mono fun _ _ h => ⟨h.1, h.2.symm⟩))))
      go_wp2
      go_ret
      exact ⟨rfl, up_drewN HB_13.out _⟩
    obtain ⟨j, rfl⟩ : ∃ j, k = j + 1 := ⟨k - 1, by omega⟩
    obtain ⟨b, off, x, hA, hbB, _, hg, hc0⟩ := HL_12.out.one (k := j) (by omega)
    have HG := Lib.hid hg
    clear hg
    subst hA
    have hkn : (j : Int) < (m : Int) := by omega
    have hk0 : (0 : Int) ≤ (j : Int) := by omega
    have hj1 : ((j + 1 : Nat) : Int) - 1 = (j : Int) := by omega
    have hwj : IntKind.i64.wrap ((j : Int) - 1) = (j : Int) - 1 := IntWalk.i64_in _ (by omega)
    rw [hj1]
    have HDC := Lib.hid (show ys.drop j = x :: ys.drop (j + 1) by have hl := (List.getElem?_eq_some_iff.1 HG.out).1; rw [List.drop_eq_getElem_cons hl, (List.getElem?_eq_some_iff.1 HG.out).2])
    go_wp2_with (at_builtin; refine wpList_append_own _ rfl _ _ 34 rfl w3.heap.size 3 i0 _ 1 8 Try.underlying34 hi0 hq0 hq1 hq2 rfl (by decide) _ _ _ rfl (HO.out.alloc _) _ 1 1 [.int .i64 x] rfl rfl (World.news_of_block (heap_alloc_new _ _)) ?d2 ?d3 ?d4 ?d5 ?_)
    case d2 => first | (intro u hu; simp at hu; subst hu; rfl) | rfl
    case d3 => unfold maxLen; omega
    case d4 => omega
    case d5 => first | omega | (simp; omega)
    intro v8 w8 hown8 hg8 _
    have HB8 := Lib.hid (up_grown (up_alloc HLP.out _) (HO.out.alloc _) hg8 (Nat.le_refl _))
    have HO8 := Lib.hid (show w8.ownsRow w3.heap.size 3 1 v8 (m - j) (ivs (ys.drop j).reverse) by rw [HDC.out, List.reverse_cons, ivs_append, show m - j = m - (j + 1) + 1 by omega]; exact hown8)
    have hx8 : w8.cell? ⟨b, off + j, none⟩ = some (.int .i64 x) := (HB8.out.cell (by show b < _; omega)).trans ((HLP.out.cell (by show b < _; omega)).symm.trans hc0)
    clear hown8 hg8
    by_cases hlo : x < -9999
    case pos =>
      have hlod : decide (x < -9999) = true := decide_eq_true hlo
      have ho0 : o = 0 := by rw [← HU.out]; exact netOf_no (by rw [netOk, allIn, all_bad HG.out (by simp only [inR]; rw [Bool.and_eq_false_iff, decide_eq_false_iff_not, decide_eq_false_iff_not]; omega)]; rfl)
      subst ho0
      go_wp2
      go_ret
      exact ⟨rfl, up HBZ.out HB8.out⟩
    by_cases hhi : 9999 < x
    case pos =>
      have hlod : decide (x < -9999) = false := decide_eq_false hlo
      have hhid : decide (9999 < x) = true := decide_eq_true hhi
      have ho0 : o = 0 := by rw [← HU.out]; exact netOf_no (by rw [netOk, allIn, all_bad HG.out (by simp only [inR]; rw [Bool.and_eq_false_iff, decide_eq_false_iff_not, decide_eq_false_iff_not]; omega)]; rfl)
      subst ho0
      go_wp2
      go_ret
      exact ⟨rfl, up HBZ.out HB8.out⟩
    have hlod : decide (x < -9999) = false := decide_eq_false hlo
    have hhid : decide (9999 < x) = false := decide_eq_false hhi
    have HA8 := Lib.hid (show allIn (-9999) 9999 (ys.drop j) = true by rw [HDC.out, allIn, List.all_cons, show inR x (-9999) 9999 = true by simp only [inR, Bool.and_eq_true, decide_eq_true_eq]; omega]; exact hALL.out)
    go_wp2
    go_roundw
    case rel => exact ⟨⟨j, by omega, rfl, HA8, HO8⟩, HB8⟩
    case measure => simp [intOf] <;> omega
end Go.Proofs.Ytogocinmlanikaa
