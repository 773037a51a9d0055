/- The law FnNewerLog, walked: it returns true. (Written by a program over gen/lawlib.py.) -/
import Derived.Test.YtobjcifoaejonabDrawL2
import Derived.Test.YtobjcifoaejonabLogJ
import Derived.Test.YtobjcifoaejonabLogS1
import Derived.Test.YtobjcifoaejonabEqLists
import Derived.Test.YtobjcifoaejonabLawLogM
import Derived.BigQuiet
import Derived.Deep.RegionLaw
set_option linter.unusedSimpArgs false
set_option linter.unusedVariables false
namespace Go.Proofs.Ytobjcifoaejonab
open Go.RowKit

set_option maxRecDepth 100000 in
set_option maxHeartbeats 6400000 in
theorem lawNewerLog_any (n c : Nat) (A : Option Addr) (xs : List Int) (w : World) (hr : Rd w 0 w.heap.size 1 A n (bvs xs)) (hby : Bytes xs) (hc : n ≤ c) (hc2 : c ≤ 9223372036854775807) :
    Calls Try.prog 4 #[.slice A n c] w fun e w' => e = .returned (.bool true) ∧ Below w.heap.size w w' := by
  by_cases hbig : (1048576 : Int) < n
  · go_enter Try.func4, Try.ntmps4
    go_wp2
    go_ret
    exact ⟨rfl, Below.refl _ _⟩
  go_enter Try.func4, Try.ntmps4
  go_wp2_with (fail)
  (with_reducible refine (drawNewerLog_any n c A xs w hr hby (by omega) hc hc2).mono ?_)
  rintro e w1 ⟨A1, m, c1, ps, A2, m2, c2, qs, rfl, hm, hc1, hsm, hrd, hm2, hc2', hsm2, hrd2, hb1⟩
  clear hbig hr
  have HB_0 := Lib.hid hb1
  have hz_1 := hb1.size
  clear hb1
  have HSM := Lib.hid hsm
  clear hsm
  have HPL := Lib.hid hrd.len2
  have HQL := Lib.hid hrd2.len2
  clear hsm2
  have HL_1 := Lib.hid (hrd.wide (Nat.zero_le _) (Nat.le_refl _))
  clear hrd
  have HR_2 := Lib.hid (hrd2.wide (Nat.zero_le _) (Nat.le_refl _))
  clear hrd2
  cases hV : vLog ps with
  | false =>
    have HV := Lib.hid hV
    have HU := Lib.hid (newer_no (b := qs) (.inl hV))
    clear hV
    go_wp2_with (fail)
    (with_reducible refine (NewerLogI_any 0 _ m c1 A1 ps 0 _ m2 c2 A2 qs _ HL_1.out (by omega) (by omega) (by omega) HR_2.out (by omega) (by omega) (by omega)).mono ?_)
    rintro e w2 ⟨rfl, hbt⟩
    rw [HU.out]
    have HL_3 := Lib.hid (HL_1.out.keep hbt (by omega))
    have HR_4 := Lib.hid (HR_2.out.keep hbt (by omega))
    have HB_5 := Lib.hid (up HB_0.out hbt)
    have hz_2 := hbt.size
    clear HL_1 HR_2 HB_0
    clear hbt
    go_wp2_with (fail)
    (with_reducible refine (NewerLogS_any 0 _ m c1 A1 ps 0 _ m2 c2 A2 qs _ HL_3.out (by omega) (by omega) HR_4.out (by omega) (by omega)).mono ?_)
    rintro e w3 ⟨rfl, hbt⟩
    rw [HU.out]
    have HL_6 := Lib.hid (HL_3.out.keep hbt (by omega))
    have HR_7 := Lib.hid (HR_4.out.keep hbt (by omega))
    have HB_8 := Lib.hid (up HB_5.out hbt)
    have hz_3 := hbt.size
    clear HL_3 HR_4 HB_5
    clear hbt
    go_wp2_with (fail)
    (with_reducible refine (ValidLogI_any 0 _ m c1 A1 ps _ HL_6.out (by omega) (by omega) (by omega)).mono ?_)
    rintro e w4 ⟨rfl, hbt⟩
    rw [HV.out]
    have HL_9 := Lib.hid (HL_6.out.keep hbt (by omega))
    have HR_10 := Lib.hid (HR_7.out.keep hbt (by omega))
    have HB_11 := Lib.hid (up HB_8.out hbt)
    have hz_4 := hbt.size
    clear HL_6 HR_7 HB_8
    clear hbt
    go_wp2_with (fail)
    (with_reducible refine (NewerLogS_any 0 _ m c1 A1 ps 0 _ m2 c2 A2 qs _ HL_9.out (by omega) (by omega) HR_10.out (by omega) (by omega)).mono ?_)
    rintro e w5 ⟨rfl, hbt⟩
    rw [HU.out]
    have HL_12 := Lib.hid (HL_9.out.keep hbt (by omega))
    have HR_13 := Lib.hid (HR_10.out.keep hbt (by omega))
    have HB_14 := Lib.hid (up HB_11.out hbt)
    have hz_5 := hbt.size
    clear HL_9 HR_10 HB_11
    clear hbt
    go_wp2
    go_ret
    exact ⟨rfl, HB_14.out⟩
  | true =>
    cases hV2 : vLog qs with
    | false =>
      have HV := Lib.hid hV
      have HV2 := Lib.hid hV2
      have HU := Lib.hid (newer_no (a := ps) (.inr hV2))
      clear hV hV2
      go_wp2_with (fail)
      (with_reducible refine (NewerLogI_any 0 _ m c1 A1 ps 0 _ m2 c2 A2 qs _ HL_1.out (by omega) (by omega) (by omega) HR_2.out (by omega) (by omega) (by omega)).mono ?_)
      rintro e w2 ⟨rfl, hbt⟩
      rw [HU.out]
      have HL_15 := Lib.hid (HL_1.out.keep hbt (by omega))
      have HR_16 := Lib.hid (HR_2.out.keep hbt (by omega))
      have HB_17 := Lib.hid (up HB_0.out hbt)
      have hz_2 := hbt.size
      clear HL_1 HR_2 HB_0
      clear hbt
      go_wp2_with (fail)
      (with_reducible refine (NewerLogS_any 0 _ m c1 A1 ps 0 _ m2 c2 A2 qs _ HL_15.out (by omega) (by omega) HR_16.out (by omega) (by omega)).mono ?_)
      rintro e w3 ⟨rfl, hbt⟩
      rw [HU.out]
      have HL_18 := Lib.hid (HL_15.out.keep hbt (by omega))
      have HR_19 := Lib.hid (HR_16.out.keep hbt (by omega))
      have HB_20 := Lib.hid (up HB_17.out hbt)
      have hz_3 := hbt.size
      clear HL_15 HR_16 HB_17
      clear hbt
      go_wp2_with (fail)
      (with_reducible refine (ValidLogI_any 0 _ m c1 A1 ps _ HL_18.out (by omega) (by omega) (by omega)).mono ?_)
      rintro e w4 ⟨rfl, hbt⟩
      rw [HV.out]
      have HL_21 := Lib.hid (HL_18.out.keep hbt (by omega))
      have HR_22 := Lib.hid (HR_19.out.keep hbt (by omega))
      have HB_23 := Lib.hid (up HB_20.out hbt)
      have hz_4 := hbt.size
      clear HL_18 HR_19 HB_20
      clear hbt
      go_wp2_with (fail)
      (with_reducible refine (ValidLogI_any 0 _ m2 c2 A2 qs _ HR_22.out (by omega) (by omega) (by omega)).mono ?_)
      rintro e w5 ⟨rfl, hbt⟩
      rw [HV2.out]
      have HL_24 := Lib.hid (HL_21.out.keep hbt (by omega))
      have HR_25 := Lib.hid (HR_22.out.keep hbt (by omega))
      have HB_26 := Lib.hid (up HB_23.out hbt)
      have hz_5 := hbt.size
      clear HL_21 HR_22 HB_23
      clear hbt
      go_wp2_with (fail)
      (with_reducible refine (NewerLogS_any 0 _ m c1 A1 ps 0 _ m2 c2 A2 qs _ HL_24.out (by omega) (by omega) HR_25.out (by omega) (by omega)).mono ?_)
      rintro e w6 ⟨rfl, hbt⟩
      rw [HU.out]
      have HL_27 := Lib.hid (HL_24.out.keep hbt (by omega))
      have HR_28 := Lib.hid (HR_25.out.keep hbt (by omega))
      have HB_29 := Lib.hid (up HB_26.out hbt)
      have hz_6 := hbt.size
      clear HL_24 HR_25 HB_26
      clear hbt
      go_wp2
      go_ret
      exact ⟨rfl, HB_29.out⟩
    | true =>
      have HV := Lib.hid hV
      have HV2 := Lib.hid hV2
      have hBD := And.intro (termOf_le_last hV HPL.out (Nat.zero_le m)) (termOf_le_last hV2 HQL.out (Nat.zero_le m2))
      obtain ⟨o, bk, et, em, HU, HW, HT, HM, HF⟩ : ∃ o bk et em : Bool, Hid (newerOf ps qs = o) ∧ Hid (newerOf qs ps = bk) ∧ (termOf ps m == termOf qs m2) = et ∧ ((m : Int) == (m2 : Int)) = em ∧ Hid ((o || bk) = true ∧ ((o && bk) == (et && em)) = true) := by
        rcases Int.lt_trichotomy (termOf ps m) (termOf qs m2) with h | h | h
        · obtain ⟨h1, h2, h3⟩ := newer_lt hV hV2 HPL.out HQL.out h
          exact ⟨_, _, _, _, h1, h2, h3, rfl, rfl, by simp⟩
        · obtain ⟨h1, h2, h3⟩ := newer_eq hV hV2 HPL.out HQL.out h
          refine ⟨_, _, _, _, h1, h2, h3, rfl, ?_, ?_⟩
          · by_cases e : m2 ≤ m
            · simp [e]
            · have : m ≤ m2 := by omega
              simp [this]
          · rw [beq_iff_eq, Bool.eq_iff_iff]; simp; omega
        · obtain ⟨h1, h2, h3⟩ := newer_lt hV2 hV HQL.out HPL.out h
          refine ⟨_, _, false, _, h2, h1, ?_, rfl, rfl, by simp⟩
          rw [beq_eq_false_iff_ne]; omega
      clear hV hV2 hBD
      have HX : Hid (∃ x, termOf ps m = x ∧ (m = 0 ∧ x = 0 ∨ ∃ j y, m = j + 1 ∧ ps[j]? = some (x, y))) := by
        rcases Nat.eq_zero_or_pos m with h | h
        · exact ⟨_, rfl, .inl ⟨h, by rw [h]; rfl⟩⟩
        · obtain ⟨j, hj⟩ : ∃ j, m = j + 1 := ⟨m - 1, by omega⟩
          have hl : j < ps.length := by rw [HPL.out]; omega
          exact ⟨_, rfl, .inr ⟨j, ps[j].2, hj, by rw [hj, termOf_get (List.getElem?_eq_getElem hl)]; exact List.getElem?_eq_getElem hl⟩⟩
      have HY : Hid (∃ x, termOf qs m2 = x ∧ (m2 = 0 ∧ x = 0 ∨ ∃ j y, m2 = j + 1 ∧ qs[j]? = some (x, y))) := by
        rcases Nat.eq_zero_or_pos m2 with h | h
        · exact ⟨_, rfl, .inl ⟨h, by rw [h]; rfl⟩⟩
        · obtain ⟨j, hj⟩ : ∃ j, m2 = j + 1 := ⟨m2 - 1, by omega⟩
          have hl : j < qs.length := by rw [HQL.out]; omega
          exact ⟨_, rfl, .inr ⟨j, qs[j].2, hj, by rw [hj, termOf_get (List.getElem?_eq_getElem hl)]; exact List.getElem?_eq_getElem hl⟩⟩
      obtain ⟨x, hx, HXC⟩ := HX.out
      obtain ⟨y, hy, HYC⟩ := HY.out
      rw [hx, hy] at HT
      clear HX HY hx hy
      have HXC := Lib.hid HXC
      have HYC := Lib.hid HYC
      go_wp2_with (fail)
      (with_reducible refine (NewerLogI_any 0 _ m c1 A1 ps 0 _ m2 c2 A2 qs _ HL_1.out (by omega) (by omega) (by omega) HR_2.out (by omega) (by omega) (by omega)).mono ?_)
      rintro e w2 ⟨rfl, hbt⟩
      rw [HU.out]
      have HL_30 := Lib.hid (HL_1.out.keep hbt (by omega))
      have HR_31 := Lib.hid (HR_2.out.keep hbt (by omega))
      have HB_32 := Lib.hid (up HB_0.out hbt)
      have hz_2 := hbt.size
      clear HL_1 HR_2 HB_0
      clear hbt
      go_wp2_with (fail)
      (with_reducible refine (NewerLogS_any 0 _ m c1 A1 ps 0 _ m2 c2 A2 qs _ HL_30.out (by omega) (by omega) HR_31.out (by omega) (by omega)).mono ?_)
      rintro e w3 ⟨rfl, hbt⟩
      rw [HU.out]
      have HL_33 := Lib.hid (HL_30.out.keep hbt (by omega))
      have HR_34 := Lib.hid (HR_31.out.keep hbt (by omega))
      have HB_35 := Lib.hid (up HB_32.out hbt)
      have hz_3 := hbt.size
      clear HL_30 HR_31 HB_32
      clear hbt
      have hoo : (o != o) = false := by simp
      go_wp2_with (fail)
      (with_reducible refine (ValidLogI_any 0 _ m c1 A1 ps _ HL_33.out (by omega) (by omega) (by omega)).mono ?_)
      rintro e w4 ⟨rfl, hbt⟩
      rw [HV.out]
      have HL_36 := Lib.hid (HL_33.out.keep hbt (by omega))
      have HR_37 := Lib.hid (HR_34.out.keep hbt (by omega))
      have HB_38 := Lib.hid (up HB_35.out hbt)
      have hz_4 := hbt.size
      clear HL_33 HR_34 HB_35
      clear hbt
      go_wp2_with (fail)
      (with_reducible refine (ValidLogI_any 0 _ m2 c2 A2 qs _ HR_37.out (by omega) (by omega) (by omega)).mono ?_)
      rintro e w5 ⟨rfl, hbt⟩
      rw [HV2.out]
      have HL_39 := Lib.hid (HL_36.out.keep hbt (by omega))
      have HR_40 := Lib.hid (HR_37.out.keep hbt (by omega))
      have HB_41 := Lib.hid (up HB_38.out hbt)
      have hz_5 := hbt.size
      clear HL_36 HR_37 HB_38
      clear hbt
      rcases HXC.out with ⟨rfl, rfl⟩ | ⟨j1, ya', rfl, HG1⟩
      · clear HXC
        rcases HYC.out with ⟨rfl, rfl⟩ | ⟨j2, yb', rfl, HG2⟩
        · clear HYC
          obtain rfl : em = true := by rw [← HM]; rfl
          obtain rfl : et = true := by rw [← HT]; rfl
          clear HM HT
          go_wp2_with (fail)
          (with_reducible refine (NewerLogI_any 0 _ 0 c2 A2 qs 0 _ 0 c1 A1 ps _ HR_40.out (by omega) (by omega) (by omega) HL_39.out (by omega) (by omega) (by omega)).mono ?_)
          rintro e w6 ⟨rfl, hbt⟩
          rw [HW.out]
          have HL_42 := Lib.hid (HL_39.out.keep hbt (by omega))
          have HR_43 := Lib.hid (HR_40.out.keep hbt (by omega))
          have HB_44 := Lib.hid (up HB_41.out hbt)
          have hz_6 := hbt.size
          clear HL_39 HR_40 HB_41
          clear hbt
          obtain ⟨hf1, hf2⟩ := HF.out
          cases o <;> cases bk <;> simp at hf1 hf2 <;> (go_wp2; go_ret; exact ⟨rfl, HB_44.out⟩)
        · have HG2 := Lib.hid HG2
          clear HYC
          obtain ⟨bb, offb, xb, yb, hAb, _, _, hg, hc0b, hc1b⟩ := HR_40.out.pair (k := j2) (by omega)
          have hq : (y, yb') = (xb, yb) := by rw [HG2.out] at hg; injection hg
          injection hq with hq1 hq2
          clear hg hq2
          subst hq1
          subst hAb
          have hwb : IntKind.i64.wrap (((j2 + 1 : Nat) : Int) - 1) = (j2 : Int) := by rw [IntWalk.i64_in _ (by omega)]; omega
          have hp0b : (0 : Int) ≤ (j2 : Int) := by omega
          have hpnb : (j2 : Int) < ((j2 + 1 : Nat) : Int) := by omega
          have hppb : decide ((0 : Int) < ((j2 + 1 : Nat) : Int)) = true := decide_eq_true (by omega)
          obtain rfl : em = false := by rw [← HM, beq_eq_false_iff_ne]; omega
          have HM2 : ((0 : Int) == (j2 : Int) + 1) = false := by rw [beq_eq_false_iff_ne]; omega
          clear HM
          go_wp2_with (fail)
          (with_reducible refine (NewerLogI_any 0 _ (j2 + 1) c2 (some ⟨bb, offb, none⟩) qs 0 _ 0 c1 A1 ps _ HR_40.out (by omega) (by omega) (by omega) HL_39.out (by omega) (by omega) (by omega)).mono ?_)
          rintro e w6 ⟨rfl, hbt⟩
          rw [HW.out]
          have HL_45 := Lib.hid (HL_39.out.keep hbt (by omega))
          have HR_46 := Lib.hid (HR_40.out.keep hbt (by omega))
          have HB_47 := Lib.hid (up HB_41.out hbt)
          have hz_6 := hbt.size
          clear HL_39 HR_40 HB_41
          clear hbt
          obtain ⟨hf1, hf2⟩ := HF.out
          cases o <;> cases bk <;> cases et <;> simp at hf1 hf2 <;> (go_wp2; go_ret; exact ⟨rfl, HB_47.out⟩)
      · have HG1 := Lib.hid HG1
        clear HXC
        obtain ⟨ba, offa, xa, ya, hAa, _, _, hg, hc0a, hc1a⟩ := HL_39.out.pair (k := j1) (by omega)
        have hq : (x, ya') = (xa, ya) := by rw [HG1.out] at hg; injection hg
        injection hq with hq1 hq2
        clear hg hq2
        subst hq1
        subst hAa
        have hwa : IntKind.i64.wrap (((j1 + 1 : Nat) : Int) - 1) = (j1 : Int) := by rw [IntWalk.i64_in _ (by omega)]; omega
        have hp0a : (0 : Int) ≤ (j1 : Int) := by omega
        have hpna : (j1 : Int) < ((j1 + 1 : Nat) : Int) := by omega
        have hppa : decide ((0 : Int) < ((j1 + 1 : Nat) : Int)) = true := decide_eq_true (by omega)
        rcases HYC.out with ⟨rfl, rfl⟩ | ⟨j2, yb', rfl, HG2⟩
        · clear HYC
          obtain rfl : em = false := by rw [← HM, beq_eq_false_iff_ne]; omega
          have HM2 : ((j1 : Int) + 1 == 0) = false := by rw [beq_eq_false_iff_ne]; omega
          clear HM
          go_wp2_with (fail)
          (with_reducible refine (NewerLogI_any 0 _ 0 c2 A2 qs 0 _ (j1 + 1) c1 (some ⟨ba, offa, none⟩) ps _ HR_40.out (by omega) (by omega) (by omega) HL_39.out (by omega) (by omega) (by omega)).mono ?_)
          rintro e w6 ⟨rfl, hbt⟩
          rw [HW.out]
          have HL_48 := Lib.hid (HL_39.out.keep hbt (by omega))
          have HR_49 := Lib.hid (HR_40.out.keep hbt (by omega))
          have HB_50 := Lib.hid (up HB_41.out hbt)
          have hz_6 := hbt.size
          clear HL_39 HR_40 HB_41
          clear hbt
          obtain ⟨hf1, hf2⟩ := HF.out
          cases o <;> cases bk <;> cases et <;> simp at hf1 hf2 <;> (go_wp2; go_ret; exact ⟨rfl, HB_50.out⟩)
        · have HG2 := Lib.hid HG2
          clear HYC
          obtain ⟨bb, offb, xb, yb, hAb, _, _, hg, hc0b, hc1b⟩ := HR_40.out.pair (k := j2) (by omega)
          have hq : (y, yb') = (xb, yb) := by rw [HG2.out] at hg; injection hg
          injection hq with hq1 hq2
          clear hg hq2
          subst hq1
          subst hAb
          have hwb : IntKind.i64.wrap (((j2 + 1 : Nat) : Int) - 1) = (j2 : Int) := by rw [IntWalk.i64_in _ (by omega)]; omega
          have hp0b : (0 : Int) ≤ (j2 : Int) := by omega
          have hpnb : (j2 : Int) < ((j2 + 1 : Nat) : Int) := by omega
          have hppb : decide ((0 : Int) < ((j2 + 1 : Nat) : Int)) = true := decide_eq_true (by omega)
          have HM2 : ((j1 : Int) + 1 == (j2 : Int) + 1) = em := by rw [← HM, Int.natCast_add, Int.natCast_add]; rfl
          go_wp2_with (fail)
          (with_reducible refine (NewerLogI_any 0 _ (j2 + 1) c2 (some ⟨bb, offb, none⟩) qs 0 _ (j1 + 1) c1 (some ⟨ba, offa, none⟩) ps _ HR_40.out (by omega) (by omega) (by omega) HL_39.out (by omega) (by omega) (by omega)).mono ?_)
          rintro e w6 ⟨rfl, hbt⟩
          rw [HW.out]
          have HL_51 := Lib.hid (HL_39.out.keep hbt (by omega))
          have HR_52 := Lib.hid (HR_40.out.keep hbt (by omega))
          have HB_53 := Lib.hid (up HB_41.out hbt)
          have hz_6 := hbt.size
          clear HL_39 HR_40 HB_41
          clear hbt
          obtain ⟨hf1, hf2⟩ := HF.out
          cases o <;> cases bk <;> cases et <;> cases em <;> simp at hf1 hf2 <;> (go_wp2; go_ret; exact ⟨rfl, HB_53.out⟩)
end Go.Proofs.Ytobjcifoaejonab
