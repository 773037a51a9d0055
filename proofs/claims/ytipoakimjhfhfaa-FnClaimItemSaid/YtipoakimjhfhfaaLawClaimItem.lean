/- The law FnClaimItem, walked: it returns true. (Written by a program over gen/lawlib.py.) -/
import Derived.Test.YtipoakimjhfhfaaDrawW4
import Derived.Test.YtipoakimjhfhfaaWorkI
import Derived.Test.YtipoakimjhfhfaaWorkJ
import Derived.Test.YtipoakimjhfhfaaMayE
import Derived.Test.YtipoakimjhfhfaaEqLists
import Derived.Test.YtipoakimjhfhfaaLawLists
import Derived.Test.YtipoakimjhfhfaaLawWorkN
import Derived.BigQuiet
import Derived.Deep.RegionLaw
set_option linter.unusedSimpArgs false
set_option linter.unusedVariables false
namespace Go.Proofs.Ytipoakimjhfhfaa
open Go.RowKit

set_option maxRecDepth 100000 in
set_option maxHeartbeats 6400000 in
theorem lawClaimItem_any (n c : Nat) (A : Option Addr) (xs : List Int) (w : World) (hr : Rd w 0 w.heap.size 1 A n (bvs xs)) (hby : Bytes xs) (hc : n ≤ c) (hc2 : c ≤ 9223372036854775807) :
    Calls Try.prog 7 #[.slice A n c] w fun e w' => e = .returned (.bool true) ∧ Below w.heap.size w w' := by
  by_cases hbig : (1048576 : Int) < n
  · go_enter Try.func7, Try.ntmps7
    go_wp2
    go_ret
    exact ⟨rfl, Below.refl _ _⟩
  go_enter Try.func7, Try.ntmps7
  go_wp2_with (fail)
  (with_reducible refine (drawClaimItem_any n c A xs w hr hby (by omega) hc hc2).mono ?_)
  rintro e w1 ⟨A1, m, c1, ps, z0, z1, A3, n3, c3, rs, rfl, hm, hc1, hsm, hrd, ⟨z0a, z0b⟩, ⟨z1a, z1b⟩, hn3, hrr, hb1⟩
  clear hbig hr
  have HB_0 := Lib.hid hb1
  have hz_1 := hb1.size
  clear hb1
  have HSM := Lib.hid hsm
  clear hsm
  have hz0 : in64 z0 := by unfold in64; omega
  have hz1 : in64 z1 := by unfold in64; omega
  have HPL := Lib.hid hrd.len3
  have HL_1 := Lib.hid (hrd.wide (Nat.zero_le _) (Nat.le_refl _))
  clear hrd
  have HR_2 := Lib.hid (hrr.wide (Nat.zero_le _) (Nat.le_refl _))
  clear hrr
  cases hU : claimOf ps z0 z1 rs with
  | none =>
    have HU := Lib.hid hU
    clear hU
    go_wp2_with (fail)
    (with_reducible refine (mayN (ClaimItemI_any 0 _ m c1 A1 ps z0 z1 0 _ n3 c3 A3 rs _ HL_1.out (by omega) (by omega) hz0 hz1 HR_2.out (by omega) (by omega)) HU.out).mono ?_)
    rintro e w2 ⟨A_3, c_4, rfl, hrt, hbt⟩
    have HO_5 := Lib.hid (hrt.wide (Nat.zero_le _) (Nat.le_refl _))
    clear hrt
    have HL_6 := Lib.hid (HL_1.out.keep hbt (by omega))
    have HR_7 := Lib.hid (HR_2.out.keep hbt (by omega))
    have HB_8 := Lib.hid (up HB_0.out hbt)
    have hz_2 := hbt.size
    clear HL_1 HR_2 HB_0
    clear hbt
    go_wp2_with (fail)
    (with_reducible refine (mayN (ClaimItemS_any 0 _ m c1 A1 ps z0 z1 0 _ n3 c3 A3 rs _ HL_6.out (by omega) (by omega) hz0 hz1 HR_7.out (by omega) (by omega)) HU.out).mono ?_)
    rintro e w3 ⟨A_9, c_10, rfl, hrt, hbt⟩
    have HX_11 := Lib.hid (hrt.wide (Nat.zero_le _) (Nat.le_refl _))
    clear hrt
    have HL_12 := Lib.hid (HL_6.out.keep hbt (by omega))
    have HR_13 := Lib.hid (HR_7.out.keep hbt (by omega))
    have HO_14 := Lib.hid (HO_5.out.keep hbt (by omega))
    have HB_15 := Lib.hid (up HB_8.out hbt)
    have hz_3 := hbt.size
    clear HL_6 HR_7 HO_5 HB_8
    clear hbt
    go_wp2_with (fail)
    (with_reducible refine (equalItems_any _ _ 0 c_4 _ _ 0 c_10 A_3 A_9 ([] : List Tri) ([] : List Tri) _ HO_14.out (by omega) (by omega) HX_11.out (by omega) (by omega)).mono ?_)
    rintro e w4 ⟨rfl, hbt⟩
    rw [beq_self_eq_true]
    have HL_16 := Lib.hid (HL_12.out.keep hbt (by omega))
    have HR_17 := Lib.hid (HR_13.out.keep hbt (by omega))
    have HO_18 := Lib.hid (HO_14.out.keep hbt (by omega))
    have HX_19 := Lib.hid (HX_11.out.keep hbt (by omega))
    have HB_20 := Lib.hid (up HB_15.out hbt)
    have hz_4 := hbt.size
    clear HL_12 HR_13 HO_14 HX_11 HB_15
    clear hbt
    go_wp2_with (fail)
    (with_reducible refine (equalItems_any _ _ 0 c_4 _ _ 0 c_10 A_3 A_9 ([] : List Tri) ([] : List Tri) _ HO_18.out (by omega) (by omega) HX_19.out (by omega) (by omega)).mono ?_)
    rintro e w5 ⟨rfl, hbt⟩
    rw [beq_self_eq_true]
    have HL_21 := Lib.hid (HL_16.out.keep hbt (by omega))
    have HR_22 := Lib.hid (HR_17.out.keep hbt (by omega))
    have HO_23 := Lib.hid (HO_18.out.keep hbt (by omega))
    have HX_24 := Lib.hid (HX_19.out.keep hbt (by omega))
    have HB_25 := Lib.hid (up HB_20.out hbt)
    have hz_5 := hbt.size
    clear HL_16 HR_17 HO_18 HX_19 HB_20
    clear hbt
    go_wp2
    go_ret
    exact ⟨rfl, HB_25.out⟩
  | some l =>
  have HU := Lib.hid hU
  obtain ⟨k, q, hv, hk, hr0, ho, hl, hvl⟩ := claim_facts hU
  have HLL := Lib.hid (show l.length = m by rw [hl, List.length_set, HPL.out])
  have HVP := Lib.hid hv
  have HV := Lib.hid hvl
  have HK := Lib.hid hk
  have hkm : k < m := by rw [← HPL.out]; exact (List.getElem?_eq_some_iff.1 hk).1
  obtain ⟨ot, HOT⟩ : ∃ ot : Int, Hid (1 ≤ ot ∧ ot ≤ 9 ∧ ot ≠ z1 ∧ z1.tmod 9 + 1 = ot) := ⟨_, by rw [Int.tmod_eq_emod_of_nonneg (by omega)]; omega, by rw [Int.tmod_eq_emod_of_nonneg (by omega)]; omega, by rw [Int.tmod_eq_emod_of_nonneg (by omega)]; omega, rfl⟩
  obtain ⟨ot1, ot9, otn, ote⟩ := HOT.out
  have hot : in64 ot := by unfold in64; omega
  have hwo : IntKind.i64.wrap (z1.tmod 9 + 1) = ot := by rw [ote]; exact IntWalk.i64_in _ (by omega)
  clear ote HOT
  have HLI := Lib.hid (fun (i : Nat) (h : i ≠ k) => show l[i]? = ps[i]? by rw [hl, List.getElem?_set_ne (Ne.symm h)])
  have HLK := Lib.hid (show l[k]? = some (z0, q, z1) by rw [hl]; exact set_at hk)
  have HU2 := Lib.hid (show (claimOf l z0 ot [0, 1, 2, 3, 4, 5]).isSome = false by rw [claim_taken hvl HLK.out (by omega)]; rfl)
  clear hv hk hr0 ho hl hvl hU otn
  go_wp2_with (fail)
  (with_reducible refine (mayS (N := m) (ClaimItemI_any 0 _ m c1 A1 ps z0 z1 0 _ n3 c3 A3 rs _ HL_1.out (by omega) (by omega) hz0 hz1 HR_2.out (by omega) (by omega)) HU.out HLL.out).mono ?_)
  rintro e w2 ⟨A_26, c_27, rfl, hk_c_27, hrt, hbt⟩
  have HO_28 := Lib.hid (hrt.wide (Nat.zero_le _) (Nat.le_refl _))
  clear hrt
  have HL_29 := Lib.hid (HL_1.out.keep hbt (by omega))
  have HR_30 := Lib.hid (HR_2.out.keep hbt (by omega))
  have HB_31 := Lib.hid (up HB_0.out hbt)
  have hz_2 := hbt.size
  clear HL_1 HR_2 HB_0
  clear hbt
  go_wp2_with (fail)
  (with_reducible refine (mayS (N := m) (ClaimItemS_any 0 _ m c1 A1 ps z0 z1 0 _ n3 c3 A3 rs _ HL_29.out (by omega) (by omega) hz0 hz1 HR_30.out (by omega) (by omega)) HU.out HLL.out).mono ?_)
  rintro e w3 ⟨A_32, c_33, rfl, hk_c_33, hrt, hbt⟩
  have HX_34 := Lib.hid (hrt.wide (Nat.zero_le _) (Nat.le_refl _))
  clear hrt
  have HL_35 := Lib.hid (HL_29.out.keep hbt (by omega))
  have HR_36 := Lib.hid (HR_30.out.keep hbt (by omega))
  have HO_37 := Lib.hid (HO_28.out.keep hbt (by omega))
  have HB_38 := Lib.hid (up HB_31.out hbt)
  have hz_3 := hbt.size
  clear HL_29 HR_30 HO_28 HB_31
  clear hbt
  go_wp2_with (fail)
  (with_reducible refine (equalItems_any _ _ m c_27 _ _ m c_33 A_26 A_32 l l _ HO_37.out (by omega) (by omega) HX_34.out (by omega) (by omega)).mono ?_)
  rintro e w4 ⟨rfl, hbt⟩
  rw [beq_self_eq_true]
  have HL_39 := Lib.hid (HL_35.out.keep hbt (by omega))
  have HR_40 := Lib.hid (HR_36.out.keep hbt (by omega))
  have HO_41 := Lib.hid (HO_37.out.keep hbt (by omega))
  have HX_42 := Lib.hid (HX_34.out.keep hbt (by omega))
  have HB_43 := Lib.hid (up HB_38.out hbt)
  have hz_4 := hbt.size
  clear HL_35 HR_36 HO_37 HX_34 HB_38
  clear hbt
  clear HX_42
  clear HR_40
  go_wp2
  go_loopw [11] (fun iv wr => ∃ (i : Nat), i ≤ m ∧ iv = .int .i64 i ∧ Hid (Below w4.heap.size w4 wr))
     (fun iv _ => m - (intOf iv).toNat)
  case atStart => exact ⟨0, by omega, rfl, Below.refl _ _⟩
  case round =>
    obtain ⟨w5, HWR⟩ : ∃ x : World, x = wr := ⟨_, rfl⟩
    subst HWR
    obtain ⟨i, hi, rfl, HLP⟩ := hrel
    have hlb := HLP.out
    have HL_44 := Lib.hid (HL_39.out.keep hlb (by omega))
    have HO_45 := Lib.hid (HO_41.out.keep hlb (by omega))
    have HB_46 := Lib.hid (up HB_43.out hlb)
    have hz_5 := hlb.size
    clear HL_39 HO_41 HB_43
    clear hlb
    by_cases hlt : i < m
    case neg =>
      have hge : (m : Int) ≤ (i : Int) := by omega
      have hba := up_alloc (Below.refl _ w5) (.cells #[.int .i64 0, .int .i64 1, .int .i64 2, .int .i64 3, .int .i64 4, .int .i64 5] 3)
      go_wp2_with (fail)
      (with_reducible refine (mayB (ClaimItemI_any 0 _ m c_27 A_26 l z0 ot _ _ 6 6 _ [0, 1, 2, 3, 4, 5] _ (HO_45.out.keep hba (by omega)) (by simp only [World.size_alloc]; omega) (by omega) hz0 hot (Rd.of_blk (Blk.new w5 3 #[.int .i64 0, .int .i64 1, .int .i64 2, .int .i64 3, .int .i64 4, .int .i64 5]) rfl) (by simp) (by omega)) HU2.out).mono ?_)
      rintro e w6 ⟨A9, n9, c9, rfl, hbt⟩
      have hbu := up hba hbt
      clear hbt
      have HL_47 := Lib.hid (HL_44.out.keep hbu (by omega))
      have HO_48 := Lib.hid (HO_45.out.keep hbu (by omega))
      have HB_49 := Lib.hid (up HB_46.out hbu)
      have hz_6 := hbu.size
      have HP_50 := Lib.hid (up HLP.out hbu)
      clear HL_44 HO_45 HB_46 HLP
      clear hbu hba
      go_wp2_with (fail)
      (with_reducible refine (ValidWorkI_any 0 _ m c_27 A_26 l _ HO_48.out (by omega) (by omega)).mono ?_)
      rintro e w7 ⟨rfl, hbt⟩
      rw [HV.out]
      have HL_51 := Lib.hid (HL_47.out.keep hbt (by omega))
      have HO_52 := Lib.hid (HO_48.out.keep hbt (by omega))
      have HB_53 := Lib.hid (up HB_49.out hbt)
      have hz_7 := hbt.size
      have HP_54 := Lib.hid (up HP_50.out hbt)
      clear HL_47 HO_48 HB_49 HP_50
      clear hbt
      go_wp2
      go_ret
      exact ⟨rfl, HB_53.out⟩
    have him : (i : Int) < (m : Int) := by omega
    have hi0 : (0 : Int) ≤ (i : Int) := by omega
    have hig : decide ((m : Int) ≤ (i : Int)) = false := decide_eq_false (by omega)
    have hig2 : decide (m ≤ i) = false := decide_eq_false (by omega)
    obtain ⟨b, off, x, y, u, hAe, hbB, _, hg, hc0, hc1', hc2'⟩ := HL_44.out.trip (k := i) (by omega)
    subst hAe
    obtain ⟨b2, off2, x2, y2, u2, hAe2, hbB2, _, hg2, hd0, hd1, hd2⟩ := HO_45.out.trip (k := i) (by omega)
    subst hAe2
    have HNA := Lib.hid (num_at HVP.out HK.out hg)
    by_cases hik : i = k
    case neg =>
      have hxz : (x == z0) = false := by rw [beq_eq_false_iff_ne]; exact fun e => hik (HNA.out.1 e)
      have hq : (x, y, u) = (x2, y2, u2) := by rw [HLI.out i hik, hg] at hg2; injection hg2
      injection hq with hq1 hq; injection hq with hq2 hq3
      subst hq1; subst hq2; subst hq3
      clear hg hg2 hik HNA
      have hbx := up_alloc (Below.refl _ w5) (.cells #[.int .i64 x, .int .i64 y, .int .i64 u] 33)
      have e0 := (hbx.cell (p := ⟨b2, off2 + i * 3, none⟩) (by show b2 < w5.heap.size; omega)).trans hd0
      have e1 := (hbx.cell (p := ⟨b2, off2 + i * 3 + 1, none⟩) (by show b2 < w5.heap.size; omega)).trans hd1
      have e2 := (hbx.cell (p := ⟨b2, off2 + i * 3 + 2, none⟩) (by show b2 < w5.heap.size; omega)).trans hd2
      have HX := Lib.hid (Blk.new w5 33 #[.int .i64 x, .int .i64 y, .int .i64 u])
      go_wp2_with (fail)
      go_quiet (fail)
      have HPX := Lib.hid (up HLP.out hbx)
      go_wp2
      go_roundw
      case rel => exact ⟨i + 1, by omega, by go_num, up_drewN HPX.out _⟩
      case measure => simp [intOf]; omega
    subst hik
    have hx : x = z0 := HNA.out.2 rfl
    subst hx
    have hqy : y = q := by rw [HK.out] at hg; injection hg with hg; injection hg with _ hg; injection hg with hg _; exact hg.symm
    subst hqy
    have hq : (x, y, z1) = (x2, y2, u2) := by rw [HLK.out] at hg2; injection hg2
    injection hq with hq1 hq; injection hq with hq2 hq3
    subst hq1; subst hq2; subst hq3
    clear hg hg2 HNA
    have hbx := up_alloc (Below.refl _ w5) (.cells #[.int .i64 x, .int .i64 y, .int .i64 z1] 33)
    have e0 := (hbx.cell (p := ⟨b2, off2 + i * 3, none⟩) (by show b2 < w5.heap.size; omega)).trans hd0
    have e1 := (hbx.cell (p := ⟨b2, off2 + i * 3 + 1, none⟩) (by show b2 < w5.heap.size; omega)).trans hd1
    have e2 := (hbx.cell (p := ⟨b2, off2 + i * 3 + 2, none⟩) (by show b2 < w5.heap.size; omega)).trans hd2
    have HX := Lib.hid (Blk.new w5 33 #[.int .i64 x, .int .i64 y, .int .i64 z1])
    go_wp2_with (fail)
    go_quiet (fail)
    have HPX := Lib.hid (up HLP.out hbx)
    go_wp2
    go_roundw
    case rel => exact ⟨i + 1, by omega, by go_num, up_drewN HPX.out _⟩
    case measure => simp [intOf]; omega
end Go.Proofs.Ytipoakimjhfhfaa
