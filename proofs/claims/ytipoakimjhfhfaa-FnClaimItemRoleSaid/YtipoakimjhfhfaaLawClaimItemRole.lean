/- The law FnClaimItemRole, walked: it returns true. (Written by a program over gen/lawlib.py.) -/
import Derived.Test.YtipoakimjhfhfaaDrawW4
import Derived.Test.YtipoakimjhfhfaaWorkI
import Derived.Test.YtipoakimjhfhfaaWorkJ
import Derived.Test.YtipoakimjhfhfaaMayE
import Derived.Test.YtipoakimjhfhfaaEqLists
import Derived.Test.YtipoakimjhfhfaaLawLists
import Derived.Test.YtipoakimjhfhfaaLawWorkN
import Derived.BigQuiet
import Derived.Deep.RegionLaw
set_option linter.unusedSimpArgs false
set_option linter.unusedVariables false
namespace Go.Proofs.Ytipoakimjhfhfaa
open Go.RowKit

set_option maxRecDepth 100000 in
set_option maxHeartbeats 6400000 in
theorem lawClaimItemRole_any (n c : Nat) (A : Option Addr) (xs : List Int) (w : World) (hr : Rd w 0 w.heap.size 1 A n (bvs xs)) (hby : Bytes xs) (hc : n ≤ c) (hc2 : c ≤ 9223372036854775807) :
    Calls Try.prog 14 #[.slice A n c] w fun e w' => e = .returned (.bool true) ∧ Below w.heap.size w w' := by
  by_cases hbig : (1048576 : Int) < n
  · go_enter Try.func14, Try.ntmps14
    go_wp2
    go_ret
    exact ⟨rfl, Below.refl _ _⟩
  go_enter Try.func14, Try.ntmps14
  go_wp2_with (fail)
  (with_reducible refine (drawClaimItem_any n c A xs w hr hby (by omega) hc hc2).mono ?_)
  rintro e w1 ⟨A1, m, c1, ps, z0, z1, A3, n3, c3, rs, rfl, hm, hc1, hsm, hrd, ⟨z0a, z0b⟩, ⟨z1a, z1b⟩, hn3, hrr, hb1⟩
  clear hbig hr
  have HB_0 := Lib.hid hb1
  have hz_1 := hb1.size
  clear hb1
  have HSM := Lib.hid hsm
  clear hsm
  have hz0 : in64 z0 := by unfold in64; omega
  have hz1 : in64 z1 := by unfold in64; omega
  have HPL := Lib.hid hrd.len3
  have HL_1 := Lib.hid (hrd.wide (Nat.zero_le _) (Nat.le_refl _))
  clear hrd
  have HR_2 := Lib.hid (hrr.wide (Nat.zero_le _) (Nat.le_refl _))
  clear hrr
  have HNR := Lib.hid (show (claimOf ps z0 z1 []).isSome = false by rw [claim_roles]; rfl)
  cases hU : claimOf ps z0 z1 rs with
  | none =>
    have HU := Lib.hid hU
    clear hU
    go_wp2_with (fail)
    (with_reducible refine (mayN (ClaimItemI_any 0 _ m c1 A1 ps z0 z1 0 _ n3 c3 A3 rs _ HL_1.out (by omega) (by omega) hz0 hz1 HR_2.out (by omega) (by omega)) HU.out).mono ?_)
    rintro e w2 ⟨A_3, c_4, rfl, hrt, hbt⟩
    have HO_5 := Lib.hid (hrt.wide (Nat.zero_le _) (Nat.le_refl _))
    clear hrt
    have HL_6 := Lib.hid (HL_1.out.keep hbt (by omega))
    have HR_7 := Lib.hid (HR_2.out.keep hbt (by omega))
    have HB_8 := Lib.hid (up HB_0.out hbt)
    have hz_2 := hbt.size
    clear HL_1 HR_2 HB_0
    clear hbt
    go_wp2_with (fail)
    (with_reducible refine (mayN (ClaimItemS_any 0 _ m c1 A1 ps z0 z1 0 _ n3 c3 A3 rs _ HL_6.out (by omega) (by omega) hz0 hz1 HR_7.out (by omega) (by omega)) HU.out).mono ?_)
    rintro e w3 ⟨A_9, c_10, rfl, hrt, hbt⟩
    have HX_11 := Lib.hid (hrt.wide (Nat.zero_le _) (Nat.le_refl _))
    clear hrt
    have HL_12 := Lib.hid (HL_6.out.keep hbt (by omega))
    have HR_13 := Lib.hid (HR_7.out.keep hbt (by omega))
    have HO_14 := Lib.hid (HO_5.out.keep hbt (by omega))
    have HB_15 := Lib.hid (up HB_8.out hbt)
    have hz_3 := hbt.size
    clear HL_6 HR_7 HO_5 HB_8
    clear hbt
    go_wp2_with (fail)
    (with_reducible refine (equalItems_any _ _ 0 c_4 _ _ 0 c_10 A_3 A_9 ([] : List Tri) ([] : List Tri) _ HO_14.out (by omega) (by omega) HX_11.out (by omega) (by omega)).mono ?_)
    rintro e w4 ⟨rfl, hbt⟩
    rw [beq_self_eq_true]
    have HL_16 := Lib.hid (HL_12.out.keep hbt (by omega))
    have HR_17 := Lib.hid (HR_13.out.keep hbt (by omega))
    have HO_18 := Lib.hid (HO_14.out.keep hbt (by omega))
    have HX_19 := Lib.hid (HX_11.out.keep hbt (by omega))
    have HB_20 := Lib.hid (up HB_15.out hbt)
    have hz_4 := hbt.size
    clear HL_12 HR_13 HO_14 HX_11 HB_15
    clear hbt
    clear HX_19
    clear HR_17
    go_wp2_with (fail)
    (with_reducible refine (mayB (ClaimItemI_any 0 _ m c1 A1 ps z0 z1 0 0 0 0 none [] _ HL_16.out (by omega) (by omega) hz0 hz1 (show Rd _ 0 0 1 none 0 (ivs []) from Rd.nil _ _ _ _ _) (Nat.zero_le _) (by omega)) HNR.out).mono ?_)
    rintro e w5 ⟨A_21, n_23, c_22, rfl, hbt⟩
    have HL_24 := Lib.hid (HL_16.out.keep hbt (by omega))
    have HO_25 := Lib.hid (HO_18.out.keep hbt (by omega))
    have HB_26 := Lib.hid (up HB_20.out hbt)
    have hz_5 := hbt.size
    clear HL_16 HO_18 HB_20
    clear hbt
    go_wp2
    go_loopw [13] (fun iv wr => iv = .int .i64 0 ∧ Hid (Below w5.heap.size w5 wr))
       (fun iv _ => 0)
    case atStart => exact ⟨rfl, Below.refl _ _⟩
    case round =>
      obtain ⟨w6, HWR⟩ : ∃ x : World, x = wr := ⟨_, rfl⟩
      subst HWR
      obtain ⟨rfl, HLP⟩ := hrel
      have hlb := HLP.out
      have HL_27 := Lib.hid (HL_24.out.keep hlb (by omega))
      have HO_28 := Lib.hid (HO_25.out.keep hlb (by omega))
      have HB_29 := Lib.hid (up HB_26.out hlb)
      have hz_6 := hlb.size
      clear HL_24 HO_25 HB_26
      clear hlb
      go_wp2
      all_goals (go_ret; exact ⟨rfl, HB_29.out⟩)
  | some l =>
  have HU := Lib.hid hU
  obtain ⟨k, q, hv, hk, hr0, ho, hl, hvl⟩ := claim_facts hU
  have HLL := Lib.hid (show l.length = m by rw [hl, List.length_set, HPL.out])
  have HUB := Lib.hid (show claimOf ps z0 z1 [q] = some l by rw [claim_free hv hk (by simp) ho, hl])
  have HV := Lib.hid hv
  have HK := Lib.hid hk
  have hkm : k < m := by rw [← HPL.out]; exact (List.getElem?_eq_some_iff.1 hk).1
  clear hv hk hr0 ho hl hvl hU
  go_wp2_with (fail)
  (with_reducible refine (mayS (N := m) (ClaimItemI_any 0 _ m c1 A1 ps z0 z1 0 _ n3 c3 A3 rs _ HL_1.out (by omega) (by omega) hz0 hz1 HR_2.out (by omega) (by omega)) HU.out HLL.out).mono ?_)
  rintro e w2 ⟨A_30, c_31, rfl, hk_c_31, hrt, hbt⟩
  have HO_32 := Lib.hid (hrt.wide (Nat.zero_le _) (Nat.le_refl _))
  clear hrt
  have HL_33 := Lib.hid (HL_1.out.keep hbt (by omega))
  have HR_34 := Lib.hid (HR_2.out.keep hbt (by omega))
  have HB_35 := Lib.hid (up HB_0.out hbt)
  have hz_2 := hbt.size
  clear HL_1 HR_2 HB_0
  clear hbt
  go_wp2_with (fail)
  (with_reducible refine (mayS (N := m) (ClaimItemS_any 0 _ m c1 A1 ps z0 z1 0 _ n3 c3 A3 rs _ HL_33.out (by omega) (by omega) hz0 hz1 HR_34.out (by omega) (by omega)) HU.out HLL.out).mono ?_)
  rintro e w3 ⟨A_36, c_37, rfl, hk_c_37, hrt, hbt⟩
  have HX_38 := Lib.hid (hrt.wide (Nat.zero_le _) (Nat.le_refl _))
  clear hrt
  have HL_39 := Lib.hid (HL_33.out.keep hbt (by omega))
  have HR_40 := Lib.hid (HR_34.out.keep hbt (by omega))
  have HO_41 := Lib.hid (HO_32.out.keep hbt (by omega))
  have HB_42 := Lib.hid (up HB_35.out hbt)
  have hz_3 := hbt.size
  clear HL_33 HR_34 HO_32 HB_35
  clear hbt
  go_wp2_with (fail)
  (with_reducible refine (equalItems_any _ _ m c_31 _ _ m c_37 A_30 A_36 l l _ HO_41.out (by omega) (by omega) HX_38.out (by omega) (by omega)).mono ?_)
  rintro e w4 ⟨rfl, hbt⟩
  rw [beq_self_eq_true]
  have HL_43 := Lib.hid (HL_39.out.keep hbt (by omega))
  have HR_44 := Lib.hid (HR_40.out.keep hbt (by omega))
  have HO_45 := Lib.hid (HO_41.out.keep hbt (by omega))
  have HX_46 := Lib.hid (HX_38.out.keep hbt (by omega))
  have HB_47 := Lib.hid (up HB_42.out hbt)
  have hz_4 := hbt.size
  clear HL_39 HR_40 HO_41 HX_38 HB_42
  clear hbt
  clear HX_46
  clear HR_44
  go_wp2_with (fail)
  (with_reducible refine (mayB (ClaimItemI_any 0 _ m c1 A1 ps z0 z1 0 0 0 0 none [] _ HL_43.out (by omega) (by omega) hz0 hz1 (show Rd _ 0 0 1 none 0 (ivs []) from Rd.nil _ _ _ _ _) (Nat.zero_le _) (by omega)) HNR.out).mono ?_)
  rintro e w5 ⟨A_48, n_50, c_49, rfl, hbt⟩
  have HL_51 := Lib.hid (HL_43.out.keep hbt (by omega))
  have HO_52 := Lib.hid (HO_45.out.keep hbt (by omega))
  have HB_53 := Lib.hid (up HB_47.out hbt)
  have hz_5 := hbt.size
  clear HL_43 HO_45 HB_47
  clear hbt
  go_wp2
  go_loopw [13] (fun iv wr => ∃ (i : Nat), i ≤ k ∧ iv = .int .i64 i ∧ Hid (Below w5.heap.size w5 wr))
     (fun iv _ => k - (intOf iv).toNat)
  case atStart => exact ⟨0, by omega, rfl, Below.refl _ _⟩
  case round =>
    obtain ⟨w6, HWR⟩ : ∃ x : World, x = wr := ⟨_, rfl⟩
    subst HWR
    obtain ⟨i, hi, rfl, HLP⟩ := hrel
    have hlb := HLP.out
    have HL_54 := Lib.hid (HL_51.out.keep hlb (by omega))
    have HO_55 := Lib.hid (HO_52.out.keep hlb (by omega))
    have HB_56 := Lib.hid (up HB_53.out hlb)
    have hz_6 := hlb.size
    clear HL_51 HO_52 HB_53
    clear hlb
    have him : (i : Int) < (m : Int) := by omega
    have hi0 : (0 : Int) ≤ (i : Int) := by omega
    obtain ⟨b, off, x, y, u, hAe, hbB, _, hg, hc0, hc1', hc2'⟩ := HL_54.out.trip (k := i) (by omega)
    subst hAe
    have HNA := Lib.hid (num_at HV.out HK.out hg)
    by_cases hik : i = k
    case neg =>
      have hxz : (x == z0) = false := by rw [beq_eq_false_iff_ne]; exact fun e => hik (HNA.out.1 e)
      clear hg
      have hik2 : i < k := by omega
      go_wp2
      go_roundw
      case rel => exact ⟨i + 1, by omega, by go_num, HLP.out⟩
      case measure => simp [intOf]; omega
    subst hik
    have hx : x = z0 := HNA.out.2 rfl
    subst hx
    have hqy : y = q := by rw [HK.out] at hg; injection hg with hg; injection hg with _ hg; injection hg with hg _; exact hg.symm
    subst hqy
    clear hg HNA
    have hba := up_alloc (Below.refl _ w6) (.cells #[.int .i64 y] 3)
    go_wp2_with (fail)
    (with_reducible refine (mayS (N := m) (ClaimItemI_any 0 _ m c1 (some ⟨b, off, none⟩) ps x z1 _ _ 1 1 _ [y] _ (HL_54.out.keep hba (by omega)) (by simp only [World.size_alloc]; omega) (by omega) hz0 hz1 (Rd.of_blk (Blk.new w6 3 #[.int .i64 y]) rfl) (by simp) (by omega)) HUB.out HLL.out).mono ?_)
    rintro e w7 ⟨A9, c9, rfl, _, hrt, hbt⟩
    have HS_58 := Lib.hid (hrt.wide (Nat.zero_le _) (Nat.le_refl _))
    clear hrt
    have hbu := up hba hbt
    clear hbt
    have HL_59 := Lib.hid (HL_54.out.keep hbu (by omega))
    have HO_60 := Lib.hid (HO_55.out.keep hbu (by omega))
    have HB_61 := Lib.hid (up HB_56.out hbu)
    have hz_7 := hbu.size
    have HP_62 := Lib.hid (up HLP.out hbu)
    clear HL_54 HO_55 HB_56 HLP
    clear hbu hba
    go_wp2_with (fail)
    (with_reducible refine (equalItems_any _ _ m c9 _ _ m c_31 A9 A_30 l l _ HS_58.out (by omega) (by omega) HO_60.out (by omega) (by omega)).mono ?_)
    rintro e w8 ⟨rfl, hbt⟩
    rw [beq_self_eq_true]
    have HL_63 := Lib.hid (HL_59.out.keep hbt (by omega))
    have HO_64 := Lib.hid (HO_60.out.keep hbt (by omega))
    have HS_65 := Lib.hid (HS_58.out.keep hbt (by omega))
    have HB_66 := Lib.hid (up HB_61.out hbt)
    have hz_8 := hbt.size
    have HP_67 := Lib.hid (up HP_62.out hbt)
    clear HL_59 HO_60 HS_58 HB_61 HP_62
    clear hbt
    go_wp2
    go_ret
    exact ⟨rfl, HB_66.out⟩
end Go.Proofs.Ytipoakimjhfhfaa
