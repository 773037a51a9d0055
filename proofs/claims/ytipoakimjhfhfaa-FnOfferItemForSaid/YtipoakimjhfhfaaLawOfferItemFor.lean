/- The law FnOfferItemFor, walked: it returns true. (Written by a program over gen/lawlib.py.) -/
import Derived.Test.YtipoakimjhfhfaaDrawW4
import Derived.Test.YtipoakimjhfhfaaWorkI
import Derived.Test.YtipoakimjhfhfaaWorkJ
import Derived.Test.YtipoakimjhfhfaaMayE
import Derived.Test.YtipoakimjhfhfaaEqLists
import Derived.Test.YtipoakimjhfhfaaLawLists
import Derived.Test.YtipoakimjhfhfaaLawWorkM
import Derived.BigQuiet
set_option linter.unusedSimpArgs false
set_option linter.unusedVariables false
namespace Go.Proofs.Ytipoakimjhfhfaa
open Go.RowKit

set_option maxRecDepth 100000 in
set_option maxHeartbeats 6400000 in
theorem lawOfferItemFor_any (n c : Nat) (A : Option Addr) (xs : List Int) (w : World) (hr : Rd w 0 w.heap.size 1 A n (bvs xs)) (hby : Bytes xs) (hc : n ≤ c) (hc2 : c ≤ 9223372036854775807) :
    Calls Try.prog 5 #[.slice A n c] w fun e w' => e = .returned (.bool true) ∧ Below w.heap.size w w' := by
  by_cases hbig : (1048576 : Int) < n
  · go_enter Try.func5, Try.ntmps5
    go_wp2
    go_ret
    exact ⟨rfl, Below.refl _ _⟩
  go_enter Try.func5, Try.ntmps5
  go_wp2_with (fail)
  (with_reducible refine (drawOfferItem_any n c A xs w hr hby (by omega) hc hc2).mono ?_)
  rintro e w1 ⟨A1, m, c1, ps, z0, rfl, hm, hc1, hsm, hrd, ⟨z0a, z0b⟩, hb1⟩
  clear hbig hr
  have HB_0 := Lib.hid hb1
  have hz_1 := hb1.size
  clear hb1
  have HSM := Lib.hid hsm
  clear hsm
  have hz0 : in64 z0 := by unfold in64; omega
  have HPL := Lib.hid hrd.len3
  have HL_1 := Lib.hid (hrd.wide (Nat.zero_le _) (Nat.le_refl _))
  clear hrd
  cases hU : offerOf ps z0 with
  | none =>
    have HU := Lib.hid hU
    clear hU
    go_wp2_with (fail)
    (with_reducible refine (mayN (OfferItemI_any 0 _ m c1 A1 ps z0 _ HL_1.out (by omega) (by omega) hz0) HU.out).mono ?_)
    rintro e w2 ⟨A_2, c_3, rfl, hrt, hbt⟩
    have HO_4 := Lib.hid (hrt.wide (Nat.zero_le _) (Nat.le_refl _))
    clear hrt
    have HL_5 := Lib.hid (HL_1.out.keep hbt (by omega))
    have HB_6 := Lib.hid (up HB_0.out hbt)
    have hz_2 := hbt.size
    clear HL_1 HB_0
    clear hbt
    go_wp2_with (fail)
    (with_reducible refine (mayN (OfferItemS_any 0 _ m c1 A1 ps z0 _ HL_5.out (by omega) (by omega) hz0) HU.out).mono ?_)
    rintro e w3 ⟨A_7, c_8, rfl, hrt, hbt⟩
    have HX_9 := Lib.hid (hrt.wide (Nat.zero_le _) (Nat.le_refl _))
    clear hrt
    have HL_10 := Lib.hid (HL_5.out.keep hbt (by omega))
    have HO_11 := Lib.hid (HO_4.out.keep hbt (by omega))
    have HB_12 := Lib.hid (up HB_6.out hbt)
    have hz_3 := hbt.size
    clear HL_5 HO_4 HB_6
    clear hbt
    go_wp2_with (fail)
    (with_reducible refine (equalItems_any _ _ 0 c_3 _ _ 0 c_8 A_2 A_7 ([] : List Tri) ([] : List Tri) _ HO_11.out (by omega) (by omega) HX_9.out (by omega) (by omega)).mono ?_)
    rintro e w4 ⟨rfl, hbt⟩
    rw [beq_self_eq_true]
    have HL_13 := Lib.hid (HL_10.out.keep hbt (by omega))
    have HO_14 := Lib.hid (HO_11.out.keep hbt (by omega))
    have HX_15 := Lib.hid (HX_9.out.keep hbt (by omega))
    have HB_16 := Lib.hid (up HB_12.out hbt)
    have hz_4 := hbt.size
    clear HL_10 HO_11 HX_9 HB_12
    clear hbt
    go_wp2_with (fail)
    (with_reducible refine (equalItems_any _ _ 0 c_3 _ _ 0 c_8 A_2 A_7 ([] : List Tri) ([] : List Tri) _ HO_14.out (by omega) (by omega) HX_15.out (by omega) (by omega)).mono ?_)
    rintro e w5 ⟨rfl, hbt⟩
    rw [beq_self_eq_true]
    have HL_17 := Lib.hid (HL_13.out.keep hbt (by omega))
    have HO_18 := Lib.hid (HO_14.out.keep hbt (by omega))
    have HX_19 := Lib.hid (HX_15.out.keep hbt (by omega))
    have HB_20 := Lib.hid (up HB_16.out hbt)
    have hz_5 := hbt.size
    clear HL_13 HO_14 HX_15 HB_16
    clear hbt
    go_wp2
    go_ret
    exact ⟨rfl, HB_20.out⟩
  | some l =>
  have HU := Lib.hid hU
  obtain ⟨hv, hvl, hl, hr0⟩ := offer_facts hU
  have HV := Lib.hid hvl
  have HVP := Lib.hid hv
  have HLL := Lib.hid (show l.length = m + 1 by rw [hl, List.length_append, HPL.out]; rfl)
  have HLG := Lib.hid (show l[m]? = some (nextNum ps, z0, 0) by rw [hl, ← HPL.out]; simp)
  have HNB := Lib.hid (nextNum_bd hv)
  have hw : IntKind.i64.wrap (((m + 1 : Nat) : Int) - 1) = (m : Int) := by rw [IntWalk.i64_in _ (by omega)]; omega
  have hm0 : (0 : Int) ≤ (m : Int) := by omega
  have hml : (m : Int) < ((m + 1 : Nat) : Int) := by omega
  have hmn : (((m + 1 : Nat) : Int) == 0) = false := by rw [beq_eq_false_iff_ne]; omega
  clear hU hv hvl hl hr0
  have HIN := Lib.hid (show inL (forOf l 4 [z0]) (nextNum ps) = true by rw [mine_in HV.out HLG.out]; simp [mineOf])
  have HNI := Lib.hid (show inL (forOf l 4 []) (nextNum ps) = false by rw [mine_in HV.out HLG.out]; simp [mineOf])
  have HF1 := Lib.hid (show (forOf l 4 [z0]).length ≤ 21 by have := forOf_le l 4 [z0]; rw [HLL.out] at this; omega)
  have HF2 := Lib.hid (show (forOf l 4 []).length ≤ 21 by have := forOf_le l 4 []; rw [HLL.out] at this; omega)
  go_wp2_with (fail)
  (with_reducible refine (mayS (N := (m + 1)) (OfferItemI_any 0 _ m c1 A1 ps z0 _ HL_1.out (by omega) (by omega) hz0) HU.out HLL.out).mono ?_)
  rintro e w2 ⟨A_21, c_22, rfl, hk_c_22, hrt, hbt⟩
  have HO_23 := Lib.hid (hrt.wide (Nat.zero_le _) (Nat.le_refl _))
  clear hrt
  have HL_24 := Lib.hid (HL_1.out.keep hbt (by omega))
  have HB_25 := Lib.hid (up HB_0.out hbt)
  have hz_2 := hbt.size
  clear HL_1 HB_0
  clear hbt
  go_wp2_with (fail)
  (with_reducible refine (mayS (N := (m + 1)) (OfferItemS_any 0 _ m c1 A1 ps z0 _ HL_24.out (by omega) (by omega) hz0) HU.out HLL.out).mono ?_)
  rintro e w3 ⟨A_26, c_27, rfl, hk_c_27, hrt, hbt⟩
  have HX_28 := Lib.hid (hrt.wide (Nat.zero_le _) (Nat.le_refl _))
  clear hrt
  have HL_29 := Lib.hid (HL_24.out.keep hbt (by omega))
  have HO_30 := Lib.hid (HO_23.out.keep hbt (by omega))
  have HB_31 := Lib.hid (up HB_25.out hbt)
  have hz_3 := hbt.size
  clear HL_24 HO_23 HB_25
  clear hbt
  go_wp2_with (fail)
  (with_reducible refine (equalItems_any _ _ (m + 1) c_22 _ _ (m + 1) c_27 A_21 A_26 l l _ HO_30.out (by omega) (by omega) HX_28.out (by omega) (by omega)).mono ?_)
  rintro e w4 ⟨rfl, hbt⟩
  rw [beq_self_eq_true]
  have HL_32 := Lib.hid (HL_29.out.keep hbt (by omega))
  have HO_33 := Lib.hid (HO_30.out.keep hbt (by omega))
  have HX_34 := Lib.hid (HX_28.out.keep hbt (by omega))
  have HB_35 := Lib.hid (up HB_31.out hbt)
  have hz_4 := hbt.size
  clear HL_29 HO_30 HX_28 HB_31
  clear hbt
  clear HX_34
  obtain ⟨b_36, off_37, x_38, y_39, u_40, hAe_44, hbB_b_36, _, hg, hc_41, hc_42, hc_43⟩ := HO_33.out.trip (k := m) (by omega)
  have hq_45 : (nextNum ps, z0, (0 : Int)) = (x_38, y_39, u_40) := by rw [HLG.out] at hg; injection hg
  injection hq_45 with hq_45_1 hq_45; injection hq_45 with hq_45_2 hq_45_3
  clear hg
  rw [← hq_45_1] at hc_41
  rw [← hq_45_2] at hc_42
  rw [← hq_45_3] at hc_43
  clear hq_45_1 hq_45_2 hq_45_3
  subst hAe_44
  go_wp2_with (fail)
  have hba_46 := up_alloc (Below.refl _ w4) (.cells #[.int .i64 z0] 3)
  (with_reducible refine (ItemsForI_any 0 _ (m + 1) c_22 (some ⟨b_36, off_37, none⟩) l 4 _ _ 1 1 _ [z0] _ (HO_33.out.keep hba_46 (by omega)) (by simp only [World.size_alloc]; omega) (by omega) (by unfold in64; omega) (Rd.of_blk (Blk.new w4 3 #[.int .i64 z0]) rfl) (by simp) (by omega)).mono ?_)
  rintro e w5 ⟨A_47, c_48, rfl, hk_c_48, hrt, _, hbt⟩
  have HF_49 := Lib.hid (hrt.wide (Nat.zero_le _) (Nat.le_refl _))
  clear hrt
  have hbu := (up hba_46 hbt)
  clear hbt
  have HL_50 := Lib.hid (HL_32.out.keep hbu (by omega))
  have HO_51 := Lib.hid (HO_33.out.keep hbu (by omega))
  have HB_52 := Lib.hid (up HB_35.out hbu)
  have hz_5 := hbu.size
  clear HL_32 HO_33 HB_35
  clear hbu
  clear hba_46
  go_wp2_with (fail)
  (with_reducible refine (isIn_any 0 _ (forOf l 4 [z0]).length c_48 A_47 (forOf l 4 [z0]) (nextNum ps) _ HF_49.out (by have := HF1.out; omega)).mono ?_)
  rintro e wq ⟨rfl, rfl⟩
  rw [HIN.out]
  clear HF_49
  go_wp2_with (fail)
  (with_reducible refine (ItemsForI_any 0 _ (m + 1) c_22 (some ⟨b_36, off_37, none⟩) l 4 0 0 0 0 none [] _ HO_51.out (by omega) (by omega) (by unfold in64; omega) (show Rd _ 0 0 1 none 0 (ivs []) from Rd.nil _ _ _ _ _) (Nat.zero_le _) (by omega)).mono ?_)
  rintro e w6 ⟨A_53, c_54, rfl, hk_c_54, hrt, _, hbt⟩
  have HF_55 := Lib.hid (hrt.wide (Nat.zero_le _) (Nat.le_refl _))
  clear hrt
  have hbu := hbt
  clear hbt
  have HL_56 := Lib.hid (HL_50.out.keep hbu (by omega))
  have HO_57 := Lib.hid (HO_51.out.keep hbu (by omega))
  have HB_58 := Lib.hid (up HB_52.out hbu)
  have hz_6 := hbu.size
  clear HL_50 HO_51 HB_52
  clear hbu
  go_wp2_with (fail)
  (with_reducible refine (isIn_any 0 _ (forOf l 4 []).length c_54 A_53 (forOf l 4 []) (nextNum ps) _ HF_55.out (by have := HF2.out; omega)).mono ?_)
  rintro e wq ⟨rfl, rfl⟩
  rw [HNI.out]
  go_wp2
  go_ret
  exact ⟨rfl, HB_58.out⟩
end Go.Proofs.Ytipoakimjhfhfaa
