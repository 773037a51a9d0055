/- The law FnReleaseItemClaim, walked: it returns true. (Written by a program over gen/lawlib.py.) -/
import Derived.Test.YtipoakimjhfhfabDrawW4
import Derived.Test.YtipoakimjhfhfabWorkI
import Derived.Test.YtipoakimjhfhfabWorkJ
import Derived.Test.YtipoakimjhfhfabMayE
import Derived.Test.YtipoakimjhfhfabEqLists
import Derived.Test.YtipoakimjhfhfabLawLists
import Derived.Test.YtipoakimjhfhfabLawWorkN
import Derived.BigQuiet
import Derived.Deep.RegionLaw
set_option linter.unusedSimpArgs false
set_option linter.unusedVariables false
namespace Go.Proofs.Ytipoakimjhfhfab
open Go.RowKit

set_option maxRecDepth 100000 in
set_option maxHeartbeats 6400000 in
theorem lawReleaseItemClaim_any (n c : Nat) (A : Option Addr) (xs : List Int) (w : World) (hr : Rd w 0 w.heap.size 1 A n (bvs xs)) (hby : Bytes xs) (hc : n ≤ c) (hc2 : c ≤ 9223372036854775807) :
    Calls Try.prog 6 #[.slice A n c] w fun e w' => e = .returned (.bool true) ∧ Below w.heap.size w w' := by
  by_cases hbig : (1048576 : Int) < n
  · go_enter Try.func6, Try.ntmps6
    go_wp2
    go_ret
    exact ⟨rfl, Below.refl _ _⟩
  go_enter Try.func6, Try.ntmps6
  go_wp2_with (fail)
  (with_reducible refine (drawReleaseItem_any n c A xs w hr hby (by omega) hc hc2).mono ?_)
  rintro e w1 ⟨A1, m, c1, ps, z0, z1, rfl, hm, hc1, hsm, hrd, ⟨z0a, z0b⟩, ⟨z1a, z1b⟩, hb1⟩
  clear hbig hr
  have HB_0 := Lib.hid hb1
  have hz_1 := hb1.size
  clear hb1
  have HSM := Lib.hid hsm
  clear hsm
  have hz0 : in64 z0 := by unfold in64; omega
  have hz1 : in64 z1 := by unfold in64; omega
  have HPL := Lib.hid hrd.len3
  have HL_1 := Lib.hid (hrd.wide (Nat.zero_le _) (Nat.le_refl _))
  clear hrd
  cases hU : freeOf ps z0 z1 with
  | none =>
    have HU := Lib.hid hU
    clear hU
    go_wp2_with (fail)
    (with_reducible refine (mayN (ReleaseItemI_any 0 _ m c1 A1 ps z0 z1 _ HL_1.out (by omega) (by omega) hz0 hz1) HU.out).mono ?_)
    rintro e w2 ⟨A_2, c_3, rfl, hrt, hbt⟩
    have HO_4 := Lib.hid (hrt.wide (Nat.zero_le _) (Nat.le_refl _))
    clear hrt
    have HL_5 := Lib.hid (HL_1.out.keep hbt (by omega))
    have HB_6 := Lib.hid (up HB_0.out hbt)
    have hz_2 := hbt.size
    clear HL_1 HB_0
    clear hbt
    go_wp2_with (fail)
    (with_reducible refine (mayN (ReleaseItemS_any 0 _ m c1 A1 ps z0 z1 _ HL_5.out (by omega) (by omega) hz0 hz1) HU.out).mono ?_)
    rintro e w3 ⟨A_7, c_8, rfl, hrt, hbt⟩
    have HX_9 := Lib.hid (hrt.wide (Nat.zero_le _) (Nat.le_refl _))
    clear hrt
    have HL_10 := Lib.hid (HL_5.out.keep hbt (by omega))
    have HO_11 := Lib.hid (HO_4.out.keep hbt (by omega))
    have HB_12 := Lib.hid (up HB_6.out hbt)
    have hz_3 := hbt.size
    clear HL_5 HO_4 HB_6
    clear hbt
    go_wp2_with (fail)
    (with_reducible refine (equalItems_any _ _ 0 c_3 _ _ 0 c_8 A_2 A_7 ([] : List Tri) ([] : List Tri) _ HO_11.out (by omega) (by omega) HX_9.out (by omega) (by omega)).mono ?_)
    rintro e w4 ⟨rfl, hbt⟩
    rw [beq_self_eq_true]
    have HL_13 := Lib.hid (HL_10.out.keep hbt (by omega))
    have HO_14 := Lib.hid (HO_11.out.keep hbt (by omega))
    have HX_15 := Lib.hid (HX_9.out.keep hbt (by omega))
    have HB_16 := Lib.hid (up HB_12.out hbt)
    have hz_4 := hbt.size
    clear HL_10 HO_11 HX_9 HB_12
    clear hbt
    go_wp2_with (fail)
    (with_reducible refine (equalItems_any _ _ 0 c_3 _ _ 0 c_8 A_2 A_7 ([] : List Tri) ([] : List Tri) _ HO_14.out (by omega) (by omega) HX_15.out (by omega) (by omega)).mono ?_)
    rintro e w5 ⟨rfl, hbt⟩
    rw [beq_self_eq_true]
    have HL_17 := Lib.hid (HL_13.out.keep hbt (by omega))
    have HO_18 := Lib.hid (HO_14.out.keep hbt (by omega))
    have HX_19 := Lib.hid (HX_15.out.keep hbt (by omega))
    have HB_20 := Lib.hid (up HB_16.out hbt)
    have hz_5 := hbt.size
    clear HL_13 HO_14 HX_15 HB_16
    clear hbt
    go_wp2
    go_ret
    exact ⟨rfl, HB_20.out⟩
  | some l =>
  have HU := Lib.hid hU
  obtain ⟨k, q, hv, hk, ho, hl, hvl⟩ := free_facts hU
  have HLL := Lib.hid (show l.length = m by rw [hl, List.length_set, HPL.out])
  have HCF := Lib.hid (fun (o : Int) (h : 1 ≤ o ∧ o ≤ 9) => show (claimOf l z0 o [0, 1, 2, 3, 4, 5]).isSome = true by rw [claim_free hvl (show l[k]? = some (z0, q, 0) by rw [hl]; exact set_at hk) (role_in (vWork_ok hv (List.mem_of_getElem? hk)).2.1) h]; rfl)
  clear hv hk ho hl hvl hU
  go_wp2_with (fail)
  (with_reducible refine (mayS (N := m) (ReleaseItemI_any 0 _ m c1 A1 ps z0 z1 _ HL_1.out (by omega) (by omega) hz0 hz1) HU.out HLL.out).mono ?_)
  rintro e w2 ⟨A_21, c_22, rfl, hk_c_22, hrt, hbt⟩
  have HO_23 := Lib.hid (hrt.wide (Nat.zero_le _) (Nat.le_refl _))
  clear hrt
  have HL_24 := Lib.hid (HL_1.out.keep hbt (by omega))
  have HB_25 := Lib.hid (up HB_0.out hbt)
  have hz_2 := hbt.size
  clear HL_1 HB_0
  clear hbt
  go_wp2_with (fail)
  (with_reducible refine (mayS (N := m) (ReleaseItemS_any 0 _ m c1 A1 ps z0 z1 _ HL_24.out (by omega) (by omega) hz0 hz1) HU.out HLL.out).mono ?_)
  rintro e w3 ⟨A_26, c_27, rfl, hk_c_27, hrt, hbt⟩
  have HX_28 := Lib.hid (hrt.wide (Nat.zero_le _) (Nat.le_refl _))
  clear hrt
  have HL_29 := Lib.hid (HL_24.out.keep hbt (by omega))
  have HO_30 := Lib.hid (HO_23.out.keep hbt (by omega))
  have HB_31 := Lib.hid (up HB_25.out hbt)
  have hz_3 := hbt.size
  clear HL_24 HO_23 HB_25
  clear hbt
  go_wp2_with (fail)
  (with_reducible refine (equalItems_any _ _ m c_22 _ _ m c_27 A_21 A_26 l l _ HO_30.out (by omega) (by omega) HX_28.out (by omega) (by omega)).mono ?_)
  rintro e w4 ⟨rfl, hbt⟩
  rw [beq_self_eq_true]
  have HL_32 := Lib.hid (HL_29.out.keep hbt (by omega))
  have HO_33 := Lib.hid (HO_30.out.keep hbt (by omega))
  have HX_34 := Lib.hid (HX_28.out.keep hbt (by omega))
  have HB_35 := Lib.hid (up HB_31.out hbt)
  have hz_4 := hbt.size
  clear HL_29 HO_30 HX_28 HB_31
  clear hbt
  clear HX_34
  clear HL_32
  go_wp2
  go_loopw [10] (fun iv wr => ∃ (o : Int), 1 ≤ o ∧ o ≤ 10 ∧ iv = .int .i64 o ∧ Hid (Below w4.heap.size w4 wr))
     (fun iv _ => (10 - intOf iv).toNat)
  case atStart => exact ⟨1, by omega, by omega, rfl, Below.refl _ _⟩
  case round =>
    obtain ⟨w5, HWR⟩ : ∃ x : World, x = wr := ⟨_, rfl⟩
    subst HWR
    obtain ⟨o, ho1, ho2, rfl, HLP⟩ := hrel
    have hlb := HLP.out
    have HO_36 := Lib.hid (HO_33.out.keep hlb (by omega))
    have HB_37 := Lib.hid (up HB_35.out hlb)
    have hz_5 := hlb.size
    clear HO_33 HB_35
    clear hlb
    by_cases hlt : o ≤ 9
    case neg =>
      go_wp2
      go_ret
      exact ⟨rfl, HB_37.out⟩
    have hoo : in64 o := by unfold in64; omega
    have hwo : IntKind.i64.wrap (o + 1) = o + 1 := IntWalk.i64_in _ (by omega)
    have hba := up_alloc (Below.refl _ w5) (.cells #[.int .i64 0, .int .i64 1, .int .i64 2, .int .i64 3, .int .i64 4, .int .i64 5] 3)
    go_wp2_with (fail)
    (with_reducible refine (mayB (ClaimItemI_any 0 _ m c_22 A_21 l z0 o _ _ 6 6 _ [0, 1, 2, 3, 4, 5] _ (HO_36.out.keep hba (by omega)) (by simp only [World.size_alloc]; omega) (by omega) hz0 hoo (Rd.of_blk (Blk.new w5 3 #[.int .i64 0, .int .i64 1, .int .i64 2, .int .i64 3, .int .i64 4, .int .i64 5]) rfl) (by simp) (by omega)) (HCF.out o ⟨ho1, hlt⟩)).mono ?_)
    rintro e w6 ⟨A9, n9, c9, rfl, hbt⟩
    have hbu := up hba hbt
    clear hbt
    have HO_38 := Lib.hid (HO_36.out.keep hbu (by omega))
    have HB_39 := Lib.hid (up HB_37.out hbu)
    have hz_6 := hbu.size
    have HP_40 := Lib.hid (up HLP.out hbu)
    clear HO_36 HB_37 HLP
    clear hbu hba
    go_wp2
    go_roundw
    case rel => exact ⟨o + 1, by omega, by omega, by first | rfl | go_num, HP_40.out⟩
    case measure => simp [intOf]; omega
end Go.Proofs.Ytipoakimjhfhfab
