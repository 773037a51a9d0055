/- The law FnItemsFor, walked: it returns true. (Written by a program over gen/lawlib.py.) -/
import Derived.Test.YtipoakimjhfhfaaDrawW4
import Derived.Test.YtipoakimjhfhfaaWorkI
import Derived.Test.YtipoakimjhfhfaaWorkJ
import Derived.Test.YtipoakimjhfhfaaMayE
import Derived.Test.YtipoakimjhfhfaaEqLists
import Derived.Test.YtipoakimjhfhfaaLawLists
import Derived.Test.YtipoakimjhfhfaaLawWorkN
import Derived.BigQuiet
import Derived.Deep.RegionLaw
set_option linter.unusedSimpArgs false
set_option linter.unusedVariables false
namespace Go.Proofs.Ytipoakimjhfhfaa
open Go.RowKit

set_option maxRecDepth 100000 in
set_option maxHeartbeats 6400000 in
theorem lawItemsFor_any (n c : Nat) (A : Option Addr) (xs : List Int) (w : World) (hr : Rd w 0 w.heap.size 1 A n (bvs xs)) (hby : Bytes xs) (hc : n ≤ c) (hc2 : c ≤ 9223372036854775807) :
    Calls Try.prog 11 #[.slice A n c] w fun e w' => e = .returned (.bool true) ∧ Below w.heap.size w w' := by
  by_cases hbig : (1048576 : Int) < n
  · go_enter Try.func11, Try.ntmps11
    go_wp2
    go_ret
    exact ⟨rfl, Below.refl _ _⟩
  go_enter Try.func11, Try.ntmps11
  go_wp2_with (fail)
  (with_reducible refine (drawItemsFor_any n c A xs w hr hby (by omega) hc hc2).mono ?_)
  rintro e w1 ⟨A1, m, c1, ps, z0, A3, n3, c3, rs, rfl, hm, hc1, hsm, hrd, ⟨z0a, z0b⟩, hn3, hrr, hb1⟩
  clear hbig hr
  have HB_0 := Lib.hid hb1
  have hz_1 := hb1.size
  clear hb1
  have HSM := Lib.hid hsm
  clear hsm
  have hz0 : in64 z0 := by unfold in64; omega
  have HPL := Lib.hid hrd.len3
  have HL_1 := Lib.hid (hrd.wide (Nat.zero_le _) (Nat.le_refl _))
  clear hrd
  have HR_2 := Lib.hid (hrr.wide (Nat.zero_le _) (Nat.le_refl _))
  clear hrr
  have HFL := Lib.hid (show (forOf ps z0 rs).length ≤ 20 by have := forOf_le ps z0 rs; rw [HPL.out] at this; omega)
  have hfl := HFL.out
  go_wp2_with (fail)
  (with_reducible refine (ItemsForI_any 0 _ m c1 A1 ps z0 0 _ n3 c3 A3 rs _ HL_1.out (by omega) (by omega) hz0 HR_2.out (by omega) (by omega)).mono ?_)
  rintro e w2 ⟨A_3, c_4, rfl, hk_c_4, hrt, _, hbt⟩
  have HF_5 := Lib.hid (hrt.wide (Nat.zero_le _) (Nat.le_refl _))
  clear hrt
  have hbu := hbt
  clear hbt
  have HL_6 := Lib.hid (HL_1.out.keep hbu (by omega))
  have HR_7 := Lib.hid (HR_2.out.keep hbu (by omega))
  have HB_8 := Lib.hid (up HB_0.out hbu)
  have hz_2 := hbu.size
  clear HL_1 HR_2 HB_0
  clear hbu
  go_wp2_with (fail)
  (with_reducible refine (ItemsForS_any 0 _ m c1 A1 ps z0 0 _ n3 c3 A3 rs _ HL_6.out (by omega) (by omega) hz0 HR_7.out (by omega) (by omega)).mono ?_)
  rintro e w3 ⟨A_9, c_10, rfl, hk_c_10, hrt, _, hbt⟩
  have HG_11 := Lib.hid (hrt.wide (Nat.zero_le _) (Nat.le_refl _))
  clear hrt
  have hbu := hbt
  clear hbt
  have HL_12 := Lib.hid (HL_6.out.keep hbu (by omega))
  have HR_13 := Lib.hid (HR_7.out.keep hbu (by omega))
  have HF_14 := Lib.hid (HF_5.out.keep hbu (by omega))
  have HB_15 := Lib.hid (up HB_8.out hbu)
  have hz_3 := hbu.size
  clear HL_6 HR_7 HF_5 HB_8
  clear hbu
  go_wp2_with (fail)
  (with_reducible refine (equalInts_any _ _ (forOf ps z0 rs).length c_4 _ _ (forOf ps z0 rs).length c_10 A_3 A_9 (forOf ps z0 rs) (forOf ps z0 rs) _ HF_14.out (by omega) (by omega) HG_11.out (by omega) (by omega)).mono ?_)
  rintro e w4 ⟨rfl, hbt⟩
  rw [beq_self_eq_true]
  have HL_16 := Lib.hid (HL_12.out.keep hbt (by omega))
  have HR_17 := Lib.hid (HR_13.out.keep hbt (by omega))
  have HF_18 := Lib.hid (HF_14.out.keep hbt (by omega))
  have HG_19 := Lib.hid (HG_11.out.keep hbt (by omega))
  have HB_20 := Lib.hid (up HB_15.out hbt)
  have hz_4 := hbt.size
  clear HL_12 HR_13 HF_14 HG_11 HB_15
  clear hbt
  clear HG_19
  go_wp2_with (fail)
  (with_reducible refine (ValidWorkI_any 0 _ m c1 A1 ps _ HL_16.out (by omega) (by omega)).mono ?_)
  rintro e w5 ⟨rfl, hbt⟩
  have HL_21 := Lib.hid (HL_16.out.keep hbt (by omega))
  have HR_22 := Lib.hid (HR_17.out.keep hbt (by omega))
  have HF_23 := Lib.hid (HF_18.out.keep hbt (by omega))
  have HB_24 := Lib.hid (up HB_20.out hbt)
  have hz_5 := hbt.size
  clear HL_16 HR_17 HF_18 HB_20
  clear hbt
  cases hv : vWork ps with
  | false =>
    clear hv
    go_wp2_with (fail)
    (with_reducible refine (ItemsForS_any 0 _ m c1 A1 ps z0 0 _ n3 c3 A3 rs _ HL_21.out (by omega) (by omega) hz0 HR_22.out (by omega) (by omega)).mono ?_)
    rintro e w6 ⟨A_25, c_26, rfl, hk_c_26, hrt, _, hbt⟩
    have HG_27 := Lib.hid (hrt.wide (Nat.zero_le _) (Nat.le_refl _))
    clear hrt
    have hbu := hbt
    clear hbt
    have HL_28 := Lib.hid (HL_21.out.keep hbu (by omega))
    have HR_29 := Lib.hid (HR_22.out.keep hbu (by omega))
    have HF_30 := Lib.hid (HF_23.out.keep hbu (by omega))
    have HB_31 := Lib.hid (up HB_24.out hbu)
    have hz_6 := hbu.size
    clear HL_21 HR_22 HF_23 HB_24
    clear hbu
    go_wp2_with (fail)
    (with_reducible refine (equalInts_any _ _ (forOf ps z0 rs).length c_4 _ _ (forOf ps z0 rs).length c_26 A_3 A_25 (forOf ps z0 rs) (forOf ps z0 rs) _ HF_30.out (by omega) (by omega) HG_27.out (by omega) (by omega)).mono ?_)
    rintro e w7 ⟨rfl, hbt⟩
    rw [beq_self_eq_true]
    have HL_32 := Lib.hid (HL_28.out.keep hbt (by omega))
    have HR_33 := Lib.hid (HR_29.out.keep hbt (by omega))
    have HF_34 := Lib.hid (HF_30.out.keep hbt (by omega))
    have HG_35 := Lib.hid (HG_27.out.keep hbt (by omega))
    have HB_36 := Lib.hid (up HB_31.out hbt)
    have hz_7 := hbt.size
    clear HL_28 HR_29 HF_30 HG_27 HB_31
    clear hbt
    go_wp2
    go_ret
    exact ⟨rfl, HB_36.out⟩
  | true =>
  have HV := Lib.hid hv
  clear hv
  go_wp2
  go_loopw [7] (fun iv wr => ∃ (k : Nat), k ≤ m ∧ iv = .int .i64 k ∧ Hid (Below w5.heap.size w5 wr))
     (fun iv _ => m - (intOf iv).toNat)
  case atStart => exact ⟨0, by omega, rfl, Below.refl _ _⟩
  case round =>
    obtain ⟨w6, HWR⟩ : ∃ x : World, x = wr := ⟨_, rfl⟩
    subst HWR
    obtain ⟨k, hk, rfl, HLP⟩ := hrel
    have hlb := HLP.out
    have HL_37 := Lib.hid (HL_21.out.keep hlb (by omega))
    have HR_38 := Lib.hid (HR_22.out.keep hlb (by omega))
    have HF_39 := Lib.hid (HF_23.out.keep hlb (by omega))
    have HB_40 := Lib.hid (up HB_24.out hlb)
    have hz_6 := hlb.size
    clear HL_21 HR_22 HF_23 HB_24
    clear hlb
    by_cases hlt : k < m
    case neg =>
      obtain rfl : m = k := by omega
      have hle : ((forOf ps z0 rs).length : Int) ≤ (m : Int) := by have := forOf_le ps z0 rs; rw [HPL.out] at this; omega
      go_wp2
      go_ret
      exact ⟨rfl, HB_40.out⟩
    have hkm : (k : Int) < (m : Int) := by omega
    have hk0 : (0 : Int) ≤ (k : Int) := by omega
    obtain ⟨b, off, x, y, u, hAe, hbB, _, hg, hc0, hc1', hc2'⟩ := HL_37.out.trip hlt
    have HM := Lib.hid (mine_in HV.out hg z0 rs)
    have HE := Lib.hid (mineOf_eq z0 rs (x, y, u))
    clear hg
    subst hAe
    by_cases hu : u = 0
    case pos =>
      subst hu
      by_cases hin : inL rs y = true
      case pos =>
        have HQ := Lib.hid (show mineOf z0 rs (x, y, 0) = true by unfold mineOf; rw [if_pos rfl]; exact hin)
        go_wp2_with (fail)
        (with_reducible refine (isIn_any 0 _ n3 c3 A3 rs y _ HR_38.out (by omega)).mono ?_)
        rintro e wq ⟨rfl, rfl⟩
        rw [hin]
        clear hin
        go_wp2_with (fail)
        (with_reducible refine (isIn_any 0 _ (forOf ps z0 rs).length c_4 A_3 (forOf ps z0 rs) x _ HF_39.out (by omega)).mono ?_)
        rintro e wq ⟨rfl, rfl⟩
        rw [(show inL (forOf ps z0 rs) x = true from by rw [← HQ.out]; exact HM.out)]
        go_wp2
        go_roundw
        case rel => exact ⟨k + 1, by omega, by go_num, HLP.out⟩
        case measure => simp [intOf]; omega
      have hin : inL rs y = false := by simpa using hin
      have HQ := Lib.hid (show mineOf z0 rs (x, y, 0) = false by unfold mineOf; rw [if_pos rfl]; exact hin)
      by_cases hoz : z0 = 0
      case pos =>
        subst hoz
        go_wp2_with (fail)
        (with_reducible refine (isIn_any 0 _ n3 c3 A3 rs y _ HR_38.out (by omega)).mono ?_)
        rintro e wq ⟨rfl, rfl⟩
        rw [hin]
        clear hin
        go_wp2_with (fail)
        (with_reducible refine (isIn_any 0 _ (forOf ps 0 rs).length c_4 A_3 (forOf ps 0 rs) x _ HF_39.out (by omega)).mono ?_)
        rintro e wq ⟨rfl, rfl⟩
        rw [(show inL (forOf ps 0 rs) x = false from by rw [← HQ.out]; exact HM.out)]
        go_wp2
        go_roundw
        case rel => exact ⟨k + 1, by omega, by go_num, HLP.out⟩
        case measure => simp [intOf]; omega
      have h01 : (z0 != 0) = true := by simpa using hoz
      have h02 : ((0 : Int) == z0) = false := by simpa using fun e => hoz e.symm
      go_wp2_with (fail)
      (with_reducible refine (isIn_any 0 _ n3 c3 A3 rs y _ HR_38.out (by omega)).mono ?_)
      rintro e wq ⟨rfl, rfl⟩
      rw [hin]
      clear hin
      go_wp2_with (fail)
      (with_reducible refine (isIn_any 0 _ (forOf ps z0 rs).length c_4 A_3 (forOf ps z0 rs) x _ HF_39.out (by omega)).mono ?_)
      rintro e wq ⟨rfl, rfl⟩
      rw [(show inL (forOf ps z0 rs) x = false from by rw [← HQ.out]; exact HM.out)]
      go_wp2
      go_roundw
      case rel => exact ⟨k + 1, by omega, by go_num, HLP.out⟩
      case measure => simp [intOf]; omega
    have hu1 : (u == 0) = false := by simpa using hu
    by_cases hoz : z0 = 0
    case pos =>
      subst hoz
      have HQ := Lib.hid (show mineOf 0 rs (x, y, u) = false by unfold mineOf; rw [if_neg hu]; exact hu1)
      go_wp2_with (fail)
      (with_reducible refine (isIn_any 0 _ (forOf ps 0 rs).length c_4 A_3 (forOf ps 0 rs) x _ HF_39.out (by omega)).mono ?_)
      rintro e wq ⟨rfl, rfl⟩
      rw [(show inL (forOf ps 0 rs) x = false from by rw [← HQ.out]; exact HM.out)]
      go_wp2
      go_roundw
      case rel => exact ⟨k + 1, by omega, by go_num, HLP.out⟩
      case measure => simp [intOf]; omega
    have h01 : (z0 != 0) = true := by simpa using hoz
    by_cases huz : u = z0
    case pos =>
      have h03 : (u == z0) = true := by simpa using huz
      have HQ := Lib.hid (show mineOf z0 rs (x, y, u) = true by unfold mineOf; rw [if_neg hu]; exact h03)
      clear huz
      go_wp2_with (fail)
      (with_reducible refine (isIn_any 0 _ (forOf ps z0 rs).length c_4 A_3 (forOf ps z0 rs) x _ HF_39.out (by omega)).mono ?_)
      rintro e wq ⟨rfl, rfl⟩
      rw [(show inL (forOf ps z0 rs) x = true from by rw [← HQ.out]; exact HM.out)]
      go_wp2
      go_roundw
      case rel => exact ⟨k + 1, by omega, by go_num, HLP.out⟩
      case measure => simp [intOf]; omega
    have h03 : (u == z0) = false := by simpa using huz
    have HQ := Lib.hid (show mineOf z0 rs (x, y, u) = false by unfold mineOf; rw [if_neg hu]; exact h03)
    clear huz
    go_wp2_with (fail)
    (with_reducible refine (isIn_any 0 _ (forOf ps z0 rs).length c_4 A_3 (forOf ps z0 rs) x _ HF_39.out (by omega)).mono ?_)
    rintro e wq ⟨rfl, rfl⟩
    rw [(show inL (forOf ps z0 rs) x = false from by rw [← HQ.out]; exact HM.out)]
    go_wp2
    go_roundw
    case rel => exact ⟨k + 1, by omega, by go_num, HLP.out⟩
    case measure => simp [intOf]; omega
end Go.Proofs.Ytipoakimjhfhfaa
