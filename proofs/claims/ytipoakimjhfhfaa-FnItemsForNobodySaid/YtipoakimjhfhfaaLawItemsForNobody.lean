/- The law FnItemsForNobody, walked: it returns true. (Written by a program over gen/lawlib.py.) -/
import Derived.Test.YtipoakimjhfhfaaDrawW4
import Derived.Test.YtipoakimjhfhfaaWorkI
import Derived.Test.YtipoakimjhfhfaaWorkJ
import Derived.Test.YtipoakimjhfhfaaMayE
import Derived.Test.YtipoakimjhfhfaaEqLists
import Derived.Test.YtipoakimjhfhfaaLawLists
import Derived.Test.YtipoakimjhfhfaaLawWorkN
import Derived.BigQuiet
import Derived.Deep.RegionLaw
set_option linter.unusedSimpArgs false
set_option linter.unusedVariables false
namespace Go.Proofs.Ytipoakimjhfhfaa
open Go.RowKit

set_option maxRecDepth 100000 in
set_option maxHeartbeats 6400000 in
theorem lawItemsForNobody_any (n c : Nat) (A : Option Addr) (xs : List Int) (w : World) (hr : Rd w 0 w.heap.size 1 A n (bvs xs)) (hby : Bytes xs) (hc : n ≤ c) (hc2 : c ≤ 9223372036854775807) :
    Calls Try.prog 13 #[.slice A n c] w fun e w' => e = .returned (.bool true) ∧ Below w.heap.size w w' := by
  by_cases hbig : (1048576 : Int) < n
  · go_enter Try.func13, Try.ntmps13
    go_wp2
    go_ret
    exact ⟨rfl, Below.refl _ _⟩
  go_enter Try.func13, Try.ntmps13
  go_wp2_with (fail)
  (with_reducible refine (drawItemsFor_any n c A xs w hr hby (by omega) hc hc2).mono ?_)
  rintro e w1 ⟨A1, m, c1, ps, z0, A3, n3, c3, rs, rfl, hm, hc1, hsm, hrd, ⟨z0a, z0b⟩, hn3, hrr, hb1⟩
  clear hbig hr
  have HB_0 := Lib.hid hb1
  have hz_1 := hb1.size
  clear hb1
  have HSM := Lib.hid hsm
  clear hsm
  have hz0 : in64 z0 := by unfold in64; omega
  have HPL := Lib.hid hrd.len3
  have HL_1 := Lib.hid (hrd.wide (Nat.zero_le _) (Nat.le_refl _))
  clear hrd
  have HR_2 := Lib.hid (hrr.wide (Nat.zero_le _) (Nat.le_refl _))
  clear hrr
  have HFL := Lib.hid (show (forOf ps z0 rs).length ≤ 20 by have := forOf_le ps z0 rs; rw [HPL.out] at this; omega)
  have hfl := HFL.out
  go_wp2_with (fail)
  (with_reducible refine (ItemsForI_any 0 _ m c1 A1 ps z0 0 _ n3 c3 A3 rs _ HL_1.out (by omega) (by omega) hz0 HR_2.out (by omega) (by omega)).mono ?_)
  rintro e w2 ⟨A_3, c_4, rfl, hk_c_4, hrt, _, hbt⟩
  have HF_5 := Lib.hid (hrt.wide (Nat.zero_le _) (Nat.le_refl _))
  clear hrt
  have hbu := hbt
  clear hbt
  have HL_6 := Lib.hid (HL_1.out.keep hbu (by omega))
  have HR_7 := Lib.hid (HR_2.out.keep hbu (by omega))
  have HB_8 := Lib.hid (up HB_0.out hbu)
  have hz_2 := hbu.size
  clear HL_1 HR_2 HB_0
  clear hbu
  go_wp2_with (fail)
  (with_reducible refine (ItemsForS_any 0 _ m c1 A1 ps z0 0 _ n3 c3 A3 rs _ HL_6.out (by omega) (by omega) hz0 HR_7.out (by omega) (by omega)).mono ?_)
  rintro e w3 ⟨A_9, c_10, rfl, hk_c_10, hrt, _, hbt⟩
  have HG_11 := Lib.hid (hrt.wide (Nat.zero_le _) (Nat.le_refl _))
  clear hrt
  have hbu := hbt
  clear hbt
  have HL_12 := Lib.hid (HL_6.out.keep hbu (by omega))
  have HR_13 := Lib.hid (HR_7.out.keep hbu (by omega))
  have HF_14 := Lib.hid (HF_5.out.keep hbu (by omega))
  have HB_15 := Lib.hid (up HB_8.out hbu)
  have hz_3 := hbu.size
  clear HL_6 HR_7 HF_5 HB_8
  clear hbu
  go_wp2_with (fail)
  (with_reducible refine (equalInts_any _ _ (forOf ps z0 rs).length c_4 _ _ (forOf ps z0 rs).length c_10 A_3 A_9 (forOf ps z0 rs) (forOf ps z0 rs) _ HF_14.out (by omega) (by omega) HG_11.out (by omega) (by omega)).mono ?_)
  rintro e w4 ⟨rfl, hbt⟩
  rw [beq_self_eq_true]
  have HL_16 := Lib.hid (HL_12.out.keep hbt (by omega))
  have HR_17 := Lib.hid (HR_13.out.keep hbt (by omega))
  have HF_18 := Lib.hid (HF_14.out.keep hbt (by omega))
  have HG_19 := Lib.hid (HG_11.out.keep hbt (by omega))
  have HB_20 := Lib.hid (up HB_15.out hbt)
  have hz_4 := hbt.size
  clear HL_12 HR_13 HF_14 HG_11 HB_15
  clear hbt
  clear HG_19
  go_wp2_with (fail)
  (with_reducible refine (ValidWorkI_any 0 _ m c1 A1 ps _ HL_16.out (by omega) (by omega)).mono ?_)
  rintro e w5 ⟨rfl, hbt⟩
  have HL_21 := Lib.hid (HL_16.out.keep hbt (by omega))
  have HR_22 := Lib.hid (HR_17.out.keep hbt (by omega))
  have HF_23 := Lib.hid (HF_18.out.keep hbt (by omega))
  have HB_24 := Lib.hid (up HB_20.out hbt)
  have hz_5 := hbt.size
  clear HL_16 HR_17 HF_18 HB_20
  clear hbt
  cases hv : vWork ps with
  | false =>
    clear hv
    go_wp2_with (fail)
    (with_reducible refine (ItemsForS_any 0 _ m c1 A1 ps z0 0 _ n3 c3 A3 rs _ HL_21.out (by omega) (by omega) hz0 HR_22.out (by omega) (by omega)).mono ?_)
    rintro e w6 ⟨A_25, c_26, rfl, hk_c_26, hrt, _, hbt⟩
    have HG_27 := Lib.hid (hrt.wide (Nat.zero_le _) (Nat.le_refl _))
    clear hrt
    have hbu := hbt
    clear hbt
    have HL_28 := Lib.hid (HL_21.out.keep hbu (by omega))
    have HR_29 := Lib.hid (HR_22.out.keep hbu (by omega))
    have HF_30 := Lib.hid (HF_23.out.keep hbu (by omega))
    have HB_31 := Lib.hid (up HB_24.out hbu)
    have hz_6 := hbu.size
    clear HL_21 HR_22 HF_23 HB_24
    clear hbu
    go_wp2_with (fail)
    (with_reducible refine (equalInts_any _ _ (forOf ps z0 rs).length c_4 _ _ (forOf ps z0 rs).length c_26 A_3 A_25 (forOf ps z0 rs) (forOf ps z0 rs) _ HF_30.out (by omega) (by omega) HG_27.out (by omega) (by omega)).mono ?_)
    rintro e w7 ⟨rfl, hbt⟩
    rw [beq_self_eq_true]
    have HL_32 := Lib.hid (HL_28.out.keep hbt (by omega))
    have HR_33 := Lib.hid (HR_29.out.keep hbt (by omega))
    have HF_34 := Lib.hid (HF_30.out.keep hbt (by omega))
    have HG_35 := Lib.hid (HG_27.out.keep hbt (by omega))
    have HB_36 := Lib.hid (up HB_31.out hbt)
    have hz_7 := hbt.size
    clear HL_28 HR_29 HF_30 HG_27 HB_31
    clear hbt
    go_wp2
    go_ret
    exact ⟨rfl, HB_36.out⟩
  | true =>
  have HV := Lib.hid hv
  clear hv
  clear HF_23
  clear HR_22
  have HN1 := Lib.hid (mines_none ps)
  have HN2 := Lib.hid (mines_all HV.out)
  go_wp2
  go_loopw [7, 8] (fun fv iv wr => ∃ (k f : Nat), k ≤ m ∧ f ≤ k ∧ fv = .int .i64 f ∧ iv = .int .i64 k ∧ Hid (((ps.take k).filter fun q => q.2.2 == 0).length = f) ∧ Hid (Below w5.heap.size w5 wr))
     (fun _ iv _ => m - (intOf iv).toNat)
  case atStart => exact ⟨0, 0, by omega, by omega, rfl, rfl, rfl, Below.refl _ _⟩
  case round =>
    obtain ⟨w6, HWR⟩ : ∃ x : World, x = wr := ⟨_, rfl⟩
    subst HWR
    obtain ⟨k, f, hk, hf, rfl, rfl, HF, HLP⟩ := hrel
    have hlb := HLP.out
    have HL_37 := Lib.hid (HL_21.out.keep hlb (by omega))
    have HB_38 := Lib.hid (up HB_24.out hlb)
    have hz_6 := hlb.size
    clear HL_21 HB_24
    clear hlb
    by_cases hlt : k < m
    case neg =>
      obtain rfl : m = k := by omega
      have HFF := Lib.hid (show (forOf ps 0 [0, 1, 2, 3, 4, 5]).length = f by rw [HN2.out]; have h := HF.out; rwa [List.take_of_length_le (by rw [HPL.out]; omega)] at h)
      have HF0 := Lib.hid (show (forOf ps 0 []).length = 0 by rw [HN1.out]; rfl)
      go_wp2_with (fail)
      (with_reducible refine (ItemsForI_any 0 _ m c1 A1 ps 0 0 0 0 0 none [] _ HL_37.out (by omega) (by omega) (by unfold in64; omega) (show Rd _ 0 0 1 none 0 (ivs []) from Rd.nil _ _ _ _ _) (Nat.zero_le _) (by omega)).mono ?_)
      rintro e w7 ⟨A_39, c_40, rfl, _, _, _, hbt⟩
      rw [HF0.out]
      have hbu := hbt
      clear hbt
      have HL_41 := Lib.hid (HL_37.out.keep hbu (by omega))
      have HB_42 := Lib.hid (up HB_38.out hbu)
      have hz_7 := hbu.size
      have HP_43 := Lib.hid (up HLP.out hbu)
      clear HL_37 HB_38 HLP
      clear hbu
      go_wp2_with (fail)
      have hba_44 := up_alloc (Below.refl _ w7) (.cells #[.int .i64 0, .int .i64 1, .int .i64 2, .int .i64 3, .int .i64 4, .int .i64 5] 3)
      (with_reducible refine (ItemsForI_any 0 _ m c1 A1 ps 0 _ _ 6 6 _ [0, 1, 2, 3, 4, 5] _ (HL_41.out.keep hba_44 (by omega)) (by simp only [World.size_alloc]; omega) (by omega) (by unfold in64; omega) (Rd.of_blk (Blk.new w7 3 #[.int .i64 0, .int .i64 1, .int .i64 2, .int .i64 3, .int .i64 4, .int .i64 5]) rfl) (by simp) (by omega)).mono ?_)
      rintro e w8 ⟨A_45, c_46, rfl, _, _, _, hbt⟩
      rw [HFF.out]
      have hbu := (up hba_44 hbt)
      clear hbt
      have HL_47 := Lib.hid (HL_41.out.keep hbu (by omega))
      have HB_48 := Lib.hid (up HB_42.out hbu)
      have hz_8 := hbu.size
      have HP_49 := Lib.hid (up HP_43.out hbu)
      clear HL_41 HB_42 HP_43
      clear hbu
      go_wp2
      go_ret
      exact ⟨rfl, HB_48.out⟩
    have hkm : (k : Int) < (m : Int) := by omega
    have hk0 : (0 : Int) ≤ (k : Int) := by omega
    have hwf : IntKind.i64.wrap ((f : Int) + 1) = (f : Int) + 1 := IntWalk.i64_in _ (by omega)
    obtain ⟨b, off, x, y, u, hAe, hbB, _, hg, hc0, hc1', hc2'⟩ := HL_37.out.trip hlt
    have HS := Lib.hid (free_step hg)
    clear hg
    subst hAe
    by_cases hu : u = 0
    case pos =>
      have HS2 := Lib.hid (show ((ps.take (k + 1)).filter fun q => q.2.2 == 0).length = f + 1 by rw [HS.out, HF.out, if_pos hu])
      subst hu
      go_wp2
      go_roundw
      case rel => exact ⟨k + 1, f + 1, by omega, by omega, by go_num, by go_num, HS2.out, HLP.out⟩
      case measure => simp [intOf]; omega
    have hu1 : (u == 0) = false := by simpa using hu
    have HS2 := Lib.hid (show ((ps.take (k + 1)).filter fun q => q.2.2 == 0).length = f by rw [HS.out, HF.out, if_neg hu]; rfl)
    clear hu
    go_wp2
    go_roundw
    case rel => exact ⟨k + 1, f, by omega, by omega, rfl, by go_num, HS2.out, HLP.out⟩
    case measure => simp [intOf]; omega
end Go.Proofs.Ytipoakimjhfhfaa
