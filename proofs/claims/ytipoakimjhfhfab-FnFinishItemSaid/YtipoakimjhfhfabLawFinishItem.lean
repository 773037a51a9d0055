/- The law FnFinishItem, walked: it returns true. (Written by a program over gen/lawlib.py.) -/
import Derived.Test.YtipoakimjhfhfabDrawW4
import Derived.Test.YtipoakimjhfhfabWorkI
import Derived.Test.YtipoakimjhfhfabWorkJ
import Derived.Test.YtipoakimjhfhfabMayE
import Derived.Test.YtipoakimjhfhfabEqLists
import Derived.Test.YtipoakimjhfhfabLawLists
import Derived.Test.YtipoakimjhfhfabLawWorkN
import Derived.BigQuiet
import Derived.Deep.RegionLaw
set_option linter.unusedSimpArgs false
set_option linter.unusedVariables false
namespace Go.Proofs.Ytipoakimjhfhfab
open Go.RowKit

set_option maxRecDepth 100000 in
set_option maxHeartbeats 6400000 in
theorem lawFinishItem_any (n c : Nat) (A : Option Addr) (xs : List Int) (w : World) (hr : Rd w 0 w.heap.size 1 A n (bvs xs)) (hby : Bytes xs) (hc : n ≤ c) (hc2 : c ≤ 9223372036854775807) :
    Calls Try.prog 3 #[.slice A n c] w fun e w' => e = .returned (.bool true) ∧ Below w.heap.size w w' := by
  by_cases hbig : (1048576 : Int) < n
  · go_enter Try.func3, Try.ntmps3
    go_wp2
    go_ret
    exact ⟨rfl, Below.refl _ _⟩
  go_enter Try.func3, Try.ntmps3
  go_wp2_with (fail)
  (with_reducible refine (drawFinishItem_any n c A xs w hr hby (by omega) hc hc2).mono ?_)
  rintro e w1 ⟨A1, m, c1, ps, z0, z1, rfl, hm, hc1, hsm, hrd, ⟨z0a, z0b⟩, ⟨z1a, z1b⟩, hb1⟩
  clear hbig hr
  have HB_0 := Lib.hid hb1
  have hz_1 := hb1.size
  clear hb1
  have HSM := Lib.hid hsm
  clear hsm
  have hz0 : in64 z0 := by unfold in64; omega
  have hz1 : in64 z1 := by unfold in64; omega
  have HPL := Lib.hid hrd.len3
  have HL_1 := Lib.hid (hrd.wide (Nat.zero_le _) (Nat.le_refl _))
  clear hrd
  cases hU : doneOf ps z0 z1 with
  | none =>
    have HU := Lib.hid hU
    clear hU
    go_wp2_with (fail)
    (with_reducible refine (mayN (FinishItemI_any 0 _ m c1 A1 ps z0 z1 _ HL_1.out (by omega) (by omega) hz0 hz1) HU.out).mono ?_)
    rintro e w2 ⟨A_2, c_3, rfl, hrt, hbt⟩
    have HO_4 := Lib.hid (hrt.wide (Nat.zero_le _) (Nat.le_refl _))
    clear hrt
    have HL_5 := Lib.hid (HL_1.out.keep hbt (by omega))
    have HB_6 := Lib.hid (up HB_0.out hbt)
    have hz_2 := hbt.size
    clear HL_1 HB_0
    clear hbt
    go_wp2_with (fail)
    (with_reducible refine (mayN (FinishItemS_any 0 _ m c1 A1 ps z0 z1 _ HL_5.out (by omega) (by omega) (by omega) hz0 hz1) HU.out).mono ?_)
    rintro e w3 ⟨A_7, c_8, rfl, hrt, hbt⟩
    have HX_9 := Lib.hid (hrt.wide (Nat.zero_le _) (Nat.le_refl _))
    clear hrt
    have HL_10 := Lib.hid (HL_5.out.keep hbt (by omega))
    have HO_11 := Lib.hid (HO_4.out.keep hbt (by omega))
    have HB_12 := Lib.hid (up HB_6.out hbt)
    have hz_3 := hbt.size
    clear HL_5 HO_4 HB_6
    clear hbt
    go_wp2_with (fail)
    (with_reducible refine (equalItems_any _ _ 0 c_3 _ _ 0 c_8 A_2 A_7 ([] : List Tri) ([] : List Tri) _ HO_11.out (by omega) (by omega) HX_9.out (by omega) (by omega)).mono ?_)
    rintro e w4 ⟨rfl, hbt⟩
    rw [beq_self_eq_true]
    have HL_13 := Lib.hid (HL_10.out.keep hbt (by omega))
    have HO_14 := Lib.hid (HO_11.out.keep hbt (by omega))
    have HX_15 := Lib.hid (HX_9.out.keep hbt (by omega))
    have HB_16 := Lib.hid (up HB_12.out hbt)
    have hz_4 := hbt.size
    clear HL_10 HO_11 HX_9 HB_12
    clear hbt
    go_wp2_with (fail)
    (with_reducible refine (equalItems_any _ _ 0 c_3 _ _ 0 c_8 A_2 A_7 ([] : List Tri) ([] : List Tri) _ HO_14.out (by omega) (by omega) HX_15.out (by omega) (by omega)).mono ?_)
    rintro e w5 ⟨rfl, hbt⟩
    rw [beq_self_eq_true]
    have HL_17 := Lib.hid (HL_13.out.keep hbt (by omega))
    have HO_18 := Lib.hid (HO_14.out.keep hbt (by omega))
    have HX_19 := Lib.hid (HX_15.out.keep hbt (by omega))
    have HB_20 := Lib.hid (up HB_16.out hbt)
    have hz_5 := hbt.size
    clear HL_13 HO_14 HX_15 HB_16
    clear hbt
    go_wp2
    go_ret
    exact ⟨rfl, HB_20.out⟩
  | some l =>
  have HU := Lib.hid hU
  obtain ⟨k, q, hv, hk, ho, hl, hvl⟩ := done_facts hU
  obtain ⟨N, HLL⟩ : ∃ N, Hid (l.length = N) := ⟨_, rfl⟩
  have hN : N ≤ 12 := by have := vWork_len hvl; have := HLL.out; omega
  have HV := Lib.hid hvl
  have HVP := Lib.hid hv
  have HK := Lib.hid hk
  have HL := Lib.hid hl
  clear hv hk ho hl hvl hU
  have HU2 := Lib.hid (show (doneOf l z0 z1).isSome = false by rw [done_not (fun q hq => by rw [HL.out] at hq; have := (List.mem_filter.1 hq).2; simpa using this)]; rfl)
  go_wp2_with (fail)
  (with_reducible refine (mayS (N := N) (FinishItemI_any 0 _ m c1 A1 ps z0 z1 _ HL_1.out (by omega) (by omega) hz0 hz1) HU.out HLL.out).mono ?_)
  rintro e w2 ⟨A_21, c_22, rfl, hk_c_22, hrt, hbt⟩
  have HO_23 := Lib.hid (hrt.wide (Nat.zero_le _) (Nat.le_refl _))
  clear hrt
  have HL_24 := Lib.hid (HL_1.out.keep hbt (by omega))
  have HB_25 := Lib.hid (up HB_0.out hbt)
  have hz_2 := hbt.size
  clear HL_1 HB_0
  clear hbt
  go_wp2_with (fail)
  (with_reducible refine (mayS (N := N) (FinishItemS_any 0 _ m c1 A1 ps z0 z1 _ HL_24.out (by omega) (by omega) (by omega) hz0 hz1) HU.out HLL.out).mono ?_)
  rintro e w3 ⟨A_26, c_27, rfl, hk_c_27, hrt, hbt⟩
  have HX_28 := Lib.hid (hrt.wide (Nat.zero_le _) (Nat.le_refl _))
  clear hrt
  have HL_29 := Lib.hid (HL_24.out.keep hbt (by omega))
  have HO_30 := Lib.hid (HO_23.out.keep hbt (by omega))
  have HB_31 := Lib.hid (up HB_25.out hbt)
  have hz_3 := hbt.size
  clear HL_24 HO_23 HB_25
  clear hbt
  go_wp2_with (fail)
  (with_reducible refine (equalItems_any _ _ N c_22 _ _ N c_27 A_21 A_26 l l _ HO_30.out (by omega) (by omega) HX_28.out (by omega) (by omega)).mono ?_)
  rintro e w4 ⟨rfl, hbt⟩
  rw [beq_self_eq_true]
  have HL_32 := Lib.hid (HL_29.out.keep hbt (by omega))
  have HO_33 := Lib.hid (HO_30.out.keep hbt (by omega))
  have HX_34 := Lib.hid (HX_28.out.keep hbt (by omega))
  have HB_35 := Lib.hid (up HB_31.out hbt)
  have hz_4 := hbt.size
  clear HL_29 HO_30 HX_28 HB_31
  clear hbt
  clear HX_34
  go_wp2
  go_loopw [10, 11] (fun fv iv wr => ∃ (i f : Nat), i ≤ m ∧ f ≤ i ∧ fv = .int .i64 f ∧ iv = .int .i64 i ∧ Hid (((ps.take i).filter fun q => !(q.1 == z0)).length = f) ∧ Hid (Below w4.heap.size w4 wr))
     (fun _ iv _ => m - (intOf iv).toNat)
  case atStart => exact ⟨0, 0, by omega, by omega, rfl, rfl, rfl, Below.refl _ _⟩
  case round =>
    obtain ⟨w5, HWR⟩ : ∃ x : World, x = wr := ⟨_, rfl⟩
    subst HWR
    obtain ⟨i, f, hi, hf, rfl, rfl, HF, HLP⟩ := hrel
    have hlb := HLP.out
    have HL_36 := Lib.hid (HL_32.out.keep hlb (by omega))
    have HO_37 := Lib.hid (HO_33.out.keep hlb (by omega))
    have HB_38 := Lib.hid (up HB_35.out hlb)
    have hz_5 := hlb.size
    clear HL_32 HO_33 HB_35
    clear hlb
    by_cases hlt : i < m
    case neg =>
      obtain rfl : m = i := by omega
      obtain rfl : N = f := by have h := HF.out; rw [List.take_of_length_le (by rw [HPL.out]; omega)] at h; rw [← h, ← HLL.out, HL.out]
      go_wp2_with (fail)
      (with_reducible refine (mayB (FinishItemI_any 0 _ N c_22 A_21 l z0 z1 _ HO_37.out (by omega) (by omega) hz0 hz1) HU2.out).mono ?_)
      rintro e w6 ⟨A_39, n_41, c_40, rfl, hbt⟩
      have HL_42 := Lib.hid (HL_36.out.keep hbt (by omega))
      have HO_43 := Lib.hid (HO_37.out.keep hbt (by omega))
      have HB_44 := Lib.hid (up HB_38.out hbt)
      have hz_6 := hbt.size
      have HP_45 := Lib.hid (up HLP.out hbt)
      clear HL_36 HO_37 HB_38 HLP
      clear hbt
      go_wp2_with (fail)
      (with_reducible refine (ValidWorkI_any 0 _ N c_22 A_21 l _ HO_43.out (by omega) (by omega)).mono ?_)
      rintro e w7 ⟨rfl, hbt⟩
      rw [HV.out]
      have HL_46 := Lib.hid (HL_42.out.keep hbt (by omega))
      have HO_47 := Lib.hid (HO_43.out.keep hbt (by omega))
      have HB_48 := Lib.hid (up HB_44.out hbt)
      have hz_7 := hbt.size
      have HP_49 := Lib.hid (up HP_45.out hbt)
      clear HL_42 HO_43 HB_44 HP_45
      clear hbt
      go_wp2
      go_ret
      exact ⟨rfl, HB_48.out⟩
    have him : (i : Int) < (m : Int) := by omega
    have hi0 : (0 : Int) ≤ (i : Int) := by omega
    obtain ⟨b, off, x, y, u, hAe, hbB, _, hg, hc0, hc1', hc2'⟩ := HL_36.out.trip hlt
    subst hAe
    have HS := Lib.hid (filt_more (fun q : Tri => !(q.1 == z0)) hg)
    by_cases hxz : x = z0
    case pos =>
      have HS2 := Lib.hid (show ((ps.take (i + 1)).filter fun q => !(q.1 == z0)).length = f by rw [HS.out, HF.out, if_neg (by simp [hxz])]; rfl)
      have hxd : (x == z0) = true := by simpa using hxz
      clear hg hxz
      go_wp2
      go_roundw
      case rel => exact ⟨i + 1, f, by omega, by omega, rfl, by go_num, HS2.out, HLP.out⟩
      case measure => simp [intOf]; omega
    have HS2 := Lib.hid (show ((ps.take (i + 1)).filter fun q => !(q.1 == z0)).length = f + 1 by rw [HS.out, HF.out, if_pos (by simpa using hxz)])
    have hxd : (x == z0) = false := by simpa using hxz
    have HG := Lib.hid (show l[f]? = some (x, y, u) by rw [HL.out, ← HF.out]; exact kept_get _ hg (by simpa using hxz))
    have hfN : f < N := by rw [← HLL.out]; exact (List.getElem?_eq_some_iff.1 HG.out).1
    clear hg hxz
    have hfn : (f : Int) < (N : Int) := by omega
    have hf0 : (0 : Int) ≤ (f : Int) := by omega
    have hfd : decide ((N : Int) ≤ (f : Int)) = false := decide_eq_false (by omega)
    have hfd2 : decide (N ≤ f) = false := decide_eq_false (by omega)
    have hwf : IntKind.i64.wrap ((f : Int) + 1) = (f : Int) + 1 := IntWalk.i64_in _ (by omega)
    obtain ⟨b_51, off_52, x_53, y_54, u_55, hAe_59, hbB_b_51, _, hg, hc_56, hc_57, hc_58⟩ := HO_37.out.trip (k := f) (by omega)
    have hq_60 : (x, y, u) = (x_53, y_54, u_55) := by rw [HG.out] at hg; injection hg
    injection hq_60 with hq_60_1 hq_60; injection hq_60 with hq_60_2 hq_60_3
    clear hg
    rw [← hq_60_1] at hc_56
    rw [← hq_60_2] at hc_57
    rw [← hq_60_3] at hc_58
    clear hq_60_1 hq_60_2 hq_60_3
    subst hAe_59
    go_wp2_with (fail)
    go_quiet (fail)
    go_wp2
    go_roundw
    case rel => exact ⟨i + 1, f + 1, by omega, by omega, by go_num, by go_num, HS2.out, up_drewN HLP.out _⟩
    case measure => simp [intOf]; omega
end Go.Proofs.Ytipoakimjhfhfab
