/- The law FnFinishItemNumber, walked: it returns true. (Written by a program over gen/lawlib.py.) -/
import Derived.Test.YtipoakimjhfhfabDrawW4
import Derived.Test.YtipoakimjhfhfabWorkI
import Derived.Test.YtipoakimjhfhfabWorkJ
import Derived.Test.YtipoakimjhfhfabMayE
import Derived.Test.YtipoakimjhfhfabEqLists
import Derived.Test.YtipoakimjhfhfabLawLists
import Derived.Test.YtipoakimjhfhfabLawWorkN
import Derived.BigQuiet
import Derived.Deep.RegionLaw
import Derived.Deep.RegionHeld3
set_option linter.unusedSimpArgs false
set_option linter.unusedVariables false
namespace Go.Proofs.Ytipoakimjhfhfab
open Go.RowKit

set_option maxRecDepth 100000 in
set_option maxHeartbeats 6400000 in
theorem lawFinishItemNumber_any (n c : Nat) (A : Option Addr) (xs : List Int) (w : World) (hr : Rd w 0 w.heap.size 1 A n (bvs xs)) (hby : Bytes xs) (hc : n ≤ c) (hc2 : c ≤ 9223372036854775807) :
    Calls Try.prog 5 #[.slice A n c] w fun e w' => e = .returned (.bool true) ∧ Below w.heap.size w w' := by
  by_cases hbig : (1048576 : Int) < n
  · go_enter Try.func5, Try.ntmps5
    go_wp2
    go_ret
    exact ⟨rfl, Below.refl _ _⟩
  go_enter Try.func5, Try.ntmps5
  go_wp2_with (fail)
  (with_reducible refine (drawFinishItem_any n c A xs w hr hby (by omega) hc hc2).mono ?_)
  rintro e w1 ⟨A1, m, c1, ps, z0, z1, rfl, hm, hc1, hsm, hrd, ⟨z0a, z0b⟩, ⟨z1a, z1b⟩, hb1⟩
  clear hbig hr
  have HB_0 := Lib.hid hb1
  have hz_1 := hb1.size
  clear hb1
  have HSM := Lib.hid hsm
  clear hsm
  have hz0 : in64 z0 := by unfold in64; omega
  have hz1 : in64 z1 := by unfold in64; omega
  have HPL := Lib.hid hrd.len3
  have HL_1 := Lib.hid (hrd.wide (Nat.zero_le _) (Nat.le_refl _))
  clear hrd
  cases hU : doneOf ps z0 z1 with
  | none =>
    have HU := Lib.hid hU
    clear hU
    go_wp2_with (fail)
    (with_reducible refine (mayN (FinishItemI_any 0 _ m c1 A1 ps z0 z1 _ HL_1.out (by omega) (by omega) hz0 hz1) HU.out).mono ?_)
    rintro e w2 ⟨A_2, c_3, rfl, hrt, hbt⟩
    have HO_4 := Lib.hid (hrt.wide (Nat.zero_le _) (Nat.le_refl _))
    clear hrt
    have HL_5 := Lib.hid (HL_1.out.keep hbt (by omega))
    have HB_6 := Lib.hid (up HB_0.out hbt)
    have hz_2 := hbt.size
    clear HL_1 HB_0
    clear hbt
    go_wp2_with (fail)
    (with_reducible refine (mayN (FinishItemS_any 0 _ m c1 A1 ps z0 z1 _ HL_5.out (by omega) (by omega) (by omega) hz0 hz1) HU.out).mono ?_)
    rintro e w3 ⟨A_7, c_8, rfl, hrt, hbt⟩
    have HX_9 := Lib.hid (hrt.wide (Nat.zero_le _) (Nat.le_refl _))
    clear hrt
    have HL_10 := Lib.hid (HL_5.out.keep hbt (by omega))
    have HO_11 := Lib.hid (HO_4.out.keep hbt (by omega))
    have HB_12 := Lib.hid (up HB_6.out hbt)
    have hz_3 := hbt.size
    clear HL_5 HO_4 HB_6
    clear hbt
    go_wp2_with (fail)
    (with_reducible refine (equalItems_any _ _ 0 c_3 _ _ 0 c_8 A_2 A_7 ([] : List Tri) ([] : List Tri) _ HO_11.out (by omega) (by omega) HX_9.out (by omega) (by omega)).mono ?_)
    rintro e w4 ⟨rfl, hbt⟩
    rw [beq_self_eq_true]
    have HL_13 := Lib.hid (HL_10.out.keep hbt (by omega))
    have HO_14 := Lib.hid (HO_11.out.keep hbt (by omega))
    have HX_15 := Lib.hid (HX_9.out.keep hbt (by omega))
    have HB_16 := Lib.hid (up HB_12.out hbt)
    have hz_4 := hbt.size
    clear HL_10 HO_11 HX_9 HB_12
    clear hbt
    go_wp2_with (fail)
    (with_reducible refine (equalItems_any _ _ 0 c_3 _ _ 0 c_8 A_2 A_7 ([] : List Tri) ([] : List Tri) _ HO_14.out (by omega) (by omega) HX_15.out (by omega) (by omega)).mono ?_)
    rintro e w5 ⟨rfl, hbt⟩
    rw [beq_self_eq_true]
    have HL_17 := Lib.hid (HL_13.out.keep hbt (by omega))
    have HO_18 := Lib.hid (HO_14.out.keep hbt (by omega))
    have HX_19 := Lib.hid (HX_15.out.keep hbt (by omega))
    have HB_20 := Lib.hid (up HB_16.out hbt)
    have hz_5 := hbt.size
    clear HL_13 HO_14 HX_15 HB_16
    clear hbt
    go_wp2
    go_ret
    exact ⟨rfl, HB_20.out⟩
  | some l =>
  have HU := Lib.hid hU
  obtain ⟨k, q, hv, hk, ho, hl, hvl⟩ := done_facts hU
  obtain ⟨N, HLL⟩ : ∃ N, Hid (l.length = N) := ⟨_, rfl⟩
  have hN : N ≤ 12 := by have := vWork_len hvl; have := HLL.out; omega
  have HV := Lib.hid hvl
  have HVP := Lib.hid hv
  have HK := Lib.hid hk
  have HL := Lib.hid hl
  clear hv hk ho hl hvl hU
  clear HVP HK HL
  go_wp2_with (fail)
  (with_reducible refine (mayS (N := N) (FinishItemI_any 0 _ m c1 A1 ps z0 z1 _ HL_1.out (by omega) (by omega) hz0 hz1) HU.out HLL.out).mono ?_)
  rintro e w2 ⟨A_21, c_22, rfl, hk_c_22, hrt, hbt⟩
  have HO_23 := Lib.hid (hrt.wide (Nat.zero_le _) (Nat.le_refl _))
  clear hrt
  have HL_24 := Lib.hid (HL_1.out.keep hbt (by omega))
  have HB_25 := Lib.hid (up HB_0.out hbt)
  have hz_2 := hbt.size
  clear HL_1 HB_0
  clear hbt
  go_wp2_with (fail)
  (with_reducible refine (mayS (N := N) (FinishItemS_any 0 _ m c1 A1 ps z0 z1 _ HL_24.out (by omega) (by omega) (by omega) hz0 hz1) HU.out HLL.out).mono ?_)
  rintro e w3 ⟨A_26, c_27, rfl, hk_c_27, hrt, hbt⟩
  have HX_28 := Lib.hid (hrt.wide (Nat.zero_le _) (Nat.le_refl _))
  clear hrt
  have HL_29 := Lib.hid (HL_24.out.keep hbt (by omega))
  have HO_30 := Lib.hid (HO_23.out.keep hbt (by omega))
  have HB_31 := Lib.hid (up HB_25.out hbt)
  have hz_3 := hbt.size
  clear HL_24 HO_23 HB_25
  clear hbt
  go_wp2_with (fail)
  (with_reducible refine (equalItems_any _ _ N c_22 _ _ N c_27 A_21 A_26 l l _ HO_30.out (by omega) (by omega) HX_28.out (by omega) (by omega)).mono ?_)
  rintro e w4 ⟨rfl, hbt⟩
  rw [beq_self_eq_true]
  have HL_32 := Lib.hid (HL_29.out.keep hbt (by omega))
  have HO_33 := Lib.hid (HO_30.out.keep hbt (by omega))
  have HX_34 := Lib.hid (HX_28.out.keep hbt (by omega))
  have HB_35 := Lib.hid (up HB_31.out hbt)
  have hz_4 := hbt.size
  clear HL_29 HO_30 HX_28 HB_31
  clear hbt
  by_cases hN0 : N = 0
  case pos =>
    subst hN0
    go_wp2_with (fail)
    (with_reducible refine (equalItems_any _ _ 0 c_22 _ _ 0 c_27 A_21 A_26 l l _ HO_33.out (by omega) (by omega) HX_34.out (by omega) (by omega)).mono ?_)
    rintro e w5 ⟨rfl, hbt⟩
    rw [beq_self_eq_true]
    have HL_36 := Lib.hid (HL_32.out.keep hbt (by omega))
    have HO_37 := Lib.hid (HO_33.out.keep hbt (by omega))
    have HX_38 := Lib.hid (HX_34.out.keep hbt (by omega))
    have HB_39 := Lib.hid (up HB_35.out hbt)
    have hz_5 := hbt.size
    clear HL_32 HO_33 HX_34 HB_35
    clear hbt
    go_wp2
    go_ret
    exact ⟨rfl, HB_39.out⟩
  clear HX_34
  clear HL_32
  have hNn : ((N : Int) == 0) = false := by rw [beq_eq_false_iff_ne]; omega
  have hNn2 : (N == 0) = false := by rw [beq_eq_false_iff_ne]; omega
  obtain ⟨j, HJ⟩ : ∃ j, Hid (N = j + 1) := ⟨N - 1, show N = N - 1 + 1 by omega⟩
  obtain ⟨K, HKN⟩ : ∃ K, Hid (K = N + 1) := ⟨N + 1, rfl⟩
  have hjl : j < N := by have := HJ.out; omega
  have hkl : N < K ∧ K ≤ 13 := by have := HKN.out; omega
  cases hU2 : offerOf l 1 with
  | none =>
    go_wp2_with (fail)
    (with_reducible refine (mayN (OfferItemI_any 0 _ N c_22 A_21 l 1 _ HO_33.out (by omega) (by omega) (by unfold in64; omega)) hU2).mono ?_)
    rintro e w5 ⟨A_40, c_41, rfl, hrt, hbt⟩
    clear hrt
    have HO_42 := Lib.hid (HO_33.out.keep hbt (by omega))
    have HB_43 := Lib.hid (up HB_35.out hbt)
    have hz_5 := hbt.size
    clear HO_33 HB_35
    clear hbt
    clear hU2
    go_wp2_with (fail)
    go_quiet (fail)
    go_wp2
    go_ret
    exact ⟨rfl, up_drewN HB_43.out _⟩
  | some l2 =>
  obtain ⟨_, _, hl2, _⟩ := offer_facts hU2
  have HU2 := Lib.hid hU2
  obtain ⟨p0, hp0⟩ : ∃ p0, l[j]? = some p0 := ⟨_, List.getElem?_eq_getElem (by rw [HLL.out]; omega)⟩
  obtain ⟨x0, y0, u0⟩ := p0
  have HG1 := Lib.hid hp0
  have HNX := Lib.hid (show nextNum l = x0 + 1 by unfold nextNum; rw [List.getLast?_eq_getElem?, HLL.out, show N - 1 = j by have := HJ.out; omega, hp0])
  have HL2 := Lib.hid (show l2.length = K by rw [hl2, List.length_append, HLL.out, HKN.out]; rfl)
  have HG2 := Lib.hid (show l2[N]? = some (x0 + 1, 1, 0) by rw [hl2, ← HNX.out, ← HLL.out]; simp)
  have HNI := Lib.hid (show inL (forOf l 0 [1]) (x0 + 1) = false by
      have hb := nextNum_bd HV.out
      rw [HNX.out] at hb
      rw [inL, Bool.eq_false_iff]
      intro h
      have h2 := List.contains_iff_mem.1 h
      unfold forOf at h2
      rw [if_pos HV.out] at h2
      simp only [minesOf, List.mem_map, List.mem_filter] at h2
      obtain ⟨q, ⟨hq, _⟩, hqz⟩ := h2
      have := hb.2.2 q hq
      omega)
  have hx0 := (vWork_ok HV.out (List.mem_of_getElem? hp0)).1
  have hx1 : 1 ≤ x0 := hx0.1
  have hx2 : x0 ≤ 999 := hx0.2
  have HF2 := Lib.hid (show (forOf l 0 [1]).length ≤ 20 by have := forOf_le l 0 [1]; rw [HLL.out] at this; omega)
  clear hU2 hl2 hp0 hx0
  go_wp2_with (fail)
  (with_reducible refine (mayS (N := K) (OfferItemI_any 0 _ N c_22 A_21 l 1 _ HO_33.out (by omega) (by omega) (by unfold in64; omega)) HU2.out HL2.out).mono ?_)
  rintro e w5 ⟨A_44, c_45, rfl, hk_c_45, hrt, hbt⟩
  have HM_46 := Lib.hid (hrt.wide (Nat.zero_le _) (Nat.le_refl _))
  clear hrt
  have HO_47 := Lib.hid (HO_33.out.keep hbt (by omega))
  have HB_48 := Lib.hid (up HB_35.out hbt)
  have hz_5 := hbt.size
  clear HO_33 HB_35
  clear hbt
  obtain ⟨b_49, off_50, x_51, y_52, u_53, hAe_57, hbB_b_49, _, hg, hc_54, hc_55, hc_56⟩ := HO_47.out.trip (k := j) (by omega)
  have hq_58 : (x0, y0, u0) = (x_51, y_52, u_53) := by rw [HG1.out] at hg; injection hg
  injection hq_58 with hq_58_1 hq_58; injection hq_58 with hq_58_2 hq_58_3
  clear hg
  rw [← hq_58_1] at hc_54
  rw [← hq_58_2] at hc_55
  rw [← hq_58_3] at hc_56
  clear hq_58_1 hq_58_2 hq_58_3
  subst hAe_57
  obtain ⟨b_59, off_60, x_61, y_62, u_63, hAe_67, hbB_b_59, _, hg, hc_64, hc_65, hc_66⟩ := HM_46.out.trip (k := N) (by omega)
  have hq_68 : (x0 + 1, (1 : Int), (0 : Int)) = (x_61, y_62, u_63) := by rw [HG2.out] at hg; injection hg
  injection hq_68 with hq_68_1 hq_68; injection hq_68 with hq_68_2 hq_68_3
  clear hg
  rw [← hq_68_1] at hc_64
  rw [← hq_68_2] at hc_65
  rw [← hq_68_3] at hc_66
  clear hq_68_1 hq_68_2 hq_68_3
  subst hAe_67
  have hj1 : (N : Int) < (K : Int) := by omega
  have hj0 : (0 : Int) ≤ (N : Int) := by omega
  have hj2 : (j : Int) < (N : Int) := by omega
  have hj3 : (0 : Int) ≤ (j : Int) := by omega
  have hw1 : IntKind.i64.wrap ((N : Int) - 1) = (j : Int) := by rw [IntWalk.i64_in _ (by omega)]; have := HJ.out; omega
  have hw2 : IntKind.i64.wrap ((K : Int) - 1) = (N : Int) := by rw [IntWalk.i64_in _ (by omega)]; have := HKN.out; omega
  have hw3 : IntKind.i64.wrap (x0 + 1) = x0 + 1 := IntWalk.i64_in _ (by omega)
  have HKC := Lib.hid (fun (s : World) (hs : Below w5.heap.size w5 s) => (⟨(hs.cell (p := ⟨b_49, off_50 + j * 3, none⟩) (by show b_49 < w5.heap.size; omega)).trans (by first | assumption), (hs.cell (p := ⟨b_59, off_60 + N * 3, none⟩) (by show b_59 < w5.heap.size; omega)).trans (by first | assumption)⟩ : s.cell? ⟨b_49, off_50 + j * 3, none⟩ = some (.int .i64 x0) ∧ s.cell? ⟨b_59, off_60 + N * 3, none⟩ = some (.int .i64 (x0 + 1))))
  have hrow := HO_47.out.keep (up_drew (up_alloc (Below.refl _ w5) (.cells #[.int .i64 1] 3))) (by omega)
  have HROW := Lib.hid hrow
  clear hrow
  have HSA := Lib.hid (up_drew (up_alloc (Below.refl _ w5) (.cells #[.int .i64 1] 3))).size
  have HSB := Lib.hid (show w5.heap.size + 1 ≤ (w5.alloc (.cells #[.int .i64 1] 3)).drew.heap.size from Nat.le_of_eq (by show _ = (w5.alloc _).heap.size; simp))
  have HRL := Lib.hid (Rd.of_blk (n := 1) (size := 1) (Blk.new w5 3 #[.int .i64 1]).drew rfl)
  go_wp2_with (fail)
  go_region_held3 (fun s => s.cell? ⟨b_49, off_50 + j * 3, none⟩ = some (.int .i64 x0) ∧ s.cell? ⟨b_59, off_60 + N * 3, none⟩ = some (.int .i64 (x0 + 1)))
    (first | exact HKC.out _ (Below.refl _ _) | exact HKC.out _ (up_drew (Below.refl _ _)) | exact HKC.out _ (up_drew (up_alloc (Below.refl _ _) _)) | exact HKC.out _ hbq)
    ((first
      | (go_at_call 23; (with_reducible refine (ItemsForI_any 0 _ N c_22 (some ⟨b_49, off_50, none⟩) l 0 _ _ 1 1 _ [1] _ HROW.out (Nat.le_trans (by omega) HSA.out) (by omega) (by unfold in64; omega) HRL.out HSB.out (by omega)).mono ?_)
         rintro e wx ⟨Ax, cx, rfl, _, hrx, _, hbx⟩
         have hbq := up (up_drew (up_alloc (Below.refl _ w5) (.cells #[.int .i64 1] 3))) hbx
         have HRX := Lib.hid hrx)
      | (go_at_call 22; (with_reducible refine (isIn_any _ _ (forOf l 0 [1]).length cx Ax (forOf l 0 [1]) (x0 + 1) _ HRX.out (by have := HF2.out; omega)).mono ?_)
         rintro e wy ⟨rfl, rfl⟩
         rw [HNI.out])))
  go_wp2
  go_ret
  exact ⟨rfl, up HB_48.out hbq⟩
end Go.Proofs.Ytipoakimjhfhfab
