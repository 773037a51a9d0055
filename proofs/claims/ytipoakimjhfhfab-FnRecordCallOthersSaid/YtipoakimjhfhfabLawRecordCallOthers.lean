/- The law FnRecordCallOthers, walked: it returns true. (Written by a program over gen/lawlib.py.) -/
import Derived.Test.YtipoakimjhfhfabDrawK2
import Derived.Test.YtipoakimjhfhfabClientI
import Derived.Test.YtipoakimjhfhfabClientF
import Derived.Test.YtipoakimjhfhfabMayE
import Derived.Test.YtipoakimjhfhfabEqLists
import Derived.Test.YtipoakimjhfhfabLawClientM
import Derived.BigQuiet
import Derived.Deep.RegionLaw
set_option linter.unusedSimpArgs false
set_option linter.unusedVariables false
namespace Go.Proofs.Ytipoakimjhfhfab
open Go.RowKit

set_option maxRecDepth 100000 in
set_option maxHeartbeats 6400000 in
theorem lawRecordCallOthers_any (n c : Nat) (A : Option Addr) (xs : List Int) (w : World) (hr : Rd w 0 w.heap.size 1 A n (bvs xs)) (hby : Bytes xs) (hc : n ≤ c) (hc2 : c ≤ 9223372036854775807) :
    Calls Try.prog 10 #[.slice A n c] w fun e w' => e = .returned (.bool true) ∧ Below w.heap.size w w' := by
  by_cases hbig : (1048576 : Int) < n
  · go_enter Try.func10, Try.ntmps10
    go_wp2
    go_ret
    exact ⟨rfl, Below.refl _ _⟩
  go_enter Try.func10, Try.ntmps10
  go_wp2_with (fail)
  (with_reducible refine (drawRecordCall_any n c A xs w hr hby (by omega) hc hc2).mono ?_)
  rintro e w1 ⟨A1, m, c1, ps, z0, z1, z2, z3, rfl, hm, hk1, hsm, hrd, ⟨z0a, z0b⟩, ⟨z1a, z1b⟩, ⟨z2a, z2b⟩, ⟨z3a, z3b⟩, hb1⟩
  clear hbig hr
  have HB_0 := Lib.hid hb1
  have hz_1 := hb1.size
  clear hb1
  clear hsm
  have hz0 : in64 z0 := by unfold in64; omega
  have hz1 : in64 z1 := by unfold in64; omega
  have hz2 : in64 z2 := by unfold in64; omega
  have hz3 : in64 z3 := by unfold in64; omega
  have HPL := Lib.hid hrd.len4
  have HL_1 := Lib.hid (hrd.wide (Nat.zero_le _) (Nat.le_refl _))
  clear hrd
  cases hU : recordOf ps z0 z1 z2 z3 with
  | none =>
    have HU := Lib.hid hU
    clear hU
    go_wp2_with (fail)
    (with_reducible refine (mayN (RecordCallI_any 0 _ m c1 A1 ps z0 z1 z2 z3 _ HL_1.out (by omega) (by omega) hz0 hz1 hz2 hz3) HU.out).mono ?_)
    rintro e w2 ⟨A_2, c_3, rfl, hrt, hbt⟩
    have HO_5 := Lib.hid (hrt.wide (Nat.zero_le _) (Nat.le_refl _))
    clear hrt
    have HL_6 := Lib.hid (HL_1.out.keep hbt (by omega))
    have HB_7 := Lib.hid (up HB_0.out hbt)
    have hz_2 := hbt.size
    clear HL_1 HB_0
    clear hbt
    go_wp2_with (fail)
    (with_reducible refine (mayN (RecordCallS_any 0 _ m c1 A1 ps z0 z1 z2 z3 _ HL_6.out (by omega) (by omega) hz0 hz1 hz2 hz3) HU.out).mono ?_)
    rintro e w3 ⟨A_8, c_9, rfl, hrt, hbt⟩
    have HX_11 := Lib.hid (hrt.wide (Nat.zero_le _) (Nat.le_refl _))
    clear hrt
    have HL_12 := Lib.hid (HL_6.out.keep hbt (by omega))
    have HO_13 := Lib.hid (HO_5.out.keep hbt (by omega))
    have HB_14 := Lib.hid (up HB_7.out hbt)
    have hz_3 := hbt.size
    clear HL_6 HO_5 HB_7
    clear hbt
    go_wp2_with (fail)
    (with_reducible refine (equalClients_any _ _ 0 c_3 _ _ 0 c_9 A_2 A_8 ([] : List Qd) ([] : List Qd) _ HO_13.out (by omega) (by omega) HX_11.out (by omega) (by omega)).mono ?_)
    rintro e w4 ⟨rfl, hbt⟩
    rw [beq_self_eq_true]
    have HL_15 := Lib.hid (HL_12.out.keep hbt (by omega))
    have HO_16 := Lib.hid (HO_13.out.keep hbt (by omega))
    have HX_17 := Lib.hid (HX_11.out.keep hbt (by omega))
    have HB_18 := Lib.hid (up HB_14.out hbt)
    have hz_4 := hbt.size
    clear HL_12 HO_13 HX_11 HB_14
    clear hbt
    go_wp2_with (fail)
    (with_reducible refine (equalClients_any _ _ 0 c_3 _ _ 0 c_9 A_2 A_8 ([] : List Qd) ([] : List Qd) _ HO_16.out (by omega) (by omega) HX_17.out (by omega) (by omega)).mono ?_)
    rintro e w5 ⟨rfl, hbt⟩
    rw [beq_self_eq_true]
    have HL_19 := Lib.hid (HL_15.out.keep hbt (by omega))
    have HO_20 := Lib.hid (HO_16.out.keep hbt (by omega))
    have HX_21 := Lib.hid (HX_17.out.keep hbt (by omega))
    have HB_22 := Lib.hid (up HB_18.out hbt)
    have hz_5 := hbt.size
    clear HL_15 HO_16 HX_17 HB_18
    clear hbt
    go_wp2
    go_ret
    exact ⟨rfl, HB_22.out⟩
  | some l =>
  have HU := Lib.hid hU
  obtain ⟨hv, hvl, hl, ⟨hq0, hq9⟩, ⟨hk0, hk9⟩⟩ := record_facts hU
  obtain ⟨N, HLL⟩ : ∃ N, Hid (l.length = N) := ⟨_, rfl⟩
  have hN : N ≤ 10 := by have := vCls_len hvl; have := HLL.out; omega
  have HVP := Lib.hid hv
  have HV := Lib.hid hvl
  have HL := Lib.hid hl
  clear hU hv hvl hl
  go_wp2_with (fail)
  (with_reducible refine (mayS (N := N) (RecordCallI_any 0 _ m c1 A1 ps z0 z1 z2 z3 _ HL_1.out (by omega) (by omega) hz0 hz1 hz2 hz3) HU.out HLL.out).mono ?_)
  rintro e w2 ⟨A_23, c_24, rfl, hk_c_24, hrt, hbt⟩
  have HO_26 := Lib.hid (hrt.wide (Nat.zero_le _) (Nat.le_refl _))
  clear hrt
  have HL_27 := Lib.hid (HL_1.out.keep hbt (by omega))
  have HB_28 := Lib.hid (up HB_0.out hbt)
  have hz_2 := hbt.size
  clear HL_1 HB_0
  clear hbt
  go_wp2_with (fail)
  (with_reducible refine (mayS (N := N) (RecordCallS_any 0 _ m c1 A1 ps z0 z1 z2 z3 _ HL_27.out (by omega) (by omega) hz0 hz1 hz2 hz3) HU.out HLL.out).mono ?_)
  rintro e w3 ⟨A_29, c_30, rfl, hk_c_30, hrt, hbt⟩
  have HX_32 := Lib.hid (hrt.wide (Nat.zero_le _) (Nat.le_refl _))
  clear hrt
  have HL_33 := Lib.hid (HL_27.out.keep hbt (by omega))
  have HO_34 := Lib.hid (HO_26.out.keep hbt (by omega))
  have HB_35 := Lib.hid (up HB_28.out hbt)
  have hz_3 := hbt.size
  clear HL_27 HO_26 HB_28
  clear hbt
  go_wp2_with (fail)
  (with_reducible refine (equalClients_any _ _ N c_24 _ _ N c_30 A_23 A_29 l l _ HO_34.out (by omega) (by omega) HX_32.out (by omega) (by omega)).mono ?_)
  rintro e w4 ⟨rfl, hbt⟩
  rw [beq_self_eq_true]
  have HL_36 := Lib.hid (HL_33.out.keep hbt (by omega))
  have HO_37 := Lib.hid (HO_34.out.keep hbt (by omega))
  have HX_38 := Lib.hid (HX_32.out.keep hbt (by omega))
  have HB_39 := Lib.hid (up HB_35.out hbt)
  have hz_4 := hbt.size
  clear HL_33 HO_34 HX_32 HB_35
  clear hbt
  clear HX_38
  have HNM := Lib.hid (show N ≤ m + 1 by rw [← HLL.out, ← HPL.out, HL.out]; exact insNum_len (vCls_asc HVP.out) _)
  have hnm := HNM.out
  have HIN := Lib.hid (fun (q : Qd) (hq : q ∈ ps) (hz : q.1 ≠ z0) => show q ∈ l by rw [HL.out]; exact rec_other hq hz)
  go_wp2
  go_loopw [12] (fun iv wr => ∃ (i : Nat), i ≤ m ∧ iv = .int .i64 i ∧ Hid (Below w4.heap.size w4 wr))
     (fun iv _ => m - (intOf iv).toNat)
  case atStart => exact ⟨0, by omega, rfl, Below.refl _ _⟩
  case round =>
    obtain ⟨w5, HWR⟩ : ∃ x : World, x = wr := ⟨_, rfl⟩
    subst HWR
    obtain ⟨i, hi, rfl, HLP⟩ := hrel
    have hlb := HLP.out
    have HL_40 := Lib.hid (HL_36.out.keep hlb (by omega))
    have HO_41 := Lib.hid (HO_37.out.keep hlb (by omega))
    have HB_42 := Lib.hid (up HB_39.out hlb)
    have hz_5 := hlb.size
    clear HL_36 HO_37 HB_39
    clear hlb
    by_cases hlt : i < m
    case neg =>
      have hge : (m : Int) ≤ (i : Int) := by omega
      have hwm : IntKind.i64.wrap ((m : Int) + 1) = (m : Int) + 1 := IntWalk.i64_in _ (by omega)
      have hle : (N : Int) ≤ (m : Int) + 1 := by omega
      go_wp2
      go_ret
      exact ⟨rfl, HB_42.out⟩
    have him : (i : Int) < (m : Int) := by omega
    have hi0 : (0 : Int) ≤ (i : Int) := by omega
    obtain ⟨b, off, x, y, u, t, hAe, hbB, _, hg, hc0, hc1', hc2', hc3'⟩ := HL_40.out.quad (k := i) hlt
    subst hAe
    have HG := Lib.hid hg
    clear hg
    have HXI := Lib.hid (And.intro hc0 (And.intro hc1' (And.intro hc2' hc3')))
    go_wp2
    have HLPO := HLP
    go_loopw [13, 14] (fun sv jv wr => ∃ (j : Nat), j ≤ N ∧ sv = .bool (x == z0 || (l.take j).contains (x, y, u, t)) ∧ jv = .int .i64 j ∧ Hid (Below w5.heap.size w5 wr))
       (fun _ jv _ => N - (intOf jv).toNat)
    case atStart => exact ⟨0, by omega, by simp, rfl, Below.refl _ _⟩
    case round =>
      obtain ⟨w6, HWR⟩ : ∃ x : World, x = wr := ⟨_, rfl⟩
      subst HWR
      obtain ⟨j, hj, rfl, rfl, HLP⟩ := hrel
      have hlb := HLP.out
      have HL_43 := Lib.hid (HL_40.out.keep hlb (by omega))
      have HO_44 := Lib.hid (HO_41.out.keep hlb (by omega))
      have HB_45 := Lib.hid (up HB_42.out hlb)
      have hz_6 := hlb.size
      clear HL_40 HO_41 HB_42
      clear hlb
      have k0 := (HLP.out.cell (p := ⟨b, off + i * 4, none⟩) (by show b < w5.heap.size; omega)).trans hc0
      have k1 := (HLP.out.cell (p := ⟨b, off + i * 4 + 1, none⟩) (by show b < w5.heap.size; omega)).trans hc1'
      have k2 := (HLP.out.cell (p := ⟨b, off + i * 4 + 2, none⟩) (by show b < w5.heap.size; omega)).trans hc2'
      have k3 := (HLP.out.cell (p := ⟨b, off + i * 4 + 3, none⟩) (by show b < w5.heap.size; omega)).trans hc3'
      by_cases hjt : j < N
      case neg =>
        have hge : (N : Int) ≤ (j : Int) := by omega
        have hcon : (x == z0 || (l.take j).contains (x, y, u, t)) = true := by
          rw [List.take_of_length_le (by rw [HLL.out]; omega), Bool.or_eq_true]
          by_cases hx : x = z0
          · exact .inl (by simpa using hx)
          · exact .inr (List.contains_iff_mem.2 (HIN.out _ (List.mem_of_getElem? HG.out) hx))
        rw [hcon]
        clear hcon
        go_wp2
        go_roundw
        case rel => exact ⟨i + 1, by omega, by go_num, up HLPO.out HLP.out⟩
        case measure => simp [intOf]; omega
      have hjn : (j : Int) < (N : Int) := by omega
      have hj0 : (0 : Int) ≤ (j : Int) := by omega
      obtain ⟨b2, off2, x2, y2, u2, t2, hAe2, hbB2, _, hg2, hd0, hd1, hd2, hd3⟩ := HO_44.out.quad hjt
      subst hAe2
      have HS := Lib.hid (show (l.take (j + 1)).contains (x, y, u, t) = ((l.take j).contains (x, y, u, t) || ((x, y, u, t) == (x2, y2, u2, t2))) by rw [take_snoc hg2, List.contains_append, List.contains_cons, List.contains_nil, Bool.or_false])
      clear hg2
      have HS2 := Lib.hid (show (x == z0 || (l.take (j + 1)).contains (x, y, u, t)) = (x == z0 || (l.take j).contains (x, y, u, t) || ((x, y, u, t) == (x2, y2, u2, t2))) by rw [HS.out, Bool.or_assoc])
      generalize hsb : (x == z0 || (l.take j).contains (x, y, u, t)) = sb at HS2 ⊢
      cases sb with
      | true =>
        go_wp2_with (fail)
        go_quiet (fail)
        go_wp2
        go_roundw
        case rel => exact ⟨j + 1, by omega, by rw [HS2.out]; rfl, by go_num, up_drewN HLP.out _⟩
        case measure => simp [intOf]; omega
      | false =>
        by_cases he0 : x2 = x
        case neg =>
          have HE := Lib.hid (show ((x, y, u, t) == (x2, y2, u2, t2)) = false by rw [beq_eq_false_iff_ne]; intro h; simp only [Prod.mk.injEq] at h; exact he0 h.1.symm)
          go_wp2_with (fail)
          go_quiet (fail)
          go_wp2
          go_roundw
          case rel => exact ⟨j + 1, by omega, by rw [HS2.out]; rw [HE.out]; rfl, by go_num, up_drewN HLP.out _⟩
          case measure => simp [intOf]; omega
        subst he0
        by_cases he1 : y2 = y
        case neg =>
          have HE := Lib.hid (show ((x2, y, u, t) == (x2, y2, u2, t2)) = false by rw [beq_eq_false_iff_ne]; intro h; simp only [Prod.mk.injEq] at h; exact he1 h.2.1.symm)
          go_wp2_with (fail)
          go_quiet (fail)
          go_wp2
          go_roundw
          case rel => exact ⟨j + 1, by omega, by rw [HS2.out]; rw [HE.out]; rfl, by go_num, up_drewN HLP.out _⟩
          case measure => simp [intOf]; omega
        subst he1
        by_cases he2 : u2 = u
        case neg =>
          have HE := Lib.hid (show ((x2, y2, u, t) == (x2, y2, u2, t2)) = false by rw [beq_eq_false_iff_ne]; intro h; simp only [Prod.mk.injEq] at h; exact he2 h.2.2.1.symm)
          go_wp2_with (fail)
          go_quiet (fail)
          go_wp2
          go_roundw
          case rel => exact ⟨j + 1, by omega, by rw [HS2.out]; rw [HE.out]; rfl, by go_num, up_drewN HLP.out _⟩
          case measure => simp [intOf]; omega
        subst he2
        by_cases he3 : t2 = t
        case neg =>
          have HE := Lib.hid (show ((x2, y2, u2, t) == (x2, y2, u2, t2)) = false by rw [beq_eq_false_iff_ne]; intro h; simp only [Prod.mk.injEq] at h; exact he3 h.2.2.2.symm)
          go_wp2_with (fail)
          go_quiet (fail)
          go_wp2
          go_roundw
          case rel => exact ⟨j + 1, by omega, by rw [HS2.out]; rw [HE.out]; rfl, by go_num, up_drewN HLP.out _⟩
          case measure => simp [intOf]; omega
        subst he3
        have HE := Lib.hid (show ((x2, y2, u2, t2) == (x2, y2, u2, t2)) = true by simp)
        go_wp2_with (fail)
        go_quiet (fail)
        go_wp2
        go_roundw
        case rel => exact ⟨j + 1, by omega, by rw [HS2.out]; rw [HE.out]; rfl, by go_num, up_drewN HLP.out _⟩
        case measure => simp [intOf]; omega
end Go.Proofs.Ytipoakimjhfhfab
