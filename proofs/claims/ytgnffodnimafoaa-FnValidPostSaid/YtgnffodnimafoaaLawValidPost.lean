/- The law FnValidPost, walked: it returns true. (Written by a program over gen/lawlib.py.) -/
import Derived.Test.YtgnffodnimafoaaDrawT3
import Derived.Test.YtgnffodnimafoaaSendI
import Derived.Test.YtgnffodnimafoaaDropI
import Derived.Test.YtgnffodnimafoaaEqPost
import Derived.Test.YtgnffodnimafoaaLawPostM
import Derived.Test.YtgnffodnimafoaaLawPostN
import Derived.Test.YtgnffodnimafoaaPostO
import Derived.BigQuiet
import Derived.Deep.RegionLaw
import Derived.Test.YtgnffodnimafoaaLawPostQ
set_option linter.unusedSimpArgs false
set_option linter.unusedVariables false
namespace Go.Proofs.Ytgnffodnimafoaa
open Go.RowKit

set_option maxRecDepth 100000 in
set_option maxHeartbeats 6400000 in
theorem lawValidPost_any (n c : Nat) (A : Option Addr) (xs : List Int) (w : World) (hr : Rd w 0 w.heap.size 1 A n (bvs xs)) (hby : Bytes xs) (hc : n ≤ c) (hc2 : c ≤ 9223372036854775807) :
    Calls Try.prog 8 #[.slice A n c] w fun e w' => e = .returned (.bool true) ∧ Below w.heap.size w w' := by
  by_cases hbig : (1048576 : Int) < n
  · go_enter Try.func8, Try.ntmps8
    go_wp2
    go_ret
    exact ⟨rfl, Below.refl _ _⟩
  go_enter Try.func8, Try.ntmps8
  go_wp2_with (fail)
  (with_reducible refine (drawValidPost_any n c A xs w hr hby (by omega) hc hc2).mono ?_)
  rintro e w1 ⟨A1, n1, c1, A2, n2, c2, ns, fs, rfl, hoff⟩
  clear hbig hr
  obtain ⟨hn1, hn2, hk1, hk2, hrd1, hrd2, hb1⟩ := hoff
  have HB_0 := Lib.hid hb1
  have hz_1 := hb1.size
  clear hb1
  have HL1 := Lib.hid hrd1.len3
  have HL2 := Lib.hid hrd2.len3
  have HX1_1 := Lib.hid (hrd1.wide (Nat.zero_le _) (Nat.le_refl _))
  clear hrd1
  have HX2_2 := Lib.hid (hrd2.wide (Nat.zero_le _) (Nat.le_refl _))
  clear hrd2
  cases hV : vPost ns fs with
  | false =>
    have HV := Lib.hid hV
    clear hV
    have HEX_3 := Lib.hid (Blk.new w1 26 #[.slice A1 n1 c1, .slice A2 n2 c2])
    have hbt := up_alloc (Below.refl _ w1) (.cells #[.slice A1 n1 c1, .slice A2 n2 c2] 26)
    have hs_2 : (w1.alloc (.cells #[.slice A1 n1 c1, .slice A2 n2 c2] 26)).heap.size = w1.heap.size + 1 := by simp
    have HX1_4 := Lib.hid (HX1_1.out.keep hbt (by omega))
    have HX2_5 := Lib.hid (HX2_2.out.keep hbt (by omega))
    have HB_6 := Lib.hid (up HB_0.out hbt)
    have hz_2 := hbt.size
    clear HX1_1 HX2_2 HB_0
    clear hbt
    go_wp2_with (fail)
    generalize (w1.alloc (.cells #[.slice A1 n1 c1, .slice A2 n2 c2] 26)) = w2 at *
    (with_reducible refine (ValidPostI_any 0 _ n1 c1 A1 ns 0 _ n2 c2 A2 fs _ HX1_4.out (by omega) (by omega) HX2_5.out (by omega) (by omega)).mono ?_)
    rintro e w3 ⟨rfl, hbt⟩
    rw [HV.out]
    have HEX_7 := Lib.hid (HEX_3.out.below hbt HEX_3.out.lt)
    clear HEX_3
    have HX1_8 := Lib.hid (HX1_4.out.keep hbt (by omega))
    have HX2_9 := Lib.hid (HX2_5.out.keep hbt (by omega))
    have HB_10 := Lib.hid (up HB_6.out hbt)
    have hz_3 := hbt.size
    clear HX1_4 HX2_5 HB_6
    clear hbt
    have a_11 := HEX_7.out.cell 0
    have a_12 := HEX_7.out.cell 1
    go_wp2_with (fail)
    try clear a_11 a_12
    (with_reducible refine (ValidPostS_any 0 _ n1 c1 A1 ns 0 _ n2 c2 A2 fs _ HX1_8.out (by omega) (by omega) HX2_9.out (by omega) (by omega)).mono ?_)
    rintro e w4 ⟨rfl, hbt⟩
    rw [HV.out]
    have HEX_13 := Lib.hid (HEX_7.out.below hbt HEX_7.out.lt)
    clear HEX_7
    have HX1_14 := Lib.hid (HX1_8.out.keep hbt (by omega))
    have HX2_15 := Lib.hid (HX2_9.out.keep hbt (by omega))
    have HB_16 := Lib.hid (up HB_10.out hbt)
    have hz_4 := hbt.size
    clear HX1_8 HX2_9 HB_10
    clear hbt
    have a_17 := HEX_13.out.cell 0
    have a_18 := HEX_13.out.cell 1
    go_wp2_with (fail)
    try clear a_17 a_18
    (with_reducible refine (ValidPostS_any 0 _ n1 c1 A1 ns 0 _ n2 c2 A2 fs _ HX1_14.out (by omega) (by omega) HX2_15.out (by omega) (by omega)).mono ?_)
    rintro e w5 ⟨rfl, hbt⟩
    rw [HV.out]
    have HEX_19 := Lib.hid (HEX_13.out.below hbt HEX_13.out.lt)
    clear HEX_13
    have HX1_20 := Lib.hid (HX1_14.out.keep hbt (by omega))
    have HX2_21 := Lib.hid (HX2_15.out.keep hbt (by omega))
    have HB_22 := Lib.hid (up HB_16.out hbt)
    have hz_5 := hbt.size
    clear HX1_14 HX2_15 HB_16
    clear hbt
    go_wp2
    go_ret
    exact ⟨rfl, HB_22.out⟩
  | true =>
    have HV := Lib.hid hV
    have HAD := Lib.hid (vPost_and.1 hV).1
    clear hV
    have HEX_23 := Lib.hid (Blk.new w1 26 #[.slice A1 n1 c1, .slice A2 n2 c2])
    have hbt := up_alloc (Below.refl _ w1) (.cells #[.slice A1 n1 c1, .slice A2 n2 c2] 26)
    have hs_2 : (w1.alloc (.cells #[.slice A1 n1 c1, .slice A2 n2 c2] 26)).heap.size = w1.heap.size + 1 := by simp
    have HX1_24 := Lib.hid (HX1_1.out.keep hbt (by omega))
    have HX2_25 := Lib.hid (HX2_2.out.keep hbt (by omega))
    have HB_26 := Lib.hid (up HB_0.out hbt)
    have hz_2 := hbt.size
    clear HX1_1 HX2_2 HB_0
    clear hbt
    go_wp2_with (fail)
    generalize (w1.alloc (.cells #[.slice A1 n1 c1, .slice A2 n2 c2] 26)) = w2 at *
    (with_reducible refine (ValidPostI_any 0 _ n1 c1 A1 ns 0 _ n2 c2 A2 fs _ HX1_24.out (by omega) (by omega) HX2_25.out (by omega) (by omega)).mono ?_)
    rintro e w3 ⟨rfl, hbt⟩
    rw [HV.out]
    have HEX_27 := Lib.hid (HEX_23.out.below hbt HEX_23.out.lt)
    clear HEX_23
    have HX1_28 := Lib.hid (HX1_24.out.keep hbt (by omega))
    have HX2_29 := Lib.hid (HX2_25.out.keep hbt (by omega))
    have HB_30 := Lib.hid (up HB_26.out hbt)
    have hz_3 := hbt.size
    clear HX1_24 HX2_25 HB_26
    clear hbt
    have a_31 := HEX_27.out.cell 0
    have a_32 := HEX_27.out.cell 1
    go_wp2_with (fail)
    try clear a_31 a_32
    (with_reducible refine (ValidPostS_any 0 _ n1 c1 A1 ns 0 _ n2 c2 A2 fs _ HX1_28.out (by omega) (by omega) HX2_29.out (by omega) (by omega)).mono ?_)
    rintro e w4 ⟨rfl, hbt⟩
    rw [HV.out]
    have HEX_33 := Lib.hid (HEX_27.out.below hbt HEX_27.out.lt)
    clear HEX_27
    have HX1_34 := Lib.hid (HX1_28.out.keep hbt (by omega))
    have HX2_35 := Lib.hid (HX2_29.out.keep hbt (by omega))
    have HB_36 := Lib.hid (up HB_30.out hbt)
    have hz_4 := hbt.size
    clear HX1_28 HX2_29 HB_30
    clear hbt
    have a_37 := HEX_33.out.cell 0
    have a_38 := HEX_33.out.cell 1
    go_wp2
    try clear a_37 a_38
    go_loopw [5] (fun iv wr => ∃ (i : Nat), i ≤ n1 ∧ iv = .int .i64 i ∧ Hid (Below w4.heap.size w4 wr))
       (fun iv _ => n1 - (intOf iv).toNat)
    case atStart => exact ⟨0, by omega, rfl, Below.refl _ _⟩
    case round =>
      obtain ⟨w5, HWR⟩ : ∃ x : World, x = wr := ⟨_, rfl⟩
      subst HWR
      obtain ⟨i, hi, rfl, HLP⟩ := hrel
      have hlb := HLP.out
      have HEX_39 := Lib.hid (HEX_33.out.below hlb HEX_33.out.lt)
      clear HEX_33
      have HX1_40 := Lib.hid (HX1_34.out.keep hlb (by omega))
      have HX2_41 := Lib.hid (HX2_35.out.keep hlb (by omega))
      have HB_42 := Lib.hid (up HB_36.out hlb)
      have hz_5 := hlb.size
      clear HX1_34 HX2_35 HB_36
      clear hlb
      have hi0 : (0 : Int) ≤ (i : Int) := by omega
      by_cases hlt : i < n1
      case neg =>
        have hge : (n1 : Int) ≤ (i : Int) := by omega
        by_cases hm0 : n2 = 0
        case pos =>
          have dm : ((n2 : Int) == 0) = true := by simp [hm0]
          clear hm0
          have a_43 := HEX_39.out.cell 0
          have a_44 := HEX_39.out.cell 1
          go_wp2_with (fail)
          go_quiet (fail)
          go_wp2
          go_ret
          exact ⟨rfl, up_drewN HB_42.out _⟩
        have dm : ((n2 : Int) == 0) = false := by rw [beq_eq_false_iff_ne]; omega
        obtain ⟨j, hj⟩ : ∃ j, n2 = j + 1 := ⟨n2 - 1, by omega⟩
        have hjw : IntKind.i64.wrap ((n2 : Int) - 1) = (j : Int) := by rw [IntWalk.i64_in _ (by omega)]; omega
        have hj0 : (0 : Int) ≤ (j : Int) := by omega
        have hjc : (j : Int) ≤ (c2 : Int) := by omega
        have hjm : j ≤ n2 := by omega
        clear hm0 hj
        have HVT := Lib.hid (vPost_take HV.out j)
        have HCUT := Lib.hid (show Rd w5 0 _ 3 A2 j (tvs (fs.take j)) by have := HX2_41.out.cut (m := j) hjm; rwa [tvs_take] at this)
        have HSW := Lib.hid (show ∀ wx, Below w5.heap.size w5 wx → wx.cell? ⟨w1.heap.size, 0, none⟩ = some (.slice A1 n1 c1) ∧ wx.cell? ⟨w1.heap.size, 1, none⟩ = some (.slice A2 n2 c2) from fun wx hb => ⟨(hb.cell (by show w1.heap.size < w5.heap.size; omega)).trans (HEX_39.out.cell 0), (hb.cell (by show w1.heap.size < w5.heap.size; omega)).trans (HEX_39.out.cell 1)⟩)
        have HC0 := Lib.hid (show ∀ wx, Below w5.heap.size w5 wx → Calls Try.prog 16 #[.agg #[.slice A1 n1 c1, .slice A2 j c2]] wx fun e w' => e = .returned (.bool true) ∧ Below w5.heap.size w5 w' from fun wx hb => (ValidPostI_any 0 _ n1 c1 A1 ns 0 _ j c2 A2 (fs.take j) wx (HX1_40.out.keep hb (by omega)) (Nat.le_trans (by omega) hb.size) (by omega) (HCUT.out.keep hb (by omega)) (Nat.le_trans (by omega) hb.size) (by omega)).mono fun e w' ⟨h1, h2⟩ => ⟨by rw [h1, HVT.out], up hb h2⟩)
        obtain ⟨kk0, kk1⟩ := HSW.out _ (Below.refl _ _)
        go_wp2_with (fail)
        clear kk0 kk1
        go_region_held3 (fun wx => wx.cell? ⟨w1.heap.size, 0, none⟩ = some (.slice A1 n1 c1) ∧ wx.cell? ⟨w1.heap.size, 1, none⟩ = some (.slice A2 n2 c2))
          (first | with_reducible exact HSW.out _ (Below.refl _ _) | with_reducible exact HSW.out _ (up_drew (Below.refl _ _)) | with_reducible exact HSW.out _ (HX0.out))
          ((first
            | (go_at_call 16; (with_reducible refine (HC0.out _ (up_drew (Below.refl _ _))).mono ?_); rintro e x0 ⟨rfl, hbx⟩; have HX0 := Lib.hid hbx; clear hbx)
            | fail "no arm"))
        all_goals
          go_wp2
          go_ret
          exact ⟨rfl, up HB_42.out HX0.out⟩
      have him : (i : Int) < (n1 : Int) := by omega
      have a_45 := HEX_39.out.cell 0
      have a_46 := HEX_39.out.cell 1
      go_wp2
      try clear a_45 a_46
      have HLPO := HLP
      clear HLP
      go_loopw [6] (fun jv wr => ∃ (j : Nat), j ≤ n2 ∧ jv = .int .i64 j ∧ Hid (Below w5.heap.size w5 wr))
         (fun jv _ => n2 - (intOf jv).toNat)
      case atStart => exact ⟨0, by omega, rfl, Below.refl _ _⟩
      case round =>
        obtain ⟨w6, HWR⟩ : ∃ x : World, x = wr := ⟨_, rfl⟩
        subst HWR
        obtain ⟨j, hj, rfl, HLP⟩ := hrel
        have hlb := HLP.out
        have HEX_47 := Lib.hid (HEX_39.out.below hlb HEX_39.out.lt)
        clear HEX_39
        have HX1_48 := Lib.hid (HX1_40.out.keep hlb (by omega))
        have HX2_49 := Lib.hid (HX2_41.out.keep hlb (by omega))
        have HB_50 := Lib.hid (up HB_42.out hlb)
        have hz_6 := hlb.size
        clear HX1_40 HX2_41 HB_42
        clear hlb
        have hj0 : (0 : Int) ≤ (j : Int) := by omega
        by_cases hjt : j < n2
        case neg =>
          have hge : (n2 : Int) ≤ (j : Int) := by omega
          have a_51 := HEX_47.out.cell 0
          have a_52 := HEX_47.out.cell 1
          go_wp2
          try clear a_51 a_52
          go_roundw
          case rel => exact ⟨i + 1, by omega, by go_num, up HLPO.out HLP.out⟩
          case measure => (simp [intOf]) <;> omega
        have hjm : (j : Int) < (n2 : Int) := by omega
        obtain ⟨b, off, o, u, v, hAe, hbB, _, hg, hc0, hc1', hc2'⟩ := HX1_48.out.trip (k := i) hlt
        obtain ⟨b2, off2, p, q, t, hAe2, hbB2, _, hg2, hd0, hd1, hd2⟩ := HX2_49.out.trip (k := j) hjt
        have HNE := Lib.hid (HAD.out _ (List.mem_of_getElem? hg) _ (List.mem_of_getElem? hg2))
        clear hg hg2
        subst hAe hAe2
        by_cases heu : u = p
        case neg =>
          have hb : (u == p) = false := by simpa using heu
          have a_53 := HEX_47.out.cell 0
          have a_54 := HEX_47.out.cell 1
          go_wp2_with (fail)
          go_quiet (fail)
          go_wp2
          go_roundw
          case rel => exact ⟨j + 1, by omega, by go_num, up_drewN HLP.out _⟩
          case measure => (simp [intOf]) <;> omega
        subst heu
        by_cases hev : v = q
        case neg =>
          have hb : (v == q) = false := by simpa using hev
          have a_55 := HEX_47.out.cell 0
          have a_56 := HEX_47.out.cell 1
          go_wp2_with (fail)
          go_quiet (fail)
          go_wp2
          go_roundw
          case rel => exact ⟨j + 1, by omega, by go_num, up_drewN HLP.out _⟩
          case measure => (simp [intOf]) <;> omega
        subst hev
        exact absurd rfl HNE.out
end Go.Proofs.Ytgnffodnimafoaa
