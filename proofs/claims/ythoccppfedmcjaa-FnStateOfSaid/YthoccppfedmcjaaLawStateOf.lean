/- The law FnStateOf, walked: it returns true. (Written by a program over gen/lawlib.py.) -/
import Derived.Test.YthoccppfedmcjaaDrawSn
import Derived.Test.YthoccppfedmcjaaLawSnapM
import Derived.Test.YthoccppfedmcjaaSnapS
import Derived.BigQuiet
import Derived.Deep.RegionHeld3
set_option linter.unusedSimpArgs false
set_option linter.unusedVariables false
namespace Go.Proofs.Ythoccppfedmcjaa
open Go.RowKit

set_option maxRecDepth 100000 in
set_option maxHeartbeats 6400000 in
theorem lawStateOf_any (n c : Nat) (A : Option Addr) (xs : List Int) (w : World) (hr : Rd w 0 w.heap.size 1 A n (bvs xs)) (hby : Bytes xs) (hc : n ≤ c) (hc2 : c ≤ 9223372036854775807) :
    Calls Try.prog 4 #[.slice A n c] w fun e w' => e = .returned (.bool true) ∧ Below w.heap.size w w' := by
  by_cases hbig : (1048576 : Int) < n
  · go_enter Try.func4, Try.ntmps4
    go_wp2
    go_ret
    exact ⟨rfl, Below.refl _ _⟩
  go_enter Try.func4, Try.ntmps4
  go_wp2_with (fail)
  (with_reducible refine (drawStateOf_any n c A xs w hr hby (by omega) hc hc2).mono ?_)
  rintro e w1 ⟨N, T, S, A1, m, c1, ps, rfl, hN, hT, hS, hm, hc1, hcx, hrd, hb1⟩
  clear hbig hr
  have HB_0 := Lib.hid hb1
  have hz_1 := hb1.size
  clear hb1
  have HPL := Lib.hid hrd.len2
  have HL_1 := Lib.hid (hrd.wide (Nat.zero_le _) (Nat.le_refl _))
  clear hrd
  have HEV_2 := Lib.hid (Blk.new w1 25 #[.int .i64 N, .int .i64 T, .int .i64 S, .slice A1 m c1])
  have hbt := up_alloc (Below.refl _ w1) (.cells #[.int .i64 N, .int .i64 T, .int .i64 S, .slice A1 m c1] 25)
  have hs_2 : (w1.alloc (.cells #[.int .i64 N, .int .i64 T, .int .i64 S, .slice A1 m c1] 25)).heap.size = w1.heap.size + 1 := by simp
  have HL_3 := Lib.hid (HL_1.out.keep hbt (by omega))
  have HB_4 := Lib.hid (up HB_0.out hbt)
  have hz_2 := hbt.size
  clear HL_1 HB_0
  clear hbt
  go_wp2_with (fail)
  generalize w1.alloc (.cells #[.int .i64 N, .int .i64 T, .int .i64 S, .slice A1 m c1] 25) = w2 at *
  have hgV := HEV_2.out.lt
  cases hV : vSnap N T S ps with
  | false =>
    have HU := Lib.hid (stateOf_no hV)
    clear hV
    (with_reducible refine (StateOfI_any N T S 0 _ m c1 A1 ps _ HL_3.out (by omega) (by omega) (by omega)).mono ?_)
    rintro e w3 ⟨rfl, hbt⟩
    rw [HU.out]
    have HEV_5 := Lib.hid (HEV_2.out.below hbt HEV_2.out.lt)
    clear HEV_2
    have HL_6 := Lib.hid (HL_3.out.keep hbt (by omega))
    have HB_7 := Lib.hid (up HB_4.out hbt)
    have hz_3 := hbt.size
    clear HL_3 HB_4
    clear hbt
    have a_8 := HEV_5.out.cell 0
    have a_9 := HEV_5.out.cell 1
    have a_10 := HEV_5.out.cell 2
    have a_11 := HEV_5.out.cell 3
    go_wp2_with (fail)
    try clear a_8 a_9 a_10 a_11
    (with_reducible refine (StateOfS_any N T S 0 _ m c1 A1 ps _ HL_6.out (by omega) (by omega)).mono ?_)
    rintro e w4 ⟨rfl, hbt⟩
    rw [HU.out]
    have HEV_12 := Lib.hid (HEV_5.out.below hbt HEV_5.out.lt)
    clear HEV_5
    have HL_13 := Lib.hid (HL_6.out.keep hbt (by omega))
    have HB_14 := Lib.hid (up HB_7.out hbt)
    have hz_4 := hbt.size
    clear HL_6 HB_7
    clear hbt
    have a_15 := HEV_12.out.cell 0
    have a_16 := HEV_12.out.cell 1
    have a_17 := HEV_12.out.cell 2
    have a_18 := HEV_12.out.cell 3
    go_wp2_with (fail)
    try clear a_15 a_16 a_17 a_18
    (with_reducible refine (StateOfS_any N T S 0 _ m c1 A1 ps _ HL_13.out (by omega) (by omega)).mono ?_)
    rintro e w5 ⟨rfl, hbt⟩
    rw [HU.out]
    have HEV_19 := Lib.hid (HEV_12.out.below hbt HEV_12.out.lt)
    clear HEV_12
    have HL_20 := Lib.hid (HL_13.out.keep hbt (by omega))
    have HB_21 := Lib.hid (up HB_14.out hbt)
    have hz_5 := hbt.size
    clear HL_13 HB_14
    clear hbt
    go_wp2
    go_ret
    exact ⟨rfl, HB_21.out⟩
  | true =>
    have HU := Lib.hid (stateOf_yes hV)
    have HV := Lib.hid hV
    obtain ⟨q0, q1⟩ := stAfter_in (vSnap_iff.1 hV).2.2.1 ps
    have HZ := Lib.hid (stateOf_bare hV)
    generalize stAfter S ps = q at *
    clear hV
    have dq : (q != q) = false := by simp
    have dq1 : decide (q < 0) = false := decide_eq_false (by omega)
    have dq2 : decide (q < 10007) = true := decide_eq_true (by omega)
    have dS : (S == S) = true := by simp
    (with_reducible refine (StateOfI_any N T S 0 _ m c1 A1 ps _ HL_3.out (by omega) (by omega) (by omega)).mono ?_)
    rintro e w3 ⟨rfl, hbt⟩
    rw [HU.out]
    have HEV_22 := Lib.hid (HEV_2.out.below hbt HEV_2.out.lt)
    clear HEV_2
    have HL_23 := Lib.hid (HL_3.out.keep hbt (by omega))
    have HB_24 := Lib.hid (up HB_4.out hbt)
    have hz_3 := hbt.size
    clear HL_3 HB_4
    clear hbt
    have a_25 := HEV_22.out.cell 0
    have a_26 := HEV_22.out.cell 1
    have a_27 := HEV_22.out.cell 2
    have a_28 := HEV_22.out.cell 3
    go_wp2_with (fail)
    try clear a_25 a_26 a_27 a_28
    (with_reducible refine (StateOfS_any N T S 0 _ m c1 A1 ps _ HL_23.out (by omega) (by omega)).mono ?_)
    rintro e w4 ⟨rfl, hbt⟩
    rw [HU.out]
    have HEV_29 := Lib.hid (HEV_22.out.below hbt HEV_22.out.lt)
    clear HEV_22
    have HL_30 := Lib.hid (HL_23.out.keep hbt (by omega))
    have HB_31 := Lib.hid (up HB_24.out hbt)
    have hz_4 := hbt.size
    clear HL_23 HB_24
    clear hbt
    have HSW := Lib.hid (show ∀ wx, Below w4.heap.size w4 wx → wx.cell? ⟨w1.heap.size, 0, none⟩ = some (.int .i64 N) ∧ wx.cell? ⟨w1.heap.size, 1, none⟩ = some (.int .i64 T) ∧ wx.cell? ⟨w1.heap.size, 2, none⟩ = some (.int .i64 S) ∧ wx.cell? ⟨w1.heap.size, 3, none⟩ = some (.slice A1 m c1) from fun wx hb => ⟨(hb.cell (by show w1.heap.size < w4.heap.size; omega)).trans (HEV_29.out.cell 0), (hb.cell (by show w1.heap.size < w4.heap.size; omega)).trans (HEV_29.out.cell 1), (hb.cell (by show w1.heap.size < w4.heap.size; omega)).trans (HEV_29.out.cell 2), (hb.cell (by show w1.heap.size < w4.heap.size; omega)).trans (HEV_29.out.cell 3)⟩)
    have HC0 := Lib.hid (show ∀ wx, Below w4.heap.size w4 wx → Calls Try.prog 16 #[.agg #[.int .i64 N, .int .i64 T, .int .i64 S, .slice none 0 0]] wx fun e w' => e = .returned (.int .i64 S) ∧ Below w4.heap.size w4 w' from fun wx hb => (StateOfI_any N T S 0 0 0 0 none [] wx (Rd.nil _ _ _ _ _) (Nat.zero_le _) (by omega) (Nat.le_refl _)).mono fun e w' ⟨h1, h2⟩ => ⟨by rw [h1, HZ.out], up hb h2⟩)
    obtain ⟨kk0, kk1, kk2, kk3⟩ := HSW.out _ (Below.refl _ _)
    go_wp2_with (fail)
    clear kk0 kk1 kk2 kk3
    go_region_held3 (fun wx => wx.cell? ⟨w1.heap.size, 0, none⟩ = some (.int .i64 N) ∧ wx.cell? ⟨w1.heap.size, 1, none⟩ = some (.int .i64 T) ∧ wx.cell? ⟨w1.heap.size, 2, none⟩ = some (.int .i64 S) ∧ wx.cell? ⟨w1.heap.size, 3, none⟩ = some (.slice A1 m c1))
      (first | with_reducible exact HSW.out _ (Below.refl _ _) | with_reducible exact HSW.out _ (up_drew (Below.refl _ _)) | with_reducible exact HSW.out _ (HX0.out))
      ((first
        | (go_at_call 16; (with_reducible refine (HC0.out _ (up_drew (Below.refl _ _))).mono ?_); rintro e x0 ⟨rfl, hbx⟩; have HX0 := Lib.hid hbx; clear hbx)
        | fail "no arm"))
    all_goals
      go_wp2
      go_ret
      exact ⟨rfl, up HB_31.out HX0.out⟩
end Go.Proofs.Ythoccppfedmcjaa
