/- The law FnCheckCall, walked: it returns true. (Written by a program over gen/lawlib.py.) -/
import Derived.Test.YtipoakimjhfhfabDrawK2
import Derived.Test.YtipoakimjhfhfabClientI
import Derived.Test.YtipoakimjhfhfabClientF
import Derived.Test.YtipoakimjhfhfabMayE
import Derived.Test.YtipoakimjhfhfabEqLists
import Derived.Test.YtipoakimjhfhfabLawClientM
import Derived.BigQuiet
import Derived.Deep.RegionLaw
set_option linter.unusedSimpArgs false
set_option linter.unusedVariables false
namespace Go.Proofs.Ytipoakimjhfhfab
open Go.RowKit

set_option maxRecDepth 100000 in
set_option maxHeartbeats 6400000 in
theorem lawCheckCall_any (n c : Nat) (A : Option Addr) (xs : List Int) (w : World) (hr : Rd w 0 w.heap.size 1 A n (bvs xs)) (hby : Bytes xs) (hc : n ≤ c) (hc2 : c ≤ 9223372036854775807) :
    Calls Try.prog 8 #[.slice A n c] w fun e w' => e = .returned (.bool true) ∧ Below w.heap.size w w' := by
  by_cases hbig : (1048576 : Int) < n
  · go_enter Try.func8, Try.ntmps8
    go_wp2
    go_ret
    exact ⟨rfl, Below.refl _ _⟩
  go_enter Try.func8, Try.ntmps8
  go_wp2_with (fail)
  (with_reducible refine (drawCheckCall_any n c A xs w hr hby (by omega) hc hc2).mono ?_)
  rintro e w1 ⟨A1, m, c1, ps, z0, z1, rfl, hm, hk1, hsm, hrd, ⟨z0a, z0b⟩, ⟨z1a, z1b⟩, hb1⟩
  clear hbig hr
  have HB_0 := Lib.hid hb1
  have hz_1 := hb1.size
  clear hb1
  clear hsm
  have hz0 : in64 z0 := by unfold in64; omega
  have hz1 : in64 z1 := by unfold in64; omega
  have HPL := Lib.hid hrd.len4
  have HL_1 := Lib.hid (hrd.wide (Nat.zero_le _) (Nat.le_refl _))
  clear hrd
  obtain ⟨ck, HCK⟩ : ∃ ck, Hid (checkOf ps z0 z1 = ck ∧ 1 ≤ ck ∧ ck ≤ 4) := ⟨_, rfl, checkOf_bd ps z0 z1⟩
  obtain ⟨_, ck1, ck4⟩ := HCK.out
  have hne1 : (ck != ck) = false := by simp
  have heq1 : (ck == ck) = true := by simp
  go_wp2_with (fail)
  (with_reducible refine (CheckCallI_any 0 _ m c1 A1 ps z0 z1 _ HL_1.out (by omega) (by omega) hz0 hz1).mono ?_)
  rintro e w2 ⟨rfl, hbt⟩
  rw [HCK.out.1]
  have HL_2 := Lib.hid (HL_1.out.keep hbt (by omega))
  have HB_3 := Lib.hid (up HB_0.out hbt)
  have hz_2 := hbt.size
  clear HL_1 HB_0
  clear hbt
  go_wp2_with (fail)
  (with_reducible refine (CheckCallS_any 0 _ m c1 A1 ps z0 z1 _ HL_2.out (by omega) (by omega) hz0 hz1).mono ?_)
  rintro e w3 ⟨rfl, hbt⟩
  rw [HCK.out.1]
  have HL_4 := Lib.hid (HL_2.out.keep hbt (by omega))
  have HB_5 := Lib.hid (up HB_3.out hbt)
  have hz_3 := hbt.size
  clear HL_2 HB_3
  clear hbt
  go_wp2_with (fail)
  (with_reducible refine (ValidClientsI_any 0 _ m c1 A1 ps _ HL_4.out (by omega) (by omega)).mono ?_)
  rintro e w4 ⟨rfl, hbt⟩
  have HL_6 := Lib.hid (HL_4.out.keep hbt (by omega))
  have HB_7 := Lib.hid (up HB_5.out hbt)
  have hz_4 := hbt.size
  clear HL_4 HB_5
  clear hbt
  cases hv : vCls ps with
  | false =>
    clear hv
    go_wp2_with (fail)
    (with_reducible refine (CheckCallS_any 0 _ m c1 A1 ps z0 z1 _ HL_6.out (by omega) (by omega) hz0 hz1).mono ?_)
    rintro e w5 ⟨rfl, hbt⟩
    rw [HCK.out.1]
    have HL_8 := Lib.hid (HL_6.out.keep hbt (by omega))
    have HB_9 := Lib.hid (up HB_7.out hbt)
    have hz_5 := hbt.size
    clear HL_6 HB_7
    clear hbt
    go_wp2
    go_ret
    exact ⟨rfl, HB_9.out⟩
  | true =>
  have HV := Lib.hid hv
  clear hv
  go_wp2
  go_loopw [7] (fun iv wr => ∃ (k : Nat), k ≤ m ∧ iv = .int .i64 k ∧ Hid (Below w4.heap.size w4 wr))
     (fun iv _ => m - (intOf iv).toNat)
  case atStart => exact ⟨0, by omega, rfl, Below.refl _ _⟩
  case round =>
    obtain ⟨w5, HWR⟩ : ∃ x : World, x = wr := ⟨_, rfl⟩
    subst HWR
    obtain ⟨k, hk, rfl, HLP⟩ := hrel
    have hlb := HLP.out
    have HL_10 := Lib.hid (HL_6.out.keep hlb (by omega))
    have HB_11 := Lib.hid (up HB_7.out hlb)
    have hz_5 := hlb.size
    clear HL_6 HB_7
    clear hlb
    by_cases hlt : k < m
    case neg =>
      have hge : (m : Int) ≤ (k : Int) := by omega
      go_wp2
      go_ret
      exact ⟨rfl, HB_11.out⟩
    have hkm : (k : Int) < (m : Int) := by omega
    have hk0 : (0 : Int) ≤ (k : Int) := by omega
    obtain ⟨b, off, x, y, u, t, hAe, hbB, _, hg, hc0, hc1', hc2', hc3'⟩ := HL_10.out.quad (k := k) hlt
    subst hAe
    have hbd := vCls_ok HV.out (List.mem_of_getElem? hg)
    have hx0 : 0 ≤ x := hbd.1.1
    have hx9 : x ≤ 9 := hbd.1.2
    have hy0 : 0 ≤ y := hbd.2.1.1
    have hy9 : y ≤ 999 := hbd.2.1.2
    have HLA := Lib.hid (last_at HV.out (List.mem_of_getElem? hg)).1
    clear hg hbd
    have hx64 : in64 x := by unfold in64; omega
    have hy64 : in64 y := by unfold in64; omega
    have hp64 : in64 (y + 1) := by unfold in64; omega
    have hm64 : in64 (y - 1) := by unfold in64; omega
    have hwp : IntKind.i64.wrap (y + 1) = y + 1 := IntWalk.i64_in _ (by omega)
    have hwn : IntKind.i64.wrap (y - 1) = y - 1 := IntWalk.i64_in _ (by omega)
    have hbx := up_alloc (Below.refl _ w5) (.cells #[.int .i64 x, .int .i64 y, .int .i64 u, .int .i64 t] 45)
    have hrx := Rd.of_blk (n := 1) (size := 4) (Blk.new w5 45 #[.int .i64 x, .int .i64 y, .int .i64 u, .int .i64 t]) rfl
    have HBX := Lib.hid (Blk.new w5 45 #[.int .i64 x, .int .i64 y, .int .i64 u, .int .i64 t])
    go_upto_region 11 with fail
    clear hc0 hc1' hc2' hc3' hrx
    obtain ⟨w6, HW⟩ : ∃ s : World, Hid (s = w5.alloc (.cells #[.int .i64 x, .int .i64 y, .int .i64 u, .int .i64 t] 45)) := ⟨_, rfl⟩
    rw [← HW.out] at hbx HBX ⊢
    have HL_12 := Lib.hid (HL_10.out.keep hbx (by omega))
    have HB_13 := Lib.hid (up HB_11.out hbx)
    have hz_6 := hbx.size
    have HP_14 := Lib.hid (up HLP.out hbx)
    clear HL_10 HB_11 HLP
    clear hbx
    have e0_1 : w6.cell? ⟨w5.heap.size, 0, none⟩ = some (.int .i64 x) := HBX.out.cell 0
    have e1_1 : w6.cell? ⟨w5.heap.size, 1, none⟩ = some (.int .i64 y) := HBX.out.cell 1
    by_cases h1 : y < 999
    case pos =>
      have h1d : decide (y < 999) = true := decide_eq_true h1
      go_wp2_with (fail)
      (with_reducible refine (CheckCallI_any 0 _ m c1 (some ⟨b, off, none⟩) ps x (y + 1) _ HL_12.out (by omega) (by omega) hx64 hp64).mono ?_)
      rintro e w7 ⟨rfl, hbt⟩
      rw [(check_new HV.out ⟨hx0, hx9⟩ (show 1 ≤ y + 1 ∧ y + 1 ≤ 999 by omega) (show lastOf ps x + 1 = y + 1 by rw [HLA.out]))]
      have HBY := Lib.hid (HBX.out.below hbt HBX.out.lt)
      clear e0_1 e1_1 HBX
      have HBX := Lib.hid HBY.out
      clear HBY
      have HL_15 := Lib.hid (HL_12.out.keep hbt (by omega))
      have HB_16 := Lib.hid (up HB_13.out hbt)
      have hz_7 := hbt.size
      have HP_17 := Lib.hid (up HP_14.out hbt)
      clear HL_12 HB_13 HP_14
      clear hbt
      have e0_2 : w7.cell? ⟨w5.heap.size, 0, none⟩ = some (.int .i64 x) := HBX.out.cell 0
      have e1_2 : w7.cell? ⟨w5.heap.size, 1, none⟩ = some (.int .i64 y) := HBX.out.cell 1
      by_cases h2 : 0 < y
      case pos =>
        have h2d : decide (0 < y) = true := decide_eq_true h2
        go_wp2_with (fail)
        (with_reducible refine (CheckCallI_any 0 _ m c1 (some ⟨b, off, none⟩) ps x y _ HL_15.out (by omega) (by omega) hx64 hy64).mono ?_)
        rintro e w8 ⟨rfl, hbt⟩
        rw [(check_again HV.out ⟨hx0, hx9⟩ (show 1 ≤ y ∧ y ≤ 999 by omega) HLA.out)]
        have HBY := Lib.hid (HBX.out.below hbt HBX.out.lt)
        clear e0_2 e1_2 HBX
        have HBX := Lib.hid HBY.out
        clear HBY
        have HL_18 := Lib.hid (HL_15.out.keep hbt (by omega))
        have HB_19 := Lib.hid (up HB_16.out hbt)
        have hz_8 := hbt.size
        have HP_20 := Lib.hid (up HP_17.out hbt)
        clear HL_15 HB_16 HP_17
        clear hbt
        have e0_3 : w8.cell? ⟨w5.heap.size, 0, none⟩ = some (.int .i64 x) := HBX.out.cell 0
        have e1_3 : w8.cell? ⟨w5.heap.size, 1, none⟩ = some (.int .i64 y) := HBX.out.cell 1
        by_cases h3 : 1 < y
        case pos =>
          have h3d : decide (1 < y) = true := decide_eq_true h3
          go_wp2_with (fail)
          (with_reducible refine (CheckCallI_any 0 _ m c1 (some ⟨b, off, none⟩) ps x (y - 1) _ HL_18.out (by omega) (by omega) hx64 hm64).mono ?_)
          rintro e w9 ⟨rfl, hbt⟩
          rw [(check_old HV.out ⟨hx0, hx9⟩ (show 1 ≤ y - 1 ∧ y - 1 ≤ 999 by omega) (show y - 1 < lastOf ps x by rw [HLA.out]; show y - 1 < y; omega))]
          have HBY := Lib.hid (HBX.out.below hbt HBX.out.lt)
          clear e0_3 e1_3 HBX
          have HBX := Lib.hid HBY.out
          clear HBY
          have HL_21 := Lib.hid (HL_18.out.keep hbt (by omega))
          have HB_22 := Lib.hid (up HB_19.out hbt)
          have hz_9 := hbt.size
          have HP_23 := Lib.hid (up HP_20.out hbt)
          clear HL_18 HB_19 HP_20
          clear hbt
          have e0_4 : w9.cell? ⟨w5.heap.size, 0, none⟩ = some (.int .i64 x) := HBX.out.cell 0
          have e1_4 : w9.cell? ⟨w5.heap.size, 1, none⟩ = some (.int .i64 y) := HBX.out.cell 1
          go_wp2
          go_roundw
          case rel => exact ⟨k + 1, by omega, by go_num, HP_23.out⟩
          case measure => simp [intOf]; omega
        have h3d : decide (1 < y) = false := decide_eq_false h3
        go_wp2
        go_roundw
        case rel => exact ⟨k + 1, by omega, by go_num, HP_20.out⟩
        case measure => simp [intOf]; omega
      have h2d : decide (0 < y) = false := decide_eq_false h2
      have h3d : decide (1 < y) = false := decide_eq_false (by omega)
      go_wp2
      go_roundw
      case rel => exact ⟨k + 1, by omega, by go_num, HP_17.out⟩
      case measure => simp [intOf]; omega
    have h1d : decide (y < 999) = false := decide_eq_false h1
    by_cases h2 : 0 < y
    case pos =>
      have h2d : decide (0 < y) = true := decide_eq_true h2
      go_wp2_with (fail)
      (with_reducible refine (CheckCallI_any 0 _ m c1 (some ⟨b, off, none⟩) ps x y _ HL_12.out (by omega) (by omega) hx64 hy64).mono ?_)
      rintro e w7 ⟨rfl, hbt⟩
      rw [(check_again HV.out ⟨hx0, hx9⟩ (show 1 ≤ y ∧ y ≤ 999 by omega) HLA.out)]
      have HBY := Lib.hid (HBX.out.below hbt HBX.out.lt)
      clear e0_1 e1_1 HBX
      have HBX := Lib.hid HBY.out
      clear HBY
      have HL_27 := Lib.hid (HL_12.out.keep hbt (by omega))
      have HB_28 := Lib.hid (up HB_13.out hbt)
      have hz_7 := hbt.size
      have HP_29 := Lib.hid (up HP_14.out hbt)
      clear HL_12 HB_13 HP_14
      clear hbt
      have e0_2 : w7.cell? ⟨w5.heap.size, 0, none⟩ = some (.int .i64 x) := HBX.out.cell 0
      have e1_2 : w7.cell? ⟨w5.heap.size, 1, none⟩ = some (.int .i64 y) := HBX.out.cell 1
      by_cases h3 : 1 < y
      case pos =>
        have h3d : decide (1 < y) = true := decide_eq_true h3
        go_wp2_with (fail)
        (with_reducible refine (CheckCallI_any 0 _ m c1 (some ⟨b, off, none⟩) ps x (y - 1) _ HL_27.out (by omega) (by omega) hx64 hm64).mono ?_)
        rintro e w8 ⟨rfl, hbt⟩
        rw [(check_old HV.out ⟨hx0, hx9⟩ (show 1 ≤ y - 1 ∧ y - 1 ≤ 999 by omega) (show y - 1 < lastOf ps x by rw [HLA.out]; show y - 1 < y; omega))]
        have HBY := Lib.hid (HBX.out.below hbt HBX.out.lt)
        clear e0_2 e1_2 HBX
        have HBX := Lib.hid HBY.out
        clear HBY
        have HL_30 := Lib.hid (HL_27.out.keep hbt (by omega))
        have HB_31 := Lib.hid (up HB_28.out hbt)
        have hz_8 := hbt.size
        have HP_32 := Lib.hid (up HP_29.out hbt)
        clear HL_27 HB_28 HP_29
        clear hbt
        have e0_3 : w8.cell? ⟨w5.heap.size, 0, none⟩ = some (.int .i64 x) := HBX.out.cell 0
        have e1_3 : w8.cell? ⟨w5.heap.size, 1, none⟩ = some (.int .i64 y) := HBX.out.cell 1
        go_wp2
        go_roundw
        case rel => exact ⟨k + 1, by omega, by go_num, HP_32.out⟩
        case measure => simp [intOf]; omega
      exfalso; omega
    exfalso; omega
end Go.Proofs.Ytipoakimjhfhfab
