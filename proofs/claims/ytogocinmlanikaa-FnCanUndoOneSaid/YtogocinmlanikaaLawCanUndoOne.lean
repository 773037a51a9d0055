/- The law FnCanUndoOne, walked: it returns true. (Written by a program over gen/lawlib.py.) -/
import Derived.Test.YtogocinmlanikaaDrawSt2
import Derived.Test.YtogocinmlanikaaSagaD
import Derived.Test.YtogocinmlanikaaSagaS
import Derived.Test.YtogocinmlanikaaLawLists
import Derived.Test.YtogocinmlanikaaLawSagaM
import Derived.BigQuiet
import Derived.Deep.RegionLaw
import Derived.Deep.RegionHeld3
set_option linter.unusedSimpArgs false
set_option linter.unusedVariables false
namespace Go.Proofs.Ytogocinmlanikaa
open Go.RowKit

set_option maxRecDepth 100000 in
set_option maxHeartbeats 6400000 in
theorem lawCanUndoOne_any (n c : Nat) (A : Option Addr) (xs : List Int) (w : World) (hr : Rd w 0 w.heap.size 1 A n (bvs xs)) (hby : Bytes xs) (hc : n ≤ c) (hc2 : c ≤ 9223372036854775807) :
    Calls Try.prog 4 #[.slice A n c] w fun e w' => e = .returned (.bool true) ∧ Below w.heap.size w w' := by
  by_cases hbig : (1048576 : Int) < n
  · go_enter Try.func4, Try.ntmps4
    go_wp2
    go_ret
    exact ⟨rfl, Below.refl _ _⟩
  go_enter Try.func4, Try.ntmps4
  go_wp2_with (fail)
  (with_reducible refine (drawCanUndo_any n c A xs w hr hby (by omega) hc hc2).mono ?_)
  rintro e w1 ⟨A1, m, c1, ps, rfl, hm, hc1, hcc, hsm, hrd, hb1⟩
  clear hbig hr
  have HB_0 := Lib.hid hb1
  have hz_1 := hb1.size
  clear hb1
  have HSM := Lib.hid hsm
  clear hsm
  have HPL := Lib.hid hrd.len2
  have HL_1 := Lib.hid (hrd.wide (Nat.zero_le _) (Nat.le_refl _))
  clear hrd
  cases hU : undoOf ps with
  | false =>
    have HU := Lib.hid hU
    clear hU
    go_wp2_with (fail)
    (with_reducible refine (CanUndoI_any 0 _ m c1 A1 ps _ HL_1.out (by omega) (by omega)).mono ?_)
    rintro e w2 ⟨rfl, hbt⟩
    rw [HU.out]
    have HL_2 := Lib.hid (HL_1.out.keep hbt (by omega))
    have HB_3 := Lib.hid (up HB_0.out hbt)
    have hz_2 := hbt.size
    clear HL_1 HB_0
    clear hbt
    go_wp2_with (fail)
    (with_reducible refine (CanUndoS_any 0 _ m c1 A1 ps _ HL_2.out (by omega) (by omega)).mono ?_)
    rintro e w3 ⟨rfl, hbt⟩
    rw [HU.out]
    have HL_4 := Lib.hid (HL_2.out.keep hbt (by omega))
    have HB_5 := Lib.hid (up HB_3.out hbt)
    have hz_3 := hbt.size
    clear HL_2 HB_3
    clear hbt
    go_wp2
    go_loopw [5] (fun iv wr => iv = .int .i64 0 ∧ Hid (Below w3.heap.size w3 wr))
       (fun _ _ => 0)
    case atStart => exact ⟨rfl, Below.refl _ _⟩
    case round =>
      obtain ⟨w4, HWR⟩ : ∃ x : World, x = wr := ⟨_, rfl⟩
      subst HWR
      obtain ⟨rfl, HLP⟩ := hrel
      have hlb := HLP.out
      have HL_6 := Lib.hid (HL_4.out.keep hlb (by omega))
      have HB_7 := Lib.hid (up HB_5.out hlb)
      have hz_4 := hlb.size
      clear HL_4 HB_5
      clear hlb
      by_cases hm0 : 0 < m
      ·
        go_wp2_with (fail)
        have hbk := Rd.of_blk (Blk.new w4 28 #[.int .i64 5, .int .i64 (-5)]) (n := 1) (size := 2) (by rfl)
        (with_reducible refine (CanUndoI_any _ _ 1 1 _ [(5, (-5))] _ (show Rd _ _ _ 2 _ 1 (pvs [(5, (-5))]) from hbk) (by simp) (by omega)).mono ?_)
        rintro e w5 ⟨rfl, hbt⟩
        rw [show undoOf [((5 : Int), ((-5) : Int))] = true from by decide]
        clear hbk
        have hbt := up (up_alloc (Below.refl _ w4) _) hbt
        have HL_8 := Lib.hid (HL_6.out.keep hbt (by omega))
        have HB_9 := Lib.hid (up HB_7.out hbt)
        have hz_5 := hbt.size
        have HP_10 := Lib.hid (up HLP.out hbt)
        clear HL_6 HB_7 HLP
        clear hbt
        go_wp2_with (fail)
        have hbk := Rd.of_blk (Blk.new w5 28 #[.int .i64 5, .int .i64 5]) (n := 1) (size := 2) (by rfl)
        (with_reducible refine (CanUndoI_any _ _ 1 1 _ [(5, 5)] _ (show Rd _ _ _ 2 _ 1 (pvs [(5, 5)]) from hbk) (by simp) (by omega)).mono ?_)
        rintro e w6 ⟨rfl, hbt⟩
        rw [show undoOf [((5 : Int), (5 : Int))] = false from by decide]
        clear hbk
        have hbt := up (up_alloc (Below.refl _ w5) _) hbt
        have HL_11 := Lib.hid (HL_8.out.keep hbt (by omega))
        have HB_12 := Lib.hid (up HB_9.out hbt)
        have hz_6 := hbt.size
        have HP_13 := Lib.hid (up HP_10.out hbt)
        clear HL_8 HB_9 HP_10
        clear hbt
        go_wp2_with (fail)
        (with_reducible refine (CanUndoI_any 0 0 0 0 none [] _ (Rd.nil _ _ _ _ _) (by omega) (by omega)).mono ?_)
        rintro e w7 ⟨rfl, hbt⟩
        rw [show undoOf [] = true from by decide]
        have HL_14 := Lib.hid (HL_11.out.keep hbt (by omega))
        have HB_15 := Lib.hid (up HB_12.out hbt)
        have hz_7 := hbt.size
        have HP_16 := Lib.hid (up HP_13.out hbt)
        clear HL_11 HB_12 HP_13
        clear hbt
        go_wp2
        go_ret
        exact ⟨rfl, HB_15.out⟩
      ·
        go_wp2_with (fail)
        have hbk := Rd.of_blk (Blk.new w4 28 #[.int .i64 5, .int .i64 (-5)]) (n := 1) (size := 2) (by rfl)
        (with_reducible refine (CanUndoI_any _ _ 1 1 _ [(5, (-5))] _ (show Rd _ _ _ 2 _ 1 (pvs [(5, (-5))]) from hbk) (by simp) (by omega)).mono ?_)
        rintro e w5 ⟨rfl, hbt⟩
        rw [show undoOf [((5 : Int), ((-5) : Int))] = true from by decide]
        clear hbk
        have hbt := up (up_alloc (Below.refl _ w4) _) hbt
        have HL_17 := Lib.hid (HL_6.out.keep hbt (by omega))
        have HB_18 := Lib.hid (up HB_7.out hbt)
        have hz_5 := hbt.size
        have HP_19 := Lib.hid (up HLP.out hbt)
        clear HL_6 HB_7 HLP
        clear hbt
        go_wp2_with (fail)
        have hbk := Rd.of_blk (Blk.new w5 28 #[.int .i64 5, .int .i64 5]) (n := 1) (size := 2) (by rfl)
        (with_reducible refine (CanUndoI_any _ _ 1 1 _ [(5, 5)] _ (show Rd _ _ _ 2 _ 1 (pvs [(5, 5)]) from hbk) (by simp) (by omega)).mono ?_)
        rintro e w6 ⟨rfl, hbt⟩
        rw [show undoOf [((5 : Int), (5 : Int))] = false from by decide]
        clear hbk
        have hbt := up (up_alloc (Below.refl _ w5) _) hbt
        have HL_20 := Lib.hid (HL_17.out.keep hbt (by omega))
        have HB_21 := Lib.hid (up HB_18.out hbt)
        have hz_6 := hbt.size
        have HP_22 := Lib.hid (up HP_19.out hbt)
        clear HL_17 HB_18 HP_19
        clear hbt
        go_wp2_with (fail)
        (with_reducible refine (CanUndoI_any 0 0 0 0 none [] _ (Rd.nil _ _ _ _ _) (by omega) (by omega)).mono ?_)
        rintro e w7 ⟨rfl, hbt⟩
        rw [show undoOf [] = true from by decide]
        have HL_23 := Lib.hid (HL_20.out.keep hbt (by omega))
        have HB_24 := Lib.hid (up HB_21.out hbt)
        have hz_7 := hbt.size
        have HP_25 := Lib.hid (up HP_22.out hbt)
        clear HL_20 HB_21 HP_22
        clear hbt
        go_wp2
        go_ret
        exact ⟨rfl, HB_24.out⟩
  | true =>
    have HU := Lib.hid hU
    have HV := Lib.hid (undoOf_valid hU)
    clear hU
    go_wp2_with (fail)
    (with_reducible refine (CanUndoI_any 0 _ m c1 A1 ps _ HL_1.out (by omega) (by omega)).mono ?_)
    rintro e w2 ⟨rfl, hbt⟩
    rw [HU.out]
    have HL_26 := Lib.hid (HL_1.out.keep hbt (by omega))
    have HB_27 := Lib.hid (up HB_0.out hbt)
    have hz_2 := hbt.size
    clear HL_1 HB_0
    clear hbt
    go_wp2_with (fail)
    (with_reducible refine (CanUndoS_any 0 _ m c1 A1 ps _ HL_26.out (by omega) (by omega)).mono ?_)
    rintro e w3 ⟨rfl, hbt⟩
    rw [HU.out]
    have HL_28 := Lib.hid (HL_26.out.keep hbt (by omega))
    have HB_29 := Lib.hid (up HB_27.out hbt)
    have hz_3 := hbt.size
    clear HL_26 HB_27
    clear hbt
    go_wp2
    go_loopw [5] (fun iv wr => (∃ (k : Nat), k ≤ m ∧ iv = .int .i64 k) ∧ Hid (Below w3.heap.size w3 wr))
       (fun iv _ => m - (intOf iv).toNat)
    case atStart => exact ⟨⟨0, by omega, rfl⟩, Below.refl _ _⟩
    case round =>
      obtain ⟨w4, HWR⟩ : ∃ x : World, x = wr := ⟨_, rfl⟩
      subst HWR
      obtain ⟨⟨k, hk, rfl⟩, HLP⟩ := hrel
      have hlb := HLP.out
      have HL_30 := Lib.hid (HL_28.out.keep hlb (by omega))
      have HB_31 := Lib.hid (up HB_29.out hlb)
      have hz_4 := hlb.size
      clear HL_28 HB_29
      clear hlb
      by_cases hlt : k < m
      case neg =>
        obtain rfl : m = k := by omega
        have hkk : decide ((m : Int) < (m : Int)) = false := by simp
        go_wp2_with (fail)
        have hbk := Rd.of_blk (Blk.new w4 28 #[.int .i64 5, .int .i64 (-5)]) (n := 1) (size := 2) (by rfl)
        (with_reducible refine (CanUndoI_any _ _ 1 1 _ [(5, (-5))] _ (show Rd _ _ _ 2 _ 1 (pvs [(5, (-5))]) from hbk) (by simp) (by omega)).mono ?_)
        rintro e w5 ⟨rfl, hbt⟩
        rw [show undoOf [((5 : Int), ((-5) : Int))] = true from by decide]
        clear hbk
        have hbt := up (up_alloc (Below.refl _ w4) _) hbt
        have HL_32 := Lib.hid (HL_30.out.keep hbt (by omega))
        have HB_33 := Lib.hid (up HB_31.out hbt)
        have hz_5 := hbt.size
        have HP_34 := Lib.hid (up HLP.out hbt)
        clear HL_30 HB_31 HLP
        clear hbt
        go_wp2_with (fail)
        have hbk := Rd.of_blk (Blk.new w5 28 #[.int .i64 5, .int .i64 5]) (n := 1) (size := 2) (by rfl)
        (with_reducible refine (CanUndoI_any _ _ 1 1 _ [(5, 5)] _ (show Rd _ _ _ 2 _ 1 (pvs [(5, 5)]) from hbk) (by simp) (by omega)).mono ?_)
        rintro e w6 ⟨rfl, hbt⟩
        rw [show undoOf [((5 : Int), (5 : Int))] = false from by decide]
        clear hbk
        have hbt := up (up_alloc (Below.refl _ w5) _) hbt
        have HL_35 := Lib.hid (HL_32.out.keep hbt (by omega))
        have HB_36 := Lib.hid (up HB_33.out hbt)
        have hz_6 := hbt.size
        have HP_37 := Lib.hid (up HP_34.out hbt)
        clear HL_32 HB_33 HP_34
        clear hbt
        go_wp2_with (fail)
        (with_reducible refine (CanUndoI_any 0 0 0 0 none [] _ (Rd.nil _ _ _ _ _) (by omega) (by omega)).mono ?_)
        rintro e w7 ⟨rfl, hbt⟩
        rw [show undoOf [] = true from by decide]
        have HL_38 := Lib.hid (HL_35.out.keep hbt (by omega))
        have HB_39 := Lib.hid (up HB_36.out hbt)
        have hz_7 := hbt.size
        have HP_40 := Lib.hid (up HP_37.out hbt)
        clear HL_35 HB_36 HP_37
        clear hbt
        go_wp2
        go_ret
        exact ⟨rfl, HB_39.out⟩
      obtain ⟨b, off, x, y, hA, hbB, _, hg, hc0, hc1'⟩ := HL_30.out.pair hlt
      have hyx : y = -x := undoOf_at HU.out hg
      subst hyx
      obtain ⟨⟨hx0, hx1⟩, _, _⟩ := vSteps_at HV.out hg
      have HU1 := Lib.hid (undo_one HU.out hg)
      have hRT : Rd w4 0 w4.heap.size 2 (some ⟨b, off + k * 2, none⟩) 1 (pvs [(x, -x)]) := ⟨by simp [pvs, pv], fun _ => ⟨b, off + k * 2, rfl, Nat.zero_le _, (by omega), fun j u hu => by
          rcases j with _ | _ | j
          · simp [pvs, pv] at hu; subst hu; exact hc0
          · simp [pvs, pv] at hu; subst hu; rw [show off + k * 2 + (0 + 1) = off + k * 2 + 1 by omega]; exact hc1'
          · simp [pvs, pv] at hu⟩⟩
      have HRT := Lib.hid hRT
      clear hRT hg
      subst hA
      have hkn : (k : Int) < (m : Int) := by omega
      have hk0 : (0 : Int) ≤ (k : Int) := by omega
      have hw1 : IntKind.i64.wrap (x + -x) = 0 := by rw [show x + -x = 0 by omega]; rfl
      have hw2 : IntKind.i64.wrap ((k : Int) + 1) = (k : Int) + 1 := IntWalk.i64_in _ (by omega)
      have hkc : (k : Int) + 1 ≤ (c1 : Int) := by omega
      have hkk1 : (k : Int) ≤ (k : Int) + 1 := by omega
      have hck : ¬ (c1 = k) := by omega
      have hckz : ((c1 : Int) == (k : Int)) = false := by rw [beq_eq_false_iff_ne]; omega
      have HC := Lib.hid (CanUndoI_any _ _ 1 (c1 - k) _ [(x, -x)] w4.drew (HRT.out.keep (up_drew (Below.refl _ _)) (by omega)) (by simp) (by omega))
      rw [HU1.out] at HC
      go_wp2
      refine wp_region_any (by kernel_rfl) ?_
      try (change wpAny _ _ _ _ _ _ _ (World.drew _))
      refine wpAny_take (i := 0) (oi := ⟨_, _, _, _, _, _⟩) (v := ?_) rfl (by kernel_rfl) (by kernel_rfl) (by kernel_rfl) (fun _ _ _ h => h) (Or.inl ⟨by rfl, ?_⟩) ?_
      rotate_left
      focus (intro w; go_simp; try (with_reducible rfl); done)
      try simp only [Act.put, List.setIfInBounds_toArray, List.set_cons_zero, List.set_cons_succ]
      refine wpAny_take (i := 1) (oi := ⟨_, _, _, _, _, _⟩) (v := ?_) rfl (by kernel_rfl) (by kernel_rfl) (by kernel_rfl) (fun _ _ _ h => h) (Or.inl ⟨by rfl, ?_⟩) ?_
      rotate_left
      focus (intro w; go_simp; try (with_reducible rfl); done)
      try simp only [Act.put, List.setIfInBounds_toArray, List.set_cons_zero, List.set_cons_succ]
      refine wpAny_take (i := 2) (oi := ⟨_, _, _, _, _, _⟩) (v := ?_) rfl (by kernel_rfl) (by kernel_rfl) (by kernel_rfl) (fun _ _ _ h => h) (Or.inl ⟨by rfl, ?_⟩) ?_
      rotate_left
      focus (intro w; go_simp; try (with_reducible rfl); done)
      try simp only [Act.put, List.setIfInBounds_toArray, List.set_cons_zero, List.set_cons_succ]
      refine wpAny_take (i := 3) (oi := ⟨_, _, _, _, _, _⟩) (v := ?_) rfl (by kernel_rfl) (by kernel_rfl) (by kernel_rfl) (fun _ _ _ h => h) (Or.inl ⟨by rfl, ?_⟩) ?_
      rotate_left
      focus (intro w; go_simp; try (with_reducible rfl); done)
      try simp only [Act.put, List.setIfInBounds_toArray, List.set_cons_zero, List.set_cons_succ]
      refine wpAny_take (i := 5) (oi := ⟨_, _, _, _, _, _⟩) (v := ?_) rfl (by kernel_rfl) (by kernel_rfl) (by kernel_rfl) (fun _ _ _ h => h) (Or.inl ⟨by rfl, ?_⟩) ?_
      rotate_left
      focus (intro w; go_simp; try (with_reducible rfl); done)
      try simp only [Act.put, List.setIfInBounds_toArray, List.set_cons_zero, List.set_cons_succ]
      refine wpAny_take (i := 6) (oi := ⟨_, _, _, _, _, _⟩) (v := ?_) rfl (by kernel_rfl) (by kernel_rfl) (by kernel_rfl) (fun _ _ _ h => h) (Or.inl ⟨by rfl, ?_⟩) ?_
      rotate_left
      focus (intro w; go_simp; try (with_reducible rfl); done)
      try simp only [Act.put, List.setIfInBounds_toArray, List.set_cons_zero, List.set_cons_succ]
      refine wpAny_take (i := 7) (oi := ⟨_, _, _, _, _, _⟩) (v := ?_) rfl (by kernel_rfl) (by kernel_rfl) (by kernel_rfl) (fun _ _ _ h => h) (Or.inl ⟨by rfl, ?_⟩) ?_
      rotate_left
      focus (intro w; go_simp; try (with_reducible rfl); done)
      try simp only [Act.put, List.setIfInBounds_toArray, List.set_cons_zero, List.set_cons_succ]
      refine wpAny_take (i := 8) (oi := ⟨_, _, _, _, _, _⟩) (v := ?_) rfl (by kernel_rfl) (by kernel_rfl) (by kernel_rfl) (fun _ _ _ h => h) (Or.inl ⟨by rfl, ?_⟩) ?_
      rotate_left
      focus (intro w; go_simp; try (with_reducible rfl); done)
      try simp only [Act.put, List.setIfInBounds_toArray, List.set_cons_zero, List.set_cons_succ]
      refine wpAny_ready (rs := [4, 9]) (by kernel_rfl) (by simp) ?_
      refine AllReady.cons (o := ⟨_, _, _, _, _, _⟩) rfl (fun K hK => ?_) (AllReady.cons (o := ⟨_, _, _, _, _, _⟩) rfl (fun K hK => ?_) AllReady.nil)
      · go_simp
        try (refine hK _ _ ?_)
        try clear hK
        try clear K
        try simp only [Act.put, List.setIfInBounds_toArray, List.set_cons_zero, List.set_cons_succ]
        refine wpAny_ready (rs := [9]) (by kernel_rfl) (by simp) ?_
        refine AllReady.cons (o := ⟨_, _, _, _, _, _⟩) rfl (fun K hK => ?_) AllReady.nil
        go_simp
        try (refine hK _ _ ?_)
        try clear hK
        try clear K
        try simp only [Act.put, List.setIfInBounds_toArray, List.set_cons_zero, List.set_cons_succ]
        refine wpAny_take (i := 10) (oi := ⟨_, _, _, _, _, _⟩) (v := ?_) rfl (by kernel_rfl) (by kernel_rfl) (by kernel_rfl) (fun _ _ _ h => h) (Or.inl ⟨by rfl, ?_⟩) ?_
        rotate_left
        focus (intro w; go_simp; try (with_reducible rfl); done)
        try simp only [Act.put, List.setIfInBounds_toArray, List.set_cons_zero, List.set_cons_succ]
        refine wpAny_take (i := 11) (oi := ⟨_, _, _, _, _, _⟩) (v := ?_) rfl (by kernel_rfl) (by kernel_rfl) (by kernel_rfl) (fun _ _ _ h => h) (Or.inl ⟨by rfl, ?_⟩) ?_
        rotate_left
        focus (intro w; go_simp; try (with_reducible rfl); done)
        try simp only [Act.put, List.setIfInBounds_toArray, List.set_cons_zero, List.set_cons_succ]
        refine wpAny_take (i := 12) (oi := ⟨_, _, _, _, _, _⟩) (v := ?_) rfl (by kernel_rfl) (by kernel_rfl) (by kernel_rfl) (fun _ _ _ h => h) (Or.inl ⟨by rfl, ?_⟩) ?_
        rotate_left
        focus (intro w; go_simp; try (with_reducible rfl); done)
        try simp only [Act.put, List.setIfInBounds_toArray, List.set_cons_zero, List.set_cons_succ]
        refine wpAny_take (i := 13) (oi := ⟨_, _, _, _, _, _⟩) (v := ?_) rfl (by kernel_rfl) (by kernel_rfl) (by kernel_rfl) (fun _ _ _ h => h) (Or.inl ⟨by rfl, ?_⟩) ?_
        rotate_left
        focus (intro w; go_simp; try (with_reducible rfl); done)
        try simp only [Act.put, List.setIfInBounds_toArray, List.set_cons_zero, List.set_cons_succ]
        refine wpAny_take (i := 14) (oi := ⟨_, _, _, _, _, _⟩) (v := ?_) rfl (by kernel_rfl) (by kernel_rfl) (by kernel_rfl) (fun _ _ _ h => h) (Or.inl ⟨by rfl, ?_⟩) ?_
        rotate_left
        focus (intro w; go_simp; try (with_reducible rfl); done)
        try simp only [Act.put, List.setIfInBounds_toArray, List.set_cons_zero, List.set_cons_succ]
        refine wpAny_take (i := 15) (oi := ⟨_, _, _, _, _, _⟩) (v := ?_) rfl (by kernel_rfl) (by kernel_rfl) (by kernel_rfl) (fun _ _ _ h => h) (Or.inl ⟨by rfl, ?_⟩) ?_
        rotate_left
        focus (intro w; go_simp; try (with_reducible rfl); done)
        try simp only [Act.put, List.setIfInBounds_toArray, List.set_cons_zero, List.set_cons_succ]
        refine wpAny_take (i := 16) (oi := ⟨_, _, _, _, _, _⟩) (v := ?_) rfl (by kernel_rfl) (by kernel_rfl) (by kernel_rfl) (fun _ _ _ h => h) (Or.inl ⟨by rfl, ?_⟩) ?_
        rotate_left
        focus (intro w; go_simp; try (with_reducible rfl); done)
        try simp only [Act.put, List.setIfInBounds_toArray, List.set_cons_zero, List.set_cons_succ]
        refine wpAny_take (i := 17) (oi := ⟨_, _, _, _, _, _⟩) (v := ?_) rfl (by kernel_rfl) (by kernel_rfl) (by kernel_rfl) (fun _ _ _ h => h) (Or.inl ⟨by rfl, ?_⟩) ?_
        rotate_left
        focus (intro w; go_simp; try (with_reducible rfl); done)
        try simp only [Act.put, List.setIfInBounds_toArray, List.set_cons_zero, List.set_cons_succ]
        refine wpAny_ready (rs := [18]) (by kernel_rfl) (by simp) ?_
        refine AllReady.cons (o := ⟨_, _, _, _, _, _⟩) rfl (fun K hK => ?_) AllReady.nil
        go_simp
        ((with_reducible refine HC.out.mono ?_); rintro e w9 ⟨rfl, hb9⟩)
        try go_simp
        try (refine hK _ _ ?_)
        try clear hK
        try clear K
        try simp only [Act.put, List.setIfInBounds_toArray, List.set_cons_zero, List.set_cons_succ]
        refine wpAny_take (i := 19) (oi := ⟨_, _, _, _, _, _⟩) (v := ?_) rfl (by kernel_rfl) (by kernel_rfl) (by kernel_rfl) (fun _ _ _ h => h) (Or.inl ⟨by rfl, ?_⟩) ?_
        rotate_left
        focus (intro w; go_simp; try (with_reducible rfl); done)
        try simp only [Act.put, List.setIfInBounds_toArray, List.set_cons_zero, List.set_cons_succ]
        refine wpAny_take (i := 20) (oi := ⟨_, _, _, _, _, _⟩) (v := ?_) rfl (by kernel_rfl) (by kernel_rfl) (by kernel_rfl) (fun _ _ _ h => h) (Or.inl ⟨by rfl, ?_⟩) ?_
        rotate_left
        focus (intro w; go_simp; try (with_reducible rfl); done)
        try simp only [Act.put, List.setIfInBounds_toArray, List.set_cons_zero, List.set_cons_succ]
        refine wpAny_done (by kernel_rfl) ?_ _
        have HBX := Lib.hid (up HLP.out (up (up_drew (Below.refl _ _)) hb9))
        clear hb9
        go_wp2
        go_roundw
        case rel => exact ⟨⟨k + 1, by omega, by go_num⟩, HBX.out⟩
        case measure => simp [intOf]; omega
      · go_simp
        try (refine hK _ _ ?_)
        try clear hK
        try clear K
        try simp only [Act.put, List.setIfInBounds_toArray, List.set_cons_zero, List.set_cons_succ]
        refine wpAny_ready (rs := [4]) (by kernel_rfl) (by simp) ?_
        refine AllReady.cons (o := ⟨_, _, _, _, _, _⟩) rfl (fun K hK => ?_) AllReady.nil
        go_simp
        try (refine hK _ _ ?_)
        try clear hK
        try clear K
        try simp only [Act.put, List.setIfInBounds_toArray, List.set_cons_zero, List.set_cons_succ]
        refine wpAny_take (i := 10) (oi := ⟨_, _, _, _, _, _⟩) (v := ?_) rfl (by kernel_rfl) (by kernel_rfl) (by kernel_rfl) (fun _ _ _ h => h) (Or.inl ⟨by rfl, ?_⟩) ?_
        rotate_left
        focus (intro w; go_simp; try (with_reducible rfl); done)
        try simp only [Act.put, List.setIfInBounds_toArray, List.set_cons_zero, List.set_cons_succ]
        refine wpAny_take (i := 11) (oi := ⟨_, _, _, _, _, _⟩) (v := ?_) rfl (by kernel_rfl) (by kernel_rfl) (by kernel_rfl) (fun _ _ _ h => h) (Or.inl ⟨by rfl, ?_⟩) ?_
        rotate_left
        focus (intro w; go_simp; try (with_reducible rfl); done)
        try simp only [Act.put, List.setIfInBounds_toArray, List.set_cons_zero, List.set_cons_succ]
        refine wpAny_take (i := 12) (oi := ⟨_, _, _, _, _, _⟩) (v := ?_) rfl (by kernel_rfl) (by kernel_rfl) (by kernel_rfl) (fun _ _ _ h => h) (Or.inl ⟨by rfl, ?_⟩) ?_
        rotate_left
        focus (intro w; go_simp; try (with_reducible rfl); done)
        try simp only [Act.put, List.setIfInBounds_toArray, List.set_cons_zero, List.set_cons_succ]
        refine wpAny_take (i := 13) (oi := ⟨_, _, _, _, _, _⟩) (v := ?_) rfl (by kernel_rfl) (by kernel_rfl) (by kernel_rfl) (fun _ _ _ h => h) (Or.inl ⟨by rfl, ?_⟩) ?_
        rotate_left
        focus (intro w; go_simp; try (with_reducible rfl); done)
        try simp only [Act.put, List.setIfInBounds_toArray, List.set_cons_zero, List.set_cons_succ]
        refine wpAny_take (i := 14) (oi := ⟨_, _, _, _, _, _⟩) (v := ?_) rfl (by kernel_rfl) (by kernel_rfl) (by kernel_rfl) (fun _ _ _ h => h) (Or.inl ⟨by rfl, ?_⟩) ?_
        rotate_left
        focus (intro w; go_simp; try (with_reducible rfl); done)
        try simp only [Act.put, List.setIfInBounds_toArray, List.set_cons_zero, List.set_cons_succ]
        refine wpAny_take (i := 15) (oi := ⟨_, _, _, _, _, _⟩) (v := ?_) rfl (by kernel_rfl) (by kernel_rfl) (by kernel_rfl) (fun _ _ _ h => h) (Or.inl ⟨by rfl, ?_⟩) ?_
        rotate_left
        focus (intro w; go_simp; try (with_reducible rfl); done)
        try simp only [Act.put, List.setIfInBounds_toArray, List.set_cons_zero, List.set_cons_succ]
        refine wpAny_take (i := 16) (oi := ⟨_, _, _, _, _, _⟩) (v := ?_) rfl (by kernel_rfl) (by kernel_rfl) (by kernel_rfl) (fun _ _ _ h => h) (Or.inl ⟨by rfl, ?_⟩) ?_
        rotate_left
        focus (intro w; go_simp; try (with_reducible rfl); done)
        try simp only [Act.put, List.setIfInBounds_toArray, List.set_cons_zero, List.set_cons_succ]
        refine wpAny_take (i := 17) (oi := ⟨_, _, _, _, _, _⟩) (v := ?_) rfl (by kernel_rfl) (by kernel_rfl) (by kernel_rfl) (fun _ _ _ h => h) (Or.inl ⟨by rfl, ?_⟩) ?_
        rotate_left
        focus (intro w; go_simp; try (with_reducible rfl); done)
        try simp only [Act.put, List.setIfInBounds_toArray, List.set_cons_zero, List.set_cons_succ]
        refine wpAny_ready (rs := [18]) (by kernel_rfl) (by simp) ?_
        refine AllReady.cons (o := ⟨_, _, _, _, _, _⟩) rfl (fun K hK => ?_) AllReady.nil
        go_simp
        ((with_reducible refine HC.out.mono ?_); rintro e w9 ⟨rfl, hb9⟩)
        try go_simp
        try (refine hK _ _ ?_)
        try clear hK
        try clear K
        try simp only [Act.put, List.setIfInBounds_toArray, List.set_cons_zero, List.set_cons_succ]
        refine wpAny_take (i := 19) (oi := ⟨_, _, _, _, _, _⟩) (v := ?_) rfl (by kernel_rfl) (by kernel_rfl) (by kernel_rfl) (fun _ _ _ h => h) (Or.inl ⟨by rfl, ?_⟩) ?_
        rotate_left
        focus (intro w; go_simp; try (with_reducible rfl); done)
        try simp only [Act.put, List.setIfInBounds_toArray, List.set_cons_zero, List.set_cons_succ]
        refine wpAny_take (i := 20) (oi := ⟨_, _, _, _, _, _⟩) (v := ?_) rfl (by kernel_rfl) (by kernel_rfl) (by kernel_rfl) (fun _ _ _ h => h) (Or.inl ⟨by rfl, ?_⟩) ?_
        rotate_left
        focus (intro w; go_simp; try (with_reducible rfl); done)
        try simp only [Act.put, List.setIfInBounds_toArray, List.set_cons_zero, List.set_cons_succ]
        refine wpAny_done (by kernel_rfl) ?_ _
        have HBX := Lib.hid (up HLP.out (up (up_drew (Below.refl _ _)) hb9))
        clear hb9
        go_wp2
        go_roundw
        case rel => exact ⟨⟨k + 1, by omega, by go_num⟩, HBX.out⟩
        case measure => simp [intOf]; omega
end Go.Proofs.Ytogocinmlanikaa
