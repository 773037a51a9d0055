/- The law FnInstallSnap, walked: it returns true. (Written by a program over gen/lawlib.py.) -/
import Derived.Test.YtfpiejcfhdnjiaaDrawSn
import Derived.Test.YtfpiejcfhdnjiaaLawSnapM
import Derived.Test.YtfpiejcfhdnjiaaSnapS
import Derived.BigQuiet
import Derived.Deep.RegionHeld3
import Derived.Test.YtfpiejcfhdnjiaaDrawIn
import Derived.Test.YtfpiejcfhdnjiaaLawInstM
import Derived.Test.YtfpiejcfhdnjiaaSnapL
import Derived.Test.YtfpiejcfhdnjiaaSnapU
set_option linter.unusedSimpArgs false
set_option linter.unusedVariables false
namespace Go.Proofs.Ytfpiejcfhdnjiaa
open Go.RowKit

set_option maxRecDepth 100000 in
set_option maxHeartbeats 6400000 in
theorem lawInstallSnap_any (n c : Nat) (A : Option Addr) (xs : List Int) (w : World) (hr : Rd w 0 w.heap.size 1 A n (bvs xs)) (hby : Bytes xs) (hc : n ≤ c) (hc2 : c ≤ 9223372036854775807) :
    Calls Try.prog 6 #[.slice A n c] w fun e w' => e = .returned (.bool true) ∧ Below w.heap.size w w' := by
  by_cases hbig : (1048576 : Int) < n
  · go_enter Try.func6, Try.ntmps6
    go_wp2
    go_ret
    exact ⟨rfl, Below.refl _ _⟩
  go_enter Try.func6, Try.ntmps6
  go_wp2_with (fail)
  (with_reducible refine (drawInstallSnap_any n c A xs w hr hby (by omega) hc hc2).mono ?_)
  rintro e w1 ⟨N, T, S, A1, m, c1, ps, N2, T2, S2, A2, m2, c3, qs, rfl, ⟨hN, hT, hS⟩, ⟨hN2, hT2, hS2⟩, ⟨hm, hk1⟩, ⟨hm2, hk2⟩, hrd, hrd2, hb1⟩
  clear hbig hr
  have HB_0 := Lib.hid hb1
  have hz_1 := hb1.size
  clear hb1
  have HPL := Lib.hid hrd.len2
  have HL_1 := Lib.hid (hrd.wide (Nat.zero_le _) (Nat.le_refl _))
  clear hrd
  have HM_2 := Lib.hid (hrd2.wide (Nat.zero_le _) (Nat.le_refl _))
  clear hrd2
  have HEV := Lib.hid ((Blk.new w1 32 #[.int .i64 N, .int .i64 T, .int .i64 S, .slice A1 m c1]).alloc (.cells #[.int .i64 N2, .int .i64 T2, .int .i64 S2, .slice A2 m2 c3] 32))
  have HEW := Lib.hid (show Blk ((w1.alloc (.cells #[.int .i64 N, .int .i64 T, .int .i64 S, .slice A1 m c1] 32)).alloc (.cells #[.int .i64 N2, .int .i64 T2, .int .i64 S2, .slice A2 m2 c3] 32)) (w1.heap.size + 1) 32 #[.int .i64 N2, .int .i64 T2, .int .i64 S2, .slice A2 m2 c3] from Blk.new2 (by simp))
  have hbt := up_alloc (up_alloc (Below.refl _ w1) (.cells #[.int .i64 N, .int .i64 T, .int .i64 S, .slice A1 m c1] 32)) (.cells #[.int .i64 N2, .int .i64 T2, .int .i64 S2, .slice A2 m2 c3] 32)
  have hs_v : ((w1.alloc (.cells #[.int .i64 N, .int .i64 T, .int .i64 S, .slice A1 m c1] 32)).alloc (.cells #[.int .i64 N2, .int .i64 T2, .int .i64 S2, .slice A2 m2 c3] 32)).heap.size = w1.heap.size + 1 + 1 := by simp
  have HL_3 := Lib.hid (HL_1.out.keep hbt (by omega))
  have HM_4 := Lib.hid (HM_2.out.keep hbt (by omega))
  have HB_5 := Lib.hid (up HB_0.out hbt)
  have hz_2 := hbt.size
  clear HL_1 HM_2 HB_0
  clear hbt
  go_wp2_with (fail)
  generalize (w1.alloc (.cells #[.int .i64 N, .int .i64 T, .int .i64 S, .slice A1 m c1] 32)).alloc (.cells #[.int .i64 N2, .int .i64 T2, .int .i64 S2, .slice A2 m2 c3] 32) = w2 at *
  have hgV := HEV.out.lt
  have hgW := HEW.out.lt
  cases hV1 : vSnap N T S ps with
  | false =>
    cases hV2 : vSnap N2 T2 S2 qs with
    | false =>
      have HV1 := Lib.hid hV1
      have HV2 := Lib.hid hV2
      clear hV1 hV2
      have HIN := Lib.hid (inst_bad (R := ps) (R' := qs) (N := N) (T := T) (S := S) (N' := N2) (T' := T2) (S' := S2) (by rw [HV1.out, HV2.out]; rfl))
      have HK3 := Lib.hid (show ([] : List En).length = 0 from rfl)
      (with_reducible refine ((InstallSnapI_any N T S 0 _ m c1 A1 ps N2 T2 S2 0 _ m2 c3 A2 qs _ HL_3.out (by omega) (by omega) (by omega) HM_4.out (by omega) (by omega) (by omega)).mono fun _ _ h => SnPost1.p HIN.out HK3.out h).mono ?_)
      rintro e w3 ⟨A5, c5, rfl, hk5, hrd5, hbt⟩
      have HEV_6 := Lib.hid (HEV.out.below hbt HEV.out.lt)
      have HEW_7 := Lib.hid (HEW.out.below hbt HEW.out.lt)
      clear HEV HEW
      have HL_8 := Lib.hid (HL_3.out.keep hbt (by omega))
      have HM_9 := Lib.hid (HM_4.out.keep hbt (by omega))
      have HB_10 := Lib.hid (up HB_5.out hbt)
      have hz_3 := hbt.size
      clear HL_3 HM_4 HB_5
      have HU_11 := Lib.hid (hrd5.wide (Nat.zero_le _) (Nat.le_refl _))
      clear hrd5
      clear hbt
      have HEU_12 := Lib.hid (Blk.new w3 32 #[.int .i64 0, .int .i64 0, .int .i64 0, .slice A5 0 c5])
      have hbt := up_alloc (Below.refl _ w3) (.cells #[.int .i64 0, .int .i64 0, .int .i64 0, .slice A5 0 c5] 32)
      have hs_4 : (w3.alloc (.cells #[.int .i64 0, .int .i64 0, .int .i64 0, .slice A5 0 c5] 32)).heap.size = w3.heap.size + 1 := by simp
      have HEV_13 := Lib.hid (HEV_6.out.below hbt HEV_6.out.lt)
      have HEW_14 := Lib.hid (HEW_7.out.below hbt HEW_7.out.lt)
      clear HEV_6 HEW_7
      have HL_15 := Lib.hid (HL_8.out.keep hbt (by omega))
      have HM_16 := Lib.hid (HM_9.out.keep hbt (by omega))
      have HU_17 := Lib.hid (HU_11.out.keep hbt (by omega))
      have HB_18 := Lib.hid (up HB_10.out hbt)
      have hz_4 := hbt.size
      clear HL_8 HM_9 HU_11 HB_10
      clear hbt
      go_wp2_with (fail)
      generalize w3.alloc (.cells #[.int .i64 0, .int .i64 0, .int .i64 0, .slice A5 0 c5] 32) = w4 at *
      have hgU := HEU_12.out.lt
      have HC0 := Lib.hid (show ∀ wx, Below w4.heap.size w4 wx → Calls Try.prog 17 #[.agg #[.int .i64 N, .int .i64 T, .int .i64 S, .slice A1 m c1], .agg #[.int .i64 N2, .int .i64 T2, .int .i64 S2, .slice A2 m2 c3]] wx (SnP1 0 0 0 [] 0 wx) from fun wx hb => (InstallSnapS_any N T S 0 _ m c1 A1 ps N2 T2 S2 0 _ m2 c3 A2 qs wx (HL_15.out.keep hb (by omega)) (Nat.le_trans (by omega) hb.size) (by omega) (by omega) (HM_16.out.keep hb (by omega)) (Nat.le_trans (by omega) hb.size) (by omega) (by omega)).mono fun _ _ h => SnPost1.p HIN.out HK3.out h)
      have HC1 := Lib.hid (show ∀ wx A9 c9 lo9 hi9, Below w4.heap.size w4 wx → Rd wx lo9 hi9 2 A9 0 (pvs []) → hi9 ≤ wx.heap.size → Calls Try.prog 16 #[.agg #[.int .i64 0, .int .i64 0, .int .i64 0, .slice A5 0 c5], .agg #[.int .i64 0, .int .i64 0, .int .i64 0, .slice A9 0 c9]] wx fun e w' => e = .returned (.bool true) ∧ Below wx.heap.size wx w' from fun wx A9 c9 lo9 hi9 hb hr9 hh9 => equalSnap_same 0 0 0 0 _ 0 c5 lo9 hi9 c9 A5 A9 [] wx (HU_17.out.keep hb (by omega)) (Nat.le_trans (by omega) hb.size) (by omega) hr9 hh9)
      have HC2 := Lib.hid (show ∀ wx, Below w4.heap.size w4 wx → Calls Try.prog 18 #[.agg #[.int .i64 N, .int .i64 T, .int .i64 S, .slice A1 m c1]] wx fun e w' => e = .returned (.bool false) ∧ Below wx.heap.size wx w' from fun wx hb => (ValidSnapI_any N T S 0 _ m c1 A1 ps wx (HL_15.out.keep hb (by omega)) (Nat.le_trans (by omega) hb.size) (by omega) (by omega)).mono fun e w' ⟨h1, h2⟩ => ⟨by rw [h1, HV1.out], h2⟩)
      have HSW := Lib.hid (show ∀ wx, Below w4.heap.size w4 wx → wx.cell? ⟨w1.heap.size, 0, none⟩ = some (.int .i64 N) ∧ wx.cell? ⟨w1.heap.size, 1, none⟩ = some (.int .i64 T) ∧ wx.cell? ⟨w1.heap.size, 2, none⟩ = some (.int .i64 S) ∧ wx.cell? ⟨w1.heap.size, 3, none⟩ = some (.slice A1 m c1) ∧ wx.cell? ⟨(w1.heap.size + 1), 0, none⟩ = some (.int .i64 N2) ∧ wx.cell? ⟨(w1.heap.size + 1), 1, none⟩ = some (.int .i64 T2) ∧ wx.cell? ⟨(w1.heap.size + 1), 2, none⟩ = some (.int .i64 S2) ∧ wx.cell? ⟨(w1.heap.size + 1), 3, none⟩ = some (.slice A2 m2 c3) ∧ wx.cell? ⟨w3.heap.size, 0, none⟩ = some (.int .i64 0) ∧ wx.cell? ⟨w3.heap.size, 1, none⟩ = some (.int .i64 0) ∧ wx.cell? ⟨w3.heap.size, 2, none⟩ = some (.int .i64 0) ∧ wx.cell? ⟨w3.heap.size, 3, none⟩ = some (.slice A5 0 c5) from fun wx hb => ⟨(hb.cell (by show w1.heap.size < w4.heap.size; omega)).trans (HEV_13.out.cell 0), (hb.cell (by show w1.heap.size < w4.heap.size; omega)).trans (HEV_13.out.cell 1), (hb.cell (by show w1.heap.size < w4.heap.size; omega)).trans (HEV_13.out.cell 2), (hb.cell (by show w1.heap.size < w4.heap.size; omega)).trans (HEV_13.out.cell 3), (hb.cell (by show (w1.heap.size + 1) < w4.heap.size; omega)).trans (HEW_14.out.cell 0), (hb.cell (by show (w1.heap.size + 1) < w4.heap.size; omega)).trans (HEW_14.out.cell 1), (hb.cell (by show (w1.heap.size + 1) < w4.heap.size; omega)).trans (HEW_14.out.cell 2), (hb.cell (by show (w1.heap.size + 1) < w4.heap.size; omega)).trans (HEW_14.out.cell 3), (hb.cell (by show w3.heap.size < w4.heap.size; omega)).trans (HEU_12.out.cell 0), (hb.cell (by show w3.heap.size < w4.heap.size; omega)).trans (HEU_12.out.cell 1), (hb.cell (by show w3.heap.size < w4.heap.size; omega)).trans (HEU_12.out.cell 2), (hb.cell (by show w3.heap.size < w4.heap.size; omega)).trans (HEU_12.out.cell 3)⟩)
      obtain ⟨kk0, kk1, kk2, kk3, kk4, kk5, kk6, kk7, kk8, kk9, kk10, kk11⟩ := HSW.out _ (Below.refl _ _)
      go_wp2_with (fail)
      refine wp_region_any (by kernel_rfl) ?_
      try (change wpAny _ _ _ _ _ _ _ (World.drew _))
      refine wpAny_ready (rs := [0, 1, 2]) (by kernel_rfl) (by simp) ?_
      refine (AllReady.cons (o := ⟨_, _, _, _, _, _⟩) rfl (fun K hK => ?_) (AllReady.cons (o := ⟨_, _, _, _, _, _⟩) rfl (fun K hK => ?_) (AllReady.cons (o := ⟨_, _, _, _, _, _⟩) rfl (fun K hK => ?_) AllReady.nil)))
      · go_simp
        try (refine hK _ _ ?_)
        try clear hK
        try clear K
        try simp only [Act.put, List.setIfInBounds_toArray, List.set_cons_zero, List.set_cons_succ]
        refine wpAny_ready (rs := [1, 2]) (by kernel_rfl) (by simp) ?_
        refine (AllReady.cons (o := ⟨_, _, _, _, _, _⟩) rfl (fun K hK => ?_) (AllReady.cons (o := ⟨_, _, _, _, _, _⟩) rfl (fun K hK => ?_) AllReady.nil))
        · go_simp
          try (refine hK _ _ ?_)
          try clear hK
          try clear K
          try simp only [Act.put, List.setIfInBounds_toArray, List.set_cons_zero, List.set_cons_succ]
          refine wpAny_ready (rs := [2]) (by kernel_rfl) (by simp) ?_
          refine (AllReady.cons (o := ⟨_, _, _, _, _, _⟩) rfl (fun K hK => ?_) AllReady.nil)
          go_simp
          try (refine hK _ _ ?_)
          try clear hK
          try clear K
          try simp only [Act.put, List.setIfInBounds_toArray, List.set_cons_zero, List.set_cons_succ]
          refine wpAny_ready (rs := [3]) (by kernel_rfl) (by simp) ?_
          refine (AllReady.cons (o := ⟨_, _, _, _, _, _⟩) rfl (fun K hK => ?_) AllReady.nil)
          go_simp
          (go_at_call 17; (with_reducible refine (HC0.out _ (up_drew (Below.refl _ _))).mono ?_); rintro e x0 ⟨A9, c9, rfl, hk9, hr9, hb9⟩; have HX0 := Lib.hid (up (up_drew (Below.refl _ _)) hb9); have HR9 := Lib.hid hr9; clear hb9 hr9; obtain ⟨m0_0, m0_1, m0_2, m0_3, m0_4, m0_5, m0_6, m0_7, m0_8, m0_9, m0_10, m0_11⟩ := HSW.out _ HX0.out)
          try go_simp
          try (refine hK _ _ ?_)
          try clear hK
          try clear K
          try simp only [Act.put, List.setIfInBounds_toArray, List.set_cons_zero, List.set_cons_succ]
          refine wpAny_ready (rs := [4]) (by kernel_rfl) (by simp) ?_
          refine (AllReady.cons (o := ⟨_, _, _, _, _, _⟩) rfl (fun K hK => ?_) AllReady.nil)
          go_simp
          (go_at_call 16; (with_reducible refine (HC1.out _ _ _ _ _ HX0.out HR9.out (Nat.le_refl _)).mono ?_); rintro e x1 ⟨rfl, hbx⟩; have HX1 := Lib.hid (up HX0.out hbx); clear hbx; obtain ⟨m1_0, m1_1, m1_2, m1_3, m1_4, m1_5, m1_6, m1_7, m1_8, m1_9, m1_10, m1_11⟩ := HSW.out _ HX1.out)
          try go_simp
          try (refine hK _ _ ?_)
          try clear hK
          try clear K
          try simp only [Act.put, List.setIfInBounds_toArray, List.set_cons_zero, List.set_cons_succ]
          refine wpAny_take (i := 5) (oi := ⟨_, _, _, _, _, _⟩) (v := ?_) rfl (by kernel_rfl) (by kernel_rfl) (by kernel_rfl) (fun _ _ _ h => h) (Or.inl ⟨by rfl, ?_⟩) ?_
          rotate_left
          focus (intro w; go_simp; try (with_reducible rfl); done)
          try simp only [Act.put, List.setIfInBounds_toArray, List.set_cons_zero, List.set_cons_succ]
          refine wpAny_take (i := 6) (oi := ⟨_, _, _, _, _, _⟩) (v := ?_) rfl (by kernel_rfl) (by kernel_rfl) (by kernel_rfl) (fun _ _ _ h => h) (Or.inl ⟨by rfl, ?_⟩) ?_
          rotate_left
          focus (intro w; go_simp; try (with_reducible rfl); done)
          try simp only [Act.put, List.setIfInBounds_toArray, List.set_cons_zero, List.set_cons_succ]
          refine wpAny_ready (rs := [7]) (by kernel_rfl) (by simp) ?_
          refine (AllReady.cons (o := ⟨_, _, _, _, _, _⟩) rfl (fun K hK => ?_) AllReady.nil)
          go_simp
          try (refine hK _ _ ?_)
          try clear hK
          try clear K
          try simp only [Act.put, List.setIfInBounds_toArray, List.set_cons_zero, List.set_cons_succ]
          refine wpAny_ready (rs := [8]) (by kernel_rfl) (by simp) ?_
          refine (AllReady.cons (o := ⟨_, _, _, _, _, _⟩) rfl (fun K hK => ?_) AllReady.nil)
          go_simp
          (go_at_call 18; (with_reducible refine (HC2.out _ HX1.out).mono ?_); rintro e x2 ⟨rfl, hbx⟩; have HX2 := Lib.hid (up HX1.out hbx); clear hbx; obtain ⟨m2_0, m2_1, m2_2, m2_3, m2_4, m2_5, m2_6, m2_7, m2_8, m2_9, m2_10, m2_11⟩ := HSW.out _ HX2.out)
          try go_simp
          try (refine hK _ _ ?_)
          try clear hK
          try clear K
          try simp only [Act.put, List.setIfInBounds_toArray, List.set_cons_zero, List.set_cons_succ]
          refine wpAny_take (i := 9) (oi := ⟨_, _, _, _, _, _⟩) (v := ?_) rfl (by kernel_rfl) (by kernel_rfl) (by kernel_rfl) (fun _ _ _ h => h) (Or.inl ⟨by rfl, ?_⟩) ?_
          rotate_left
          focus (intro w; go_simp; try (with_reducible rfl); done)
          try simp only [Act.put, List.setIfInBounds_toArray, List.set_cons_zero, List.set_cons_succ]
          refine wpAny_take (i := 10) (oi := ⟨_, _, _, _, _, _⟩) (v := ?_) rfl (by kernel_rfl) (by kernel_rfl) (by kernel_rfl) (fun _ _ _ h => h) (Or.inl ⟨by rfl, ?_⟩) ?_
          rotate_left
          focus (intro w; go_simp; try (with_reducible rfl); done)
          try simp only [Act.put, List.setIfInBounds_toArray, List.set_cons_zero, List.set_cons_succ]
          refine wpAny_take (i := 11) (oi := ⟨_, _, _, _, _, _⟩) (v := ?_) rfl (by kernel_rfl) (by kernel_rfl) (by kernel_rfl) (fun _ _ _ h => h) (Or.inl ⟨by rfl, ?_⟩) ?_
          rotate_left
          focus (intro w; go_simp; try (with_reducible rfl); done)
          try simp only [Act.put, List.setIfInBounds_toArray, List.set_cons_zero, List.set_cons_succ]
          refine wpAny_take (i := 12) (oi := ⟨_, _, _, _, _, _⟩) (v := undef) rfl (by kernel_rfl) (by kernel_rfl) (by kernel_rfl) (fun _ _ _ h => h) (Or.inr ⟨by rfl, rfl⟩) ?_
          try simp only [Act.put, List.setIfInBounds_toArray, List.set_cons_zero, List.set_cons_succ]
          refine wpAny_take (i := 13) (oi := ⟨_, _, _, _, _, _⟩) (v := undef) rfl (by kernel_rfl) (by kernel_rfl) (by kernel_rfl) (fun _ _ _ h => h) (Or.inr ⟨by rfl, rfl⟩) ?_
          try simp only [Act.put, List.setIfInBounds_toArray, List.set_cons_zero, List.set_cons_succ]
          refine wpAny_take (i := 14) (oi := ⟨_, _, _, _, _, _⟩) (v := undef) rfl (by kernel_rfl) (by kernel_rfl) (by kernel_rfl) (fun _ _ _ h => h) (Or.inr ⟨by rfl, rfl⟩) ?_
          try simp only [Act.put, List.setIfInBounds_toArray, List.set_cons_zero, List.set_cons_succ]
          refine wpAny_take (i := 15) (oi := ⟨_, _, _, _, _, _⟩) (v := ?_) rfl (by kernel_rfl) (by kernel_rfl) (by kernel_rfl) (fun _ _ _ h => h) (Or.inl ⟨by rfl, ?_⟩) ?_
          rotate_left
          focus (intro w; go_simp; try (with_reducible rfl); done)
          try simp only [Act.put, List.setIfInBounds_toArray, List.set_cons_zero, List.set_cons_succ]
          refine wpAny_done (by kernel_rfl) ?_ _
          clear HSW HC0 HC1 HC2
          clear kk0 kk1 kk2 kk3 kk4 kk5 kk6 kk7 kk8 kk9 kk10 kk11
          clear m0_0 m0_1 m0_2 m0_3 m0_4 m0_5 m0_6 m0_7 m0_8 m0_9 m0_10 m0_11 m1_0 m1_1 m1_2 m1_3 m1_4 m1_5 m1_6 m1_7 m1_8 m1_9 m1_10 m1_11 m2_0 m2_1 m2_2 m2_3 m2_4 m2_5 m2_6 m2_7 m2_8 m2_9 m2_10 m2_11
          have hbt := HX2.out
          obtain ⟨w5, hww⟩ : ∃ x : World, x = x2 := ⟨_, rfl⟩
          subst hww
          have HEV_19 := Lib.hid (HEV_13.out.below hbt HEV_13.out.lt)
          have HEW_20 := Lib.hid (HEW_14.out.below hbt HEW_14.out.lt)
          have HEU_21 := Lib.hid (HEU_12.out.below hbt HEU_12.out.lt)
          clear HEV_13 HEW_14 HEU_12
          have HL_22 := Lib.hid (HL_15.out.keep hbt (by omega))
          have HM_23 := Lib.hid (HM_16.out.keep hbt (by omega))
          have HU_24 := Lib.hid (HU_17.out.keep hbt (by omega))
          have HB_25 := Lib.hid (up HB_18.out hbt)
          have hz_5 := hbt.size
          clear HL_15 HM_16 HU_17 HB_18
          clear hbt
          have HC0 := Lib.hid (show ∀ wx, Below w5.heap.size w5 wx → Calls Try.prog 17 #[.agg #[.int .i64 N, .int .i64 T, .int .i64 S, .slice A1 m c1], .agg #[.int .i64 N2, .int .i64 T2, .int .i64 S2, .slice A2 m2 c3]] wx (SnP1 0 0 0 [] 0 wx) from fun wx hb => (InstallSnapS_any N T S 0 _ m c1 A1 ps N2 T2 S2 0 _ m2 c3 A2 qs wx (HL_22.out.keep hb (by omega)) (Nat.le_trans (by omega) hb.size) (by omega) (by omega) (HM_23.out.keep hb (by omega)) (Nat.le_trans (by omega) hb.size) (by omega) (by omega)).mono fun _ _ h => SnPost1.p HIN.out HK3.out h)
          have HC1 := Lib.hid (show ∀ wx A9 c9 lo9 hi9, Below w5.heap.size w5 wx → Rd wx lo9 hi9 2 A9 0 (pvs []) → hi9 ≤ wx.heap.size → Calls Try.prog 16 #[.agg #[.int .i64 0, .int .i64 0, .int .i64 0, .slice A5 0 c5], .agg #[.int .i64 0, .int .i64 0, .int .i64 0, .slice A9 0 c9]] wx fun e w' => e = .returned (.bool true) ∧ Below wx.heap.size wx w' from fun wx A9 c9 lo9 hi9 hb hr9 hh9 => equalSnap_same 0 0 0 0 _ 0 c5 lo9 hi9 c9 A5 A9 [] wx (HU_24.out.keep hb (by omega)) (Nat.le_trans (by omega) hb.size) (by omega) hr9 hh9)
          have HSW := Lib.hid (show ∀ wx, Below w5.heap.size w5 wx → wx.cell? ⟨w1.heap.size, 0, none⟩ = some (.int .i64 N) ∧ wx.cell? ⟨w1.heap.size, 1, none⟩ = some (.int .i64 T) ∧ wx.cell? ⟨w1.heap.size, 2, none⟩ = some (.int .i64 S) ∧ wx.cell? ⟨w1.heap.size, 3, none⟩ = some (.slice A1 m c1) ∧ wx.cell? ⟨(w1.heap.size + 1), 0, none⟩ = some (.int .i64 N2) ∧ wx.cell? ⟨(w1.heap.size + 1), 1, none⟩ = some (.int .i64 T2) ∧ wx.cell? ⟨(w1.heap.size + 1), 2, none⟩ = some (.int .i64 S2) ∧ wx.cell? ⟨(w1.heap.size + 1), 3, none⟩ = some (.slice A2 m2 c3) ∧ wx.cell? ⟨w3.heap.size, 0, none⟩ = some (.int .i64 0) ∧ wx.cell? ⟨w3.heap.size, 1, none⟩ = some (.int .i64 0) ∧ wx.cell? ⟨w3.heap.size, 2, none⟩ = some (.int .i64 0) ∧ wx.cell? ⟨w3.heap.size, 3, none⟩ = some (.slice A5 0 c5) from fun wx hb => ⟨(hb.cell (by show w1.heap.size < w5.heap.size; omega)).trans (HEV_19.out.cell 0), (hb.cell (by show w1.heap.size < w5.heap.size; omega)).trans (HEV_19.out.cell 1), (hb.cell (by show w1.heap.size < w5.heap.size; omega)).trans (HEV_19.out.cell 2), (hb.cell (by show w1.heap.size < w5.heap.size; omega)).trans (HEV_19.out.cell 3), (hb.cell (by show (w1.heap.size + 1) < w5.heap.size; omega)).trans (HEW_20.out.cell 0), (hb.cell (by show (w1.heap.size + 1) < w5.heap.size; omega)).trans (HEW_20.out.cell 1), (hb.cell (by show (w1.heap.size + 1) < w5.heap.size; omega)).trans (HEW_20.out.cell 2), (hb.cell (by show (w1.heap.size + 1) < w5.heap.size; omega)).trans (HEW_20.out.cell 3), (hb.cell (by show w3.heap.size < w5.heap.size; omega)).trans (HEU_21.out.cell 0), (hb.cell (by show w3.heap.size < w5.heap.size; omega)).trans (HEU_21.out.cell 1), (hb.cell (by show w3.heap.size < w5.heap.size; omega)).trans (HEU_21.out.cell 2), (hb.cell (by show w3.heap.size < w5.heap.size; omega)).trans (HEU_21.out.cell 3)⟩)
          obtain ⟨kk0, kk1, kk2, kk3, kk4, kk5, kk6, kk7, kk8, kk9, kk10, kk11⟩ := HSW.out _ (Below.refl _ _)
          go_wp2_with (fail)
          clear kk0 kk1 kk2 kk3 kk4 kk5 kk6 kk7 kk8 kk9 kk10 kk11
          go_region_held3 (fun wx => wx.cell? ⟨w1.heap.size, 0, none⟩ = some (.int .i64 N) ∧ wx.cell? ⟨w1.heap.size, 1, none⟩ = some (.int .i64 T) ∧ wx.cell? ⟨w1.heap.size, 2, none⟩ = some (.int .i64 S) ∧ wx.cell? ⟨w1.heap.size, 3, none⟩ = some (.slice A1 m c1) ∧ wx.cell? ⟨(w1.heap.size + 1), 0, none⟩ = some (.int .i64 N2) ∧ wx.cell? ⟨(w1.heap.size + 1), 1, none⟩ = some (.int .i64 T2) ∧ wx.cell? ⟨(w1.heap.size + 1), 2, none⟩ = some (.int .i64 S2) ∧ wx.cell? ⟨(w1.heap.size + 1), 3, none⟩ = some (.slice A2 m2 c3) ∧ wx.cell? ⟨w3.heap.size, 0, none⟩ = some (.int .i64 0) ∧ wx.cell? ⟨w3.heap.size, 1, none⟩ = some (.int .i64 0) ∧ wx.cell? ⟨w3.heap.size, 2, none⟩ = some (.int .i64 0) ∧ wx.cell? ⟨w3.heap.size, 3, none⟩ = some (.slice A5 0 c5))
            (first | with_reducible exact HSW.out _ (Below.refl _ _) | with_reducible exact HSW.out _ (up_drew (Below.refl _ _)) | with_reducible exact HSW.out _ (HX0.out) | with_reducible exact HSW.out _ (HX1.out))
            ((first
              | (go_at_call 17; (with_reducible refine (HC0.out _ (up_drew (Below.refl _ _))).mono ?_); rintro e x0 ⟨A9, c9, rfl, hk9, hr9, hb9⟩; have HX0 := Lib.hid (up (up_drew (Below.refl _ _)) hb9); have HR9 := Lib.hid hr9; clear hb9 hr9)
              | (go_at_call 16; (with_reducible refine (HC1.out _ _ _ _ _ HX0.out HR9.out (Nat.le_refl _)).mono ?_); rintro e x1 ⟨rfl, hbx⟩; have HX1 := Lib.hid (up HX0.out hbx); clear hbx)
              | fail "no arm"))
          all_goals
            go_wp2
            go_ret
            exact ⟨rfl, up HB_25.out HX1.out⟩
        · go_simp
          try (refine hK _ _ ?_)
          try clear hK
          try clear K
          try simp only [Act.put, List.setIfInBounds_toArray, List.set_cons_zero, List.set_cons_succ]
          refine wpAny_ready (rs := [1]) (by kernel_rfl) (by simp) ?_
          refine (AllReady.cons (o := ⟨_, _, _, _, _, _⟩) rfl (fun K hK => ?_) AllReady.nil)
          go_simp
          try (refine hK _ _ ?_)
          try clear hK
          try clear K
          try simp only [Act.put, List.setIfInBounds_toArray, List.set_cons_zero, List.set_cons_succ]
          refine wpAny_ready (rs := [3]) (by kernel_rfl) (by simp) ?_
          refine (AllReady.cons (o := ⟨_, _, _, _, _, _⟩) rfl (fun K hK => ?_) AllReady.nil)
          go_simp
          (go_at_call 17; (with_reducible refine (HC0.out _ (up_drew (Below.refl _ _))).mono ?_); rintro e x0 ⟨A9, c9, rfl, hk9, hr9, hb9⟩; have HX0 := Lib.hid (up (up_drew (Below.refl _ _)) hb9); have HR9 := Lib.hid hr9; clear hb9 hr9; obtain ⟨m0_0, m0_1, m0_2, m0_3, m0_4, m0_5, m0_6, m0_7, m0_8, m0_9, m0_10, m0_11⟩ := HSW.out _ HX0.out)
          try go_simp
          try (refine hK _ _ ?_)
          try clear hK
          try clear K
          try simp only [Act.put, List.setIfInBounds_toArray, List.set_cons_zero, List.set_cons_succ]
          refine wpAny_ready (rs := [4]) (by kernel_rfl) (by simp) ?_
          refine (AllReady.cons (o := ⟨_, _, _, _, _, _⟩) rfl (fun K hK => ?_) AllReady.nil)
          go_simp
          (go_at_call 16; (with_reducible refine (HC1.out _ _ _ _ _ HX0.out HR9.out (Nat.le_refl _)).mono ?_); rintro e x1 ⟨rfl, hbx⟩; have HX1 := Lib.hid (up HX0.out hbx); clear hbx; obtain ⟨m1_0, m1_1, m1_2, m1_3, m1_4, m1_5, m1_6, m1_7, m1_8, m1_9, m1_10, m1_11⟩ := HSW.out _ HX1.out)
          try go_simp
          try (refine hK _ _ ?_)
          try clear hK
          try clear K
          try simp only [Act.put, List.setIfInBounds_toArray, List.set_cons_zero, List.set_cons_succ]
          refine wpAny_take (i := 5) (oi := ⟨_, _, _, _, _, _⟩) (v := ?_) rfl (by kernel_rfl) (by kernel_rfl) (by kernel_rfl) (fun _ _ _ h => h) (Or.inl ⟨by rfl, ?_⟩) ?_
          rotate_left
          focus (intro w; go_simp; try (with_reducible rfl); done)
          try simp only [Act.put, List.setIfInBounds_toArray, List.set_cons_zero, List.set_cons_succ]
          refine wpAny_take (i := 6) (oi := ⟨_, _, _, _, _, _⟩) (v := ?_) rfl (by kernel_rfl) (by kernel_rfl) (by kernel_rfl) (fun _ _ _ h => h) (Or.inl ⟨by rfl, ?_⟩) ?_
          rotate_left
          focus (intro w; go_simp; try (with_reducible rfl); done)
          try simp only [Act.put, List.setIfInBounds_toArray, List.set_cons_zero, List.set_cons_succ]
          refine wpAny_ready (rs := [7]) (by kernel_rfl) (by simp) ?_
          refine (AllReady.cons (o := ⟨_, _, _, _, _, _⟩) rfl (fun K hK => ?_) AllReady.nil)
          go_simp
          try (refine hK _ _ ?_)
          try clear hK
          try clear K
          try simp only [Act.put, List.setIfInBounds_toArray, List.set_cons_zero, List.set_cons_succ]
          refine wpAny_ready (rs := [8]) (by kernel_rfl) (by simp) ?_
          refine (AllReady.cons (o := ⟨_, _, _, _, _, _⟩) rfl (fun K hK => ?_) AllReady.nil)
          go_simp
          (go_at_call 18; (with_reducible refine (HC2.out _ HX1.out).mono ?_); rintro e x2 ⟨rfl, hbx⟩; have HX2 := Lib.hid (up HX1.out hbx); clear hbx; obtain ⟨m2_0, m2_1, m2_2, m2_3, m2_4, m2_5, m2_6, m2_7, m2_8, m2_9, m2_10, m2_11⟩ := HSW.out _ HX2.out)
          try go_simp
          try (refine hK _ _ ?_)
          try clear hK
          try clear K
          try simp only [Act.put, List.setIfInBounds_toArray, List.set_cons_zero, List.set_cons_succ]
          refine wpAny_take (i := 9) (oi := ⟨_, _, _, _, _, _⟩) (v := ?_) rfl (by kernel_rfl) (by kernel_rfl) (by kernel_rfl) (fun _ _ _ h => h) (Or.inl ⟨by rfl, ?_⟩) ?_
          rotate_left
          focus (intro w; go_simp; try (with_reducible rfl); done)
          try simp only [Act.put, List.setIfInBounds_toArray, List.set_cons_zero, List.set_cons_succ]
          refine wpAny_take (i := 10) (oi := ⟨_, _, _, _, _, _⟩) (v := ?_) rfl (by kernel_rfl) (by kernel_rfl) (by kernel_rfl) (fun _ _ _ h => h) (Or.inl ⟨by rfl, ?_⟩) ?_
          rotate_left
          focus (intro w; go_simp; try (with_reducible rfl); done)
          try simp only [Act.put, List.setIfInBounds_toArray, List.set_cons_zero, List.set_cons_succ]
          refine wpAny_take (i := 11) (oi := ⟨_, _, _, _, _, _⟩) (v := ?_) rfl (by kernel_rfl) (by kernel_rfl) (by kernel_rfl) (fun _ _ _ h => h) (Or.inl ⟨by rfl, ?_⟩) ?_
          rotate_left
          focus (intro w; go_simp; try (with_reducible rfl); done)
          try simp only [Act.put, List.setIfInBounds_toArray, List.set_cons_zero, List.set_cons_succ]
          refine wpAny_take (i := 12) (oi := ⟨_, _, _, _, _, _⟩) (v := undef) rfl (by kernel_rfl) (by kernel_rfl) (by kernel_rfl) (fun _ _ _ h => h) (Or.inr ⟨by rfl, rfl⟩) ?_
          try simp only [Act.put, List.setIfInBounds_toArray, List.set_cons_zero, List.set_cons_succ]
          refine wpAny_take (i := 13) (oi := ⟨_, _, _, _, _, _⟩) (v := undef) rfl (by kernel_rfl) (by kernel_rfl) (by kernel_rfl) (fun _ _ _ h => h) (Or.inr ⟨by rfl, rfl⟩) ?_
          try simp only [Act.put, List.setIfInBounds_toArray, List.set_cons_zero, List.set_cons_succ]
          refine wpAny_take (i := 14) (oi := ⟨_, _, _, _, _, _⟩) (v := undef) rfl (by kernel_rfl) (by kernel_rfl) (by kernel_rfl) (fun _ _ _ h => h) (Or.inr ⟨by rfl, rfl⟩) ?_
          try simp only [Act.put, List.setIfInBounds_toArray, List.set_cons_zero, List.set_cons_succ]
          refine wpAny_take (i := 15) (oi := ⟨_, _, _, _, _, _⟩) (v := ?_) rfl (by kernel_rfl) (by kernel_rfl) (by kernel_rfl) (fun _ _ _ h => h) (Or.inl ⟨by rfl, ?_⟩) ?_
          rotate_left
          focus (intro w; go_simp; try (with_reducible rfl); done)
          try simp only [Act.put, List.setIfInBounds_toArray, List.set_cons_zero, List.set_cons_succ]
          refine wpAny_done (by kernel_rfl) ?_ _
          clear HSW HC0 HC1 HC2
          clear kk0 kk1 kk2 kk3 kk4 kk5 kk6 kk7 kk8 kk9 kk10 kk11
          clear m0_0 m0_1 m0_2 m0_3 m0_4 m0_5 m0_6 m0_7 m0_8 m0_9 m0_10 m0_11 m1_0 m1_1 m1_2 m1_3 m1_4 m1_5 m1_6 m1_7 m1_8 m1_9 m1_10 m1_11 m2_0 m2_1 m2_2 m2_3 m2_4 m2_5 m2_6 m2_7 m2_8 m2_9 m2_10 m2_11
          have hbt := HX2.out
          obtain ⟨w5, hww⟩ : ∃ x : World, x = x2 := ⟨_, rfl⟩
          subst hww
          have HEV_19 := Lib.hid (HEV_13.out.below hbt HEV_13.out.lt)
          have HEW_20 := Lib.hid (HEW_14.out.below hbt HEW_14.out.lt)
          have HEU_21 := Lib.hid (HEU_12.out.below hbt HEU_12.out.lt)
          clear HEV_13 HEW_14 HEU_12
          have HL_22 := Lib.hid (HL_15.out.keep hbt (by omega))
          have HM_23 := Lib.hid (HM_16.out.keep hbt (by omega))
          have HU_24 := Lib.hid (HU_17.out.keep hbt (by omega))
          have HB_25 := Lib.hid (up HB_18.out hbt)
          have hz_5 := hbt.size
          clear HL_15 HM_16 HU_17 HB_18
          clear hbt
          have HC0 := Lib.hid (show ∀ wx, Below w5.heap.size w5 wx → Calls Try.prog 17 #[.agg #[.int .i64 N, .int .i64 T, .int .i64 S, .slice A1 m c1], .agg #[.int .i64 N2, .int .i64 T2, .int .i64 S2, .slice A2 m2 c3]] wx (SnP1 0 0 0 [] 0 wx) from fun wx hb => (InstallSnapS_any N T S 0 _ m c1 A1 ps N2 T2 S2 0 _ m2 c3 A2 qs wx (HL_22.out.keep hb (by omega)) (Nat.le_trans (by omega) hb.size) (by omega) (by omega) (HM_23.out.keep hb (by omega)) (Nat.le_trans (by omega) hb.size) (by omega) (by omega)).mono fun _ _ h => SnPost1.p HIN.out HK3.out h)
          have HC1 := Lib.hid (show ∀ wx A9 c9 lo9 hi9, Below w5.heap.size w5 wx → Rd wx lo9 hi9 2 A9 0 (pvs []) → hi9 ≤ wx.heap.size → Calls Try.prog 16 #[.agg #[.int .i64 0, .int .i64 0, .int .i64 0, .slice A5 0 c5], .agg #[.int .i64 0, .int .i64 0, .int .i64 0, .slice A9 0 c9]] wx fun e w' => e = .returned (.bool true) ∧ Below wx.heap.size wx w' from fun wx A9 c9 lo9 hi9 hb hr9 hh9 => equalSnap_same 0 0 0 0 _ 0 c5 lo9 hi9 c9 A5 A9 [] wx (HU_24.out.keep hb (by omega)) (Nat.le_trans (by omega) hb.size) (by omega) hr9 hh9)
          have HSW := Lib.hid (show ∀ wx, Below w5.heap.size w5 wx → wx.cell? ⟨w1.heap.size, 0, none⟩ = some (.int .i64 N) ∧ wx.cell? ⟨w1.heap.size, 1, none⟩ = some (.int .i64 T) ∧ wx.cell? ⟨w1.heap.size, 2, none⟩ = some (.int .i64 S) ∧ wx.cell? ⟨w1.heap.size, 3, none⟩ = some (.slice A1 m c1) ∧ wx.cell? ⟨(w1.heap.size + 1), 0, none⟩ = some (.int .i64 N2) ∧ wx.cell? ⟨(w1.heap.size + 1), 1, none⟩ = some (.int .i64 T2) ∧ wx.cell? ⟨(w1.heap.size + 1), 2, none⟩ = some (.int .i64 S2) ∧ wx.cell? ⟨(w1.heap.size + 1), 3, none⟩ = some (.slice A2 m2 c3) ∧ wx.cell? ⟨w3.heap.size, 0, none⟩ = some (.int .i64 0) ∧ wx.cell? ⟨w3.heap.size, 1, none⟩ = some (.int .i64 0) ∧ wx.cell? ⟨w3.heap.size, 2, none⟩ = some (.int .i64 0) ∧ wx.cell? ⟨w3.heap.size, 3, none⟩ = some (.slice A5 0 c5) from fun wx hb => ⟨(hb.cell (by show w1.heap.size < w5.heap.size; omega)).trans (HEV_19.out.cell 0), (hb.cell (by show w1.heap.size < w5.heap.size; omega)).trans (HEV_19.out.cell 1), (hb.cell (by show w1.heap.size < w5.heap.size; omega)).trans (HEV_19.out.cell 2), (hb.cell (by show w1.heap.size < w5.heap.size; omega)).trans (HEV_19.out.cell 3), (hb.cell (by show (w1.heap.size + 1) < w5.heap.size; omega)).trans (HEW_20.out.cell 0), (hb.cell (by show (w1.heap.size + 1) < w5.heap.size; omega)).trans (HEW_20.out.cell 1), (hb.cell (by show (w1.heap.size + 1) < w5.heap.size; omega)).trans (HEW_20.out.cell 2), (hb.cell (by show (w1.heap.size + 1) < w5.heap.size; omega)).trans (HEW_20.out.cell 3), (hb.cell (by show w3.heap.size < w5.heap.size; omega)).trans (HEU_21.out.cell 0), (hb.cell (by show w3.heap.size < w5.heap.size; omega)).trans (HEU_21.out.cell 1), (hb.cell (by show w3.heap.size < w5.heap.size; omega)).trans (HEU_21.out.cell 2), (hb.cell (by show w3.heap.size < w5.heap.size; omega)).trans (HEU_21.out.cell 3)⟩)
          obtain ⟨kk0, kk1, kk2, kk3, kk4, kk5, kk6, kk7, kk8, kk9, kk10, kk11⟩ := HSW.out _ (Below.refl _ _)
          go_wp2_with (fail)
          clear kk0 kk1 kk2 kk3 kk4 kk5 kk6 kk7 kk8 kk9 kk10 kk11
          go_region_held3 (fun wx => wx.cell? ⟨w1.heap.size, 0, none⟩ = some (.int .i64 N) ∧ wx.cell? ⟨w1.heap.size, 1, none⟩ = some (.int .i64 T) ∧ wx.cell? ⟨w1.heap.size, 2, none⟩ = some (.int .i64 S) ∧ wx.cell? ⟨w1.heap.size, 3, none⟩ = some (.slice A1 m c1) ∧ wx.cell? ⟨(w1.heap.size + 1), 0, none⟩ = some (.int .i64 N2) ∧ wx.cell? ⟨(w1.heap.size + 1), 1, none⟩ = some (.int .i64 T2) ∧ wx.cell? ⟨(w1.heap.size + 1), 2, none⟩ = some (.int .i64 S2) ∧ wx.cell? ⟨(w1.heap.size + 1), 3, none⟩ = some (.slice A2 m2 c3) ∧ wx.cell? ⟨w3.heap.size, 0, none⟩ = some (.int .i64 0) ∧ wx.cell? ⟨w3.heap.size, 1, none⟩ = some (.int .i64 0) ∧ wx.cell? ⟨w3.heap.size, 2, none⟩ = some (.int .i64 0) ∧ wx.cell? ⟨w3.heap.size, 3, none⟩ = some (.slice A5 0 c5))
            (first | with_reducible exact HSW.out _ (Below.refl _ _) | with_reducible exact HSW.out _ (up_drew (Below.refl _ _)) | with_reducible exact HSW.out _ (HX0.out) | with_reducible exact HSW.out _ (HX1.out))
            ((first
              | (go_at_call 17; (with_reducible refine (HC0.out _ (up_drew (Below.refl _ _))).mono ?_); rintro e x0 ⟨A9, c9, rfl, hk9, hr9, hb9⟩; have HX0 := Lib.hid (up (up_drew (Below.refl _ _)) hb9); have HR9 := Lib.hid hr9; clear hb9 hr9)
              | (go_at_call 16; (with_reducible refine (HC1.out _ _ _ _ _ HX0.out HR9.out (Nat.le_refl _)).mono ?_); rintro e x1 ⟨rfl, hbx⟩; have HX1 := Lib.hid (up HX0.out hbx); clear hbx)
              | fail "no arm"))
          all_goals
            go_wp2
            go_ret
            exact ⟨rfl, up HB_25.out HX1.out⟩
      · go_simp
        try (refine hK _ _ ?_)
        try clear hK
        try clear K
        try simp only [Act.put, List.setIfInBounds_toArray, List.set_cons_zero, List.set_cons_succ]
        refine wpAny_ready (rs := [0, 2]) (by kernel_rfl) (by simp) ?_
        refine (AllReady.cons (o := ⟨_, _, _, _, _, _⟩) rfl (fun K hK => ?_) (AllReady.cons (o := ⟨_, _, _, _, _, _⟩) rfl (fun K hK => ?_) AllReady.nil))
        · go_simp
          try (refine hK _ _ ?_)
          try clear hK
          try clear K
          try simp only [Act.put, List.setIfInBounds_toArray, List.set_cons_zero, List.set_cons_succ]
          refine wpAny_ready (rs := [2]) (by kernel_rfl) (by simp) ?_
          refine (AllReady.cons (o := ⟨_, _, _, _, _, _⟩) rfl (fun K hK => ?_) AllReady.nil)
          go_simp
          try (refine hK _ _ ?_)
          try clear hK
          try clear K
          try simp only [Act.put, List.setIfInBounds_toArray, List.set_cons_zero, List.set_cons_succ]
          refine wpAny_ready (rs := [3]) (by kernel_rfl) (by simp) ?_
          refine (AllReady.cons (o := ⟨_, _, _, _, _, _⟩) rfl (fun K hK => ?_) AllReady.nil)
          go_simp
          (go_at_call 17; (with_reducible refine (HC0.out _ (up_drew (Below.refl _ _))).mono ?_); rintro e x0 ⟨A9, c9, rfl, hk9, hr9, hb9⟩; have HX0 := Lib.hid (up (up_drew (Below.refl _ _)) hb9); have HR9 := Lib.hid hr9; clear hb9 hr9; obtain ⟨m0_0, m0_1, m0_2, m0_3, m0_4, m0_5, m0_6, m0_7, m0_8, m0_9, m0_10, m0_11⟩ := HSW.out _ HX0.out)
          try go_simp
          try (refine hK _ _ ?_)
          try clear hK
          try clear K
          try simp only [Act.put, List.setIfInBounds_toArray, List.set_cons_zero, List.set_cons_succ]
          refine wpAny_ready (rs := [4]) (by kernel_rfl) (by simp) ?_
          refine (AllReady.cons (o := ⟨_, _, _, _, _, _⟩) rfl (fun K hK => ?_) AllReady.nil)
          go_simp
          (go_at_call 16; (with_reducible refine (HC1.out _ _ _ _ _ HX0.out HR9.out (Nat.le_refl _)).mono ?_); rintro e x1 ⟨rfl, hbx⟩; have HX1 := Lib.hid (up HX0.out hbx); clear hbx; obtain ⟨m1_0, m1_1, m1_2, m1_3, m1_4, m1_5, m1_6, m1_7, m1_8, m1_9, m1_10, m1_11⟩ := HSW.out _ HX1.out)
          try go_simp
          try (refine hK _ _ ?_)
          try clear hK
          try clear K
          try simp only [Act.put, List.setIfInBounds_toArray, List.set_cons_zero, List.set_cons_succ]
          refine wpAny_take (i := 5) (oi := ⟨_, _, _, _, _, _⟩) (v := ?_) rfl (by kernel_rfl) (by kernel_rfl) (by kernel_rfl) (fun _ _ _ h => h) (Or.inl ⟨by rfl, ?_⟩) ?_
          rotate_left
          focus (intro w; go_simp; try (with_reducible rfl); done)
          try simp only [Act.put, List.setIfInBounds_toArray, List.set_cons_zero, List.set_cons_succ]
          refine wpAny_take (i := 6) (oi := ⟨_, _, _, _, _, _⟩) (v := ?_) rfl (by kernel_rfl) (by kernel_rfl) (by kernel_rfl) (fun _ _ _ h => h) (Or.inl ⟨by rfl, ?_⟩) ?_
          rotate_left
          focus (intro w; go_simp; try (with_reducible rfl); done)
          try simp only [Act.put, List.setIfInBounds_toArray, List.set_cons_zero, List.set_cons_succ]
          refine wpAny_ready (rs := [7]) (by kernel_rfl) (by simp) ?_
          refine (AllReady.cons (o := ⟨_, _, _, _, _, _⟩) rfl (fun K hK => ?_) AllReady.nil)
          go_simp
          try (refine hK _ _ ?_)
          try clear hK
          try clear K
          try simp only [Act.put, List.setIfInBounds_toArray, List.set_cons_zero, List.set_cons_succ]
          refine wpAny_ready (rs := [8]) (by kernel_rfl) (by simp) ?_
          refine (AllReady.cons (o := ⟨_, _, _, _, _, _⟩) rfl (fun K hK => ?_) AllReady.nil)
          go_simp
          (go_at_call 18; (with_reducible refine (HC2.out _ HX1.out).mono ?_); rintro e x2 ⟨rfl, hbx⟩; have HX2 := Lib.hid (up HX1.out hbx); clear hbx; obtain ⟨m2_0, m2_1, m2_2, m2_3, m2_4, m2_5, m2_6, m2_7, m2_8, m2_9, m2_10, m2_11⟩ := HSW.out _ HX2.out)
          try go_simp
          try (refine hK _ _ ?_)
          try clear hK
          try clear K
          try simp only [Act.put, List.setIfInBounds_toArray, List.set_cons_zero, List.set_cons_succ]
          refine wpAny_take (i := 9) (oi := ⟨_, _, _, _, _, _⟩) (v := ?_) rfl (by kernel_rfl) (by kernel_rfl) (by kernel_rfl) (fun _ _ _ h => h) (Or.inl ⟨by rfl, ?_⟩) ?_
          rotate_left
          focus (intro w; go_simp; try (with_reducible rfl); done)
          try simp only [Act.put, List.setIfInBounds_toArray, List.set_cons_zero, List.set_cons_succ]
          refine wpAny_take (i := 10) (oi := ⟨_, _, _, _, _, _⟩) (v := ?_) rfl (by kernel_rfl) (by kernel_rfl) (by kernel_rfl) (fun _ _ _ h => h) (Or.inl ⟨by rfl, ?_⟩) ?_
          rotate_left
          focus (intro w; go_simp; try (with_reducible rfl); done)
          try simp only [Act.put, List.setIfInBounds_toArray, List.set_cons_zero, List.set_cons_succ]
          refine wpAny_take (i := 11) (oi := ⟨_, _, _, _, _, _⟩) (v := ?_) rfl (by kernel_rfl) (by kernel_rfl) (by kernel_rfl) (fun _ _ _ h => h) (Or.inl ⟨by rfl, ?_⟩) ?_
          rotate_left
          focus (intro w; go_simp; try (with_reducible rfl); done)
          try simp only [Act.put, List.setIfInBounds_toArray, List.set_cons_zero, List.set_cons_succ]
          refine wpAny_take (i := 12) (oi := ⟨_, _, _, _, _, _⟩) (v := undef) rfl (by kernel_rfl) (by kernel_rfl) (by kernel_rfl) (fun _ _ _ h => h) (Or.inr ⟨by rfl, rfl⟩) ?_
          try simp only [Act.put, List.setIfInBounds_toArray, List.set_cons_zero, List.set_cons_succ]
          refine wpAny_take (i := 13) (oi := ⟨_, _, _, _, _, _⟩) (v := undef) rfl (by kernel_rfl) (by kernel_rfl) (by kernel_rfl) (fun _ _ _ h => h) (Or.inr ⟨by rfl, rfl⟩) ?_
          try simp only [Act.put, List.setIfInBounds_toArray, List.set_cons_zero, List.set_cons_succ]
          refine wpAny_take (i := 14) (oi := ⟨_, _, _, _, _, _⟩) (v := undef) rfl (by kernel_rfl) (by kernel_rfl) (by kernel_rfl) (fun _ _ _ h => h) (Or.inr ⟨by rfl, rfl⟩) ?_
          try simp only [Act.put, List.setIfInBounds_toArray, List.set_cons_zero, List.set_cons_succ]
          refine wpAny_take (i := 15) (oi := ⟨_, _, _, _, _, _⟩) (v := ?_) rfl (by kernel_rfl) (by kernel_rfl) (by kernel_rfl) (fun _ _ _ h => h) (Or.inl ⟨by rfl, ?_⟩) ?_
          rotate_left
          focus (intro w; go_simp; try (with_reducible rfl); done)
          try simp only [Act.put, List.setIfInBounds_toArray, List.set_cons_zero, List.set_cons_succ]
          refine wpAny_done (by kernel_rfl) ?_ _
          clear HSW HC0 HC1 HC2
          clear kk0 kk1 kk2 kk3 kk4 kk5 kk6 kk7 kk8 kk9 kk10 kk11
          clear m0_0 m0_1 m0_2 m0_3 m0_4 m0_5 m0_6 m0_7 m0_8 m0_9 m0_10 m0_11 m1_0 m1_1 m1_2 m1_3 m1_4 m1_5 m1_6 m1_7 m1_8 m1_9 m1_10 m1_11 m2_0 m2_1 m2_2 m2_3 m2_4 m2_5 m2_6 m2_7 m2_8 m2_9 m2_10 m2_11
          have hbt := HX2.out
          obtain ⟨w5, hww⟩ : ∃ x : World, x = x2 := ⟨_, rfl⟩
          subst hww
          have HEV_19 := Lib.hid (HEV_13.out.below hbt HEV_13.out.lt)
          have HEW_20 := Lib.hid (HEW_14.out.below hbt HEW_14.out.lt)
          have HEU_21 := Lib.hid (HEU_12.out.below hbt HEU_12.out.lt)
          clear HEV_13 HEW_14 HEU_12
          have HL_22 := Lib.hid (HL_15.out.keep hbt (by omega))
          have HM_23 := Lib.hid (HM_16.out.keep hbt (by omega))
          have HU_24 := Lib.hid (HU_17.out.keep hbt (by omega))
          have HB_25 := Lib.hid (up HB_18.out hbt)
          have hz_5 := hbt.size
          clear HL_15 HM_16 HU_17 HB_18
          clear hbt
          have HC0 := Lib.hid (show ∀ wx, Below w5.heap.size w5 wx → Calls Try.prog 17 #[.agg #[.int .i64 N, .int .i64 T, .int .i64 S, .slice A1 m c1], .agg #[.int .i64 N2, .int .i64 T2, .int .i64 S2, .slice A2 m2 c3]] wx (SnP1 0 0 0 [] 0 wx) from fun wx hb => (InstallSnapS_any N T S 0 _ m c1 A1 ps N2 T2 S2 0 _ m2 c3 A2 qs wx (HL_22.out.keep hb (by omega)) (Nat.le_trans (by omega) hb.size) (by omega) (by omega) (HM_23.out.keep hb (by omega)) (Nat.le_trans (by omega) hb.size) (by omega) (by omega)).mono fun _ _ h => SnPost1.p HIN.out HK3.out h)
          have HC1 := Lib.hid (show ∀ wx A9 c9 lo9 hi9, Below w5.heap.size w5 wx → Rd wx lo9 hi9 2 A9 0 (pvs []) → hi9 ≤ wx.heap.size → Calls Try.prog 16 #[.agg #[.int .i64 0, .int .i64 0, .int .i64 0, .slice A5 0 c5], .agg #[.int .i64 0, .int .i64 0, .int .i64 0, .slice A9 0 c9]] wx fun e w' => e = .returned (.bool true) ∧ Below wx.heap.size wx w' from fun wx A9 c9 lo9 hi9 hb hr9 hh9 => equalSnap_same 0 0 0 0 _ 0 c5 lo9 hi9 c9 A5 A9 [] wx (HU_24.out.keep hb (by omega)) (Nat.le_trans (by omega) hb.size) (by omega) hr9 hh9)
          have HSW := Lib.hid (show ∀ wx, Below w5.heap.size w5 wx → wx.cell? ⟨w1.heap.size, 0, none⟩ = some (.int .i64 N) ∧ wx.cell? ⟨w1.heap.size, 1, none⟩ = some (.int .i64 T) ∧ wx.cell? ⟨w1.heap.size, 2, none⟩ = some (.int .i64 S) ∧ wx.cell? ⟨w1.heap.size, 3, none⟩ = some (.slice A1 m c1) ∧ wx.cell? ⟨(w1.heap.size + 1), 0, none⟩ = some (.int .i64 N2) ∧ wx.cell? ⟨(w1.heap.size + 1), 1, none⟩ = some (.int .i64 T2) ∧ wx.cell? ⟨(w1.heap.size + 1), 2, none⟩ = some (.int .i64 S2) ∧ wx.cell? ⟨(w1.heap.size + 1), 3, none⟩ = some (.slice A2 m2 c3) ∧ wx.cell? ⟨w3.heap.size, 0, none⟩ = some (.int .i64 0) ∧ wx.cell? ⟨w3.heap.size, 1, none⟩ = some (.int .i64 0) ∧ wx.cell? ⟨w3.heap.size, 2, none⟩ = some (.int .i64 0) ∧ wx.cell? ⟨w3.heap.size, 3, none⟩ = some (.slice A5 0 c5) from fun wx hb => ⟨(hb.cell (by show w1.heap.size < w5.heap.size; omega)).trans (HEV_19.out.cell 0), (hb.cell (by show w1.heap.size < w5.heap.size; omega)).trans (HEV_19.out.cell 1), (hb.cell (by show w1.heap.size < w5.heap.size; omega)).trans (HEV_19.out.cell 2), (hb.cell (by show w1.heap.size < w5.heap.size; omega)).trans (HEV_19.out.cell 3), (hb.cell (by show (w1.heap.size + 1) < w5.heap.size; omega)).trans (HEW_20.out.cell 0), (hb.cell (by show (w1.heap.size + 1) < w5.heap.size; omega)).trans (HEW_20.out.cell 1), (hb.cell (by show (w1.heap.size + 1) < w5.heap.size; omega)).trans (HEW_20.out.cell 2), (hb.cell (by show (w1.heap.size + 1) < w5.heap.size; omega)).trans (HEW_20.out.cell 3), (hb.cell (by show w3.heap.size < w5.heap.size; omega)).trans (HEU_21.out.cell 0), (hb.cell (by show w3.heap.size < w5.heap.size; omega)).trans (HEU_21.out.cell 1), (hb.cell (by show w3.heap.size < w5.heap.size; omega)).trans (HEU_21.out.cell 2), (hb.cell (by show w3.heap.size < w5.heap.size; omega)).trans (HEU_21.out.cell 3)⟩)
          obtain ⟨kk0, kk1, kk2, kk3, kk4, kk5, kk6, kk7, kk8, kk9, kk10, kk11⟩ := HSW.out _ (Below.refl _ _)
          go_wp2_with (fail)
          clear kk0 kk1 kk2 kk3 kk4 kk5 kk6 kk7 kk8 kk9 kk10 kk11
          go_region_held3 (fun wx => wx.cell? ⟨w1.heap.size, 0, none⟩ = some (.int .i64 N) ∧ wx.cell? ⟨w1.heap.size, 1, none⟩ = some (.int .i64 T) ∧ wx.cell? ⟨w1.heap.size, 2, none⟩ = some (.int .i64 S) ∧ wx.cell? ⟨w1.heap.size, 3, none⟩ = some (.slice A1 m c1) ∧ wx.cell? ⟨(w1.heap.size + 1), 0, none⟩ = some (.int .i64 N2) ∧ wx.cell? ⟨(w1.heap.size + 1), 1, none⟩ = some (.int .i64 T2) ∧ wx.cell? ⟨(w1.heap.size + 1), 2, none⟩ = some (.int .i64 S2) ∧ wx.cell? ⟨(w1.heap.size + 1), 3, none⟩ = some (.slice A2 m2 c3) ∧ wx.cell? ⟨w3.heap.size, 0, none⟩ = some (.int .i64 0) ∧ wx.cell? ⟨w3.heap.size, 1, none⟩ = some (.int .i64 0) ∧ wx.cell? ⟨w3.heap.size, 2, none⟩ = some (.int .i64 0) ∧ wx.cell? ⟨w3.heap.size, 3, none⟩ = some (.slice A5 0 c5))
            (first | with_reducible exact HSW.out _ (Below.refl _ _) | with_reducible exact HSW.out _ (up_drew (Below.refl _ _)) | with_reducible exact HSW.out _ (HX0.out) | with_reducible exact HSW.out _ (HX1.out))
            ((first
              | (go_at_call 17; (with_reducible refine (HC0.out _ (up_drew (Below.refl _ _))).mono ?_); rintro e x0 ⟨A9, c9, rfl, hk9, hr9, hb9⟩; have HX0 := Lib.hid (up (up_drew (Below.refl _ _)) hb9); have HR9 := Lib.hid hr9; clear hb9 hr9)
              | (go_at_call 16; (with_reducible refine (HC1.out _ _ _ _ _ HX0.out HR9.out (Nat.le_refl _)).mono ?_); rintro e x1 ⟨rfl, hbx⟩; have HX1 := Lib.hid (up HX0.out hbx); clear hbx)
              | fail "no arm"))
          all_goals
            go_wp2
            go_ret
            exact ⟨rfl, up HB_25.out HX1.out⟩
        · go_simp
          try (refine hK _ _ ?_)
          try clear hK
          try clear K
          try simp only [Act.put, List.setIfInBounds_toArray, List.set_cons_zero, List.set_cons_succ]
          refine wpAny_ready (rs := [0, 3]) (by kernel_rfl) (by simp) ?_
          refine (AllReady.cons (o := ⟨_, _, _, _, _, _⟩) rfl (fun K hK => ?_) (AllReady.cons (o := ⟨_, _, _, _, _, _⟩) rfl (fun K hK => ?_) AllReady.nil))
          · go_simp
            try (refine hK _ _ ?_)
            try clear hK
            try clear K
            try simp only [Act.put, List.setIfInBounds_toArray, List.set_cons_zero, List.set_cons_succ]
            refine wpAny_ready (rs := [3]) (by kernel_rfl) (by simp) ?_
            refine (AllReady.cons (o := ⟨_, _, _, _, _, _⟩) rfl (fun K hK => ?_) AllReady.nil)
            go_simp
            (go_at_call 17; (with_reducible refine (HC0.out _ (up_drew (Below.refl _ _))).mono ?_); rintro e x0 ⟨A9, c9, rfl, hk9, hr9, hb9⟩; have HX0 := Lib.hid (up (up_drew (Below.refl _ _)) hb9); have HR9 := Lib.hid hr9; clear hb9 hr9; obtain ⟨m0_0, m0_1, m0_2, m0_3, m0_4, m0_5, m0_6, m0_7, m0_8, m0_9, m0_10, m0_11⟩ := HSW.out _ HX0.out)
            try go_simp
            try (refine hK _ _ ?_)
            try clear hK
            try clear K
            try simp only [Act.put, List.setIfInBounds_toArray, List.set_cons_zero, List.set_cons_succ]
            refine wpAny_ready (rs := [4]) (by kernel_rfl) (by simp) ?_
            refine (AllReady.cons (o := ⟨_, _, _, _, _, _⟩) rfl (fun K hK => ?_) AllReady.nil)
            go_simp
            (go_at_call 16; (with_reducible refine (HC1.out _ _ _ _ _ HX0.out HR9.out (Nat.le_refl _)).mono ?_); rintro e x1 ⟨rfl, hbx⟩; have HX1 := Lib.hid (up HX0.out hbx); clear hbx; obtain ⟨m1_0, m1_1, m1_2, m1_3, m1_4, m1_5, m1_6, m1_7, m1_8, m1_9, m1_10, m1_11⟩ := HSW.out _ HX1.out)
            try go_simp
            try (refine hK _ _ ?_)
            try clear hK
            try clear K
            try simp only [Act.put, List.setIfInBounds_toArray, List.set_cons_zero, List.set_cons_succ]
            refine wpAny_take (i := 5) (oi := ⟨_, _, _, _, _, _⟩) (v := ?_) rfl (by kernel_rfl) (by kernel_rfl) (by kernel_rfl) (fun _ _ _ h => h) (Or.inl ⟨by rfl, ?_⟩) ?_
            rotate_left
            focus (intro w; go_simp; try (with_reducible rfl); done)
            try simp only [Act.put, List.setIfInBounds_toArray, List.set_cons_zero, List.set_cons_succ]
            refine wpAny_take (i := 6) (oi := ⟨_, _, _, _, _, _⟩) (v := ?_) rfl (by kernel_rfl) (by kernel_rfl) (by kernel_rfl) (fun _ _ _ h => h) (Or.inl ⟨by rfl, ?_⟩) ?_
            rotate_left
            focus (intro w; go_simp; try (with_reducible rfl); done)
            try simp only [Act.put, List.setIfInBounds_toArray, List.set_cons_zero, List.set_cons_succ]
            refine wpAny_ready (rs := [7]) (by kernel_rfl) (by simp) ?_
            refine (AllReady.cons (o := ⟨_, _, _, _, _, _⟩) rfl (fun K hK => ?_) AllReady.nil)
            go_simp
            try (refine hK _ _ ?_)
            try clear hK
            try clear K
            try simp only [Act.put, List.setIfInBounds_toArray, List.set_cons_zero, List.set_cons_succ]
            refine wpAny_ready (rs := [8]) (by kernel_rfl) (by simp) ?_
            refine (AllReady.cons (o := ⟨_, _, _, _, _, _⟩) rfl (fun K hK => ?_) AllReady.nil)
            go_simp
            (go_at_call 18; (with_reducible refine (HC2.out _ HX1.out).mono ?_); rintro e x2 ⟨rfl, hbx⟩; have HX2 := Lib.hid (up HX1.out hbx); clear hbx; obtain ⟨m2_0, m2_1, m2_2, m2_3, m2_4, m2_5, m2_6, m2_7, m2_8, m2_9, m2_10, m2_11⟩ := HSW.out _ HX2.out)
            try go_simp
            try (refine hK _ _ ?_)
            try clear hK
            try clear K
            try simp only [Act.put, List.setIfInBounds_toArray, List.set_cons_zero, List.set_cons_succ]
            refine wpAny_take (i := 9) (oi := ⟨_, _, _, _, _, _⟩) (v := ?_) rfl (by kernel_rfl) (by kernel_rfl) (by kernel_rfl) (fun _ _ _ h => h) (Or.inl ⟨by rfl, ?_⟩) ?_
            rotate_left
            focus (intro w; go_simp; try (with_reducible rfl); done)
            try simp only [Act.put, List.setIfInBounds_toArray, List.set_cons_zero, List.set_cons_succ]
            refine wpAny_take (i := 10) (oi := ⟨_, _, _, _, _, _⟩) (v := ?_) rfl (by kernel_rfl) (by kernel_rfl) (by kernel_rfl) (fun _ _ _ h => h) (Or.inl ⟨by rfl, ?_⟩) ?_
            rotate_left
            focus (intro w; go_simp; try (with_reducible rfl); done)
            try simp only [Act.put, List.setIfInBounds_toArray, List.set_cons_zero, List.set_cons_succ]
            refine wpAny_take (i := 11) (oi := ⟨_, _, _, _, _, _⟩) (v := ?_) rfl (by kernel_rfl) (by kernel_rfl) (by kernel_rfl) (fun _ _ _ h => h) (Or.inl ⟨by rfl, ?_⟩) ?_
            rotate_left
            focus (intro w; go_simp; try (with_reducible rfl); done)
            try simp only [Act.put, List.setIfInBounds_toArray, List.set_cons_zero, List.set_cons_succ]
            refine wpAny_take (i := 12) (oi := ⟨_, _, _, _, _, _⟩) (v := undef) rfl (by kernel_rfl) (by kernel_rfl) (by kernel_rfl) (fun _ _ _ h => h) (Or.inr ⟨by rfl, rfl⟩) ?_
            try simp only [Act.put, List.setIfInBounds_toArray, List.set_cons_zero, List.set_cons_succ]
            refine wpAny_take (i := 13) (oi := ⟨_, _, _, _, _, _⟩) (v := undef) rfl (by kernel_rfl) (by kernel_rfl) (by kernel_rfl) (fun _ _ _ h => h) (Or.inr ⟨by rfl, rfl⟩) ?_
            try simp only [Act.put, List.setIfInBounds_toArray, List.set_cons_zero, List.set_cons_succ]
            refine wpAny_take (i := 14) (oi := ⟨_, _, _, _, _, _⟩) (v := undef) rfl (by kernel_rfl) (by kernel_rfl) (by kernel_rfl) (fun _ _ _ h => h) (Or.inr ⟨by rfl, rfl⟩) ?_
            try simp only [Act.put, List.setIfInBounds_toArray, List.set_cons_zero, List.set_cons_succ]
            refine wpAny_take (i := 15) (oi := ⟨_, _, _, _, _, _⟩) (v := ?_) rfl (by kernel_rfl) (by kernel_rfl) (by kernel_rfl) (fun _ _ _ h => h) (Or.inl ⟨by rfl, ?_⟩) ?_
            rotate_left
            focus (intro w; go_simp; try (with_reducible rfl); done)
            try simp only [Act.put, List.setIfInBounds_toArray, List.set_cons_zero, List.set_cons_succ]
            refine wpAny_done (by kernel_rfl) ?_ _
            clear HSW HC0 HC1 HC2
            clear kk0 kk1 kk2 kk3 kk4 kk5 kk6 kk7 kk8 kk9 kk10 kk11
            clear m0_0 m0_1 m0_2 m0_3 m0_4 m0_5 m0_6 m0_7 m0_8 m0_9 m0_10 m0_11 m1_0 m1_1 m1_2 m1_3 m1_4 m1_5 m1_6 m1_7 m1_8 m1_9 m1_10 m1_11 m2_0 m2_1 m2_2 m2_3 m2_4 m2_5 m2_6 m2_7 m2_8 m2_9 m2_10 m2_11
            have hbt := HX2.out
            obtain ⟨w5, hww⟩ : ∃ x : World, x = x2 := ⟨_, rfl⟩
            subst hww
            have HEV_19 := Lib.hid (HEV_13.out.below hbt HEV_13.out.lt)
            have HEW_20 := Lib.hid (HEW_14.out.below hbt HEW_14.out.lt)
            have HEU_21 := Lib.hid (HEU_12.out.below hbt HEU_12.out.lt)
            clear HEV_13 HEW_14 HEU_12
            have HL_22 := Lib.hid (HL_15.out.keep hbt (by omega))
            have HM_23 := Lib.hid (HM_16.out.keep hbt (by omega))
            have HU_24 := Lib.hid (HU_17.out.keep hbt (by omega))
            have HB_25 := Lib.hid (up HB_18.out hbt)
            have hz_5 := hbt.size
            clear HL_15 HM_16 HU_17 HB_18
            clear hbt
            have HC0 := Lib.hid (show ∀ wx, Below w5.heap.size w5 wx → Calls Try.prog 17 #[.agg #[.int .i64 N, .int .i64 T, .int .i64 S, .slice A1 m c1], .agg #[.int .i64 N2, .int .i64 T2, .int .i64 S2, .slice A2 m2 c3]] wx (SnP1 0 0 0 [] 0 wx) from fun wx hb => (InstallSnapS_any N T S 0 _ m c1 A1 ps N2 T2 S2 0 _ m2 c3 A2 qs wx (HL_22.out.keep hb (by omega)) (Nat.le_trans (by omega) hb.size) (by omega) (by omega) (HM_23.out.keep hb (by omega)) (Nat.le_trans (by omega) hb.size) (by omega) (by omega)).mono fun _ _ h => SnPost1.p HIN.out HK3.out h)
            have HC1 := Lib.hid (show ∀ wx A9 c9 lo9 hi9, Below w5.heap.size w5 wx → Rd wx lo9 hi9 2 A9 0 (pvs []) → hi9 ≤ wx.heap.size → Calls Try.prog 16 #[.agg #[.int .i64 0, .int .i64 0, .int .i64 0, .slice A5 0 c5], .agg #[.int .i64 0, .int .i64 0, .int .i64 0, .slice A9 0 c9]] wx fun e w' => e = .returned (.bool true) ∧ Below wx.heap.size wx w' from fun wx A9 c9 lo9 hi9 hb hr9 hh9 => equalSnap_same 0 0 0 0 _ 0 c5 lo9 hi9 c9 A5 A9 [] wx (HU_24.out.keep hb (by omega)) (Nat.le_trans (by omega) hb.size) (by omega) hr9 hh9)
            have HSW := Lib.hid (show ∀ wx, Below w5.heap.size w5 wx → wx.cell? ⟨w1.heap.size, 0, none⟩ = some (.int .i64 N) ∧ wx.cell? ⟨w1.heap.size, 1, none⟩ = some (.int .i64 T) ∧ wx.cell? ⟨w1.heap.size, 2, none⟩ = some (.int .i64 S) ∧ wx.cell? ⟨w1.heap.size, 3, none⟩ = some (.slice A1 m c1) ∧ wx.cell? ⟨(w1.heap.size + 1), 0, none⟩ = some (.int .i64 N2) ∧ wx.cell? ⟨(w1.heap.size + 1), 1, none⟩ = some (.int .i64 T2) ∧ wx.cell? ⟨(w1.heap.size + 1), 2, none⟩ = some (.int .i64 S2) ∧ wx.cell? ⟨(w1.heap.size + 1), 3, none⟩ = some (.slice A2 m2 c3) ∧ wx.cell? ⟨w3.heap.size, 0, none⟩ = some (.int .i64 0) ∧ wx.cell? ⟨w3.heap.size, 1, none⟩ = some (.int .i64 0) ∧ wx.cell? ⟨w3.heap.size, 2, none⟩ = some (.int .i64 0) ∧ wx.cell? ⟨w3.heap.size, 3, none⟩ = some (.slice A5 0 c5) from fun wx hb => ⟨(hb.cell (by show w1.heap.size < w5.heap.size; omega)).trans (HEV_19.out.cell 0), (hb.cell (by show w1.heap.size < w5.heap.size; omega)).trans (HEV_19.out.cell 1), (hb.cell (by show w1.heap.size < w5.heap.size; omega)).trans (HEV_19.out.cell 2), (hb.cell (by show w1.heap.size < w5.heap.size; omega)).trans (HEV_19.out.cell 3), (hb.cell (by show (w1.heap.size + 1) < w5.heap.size; omega)).trans (HEW_20.out.cell 0), (hb.cell (by show (w1.heap.size + 1) < w5.heap.size; omega)).trans (HEW_20.out.cell 1), (hb.cell (by show (w1.heap.size + 1) < w5.heap.size; omega)).trans (HEW_20.out.cell 2), (hb.cell (by show (w1.heap.size + 1) < w5.heap.size; omega)).trans (HEW_20.out.cell 3), (hb.cell (by show w3.heap.size < w5.heap.size; omega)).trans (HEU_21.out.cell 0), (hb.cell (by show w3.heap.size < w5.heap.size; omega)).trans (HEU_21.out.cell 1), (hb.cell (by show w3.heap.size < w5.heap.size; omega)).trans (HEU_21.out.cell 2), (hb.cell (by show w3.heap.size < w5.heap.size; omega)).trans (HEU_21.out.cell 3)⟩)
            obtain ⟨kk0, kk1, kk2, kk3, kk4, kk5, kk6, kk7, kk8, kk9, kk10, kk11⟩ := HSW.out _ (Below.refl _ _)
            go_wp2_with (fail)
            clear kk0 kk1 kk2 kk3 kk4 kk5 kk6 kk7 kk8 kk9 kk10 kk11
            go_region_held3 (fun wx => wx.cell? ⟨w1.heap.size, 0, none⟩ = some (.int .i64 N) ∧ wx.cell? ⟨w1.heap.size, 1, none⟩ = some (.int .i64 T) ∧ wx.cell? ⟨w1.heap.size, 2, none⟩ = some (.int .i64 S) ∧ wx.cell? ⟨w1.heap.size, 3, none⟩ = some (.slice A1 m c1) ∧ wx.cell? ⟨(w1.heap.size + 1), 0, none⟩ = some (.int .i64 N2) ∧ wx.cell? ⟨(w1.heap.size + 1), 1, none⟩ = some (.int .i64 T2) ∧ wx.cell? ⟨(w1.heap.size + 1), 2, none⟩ = some (.int .i64 S2) ∧ wx.cell? ⟨(w1.heap.size + 1), 3, none⟩ = some (.slice A2 m2 c3) ∧ wx.cell? ⟨w3.heap.size, 0, none⟩ = some (.int .i64 0) ∧ wx.cell? ⟨w3.heap.size, 1, none⟩ = some (.int .i64 0) ∧ wx.cell? ⟨w3.heap.size, 2, none⟩ = some (.int .i64 0) ∧ wx.cell? ⟨w3.heap.size, 3, none⟩ = some (.slice A5 0 c5))
              (first | with_reducible exact HSW.out _ (Below.refl _ _) | with_reducible exact HSW.out _ (up_drew (Below.refl _ _)) | with_reducible exact HSW.out _ (HX0.out) | with_reducible exact HSW.out _ (HX1.out))
              ((first
                | (go_at_call 17; (with_reducible refine (HC0.out _ (up_drew (Below.refl _ _))).mono ?_); rintro e x0 ⟨A9, c9, rfl, hk9, hr9, hb9⟩; have HX0 := Lib.hid (up (up_drew (Below.refl _ _)) hb9); have HR9 := Lib.hid hr9; clear hb9 hr9)
                | (go_at_call 16; (with_reducible refine (HC1.out _ _ _ _ _ HX0.out HR9.out (Nat.le_refl _)).mono ?_); rintro e x1 ⟨rfl, hbx⟩; have HX1 := Lib.hid (up HX0.out hbx); clear hbx)
                | fail "no arm"))
            all_goals
              go_wp2
              go_ret
              exact ⟨rfl, up HB_25.out HX1.out⟩
          · go_simp
            (go_at_call 17; (with_reducible refine (HC0.out _ (up_drew (Below.refl _ _))).mono ?_); rintro e x0 ⟨A9, c9, rfl, hk9, hr9, hb9⟩; have HX0 := Lib.hid (up (up_drew (Below.refl _ _)) hb9); have HR9 := Lib.hid hr9; clear hb9 hr9; obtain ⟨m0_0, m0_1, m0_2, m0_3, m0_4, m0_5, m0_6, m0_7, m0_8, m0_9, m0_10, m0_11⟩ := HSW.out _ HX0.out)
            try go_simp
            try (refine hK _ _ ?_)
            try clear hK
            try clear K
            try simp only [Act.put, List.setIfInBounds_toArray, List.set_cons_zero, List.set_cons_succ]
            refine wpAny_ready (rs := [0]) (by kernel_rfl) (by simp) ?_
            refine (AllReady.cons (o := ⟨_, _, _, _, _, _⟩) rfl (fun K hK => ?_) AllReady.nil)
            go_simp
            try (refine hK _ _ ?_)
            try clear hK
            try clear K
            try simp only [Act.put, List.setIfInBounds_toArray, List.set_cons_zero, List.set_cons_succ]
            refine wpAny_ready (rs := [4]) (by kernel_rfl) (by simp) ?_
            refine (AllReady.cons (o := ⟨_, _, _, _, _, _⟩) rfl (fun K hK => ?_) AllReady.nil)
            go_simp
            (go_at_call 16; (with_reducible refine (HC1.out _ _ _ _ _ HX0.out HR9.out (Nat.le_refl _)).mono ?_); rintro e x1 ⟨rfl, hbx⟩; have HX1 := Lib.hid (up HX0.out hbx); clear hbx; obtain ⟨m1_0, m1_1, m1_2, m1_3, m1_4, m1_5, m1_6, m1_7, m1_8, m1_9, m1_10, m1_11⟩ := HSW.out _ HX1.out)
            try go_simp
            try (refine hK _ _ ?_)
            try clear hK
            try clear K
            try simp only [Act.put, List.setIfInBounds_toArray, List.set_cons_zero, List.set_cons_succ]
            refine wpAny_take (i := 5) (oi := ⟨_, _, _, _, _, _⟩) (v := ?_) rfl (by kernel_rfl) (by kernel_rfl) (by kernel_rfl) (fun _ _ _ h => h) (Or.inl ⟨by rfl, ?_⟩) ?_
            rotate_left
            focus (intro w; go_simp; try (with_reducible rfl); done)
            try simp only [Act.put, List.setIfInBounds_toArray, List.set_cons_zero, List.set_cons_succ]
            refine wpAny_take (i := 6) (oi := ⟨_, _, _, _, _, _⟩) (v := ?_) rfl (by kernel_rfl) (by kernel_rfl) (by kernel_rfl) (fun _ _ _ h => h) (Or.inl ⟨by rfl, ?_⟩) ?_
            rotate_left
            focus (intro w; go_simp; try (with_reducible rfl); done)
            try simp only [Act.put, List.setIfInBounds_toArray, List.set_cons_zero, List.set_cons_succ]
            refine wpAny_ready (rs := [7]) (by kernel_rfl) (by simp) ?_
            refine (AllReady.cons (o := ⟨_, _, _, _, _, _⟩) rfl (fun K hK => ?_) AllReady.nil)
            go_simp
            try (refine hK _ _ ?_)
            try clear hK
            try clear K
            try simp only [Act.put, List.setIfInBounds_toArray, List.set_cons_zero, List.set_cons_succ]
            refine wpAny_ready (rs := [8]) (by kernel_rfl) (by simp) ?_
            refine (AllReady.cons (o := ⟨_, _, _, _, _, _⟩) rfl (fun K hK => ?_) AllReady.nil)
            go_simp
            (go_at_call 18; (with_reducible refine (HC2.out _ HX1.out).mono ?_); rintro e x2 ⟨rfl, hbx⟩; have HX2 := Lib.hid (up HX1.out hbx); clear hbx; obtain ⟨m2_0, m2_1, m2_2, m2_3, m2_4, m2_5, m2_6, m2_7, m2_8, m2_9, m2_10, m2_11⟩ := HSW.out _ HX2.out)
            try go_simp
            try (refine hK _ _ ?_)
            try clear hK
            try clear K
            try simp only [Act.put, List.setIfInBounds_toArray, List.set_cons_zero, List.set_cons_succ]
            refine wpAny_take (i := 9) (oi := ⟨_, _, _, _, _, _⟩) (v := ?_) rfl (by kernel_rfl) (by kernel_rfl) (by kernel_rfl) (fun _ _ _ h => h) (Or.inl ⟨by rfl, ?_⟩) ?_
            rotate_left
            focus (intro w; go_simp; try (with_reducible rfl); done)
            try simp only [Act.put, List.setIfInBounds_toArray, List.set_cons_zero, List.set_cons_succ]
            refine wpAny_take (i := 10) (oi := ⟨_, _, _, _, _, _⟩) (v := ?_) rfl (by kernel_rfl) (by kernel_rfl) (by kernel_rfl) (fun _ _ _ h => h) (Or.inl ⟨by rfl, ?_⟩) ?_
            rotate_left
            focus (intro w; go_simp; try (with_reducible rfl); done)
            try simp only [Act.put, List.setIfInBounds_toArray, List.set_cons_zero, List.set_cons_succ]
            refine wpAny_take (i := 11) (oi := ⟨_, _, _, _, _, _⟩) (v := ?_) rfl (by kernel_rfl) (by kernel_rfl) (by kernel_rfl) (fun _ _ _ h => h) (Or.inl ⟨by rfl, ?_⟩) ?_
            rotate_left
            focus (intro w; go_simp; try (with_reducible rfl); done)
            try simp only [Act.put, List.setIfInBounds_toArray, List.set_cons_zero, List.set_cons_succ]
            refine wpAny_take (i := 12) (oi := ⟨_, _, _, _, _, _⟩) (v := undef) rfl (by kernel_rfl) (by kernel_rfl) (by kernel_rfl) (fun _ _ _ h => h) (Or.inr ⟨by rfl, rfl⟩) ?_
            try simp only [Act.put, List.setIfInBounds_toArray, List.set_cons_zero, List.set_cons_succ]
            refine wpAny_take (i := 13) (oi := ⟨_, _, _, _, _, _⟩) (v := undef) rfl (by kernel_rfl) (by kernel_rfl) (by kernel_rfl) (fun _ _ _ h => h) (Or.inr ⟨by rfl, rfl⟩) ?_
            try simp only [Act.put, List.setIfInBounds_toArray, List.set_cons_zero, List.set_cons_succ]
            refine wpAny_take (i := 14) (oi := ⟨_, _, _, _, _, _⟩) (v := undef) rfl (by kernel_rfl) (by kernel_rfl) (by kernel_rfl) (fun _ _ _ h => h) (Or.inr ⟨by rfl, rfl⟩) ?_
            try simp only [Act.put, List.setIfInBounds_toArray, List.set_cons_zero, List.set_cons_succ]
            refine wpAny_take (i := 15) (oi := ⟨_, _, _, _, _, _⟩) (v := ?_) rfl (by kernel_rfl) (by kernel_rfl) (by kernel_rfl) (fun _ _ _ h => h) (Or.inl ⟨by rfl, ?_⟩) ?_
            rotate_left
            focus (intro w; go_simp; try (with_reducible rfl); done)
            try simp only [Act.put, List.setIfInBounds_toArray, List.set_cons_zero, List.set_cons_succ]
            refine wpAny_done (by kernel_rfl) ?_ _
            clear HSW HC0 HC1 HC2
            clear kk0 kk1 kk2 kk3 kk4 kk5 kk6 kk7 kk8 kk9 kk10 kk11
            clear m0_0 m0_1 m0_2 m0_3 m0_4 m0_5 m0_6 m0_7 m0_8 m0_9 m0_10 m0_11 m1_0 m1_1 m1_2 m1_3 m1_4 m1_5 m1_6 m1_7 m1_8 m1_9 m1_10 m1_11 m2_0 m2_1 m2_2 m2_3 m2_4 m2_5 m2_6 m2_7 m2_8 m2_9 m2_10 m2_11
            have hbt := HX2.out
            obtain ⟨w5, hww⟩ : ∃ x : World, x = x2 := ⟨_, rfl⟩
            subst hww
            have HEV_19 := Lib.hid (HEV_13.out.below hbt HEV_13.out.lt)
            have HEW_20 := Lib.hid (HEW_14.out.below hbt HEW_14.out.lt)
            have HEU_21 := Lib.hid (HEU_12.out.below hbt HEU_12.out.lt)
            clear HEV_13 HEW_14 HEU_12
            have HL_22 := Lib.hid (HL_15.out.keep hbt (by omega))
            have HM_23 := Lib.hid (HM_16.out.keep hbt (by omega))
            have HU_24 := Lib.hid (HU_17.out.keep hbt (by omega))
            have HB_25 := Lib.hid (up HB_18.out hbt)
            have hz_5 := hbt.size
            clear HL_15 HM_16 HU_17 HB_18
            clear hbt
            have HC0 := Lib.hid (show ∀ wx, Below w5.heap.size w5 wx → Calls Try.prog 17 #[.agg #[.int .i64 N, .int .i64 T, .int .i64 S, .slice A1 m c1], .agg #[.int .i64 N2, .int .i64 T2, .int .i64 S2, .slice A2 m2 c3]] wx (SnP1 0 0 0 [] 0 wx) from fun wx hb => (InstallSnapS_any N T S 0 _ m c1 A1 ps N2 T2 S2 0 _ m2 c3 A2 qs wx (HL_22.out.keep hb (by omega)) (Nat.le_trans (by omega) hb.size) (by omega) (by omega) (HM_23.out.keep hb (by omega)) (Nat.le_trans (by omega) hb.size) (by omega) (by omega)).mono fun _ _ h => SnPost1.p HIN.out HK3.out h)
            have HC1 := Lib.hid (show ∀ wx A9 c9 lo9 hi9, Below w5.heap.size w5 wx → Rd wx lo9 hi9 2 A9 0 (pvs []) → hi9 ≤ wx.heap.size → Calls Try.prog 16 #[.agg #[.int .i64 0, .int .i64 0, .int .i64 0, .slice A5 0 c5], .agg #[.int .i64 0, .int .i64 0, .int .i64 0, .slice A9 0 c9]] wx fun e w' => e = .returned (.bool true) ∧ Below wx.heap.size wx w' from fun wx A9 c9 lo9 hi9 hb hr9 hh9 => equalSnap_same 0 0 0 0 _ 0 c5 lo9 hi9 c9 A5 A9 [] wx (HU_24.out.keep hb (by omega)) (Nat.le_trans (by omega) hb.size) (by omega) hr9 hh9)
            have HSW := Lib.hid (show ∀ wx, Below w5.heap.size w5 wx → wx.cell? ⟨w1.heap.size, 0, none⟩ = some (.int .i64 N) ∧ wx.cell? ⟨w1.heap.size, 1, none⟩ = some (.int .i64 T) ∧ wx.cell? ⟨w1.heap.size, 2, none⟩ = some (.int .i64 S) ∧ wx.cell? ⟨w1.heap.size, 3, none⟩ = some (.slice A1 m c1) ∧ wx.cell? ⟨(w1.heap.size + 1), 0, none⟩ = some (.int .i64 N2) ∧ wx.cell? ⟨(w1.heap.size + 1), 1, none⟩ = some (.int .i64 T2) ∧ wx.cell? ⟨(w1.heap.size + 1), 2, none⟩ = some (.int .i64 S2) ∧ wx.cell? ⟨(w1.heap.size + 1), 3, none⟩ = some (.slice A2 m2 c3) ∧ wx.cell? ⟨w3.heap.size, 0, none⟩ = some (.int .i64 0) ∧ wx.cell? ⟨w3.heap.size, 1, none⟩ = some (.int .i64 0) ∧ wx.cell? ⟨w3.heap.size, 2, none⟩ = some (.int .i64 0) ∧ wx.cell? ⟨w3.heap.size, 3, none⟩ = some (.slice A5 0 c5) from fun wx hb => ⟨(hb.cell (by show w1.heap.size < w5.heap.size; omega)).trans (HEV_19.out.cell 0), (hb.cell (by show w1.heap.size < w5.heap.size; omega)).trans (HEV_19.out.cell 1), (hb.cell (by show w1.heap.size < w5.heap.size; omega)).trans (HEV_19.out.cell 2), (hb.cell (by show w1.heap.size < w5.heap.size; omega)).trans (HEV_19.out.cell 3), (hb.cell (by show (w1.heap.size + 1) < w5.heap.size; omega)).trans (HEW_20.out.cell 0), (hb.cell (by show (w1.heap.size + 1) < w5.heap.size; omega)).trans (HEW_20.out.cell 1), (hb.cell (by show (w1.heap.size + 1) < w5.heap.size; omega)).trans (HEW_20.out.cell 2), (hb.cell (by show (w1.heap.size + 1) < w5.heap.size; omega)).trans (HEW_20.out.cell 3), (hb.cell (by show w3.heap.size < w5.heap.size; omega)).trans (HEU_21.out.cell 0), (hb.cell (by show w3.heap.size < w5.heap.size; omega)).trans (HEU_21.out.cell 1), (hb.cell (by show w3.heap.size < w5.heap.size; omega)).trans (HEU_21.out.cell 2), (hb.cell (by show w3.heap.size < w5.heap.size; omega)).trans (HEU_21.out.cell 3)⟩)
            obtain ⟨kk0, kk1, kk2, kk3, kk4, kk5, kk6, kk7, kk8, kk9, kk10, kk11⟩ := HSW.out _ (Below.refl _ _)
            go_wp2_with (fail)
            clear kk0 kk1 kk2 kk3 kk4 kk5 kk6 kk7 kk8 kk9 kk10 kk11
            go_region_held3 (fun wx => wx.cell? ⟨w1.heap.size, 0, none⟩ = some (.int .i64 N) ∧ wx.cell? ⟨w1.heap.size, 1, none⟩ = some (.int .i64 T) ∧ wx.cell? ⟨w1.heap.size, 2, none⟩ = some (.int .i64 S) ∧ wx.cell? ⟨w1.heap.size, 3, none⟩ = some (.slice A1 m c1) ∧ wx.cell? ⟨(w1.heap.size + 1), 0, none⟩ = some (.int .i64 N2) ∧ wx.cell? ⟨(w1.heap.size + 1), 1, none⟩ = some (.int .i64 T2) ∧ wx.cell? ⟨(w1.heap.size + 1), 2, none⟩ = some (.int .i64 S2) ∧ wx.cell? ⟨(w1.heap.size + 1), 3, none⟩ = some (.slice A2 m2 c3) ∧ wx.cell? ⟨w3.heap.size, 0, none⟩ = some (.int .i64 0) ∧ wx.cell? ⟨w3.heap.size, 1, none⟩ = some (.int .i64 0) ∧ wx.cell? ⟨w3.heap.size, 2, none⟩ = some (.int .i64 0) ∧ wx.cell? ⟨w3.heap.size, 3, none⟩ = some (.slice A5 0 c5))
              (first | with_reducible exact HSW.out _ (Below.refl _ _) | with_reducible exact HSW.out _ (up_drew (Below.refl _ _)) | with_reducible exact HSW.out _ (HX0.out) | with_reducible exact HSW.out _ (HX1.out))
              ((first
                | (go_at_call 17; (with_reducible refine (HC0.out _ (up_drew (Below.refl _ _))).mono ?_); rintro e x0 ⟨A9, c9, rfl, hk9, hr9, hb9⟩; have HX0 := Lib.hid (up (up_drew (Below.refl _ _)) hb9); have HR9 := Lib.hid hr9; clear hb9 hr9)
                | (go_at_call 16; (with_reducible refine (HC1.out _ _ _ _ _ HX0.out HR9.out (Nat.le_refl _)).mono ?_); rintro e x1 ⟨rfl, hbx⟩; have HX1 := Lib.hid (up HX0.out hbx); clear hbx)
                | fail "no arm"))
            all_goals
              go_wp2
              go_ret
              exact ⟨rfl, up HB_25.out HX1.out⟩
      · go_simp
        try (refine hK _ _ ?_)
        try clear hK
        try clear K
        try simp only [Act.put, List.setIfInBounds_toArray, List.set_cons_zero, List.set_cons_succ]
        refine wpAny_ready (rs := [0, 1]) (by kernel_rfl) (by simp) ?_
        refine (AllReady.cons (o := ⟨_, _, _, _, _, _⟩) rfl (fun K hK => ?_) (AllReady.cons (o := ⟨_, _, _, _, _, _⟩) rfl (fun K hK => ?_) AllReady.nil))
        · go_simp
          try (refine hK _ _ ?_)
          try clear hK
          try clear K
          try simp only [Act.put, List.setIfInBounds_toArray, List.set_cons_zero, List.set_cons_succ]
          refine wpAny_ready (rs := [1]) (by kernel_rfl) (by simp) ?_
          refine (AllReady.cons (o := ⟨_, _, _, _, _, _⟩) rfl (fun K hK => ?_) AllReady.nil)
          go_simp
          try (refine hK _ _ ?_)
          try clear hK
          try clear K
          try simp only [Act.put, List.setIfInBounds_toArray, List.set_cons_zero, List.set_cons_succ]
          refine wpAny_ready (rs := [3]) (by kernel_rfl) (by simp) ?_
          refine (AllReady.cons (o := ⟨_, _, _, _, _, _⟩) rfl (fun K hK => ?_) AllReady.nil)
          go_simp
          (go_at_call 17; (with_reducible refine (HC0.out _ (up_drew (Below.refl _ _))).mono ?_); rintro e x0 ⟨A9, c9, rfl, hk9, hr9, hb9⟩; have HX0 := Lib.hid (up (up_drew (Below.refl _ _)) hb9); have HR9 := Lib.hid hr9; clear hb9 hr9; obtain ⟨m0_0, m0_1, m0_2, m0_3, m0_4, m0_5, m0_6, m0_7, m0_8, m0_9, m0_10, m0_11⟩ := HSW.out _ HX0.out)
          try go_simp
          try (refine hK _ _ ?_)
          try clear hK
          try clear K
          try simp only [Act.put, List.setIfInBounds_toArray, List.set_cons_zero, List.set_cons_succ]
          refine wpAny_ready (rs := [4]) (by kernel_rfl) (by simp) ?_
          refine (AllReady.cons (o := ⟨_, _, _, _, _, _⟩) rfl (fun K hK => ?_) AllReady.nil)
          go_simp
          (go_at_call 16; (with_reducible refine (HC1.out _ _ _ _ _ HX0.out HR9.out (Nat.le_refl _)).mono ?_); rintro e x1 ⟨rfl, hbx⟩; have HX1 := Lib.hid (up HX0.out hbx); clear hbx; obtain ⟨m1_0, m1_1, m1_2, m1_3, m1_4, m1_5, m1_6, m1_7, m1_8, m1_9, m1_10, m1_11⟩ := HSW.out _ HX1.out)
          try go_simp
          try (refine hK _ _ ?_)
          try clear hK
          try clear K
          try simp only [Act.put, List.setIfInBounds_toArray, List.set_cons_zero, List.set_cons_succ]
          refine wpAny_take (i := 5) (oi := ⟨_, _, _, _, _, _⟩) (v := ?_) rfl (by kernel_rfl) (by kernel_rfl) (by kernel_rfl) (fun _ _ _ h => h) (Or.inl ⟨by rfl, ?_⟩) ?_
          rotate_left
          focus (intro w; go_simp; try (with_reducible rfl); done)
          try simp only [Act.put, List.setIfInBounds_toArray, List.set_cons_zero, List.set_cons_succ]
          refine wpAny_take (i := 6) (oi := ⟨_, _, _, _, _, _⟩) (v := ?_) rfl (by kernel_rfl) (by kernel_rfl) (by kernel_rfl) (fun _ _ _ h => h) (Or.inl ⟨by rfl, ?_⟩) ?_
          rotate_left
          focus (intro w; go_simp; try (with_reducible rfl); done)
          try simp only [Act.put, List.setIfInBounds_toArray, List.set_cons_zero, List.set_cons_succ]
          refine wpAny_ready (rs := [7]) (by kernel_rfl) (by simp) ?_
          refine (AllReady.cons (o := ⟨_, _, _, _, _, _⟩) rfl (fun K hK => ?_) AllReady.nil)
          go_simp
          try (refine hK _ _ ?_)
          try clear hK
          try clear K
          try simp only [Act.put, List.setIfInBounds_toArray, List.set_cons_zero, List.set_cons_succ]
          refine wpAny_ready (rs := [8]) (by kernel_rfl) (by simp) ?_
          refine (AllReady.cons (o := ⟨_, _, _, _, _, _⟩) rfl (fun K hK => ?_) AllReady.nil)
          go_simp
          (go_at_call 18; (with_reducible refine (HC2.out _ HX1.out).mono ?_); rintro e x2 ⟨rfl, hbx⟩; have HX2 := Lib.hid (up HX1.out hbx); clear hbx; obtain ⟨m2_0, m2_1, m2_2, m2_3, m2_4, m2_5, m2_6, m2_7, m2_8, m2_9, m2_10, m2_11⟩ := HSW.out _ HX2.out)
          try go_simp
          try (refine hK _ _ ?_)
          try clear hK
          try clear K
          try simp only [Act.put, List.setIfInBounds_toArray, List.set_cons_zero, List.set_cons_succ]
          refine wpAny_take (i := 9) (oi := ⟨_, _, _, _, _, _⟩) (v := ?_) rfl (by kernel_rfl) (by kernel_rfl) (by kernel_rfl) (fun _ _ _ h => h) (Or.inl ⟨by rfl, ?_⟩) ?_
          rotate_left
          focus (intro w; go_simp; try (with_reducible rfl); done)
          try simp only [Act.put, List.setIfInBounds_toArray, List.set_cons_zero, List.set_cons_succ]
          refine wpAny_take (i := 10) (oi := ⟨_, _, _, _, _, _⟩) (v := ?_) rfl (by kernel_rfl) (by kernel_rfl) (by kernel_rfl) (fun _ _ _ h => h) (Or.inl ⟨by rfl, ?_⟩) ?_
          rotate_left
          focus (intro w; go_simp; try (with_reducible rfl); done)
          try simp only [Act.put, List.setIfInBounds_toArray, List.set_cons_zero, List.set_cons_succ]
          refine wpAny_take (i := 11) (oi := ⟨_, _, _, _, _, _⟩) (v := ?_) rfl (by kernel_rfl) (by kernel_rfl) (by kernel_rfl) (fun _ _ _ h => h) (Or.inl ⟨by rfl, ?_⟩) ?_
          rotate_left
          focus (intro w; go_simp; try (with_reducible rfl); done)
          try simp only [Act.put, List.setIfInBounds_toArray, List.set_cons_zero, List.set_cons_succ]
          refine wpAny_take (i := 12) (oi := ⟨_, _, _, _, _, _⟩) (v := undef) rfl (by kernel_rfl) (by kernel_rfl) (by kernel_rfl) (fun _ _ _ h => h) (Or.inr ⟨by rfl, rfl⟩) ?_
          try simp only [Act.put, List.setIfInBounds_toArray, List.set_cons_zero, List.set_cons_succ]
          refine wpAny_take (i := 13) (oi := ⟨_, _, _, _, _, _⟩) (v := undef) rfl (by kernel_rfl) (by kernel_rfl) (by kernel_rfl) (fun _ _ _ h => h) (Or.inr ⟨by rfl, rfl⟩) ?_
          try simp only [Act.put, List.setIfInBounds_toArray, List.set_cons_zero, List.set_cons_succ]
          refine wpAny_take (i := 14) (oi := ⟨_, _, _, _, _, _⟩) (v := undef) rfl (by kernel_rfl) (by kernel_rfl) (by kernel_rfl) (fun _ _ _ h => h) (Or.inr ⟨by rfl, rfl⟩) ?_
          try simp only [Act.put, List.setIfInBounds_toArray, List.set_cons_zero, List.set_cons_succ]
          refine wpAny_take (i := 15) (oi := ⟨_, _, _, _, _, _⟩) (v := ?_) rfl (by kernel_rfl) (by kernel_rfl) (by kernel_rfl) (fun _ _ _ h => h) (Or.inl ⟨by rfl, ?_⟩) ?_
          rotate_left
          focus (intro w; go_simp; try (with_reducible rfl); done)
          try simp only [Act.put, List.setIfInBounds_toArray, List.set_cons_zero, List.set_cons_succ]
          refine wpAny_done (by kernel_rfl) ?_ _
          clear HSW HC0 HC1 HC2
          clear kk0 kk1 kk2 kk3 kk4 kk5 kk6 kk7 kk8 kk9 kk10 kk11
          clear m0_0 m0_1 m0_2 m0_3 m0_4 m0_5 m0_6 m0_7 m0_8 m0_9 m0_10 m0_11 m1_0 m1_1 m1_2 m1_3 m1_4 m1_5 m1_6 m1_7 m1_8 m1_9 m1_10 m1_11 m2_0 m2_1 m2_2 m2_3 m2_4 m2_5 m2_6 m2_7 m2_8 m2_9 m2_10 m2_11
          have hbt := HX2.out
          obtain ⟨w5, hww⟩ : ∃ x : World, x = x2 := ⟨_, rfl⟩
          subst hww
          have HEV_19 := Lib.hid (HEV_13.out.below hbt HEV_13.out.lt)
          have HEW_20 := Lib.hid (HEW_14.out.below hbt HEW_14.out.lt)
          have HEU_21 := Lib.hid (HEU_12.out.below hbt HEU_12.out.lt)
          clear HEV_13 HEW_14 HEU_12
          have HL_22 := Lib.hid (HL_15.out.keep hbt (by omega))
          have HM_23 := Lib.hid (HM_16.out.keep hbt (by omega))
          have HU_24 := Lib.hid (HU_17.out.keep hbt (by omega))
          have HB_25 := Lib.hid (up HB_18.out hbt)
          have hz_5 := hbt.size
          clear HL_15 HM_16 HU_17 HB_18
          clear hbt
          have HC0 := Lib.hid (show ∀ wx, Below w5.heap.size w5 wx → Calls Try.prog 17 #[.agg #[.int .i64 N, .int .i64 T, .int .i64 S, .slice A1 m c1], .agg #[.int .i64 N2, .int .i64 T2, .int .i64 S2, .slice A2 m2 c3]] wx (SnP1 0 0 0 [] 0 wx) from fun wx hb => (InstallSnapS_any N T S 0 _ m c1 A1 ps N2 T2 S2 0 _ m2 c3 A2 qs wx (HL_22.out.keep hb (by omega)) (Nat.le_trans (by omega) hb.size) (by omega) (by omega) (HM_23.out.keep hb (by omega)) (Nat.le_trans (by omega) hb.size) (by omega) (by omega)).mono fun _ _ h => SnPost1.p HIN.out HK3.out h)
          have HC1 := Lib.hid (show ∀ wx A9 c9 lo9 hi9, Below w5.heap.size w5 wx → Rd wx lo9 hi9 2 A9 0 (pvs []) → hi9 ≤ wx.heap.size → Calls Try.prog 16 #[.agg #[.int .i64 0, .int .i64 0, .int .i64 0, .slice A5 0 c5], .agg #[.int .i64 0, .int .i64 0, .int .i64 0, .slice A9 0 c9]] wx fun e w' => e = .returned (.bool true) ∧ Below wx.heap.size wx w' from fun wx A9 c9 lo9 hi9 hb hr9 hh9 => equalSnap_same 0 0 0 0 _ 0 c5 lo9 hi9 c9 A5 A9 [] wx (HU_24.out.keep hb (by omega)) (Nat.le_trans (by omega) hb.size) (by omega) hr9 hh9)
          have HSW := Lib.hid (show ∀ wx, Below w5.heap.size w5 wx → wx.cell? ⟨w1.heap.size, 0, none⟩ = some (.int .i64 N) ∧ wx.cell? ⟨w1.heap.size, 1, none⟩ = some (.int .i64 T) ∧ wx.cell? ⟨w1.heap.size, 2, none⟩ = some (.int .i64 S) ∧ wx.cell? ⟨w1.heap.size, 3, none⟩ = some (.slice A1 m c1) ∧ wx.cell? ⟨(w1.heap.size + 1), 0, none⟩ = some (.int .i64 N2) ∧ wx.cell? ⟨(w1.heap.size + 1), 1, none⟩ = some (.int .i64 T2) ∧ wx.cell? ⟨(w1.heap.size + 1), 2, none⟩ = some (.int .i64 S2) ∧ wx.cell? ⟨(w1.heap.size + 1), 3, none⟩ = some (.slice A2 m2 c3) ∧ wx.cell? ⟨w3.heap.size, 0, none⟩ = some (.int .i64 0) ∧ wx.cell? ⟨w3.heap.size, 1, none⟩ = some (.int .i64 0) ∧ wx.cell? ⟨w3.heap.size, 2, none⟩ = some (.int .i64 0) ∧ wx.cell? ⟨w3.heap.size, 3, none⟩ = some (.slice A5 0 c5) from fun wx hb => ⟨(hb.cell (by show w1.heap.size < w5.heap.size; omega)).trans (HEV_19.out.cell 0), (hb.cell (by show w1.heap.size < w5.heap.size; omega)).trans (HEV_19.out.cell 1), (hb.cell (by show w1.heap.size < w5.heap.size; omega)).trans (HEV_19.out.cell 2), (hb.cell (by show w1.heap.size < w5.heap.size; omega)).trans (HEV_19.out.cell 3), (hb.cell (by show (w1.heap.size + 1) < w5.heap.size; omega)).trans (HEW_20.out.cell 0), (hb.cell (by show (w1.heap.size + 1) < w5.heap.size; omega)).trans (HEW_20.out.cell 1), (hb.cell (by show (w1.heap.size + 1) < w5.heap.size; omega)).trans (HEW_20.out.cell 2), (hb.cell (by show (w1.heap.size + 1) < w5.heap.size; omega)).trans (HEW_20.out.cell 3), (hb.cell (by show w3.heap.size < w5.heap.size; omega)).trans (HEU_21.out.cell 0), (hb.cell (by show w3.heap.size < w5.heap.size; omega)).trans (HEU_21.out.cell 1), (hb.cell (by show w3.heap.size < w5.heap.size; omega)).trans (HEU_21.out.cell 2), (hb.cell (by show w3.heap.size < w5.heap.size; omega)).trans (HEU_21.out.cell 3)⟩)
          obtain ⟨kk0, kk1, kk2, kk3, kk4, kk5, kk6, kk7, kk8, kk9, kk10, kk11⟩ := HSW.out _ (Below.refl _ _)
          go_wp2_with (fail)
          clear kk0 kk1 kk2 kk3 kk4 kk5 kk6 kk7 kk8 kk9 kk10 kk11
          go_region_held3 (fun wx => wx.cell? ⟨w1.heap.size, 0, none⟩ = some (.int .i64 N) ∧ wx.cell? ⟨w1.heap.size, 1, none⟩ = some (.int .i64 T) ∧ wx.cell? ⟨w1.heap.size, 2, none⟩ = some (.int .i64 S) ∧ wx.cell? ⟨w1.heap.size, 3, none⟩ = some (.slice A1 m c1) ∧ wx.cell? ⟨(w1.heap.size + 1), 0, none⟩ = some (.int .i64 N2) ∧ wx.cell? ⟨(w1.heap.size + 1), 1, none⟩ = some (.int .i64 T2) ∧ wx.cell? ⟨(w1.heap.size + 1), 2, none⟩ = some (.int .i64 S2) ∧ wx.cell? ⟨(w1.heap.size + 1), 3, none⟩ = some (.slice A2 m2 c3) ∧ wx.cell? ⟨w3.heap.size, 0, none⟩ = some (.int .i64 0) ∧ wx.cell? ⟨w3.heap.size, 1, none⟩ = some (.int .i64 0) ∧ wx.cell? ⟨w3.heap.size, 2, none⟩ = some (.int .i64 0) ∧ wx.cell? ⟨w3.heap.size, 3, none⟩ = some (.slice A5 0 c5))
            (first | with_reducible exact HSW.out _ (Below.refl _ _) | with_reducible exact HSW.out _ (up_drew (Below.refl _ _)) | with_reducible exact HSW.out _ (HX0.out) | with_reducible exact HSW.out _ (HX1.out))
            ((first
              | (go_at_call 17; (with_reducible refine (HC0.out _ (up_drew (Below.refl _ _))).mono ?_); rintro e x0 ⟨A9, c9, rfl, hk9, hr9, hb9⟩; have HX0 := Lib.hid (up (up_drew (Below.refl _ _)) hb9); have HR9 := Lib.hid hr9; clear hb9 hr9)
              | (go_at_call 16; (with_reducible refine (HC1.out _ _ _ _ _ HX0.out HR9.out (Nat.le_refl _)).mono ?_); rintro e x1 ⟨rfl, hbx⟩; have HX1 := Lib.hid (up HX0.out hbx); clear hbx)
              | fail "no arm"))
          all_goals
            go_wp2
            go_ret
            exact ⟨rfl, up HB_25.out HX1.out⟩
        · go_simp
          try (refine hK _ _ ?_)
          try clear hK
          try clear K
          try simp only [Act.put, List.setIfInBounds_toArray, List.set_cons_zero, List.set_cons_succ]
          refine wpAny_ready (rs := [0, 3]) (by kernel_rfl) (by simp) ?_
          refine (AllReady.cons (o := ⟨_, _, _, _, _, _⟩) rfl (fun K hK => ?_) (AllReady.cons (o := ⟨_, _, _, _, _, _⟩) rfl (fun K hK => ?_) AllReady.nil))
          · go_simp
            try (refine hK _ _ ?_)
            try clear hK
            try clear K
            try simp only [Act.put, List.setIfInBounds_toArray, List.set_cons_zero, List.set_cons_succ]
            refine wpAny_ready (rs := [3]) (by kernel_rfl) (by simp) ?_
            refine (AllReady.cons (o := ⟨_, _, _, _, _, _⟩) rfl (fun K hK => ?_) AllReady.nil)
            go_simp
            (go_at_call 17; (with_reducible refine (HC0.out _ (up_drew (Below.refl _ _))).mono ?_); rintro e x0 ⟨A9, c9, rfl, hk9, hr9, hb9⟩; have HX0 := Lib.hid (up (up_drew (Below.refl _ _)) hb9); have HR9 := Lib.hid hr9; clear hb9 hr9; obtain ⟨m0_0, m0_1, m0_2, m0_3, m0_4, m0_5, m0_6, m0_7, m0_8, m0_9, m0_10, m0_11⟩ := HSW.out _ HX0.out)
            try go_simp
            try (refine hK _ _ ?_)
            try clear hK
            try clear K
            try simp only [Act.put, List.setIfInBounds_toArray, List.set_cons_zero, List.set_cons_succ]
            refine wpAny_ready (rs := [4]) (by kernel_rfl) (by simp) ?_
            refine (AllReady.cons (o := ⟨_, _, _, _, _, _⟩) rfl (fun K hK => ?_) AllReady.nil)
            go_simp
            (go_at_call 16; (with_reducible refine (HC1.out _ _ _ _ _ HX0.out HR9.out (Nat.le_refl _)).mono ?_); rintro e x1 ⟨rfl, hbx⟩; have HX1 := Lib.hid (up HX0.out hbx); clear hbx; obtain ⟨m1_0, m1_1, m1_2, m1_3, m1_4, m1_5, m1_6, m1_7, m1_8, m1_9, m1_10, m1_11⟩ := HSW.out _ HX1.out)
            try go_simp
            try (refine hK _ _ ?_)
            try clear hK
            try clear K
            try simp only [Act.put, List.setIfInBounds_toArray, List.set_cons_zero, List.set_cons_succ]
            refine wpAny_take (i := 5) (oi := ⟨_, _, _, _, _, _⟩) (v := ?_) rfl (by kernel_rfl) (by kernel_rfl) (by kernel_rfl) (fun _ _ _ h => h) (Or.inl ⟨by rfl, ?_⟩) ?_
            rotate_left
            focus (intro w; go_simp; try (with_reducible rfl); done)
            try simp only [Act.put, List.setIfInBounds_toArray, List.set_cons_zero, List.set_cons_succ]
            refine wpAny_take (i := 6) (oi := ⟨_, _, _, _, _, _⟩) (v := ?_) rfl (by kernel_rfl) (by kernel_rfl) (by kernel_rfl) (fun _ _ _ h => h) (Or.inl ⟨by rfl, ?_⟩) ?_
            rotate_left
            focus (intro w; go_simp; try (with_reducible rfl); done)
            try simp only [Act.put, List.setIfInBounds_toArray, List.set_cons_zero, List.set_cons_succ]
            refine wpAny_ready (rs := [7]) (by kernel_rfl) (by simp) ?_
            refine (AllReady.cons (o := ⟨_, _, _, _, _, _⟩) rfl (fun K hK => ?_) AllReady.nil)
            go_simp
            try (refine hK _ _ ?_)
            try clear hK
            try clear K
            try simp only [Act.put, List.setIfInBounds_toArray, List.set_cons_zero, List.set_cons_succ]
            refine wpAny_ready (rs := [8]) (by kernel_rfl) (by simp) ?_
            refine (AllReady.cons (o := ⟨_, _, _, _, _, _⟩) rfl (fun K hK => ?_) AllReady.nil)
            go_simp
            (go_at_call 18; (with_reducible refine (HC2.out _ HX1.out).mono ?_); rintro e x2 ⟨rfl, hbx⟩; have HX2 := Lib.hid (up HX1.out hbx); clear hbx; obtain ⟨m2_0, m2_1, m2_2, m2_3, m2_4, m2_5, m2_6, m2_7, m2_8, m2_9, m2_10, m2_11⟩ := HSW.out _ HX2.out)
            try go_simp
            try (refine hK _ _ ?_)
            try clear hK
            try clear K
            try simp only [Act.put, List.setIfInBounds_toArray, List.set_cons_zero, List.set_cons_succ]
            refine wpAny_take (i := 9) (oi := ⟨_, _, _, _, _, _⟩) (v := ?_) rfl (by kernel_rfl) (by kernel_rfl) (by kernel_rfl) (fun _ _ _ h => h) (Or.inl ⟨by rfl, ?_⟩) ?_
            rotate_left
            focus (intro w; go_simp; try (with_reducible rfl); done)
            try simp only [Act.put, List.setIfInBounds_toArray, List.set_cons_zero, List.set_cons_succ]
            refine wpAny_take (i := 10) (oi := ⟨_, _, _, _, _, _⟩) (v := ?_) rfl (by kernel_rfl) (by kernel_rfl) (by kernel_rfl) (fun _ _ _ h => h) (Or.inl ⟨by rfl, ?_⟩) ?_
            rotate_left
            focus (intro w; go_simp; try (with_reducible rfl); done)
            try simp only [Act.put, List.setIfInBounds_toArray, List.set_cons_zero, List.set_cons_succ]
            refine wpAny_take (i := 11) (oi := ⟨_, _, _, _, _, _⟩) (v := ?_) rfl (by kernel_rfl) (by kernel_rfl) (by kernel_rfl) (fun _ _ _ h => h) (Or.inl ⟨by rfl, ?_⟩) ?_
            rotate_left
            focus (intro w; go_simp; try (with_reducible rfl); done)
            try simp only [Act.put, List.setIfInBounds_toArray, List.set_cons_zero, List.set_cons_succ]
            refine wpAny_take (i := 12) (oi := ⟨_, _, _, _, _, _⟩) (v := undef) rfl (by kernel_rfl) (by kernel_rfl) (by kernel_rfl) (fun _ _ _ h => h) (Or.inr ⟨by rfl, rfl⟩) ?_
            try simp only [Act.put, List.setIfInBounds_toArray, List.set_cons_zero, List.set_cons_succ]
            refine wpAny_take (i := 13) (oi := ⟨_, _, _, _, _, _⟩) (v := undef) rfl (by kernel_rfl) (by kernel_rfl) (by kernel_rfl) (fun _ _ _ h => h) (Or.inr ⟨by rfl, rfl⟩) ?_
            try simp only [Act.put, List.setIfInBounds_toArray, List.set_cons_zero, List.set_cons_succ]
            refine wpAny_take (i := 14) (oi := ⟨_, _, _, _, _, _⟩) (v := undef) rfl (by kernel_rfl) (by kernel_rfl) (by kernel_rfl) (fun _ _ _ h => h) (Or.inr ⟨by rfl, rfl⟩) ?_
            try simp only [Act.put, List.setIfInBounds_toArray, List.set_cons_zero, List.set_cons_succ]
            refine wpAny_take (i := 15) (oi := ⟨_, _, _, _, _, _⟩) (v := ?_) rfl (by kernel_rfl) (by kernel_rfl) (by kernel_rfl) (fun _ _ _ h => h) (Or.inl ⟨by rfl, ?_⟩) ?_
            rotate_left
            focus (intro w; go_simp; try (with_reducible rfl); done)
            try simp only [Act.put, List.setIfInBounds_toArray, List.set_cons_zero, List.set_cons_succ]
            refine wpAny_done (by kernel_rfl) ?_ _
            clear HSW HC0 HC1 HC2
            clear kk0 kk1 kk2 kk3 kk4 kk5 kk6 kk7 kk8 kk9 kk10 kk11
            clear m0_0 m0_1 m0_2 m0_3 m0_4 m0_5 m0_6 m0_7 m0_8 m0_9 m0_10 m0_11 m1_0 m1_1 m1_2 m1_3 m1_4 m1_5 m1_6 m1_7 m1_8 m1_9 m1_10 m1_11 m2_0 m2_1 m2_2 m2_3 m2_4 m2_5 m2_6 m2_7 m2_8 m2_9 m2_10 m2_11
            have hbt := HX2.out
            obtain ⟨w5, hww⟩ : ∃ x : World, x = x2 := ⟨_, rfl⟩
            subst hww
            have HEV_19 := Lib.hid (HEV_13.out.below hbt HEV_13.out.lt)
            have HEW_20 := Lib.hid (HEW_14.out.below hbt HEW_14.out.lt)
            have HEU_21 := Lib.hid (HEU_12.out.below hbt HEU_12.out.lt)
            clear HEV_13 HEW_14 HEU_12
            have HL_22 := Lib.hid (HL_15.out.keep hbt (by omega))
            have HM_23 := Lib.hid (HM_16.out.keep hbt (by omega))
            have HU_24 := Lib.hid (HU_17.out.keep hbt (by omega))
            have HB_25 := Lib.hid (up HB_18.out hbt)
            have hz_5 := hbt.size
            clear HL_15 HM_16 HU_17 HB_18
            clear hbt
            have HC0 := Lib.hid (show ∀ wx, Below w5.heap.size w5 wx → Calls Try.prog 17 #[.agg #[.int .i64 N, .int .i64 T, .int .i64 S, .slice A1 m c1], .agg #[.int .i64 N2, .int .i64 T2, .int .i64 S2, .slice A2 m2 c3]] wx (SnP1 0 0 0 [] 0 wx) from fun wx hb => (InstallSnapS_any N T S 0 _ m c1 A1 ps N2 T2 S2 0 _ m2 c3 A2 qs wx (HL_22.out.keep hb (by omega)) (Nat.le_trans (by omega) hb.size) (by omega) (by omega) (HM_23.out.keep hb (by omega)) (Nat.le_trans (by omega) hb.size) (by omega) (by omega)).mono fun _ _ h => SnPost1.p HIN.out HK3.out h)
            have HC1 := Lib.hid (show ∀ wx A9 c9 lo9 hi9, Below w5.heap.size w5 wx → Rd wx lo9 hi9 2 A9 0 (pvs []) → hi9 ≤ wx.heap.size → Calls Try.prog 16 #[.agg #[.int .i64 0, .int .i64 0, .int .i64 0, .slice A5 0 c5], .agg #[.int .i64 0, .int .i64 0, .int .i64 0, .slice A9 0 c9]] wx fun e w' => e = .returned (.bool true) ∧ Below wx.heap.size wx w' from fun wx A9 c9 lo9 hi9 hb hr9 hh9 => equalSnap_same 0 0 0 0 _ 0 c5 lo9 hi9 c9 A5 A9 [] wx (HU_24.out.keep hb (by omega)) (Nat.le_trans (by omega) hb.size) (by omega) hr9 hh9)
            have HSW := Lib.hid (show ∀ wx, Below w5.heap.size w5 wx → wx.cell? ⟨w1.heap.size, 0, none⟩ = some (.int .i64 N) ∧ wx.cell? ⟨w1.heap.size, 1, none⟩ = some (.int .i64 T) ∧ wx.cell? ⟨w1.heap.size, 2, none⟩ = some (.int .i64 S) ∧ wx.cell? ⟨w1.heap.size, 3, none⟩ = some (.slice A1 m c1) ∧ wx.cell? ⟨(w1.heap.size + 1), 0, none⟩ = some (.int .i64 N2) ∧ wx.cell? ⟨(w1.heap.size + 1), 1, none⟩ = some (.int .i64 T2) ∧ wx.cell? ⟨(w1.heap.size + 1), 2, none⟩ = some (.int .i64 S2) ∧ wx.cell? ⟨(w1.heap.size + 1), 3, none⟩ = some (.slice A2 m2 c3) ∧ wx.cell? ⟨w3.heap.size, 0, none⟩ = some (.int .i64 0) ∧ wx.cell? ⟨w3.heap.size, 1, none⟩ = some (.int .i64 0) ∧ wx.cell? ⟨w3.heap.size, 2, none⟩ = some (.int .i64 0) ∧ wx.cell? ⟨w3.heap.size, 3, none⟩ = some (.slice A5 0 c5) from fun wx hb => ⟨(hb.cell (by show w1.heap.size < w5.heap.size; omega)).trans (HEV_19.out.cell 0), (hb.cell (by show w1.heap.size < w5.heap.size; omega)).trans (HEV_19.out.cell 1), (hb.cell (by show w1.heap.size < w5.heap.size; omega)).trans (HEV_19.out.cell 2), (hb.cell (by show w1.heap.size < w5.heap.size; omega)).trans (HEV_19.out.cell 3), (hb.cell (by show (w1.heap.size + 1) < w5.heap.size; omega)).trans (HEW_20.out.cell 0), (hb.cell (by show (w1.heap.size + 1) < w5.heap.size; omega)).trans (HEW_20.out.cell 1), (hb.cell (by show (w1.heap.size + 1) < w5.heap.size; omega)).trans (HEW_20.out.cell 2), (hb.cell (by show (w1.heap.size + 1) < w5.heap.size; omega)).trans (HEW_20.out.cell 3), (hb.cell (by show w3.heap.size < w5.heap.size; omega)).trans (HEU_21.out.cell 0), (hb.cell (by show w3.heap.size < w5.heap.size; omega)).trans (HEU_21.out.cell 1), (hb.cell (by show w3.heap.size < w5.heap.size; omega)).trans (HEU_21.out.cell 2), (hb.cell (by show w3.heap.size < w5.heap.size; omega)).trans (HEU_21.out.cell 3)⟩)
            obtain ⟨kk0, kk1, kk2, kk3, kk4, kk5, kk6, kk7, kk8, kk9, kk10, kk11⟩ := HSW.out _ (Below.refl _ _)
            go_wp2_with (fail)
            clear kk0 kk1 kk2 kk3 kk4 kk5 kk6 kk7 kk8 kk9 kk10 kk11
            go_region_held3 (fun wx => wx.cell? ⟨w1.heap.size, 0, none⟩ = some (.int .i64 N) ∧ wx.cell? ⟨w1.heap.size, 1, none⟩ = some (.int .i64 T) ∧ wx.cell? ⟨w1.heap.size, 2, none⟩ = some (.int .i64 S) ∧ wx.cell? ⟨w1.heap.size, 3, none⟩ = some (.slice A1 m c1) ∧ wx.cell? ⟨(w1.heap.size + 1), 0, none⟩ = some (.int .i64 N2) ∧ wx.cell? ⟨(w1.heap.size + 1), 1, none⟩ = some (.int .i64 T2) ∧ wx.cell? ⟨(w1.heap.size + 1), 2, none⟩ = some (.int .i64 S2) ∧ wx.cell? ⟨(w1.heap.size + 1), 3, none⟩ = some (.slice A2 m2 c3) ∧ wx.cell? ⟨w3.heap.size, 0, none⟩ = some (.int .i64 0) ∧ wx.cell? ⟨w3.heap.size, 1, none⟩ = some (.int .i64 0) ∧ wx.cell? ⟨w3.heap.size, 2, none⟩ = some (.int .i64 0) ∧ wx.cell? ⟨w3.heap.size, 3, none⟩ = some (.slice A5 0 c5))
              (first | with_reducible exact HSW.out _ (Below.refl _ _) | with_reducible exact HSW.out _ (up_drew (Below.refl _ _)) | with_reducible exact HSW.out _ (HX0.out) | with_reducible exact HSW.out _ (HX1.out))
              ((first
                | (go_at_call 17; (with_reducible refine (HC0.out _ (up_drew (Below.refl _ _))).mono ?_); rintro e x0 ⟨A9, c9, rfl, hk9, hr9, hb9⟩; have HX0 := Lib.hid (up (up_drew (Below.refl _ _)) hb9); have HR9 := Lib.hid hr9; clear hb9 hr9)
                | (go_at_call 16; (with_reducible refine (HC1.out _ _ _ _ _ HX0.out HR9.out (Nat.le_refl _)).mono ?_); rintro e x1 ⟨rfl, hbx⟩; have HX1 := Lib.hid (up HX0.out hbx); clear hbx)
                | fail "no arm"))
            all_goals
              go_wp2
              go_ret
              exact ⟨rfl, up HB_25.out HX1.out⟩
          · go_simp
            (go_at_call 17; (with_reducible refine (HC0.out _ (up_drew (Below.refl _ _))).mono ?_); rintro e x0 ⟨A9, c9, rfl, hk9, hr9, hb9⟩; have HX0 := Lib.hid (up (up_drew (Below.refl _ _)) hb9); have HR9 := Lib.hid hr9; clear hb9 hr9; obtain ⟨m0_0, m0_1, m0_2, m0_3, m0_4, m0_5, m0_6, m0_7, m0_8, m0_9, m0_10, m0_11⟩ := HSW.out _ HX0.out)
            try go_simp
            try (refine hK _ _ ?_)
            try clear hK
            try clear K
            try simp only [Act.put, List.setIfInBounds_toArray, List.set_cons_zero, List.set_cons_succ]
            refine wpAny_ready (rs := [0]) (by kernel_rfl) (by simp) ?_
            refine (AllReady.cons (o := ⟨_, _, _, _, _, _⟩) rfl (fun K hK => ?_) AllReady.nil)
            go_simp
            try (refine hK _ _ ?_)
            try clear hK
            try clear K
            try simp only [Act.put, List.setIfInBounds_toArray, List.set_cons_zero, List.set_cons_succ]
            refine wpAny_ready (rs := [4]) (by kernel_rfl) (by simp) ?_
            refine (AllReady.cons (o := ⟨_, _, _, _, _, _⟩) rfl (fun K hK => ?_) AllReady.nil)
            go_simp
            (go_at_call 16; (with_reducible refine (HC1.out _ _ _ _ _ HX0.out HR9.out (Nat.le_refl _)).mono ?_); rintro e x1 ⟨rfl, hbx⟩; have HX1 := Lib.hid (up HX0.out hbx); clear hbx; obtain ⟨m1_0, m1_1, m1_2, m1_3, m1_4, m1_5, m1_6, m1_7, m1_8, m1_9, m1_10, m1_11⟩ := HSW.out _ HX1.out)
            try go_simp
            try (refine hK _ _ ?_)
            try clear hK
            try clear K
            try simp only [Act.put, List.setIfInBounds_toArray, List.set_cons_zero, List.set_cons_succ]
            refine wpAny_take (i := 5) (oi := ⟨_, _, _, _, _, _⟩) (v := ?_) rfl (by kernel_rfl) (by kernel_rfl) (by kernel_rfl) (fun _ _ _ h => h) (Or.inl ⟨by rfl, ?_⟩) ?_
            rotate_left
            focus (intro w; go_simp; try (with_reducible rfl); done)
            try simp only [Act.put, List.setIfInBounds_toArray, List.set_cons_zero, List.set_cons_succ]
            refine wpAny_take (i := 6) (oi := ⟨_, _, _, _, _, _⟩) (v := ?_) rfl (by kernel_rfl) (by kernel_rfl) (by kernel_rfl) (fun _ _ _ h => h) (Or.inl ⟨by rfl, ?_⟩) ?_
            rotate_left
            focus (intro w; go_simp; try (with_reducible rfl); done)
            try simp only [Act.put, List.setIfInBounds_toArray, List.set_cons_zero, List.set_cons_succ]
            refine wpAny_ready (rs := [7]) (by kernel_rfl) (by simp) ?_
            refine (AllReady.cons (o := ⟨_, _, _, _, _, _⟩) rfl (fun K hK => ?_) AllReady.nil)
            go_simp
            try (refine hK _ _ ?_)
            try clear hK
            try clear K
            try simp only [Act.put, List.setIfInBounds_toArray, List.set_cons_zero, List.set_cons_succ]
            refine wpAny_ready (rs := [8]) (by kernel_rfl) (by simp) ?_
            refine (AllReady.cons (o := ⟨_, _, _, _, _, _⟩) rfl (fun K hK => ?_) AllReady.nil)
            go_simp
            (go_at_call 18; (with_reducible refine (HC2.out _ HX1.out).mono ?_); rintro e x2 ⟨rfl, hbx⟩; have HX2 := Lib.hid (up HX1.out hbx); clear hbx; obtain ⟨m2_0, m2_1, m2_2, m2_3, m2_4, m2_5, m2_6, m2_7, m2_8, m2_9, m2_10, m2_11⟩ := HSW.out _ HX2.out)
            try go_simp
            try (refine hK _ _ ?_)
            try clear hK
            try clear K
            try simp only [Act.put, List.setIfInBounds_toArray, List.set_cons_zero, List.set_cons_succ]
            refine wpAny_take (i := 9) (oi := ⟨_, _, _, _, _, _⟩) (v := ?_) rfl (by kernel_rfl) (by kernel_rfl) (by kernel_rfl) (fun _ _ _ h => h) (Or.inl ⟨by rfl, ?_⟩) ?_
            rotate_left
            focus (intro w; go_simp; try (with_reducible rfl); done)
            try simp only [Act.put, List.setIfInBounds_toArray, List.set_cons_zero, List.set_cons_succ]
            refine wpAny_take (i := 10) (oi := ⟨_, _, _, _, _, _⟩) (v := ?_) rfl (by kernel_rfl) (by kernel_rfl) (by kernel_rfl) (fun _ _ _ h => h) (Or.inl ⟨by rfl, ?_⟩) ?_
            rotate_left
            focus (intro w; go_simp; try (with_reducible rfl); done)
            try simp only [Act.put, List.setIfInBounds_toArray, List.set_cons_zero, List.set_cons_succ]
            refine wpAny_take (i := 11) (oi := ⟨_, _, _, _, _, _⟩) (v := ?_) rfl (by kernel_rfl) (by kernel_rfl) (by kernel_rfl) (fun _ _ _ h => h) (Or.inl ⟨by rfl, ?_⟩) ?_
            rotate_left
            focus (intro w; go_simp; try (with_reducible rfl); done)
            try simp only [Act.put, List.setIfInBounds_toArray, List.set_cons_zero, List.set_cons_succ]
            refine wpAny_take (i := 12) (oi := ⟨_, _, _, _, _, _⟩) (v := undef) rfl (by kernel_rfl) (by kernel_rfl) (by kernel_rfl) (fun _ _ _ h => h) (Or.inr ⟨by rfl, rfl⟩) ?_
            try simp only [Act.put, List.setIfInBounds_toArray, List.set_cons_zero, List.set_cons_succ]
            refine wpAny_take (i := 13) (oi := ⟨_, _, _, _, _, _⟩) (v := undef) rfl (by kernel_rfl) (by kernel_rfl) (by kernel_rfl) (fun _ _ _ h => h) (Or.inr ⟨by rfl, rfl⟩) ?_
            try simp only [Act.put, List.setIfInBounds_toArray, List.set_cons_zero, List.set_cons_succ]
            refine wpAny_take (i := 14) (oi := ⟨_, _, _, _, _, _⟩) (v := undef) rfl (by kernel_rfl) (by kernel_rfl) (by kernel_rfl) (fun _ _ _ h => h) (Or.inr ⟨by rfl, rfl⟩) ?_
            try simp only [Act.put, List.setIfInBounds_toArray, List.set_cons_zero, List.set_cons_succ]
            refine wpAny_take (i := 15) (oi := ⟨_, _, _, _, _, _⟩) (v := ?_) rfl (by kernel_rfl) (by kernel_rfl) (by kernel_rfl) (fun _ _ _ h => h) (Or.inl ⟨by rfl, ?_⟩) ?_
            rotate_left
            focus (intro w; go_simp; try (with_reducible rfl); done)
            try simp only [Act.put, List.setIfInBounds_toArray, List.set_cons_zero, List.set_cons_succ]
            refine wpAny_done (by kernel_rfl) ?_ _
            clear HSW HC0 HC1 HC2
            clear kk0 kk1 kk2 kk3 kk4 kk5 kk6 kk7 kk8 kk9 kk10 kk11
            clear m0_0 m0_1 m0_2 m0_3 m0_4 m0_5 m0_6 m0_7 m0_8 m0_9 m0_10 m0_11 m1_0 m1_1 m1_2 m1_3 m1_4 m1_5 m1_6 m1_7 m1_8 m1_9 m1_10 m1_11 m2_0 m2_1 m2_2 m2_3 m2_4 m2_5 m2_6 m2_7 m2_8 m2_9 m2_10 m2_11
            have hbt := HX2.out
            obtain ⟨w5, hww⟩ : ∃ x : World, x = x2 := ⟨_, rfl⟩
            subst hww
            have HEV_19 := Lib.hid (HEV_13.out.below hbt HEV_13.out.lt)
            have HEW_20 := Lib.hid (HEW_14.out.below hbt HEW_14.out.lt)
            have HEU_21 := Lib.hid (HEU_12.out.below hbt HEU_12.out.lt)
            clear HEV_13 HEW_14 HEU_12
            have HL_22 := Lib.hid (HL_15.out.keep hbt (by omega))
            have HM_23 := Lib.hid (HM_16.out.keep hbt (by omega))
            have HU_24 := Lib.hid (HU_17.out.keep hbt (by omega))
            have HB_25 := Lib.hid (up HB_18.out hbt)
            have hz_5 := hbt.size
            clear HL_15 HM_16 HU_17 HB_18
            clear hbt
            have HC0 := Lib.hid (show ∀ wx, Below w5.heap.size w5 wx → Calls Try.prog 17 #[.agg #[.int .i64 N, .int .i64 T, .int .i64 S, .slice A1 m c1], .agg #[.int .i64 N2, .int .i64 T2, .int .i64 S2, .slice A2 m2 c3]] wx (SnP1 0 0 0 [] 0 wx) from fun wx hb => (InstallSnapS_any N T S 0 _ m c1 A1 ps N2 T2 S2 0 _ m2 c3 A2 qs wx (HL_22.out.keep hb (by omega)) (Nat.le_trans (by omega) hb.size) (by omega) (by omega) (HM_23.out.keep hb (by omega)) (Nat.le_trans (by omega) hb.size) (by omega) (by omega)).mono fun _ _ h => SnPost1.p HIN.out HK3.out h)
            have HC1 := Lib.hid (show ∀ wx A9 c9 lo9 hi9, Below w5.heap.size w5 wx → Rd wx lo9 hi9 2 A9 0 (pvs []) → hi9 ≤ wx.heap.size → Calls Try.prog 16 #[.agg #[.int .i64 0, .int .i64 0, .int .i64 0, .slice A5 0 c5], .agg #[.int .i64 0, .int .i64 0, .int .i64 0, .slice A9 0 c9]] wx fun e w' => e = .returned (.bool true) ∧ Below wx.heap.size wx w' from fun wx A9 c9 lo9 hi9 hb hr9 hh9 => equalSnap_same 0 0 0 0 _ 0 c5 lo9 hi9 c9 A5 A9 [] wx (HU_24.out.keep hb (by omega)) (Nat.le_trans (by omega) hb.size) (by omega) hr9 hh9)
            have HSW := Lib.hid (show ∀ wx, Below w5.heap.size w5 wx → wx.cell? ⟨w1.heap.size, 0, none⟩ = some (.int .i64 N) ∧ wx.cell? ⟨w1.heap.size, 1, none⟩ = some (.int .i64 T) ∧ wx.cell? ⟨w1.heap.size, 2, none⟩ = some (.int .i64 S) ∧ wx.cell? ⟨w1.heap.size, 3, none⟩ = some (.slice A1 m c1) ∧ wx.cell? ⟨(w1.heap.size + 1), 0, none⟩ = some (.int .i64 N2) ∧ wx.cell? ⟨(w1.heap.size + 1), 1, none⟩ = some (.int .i64 T2) ∧ wx.cell? ⟨(w1.heap.size + 1), 2, none⟩ = some (.int .i64 S2) ∧ wx.cell? ⟨(w1.heap.size + 1), 3, none⟩ = some (.slice A2 m2 c3) ∧ wx.cell? ⟨w3.heap.size, 0, none⟩ = some (.int .i64 0) ∧ wx.cell? ⟨w3.heap.size, 1, none⟩ = some (.int .i64 0) ∧ wx.cell? ⟨w3.heap.size, 2, none⟩ = some (.int .i64 0) ∧ wx.cell? ⟨w3.heap.size, 3, none⟩ = some (.slice A5 0 c5) from fun wx hb => ⟨(hb.cell (by show w1.heap.size < w5.heap.size; omega)).trans (HEV_19.out.cell 0), (hb.cell (by show w1.heap.size < w5.heap.size; omega)).trans (HEV_19.out.cell 1), (hb.cell (by show w1.heap.size < w5.heap.size; omega)).trans (HEV_19.out.cell 2), (hb.cell (by show w1.heap.size < w5.heap.size; omega)).trans (HEV_19.out.cell 3), (hb.cell (by show (w1.heap.size + 1) < w5.heap.size; omega)).trans (HEW_20.out.cell 0), (hb.cell (by show (w1.heap.size + 1) < w5.heap.size; omega)).trans (HEW_20.out.cell 1), (hb.cell (by show (w1.heap.size + 1) < w5.heap.size; omega)).trans (HEW_20.out.cell 2), (hb.cell (by show (w1.heap.size + 1) < w5.heap.size; omega)).trans (HEW_20.out.cell 3), (hb.cell (by show w3.heap.size < w5.heap.size; omega)).trans (HEU_21.out.cell 0), (hb.cell (by show w3.heap.size < w5.heap.size; omega)).trans (HEU_21.out.cell 1), (hb.cell (by show w3.heap.size < w5.heap.size; omega)).trans (HEU_21.out.cell 2), (hb.cell (by show w3.heap.size < w5.heap.size; omega)).trans (HEU_21.out.cell 3)⟩)
            obtain ⟨kk0, kk1, kk2, kk3, kk4, kk5, kk6, kk7, kk8, kk9, kk10, kk11⟩ := HSW.out _ (Below.refl _ _)
            go_wp2_with (fail)
            clear kk0 kk1 kk2 kk3 kk4 kk5 kk6 kk7 kk8 kk9 kk10 kk11
            go_region_held3 (fun wx => wx.cell? ⟨w1.heap.size, 0, none⟩ = some (.int .i64 N) ∧ wx.cell? ⟨w1.heap.size, 1, none⟩ = some (.int .i64 T) ∧ wx.cell? ⟨w1.heap.size, 2, none⟩ = some (.int .i64 S) ∧ wx.cell? ⟨w1.heap.size, 3, none⟩ = some (.slice A1 m c1) ∧ wx.cell? ⟨(w1.heap.size + 1), 0, none⟩ = some (.int .i64 N2) ∧ wx.cell? ⟨(w1.heap.size + 1), 1, none⟩ = some (.int .i64 T2) ∧ wx.cell? ⟨(w1.heap.size + 1), 2, none⟩ = some (.int .i64 S2) ∧ wx.cell? ⟨(w1.heap.size + 1), 3, none⟩ = some (.slice A2 m2 c3) ∧ wx.cell? ⟨w3.heap.size, 0, none⟩ = some (.int .i64 0) ∧ wx.cell? ⟨w3.heap.size, 1, none⟩ = some (.int .i64 0) ∧ wx.cell? ⟨w3.heap.size, 2, none⟩ = some (.int .i64 0) ∧ wx.cell? ⟨w3.heap.size, 3, none⟩ = some (.slice A5 0 c5))
              (first | with_reducible exact HSW.out _ (Below.refl _ _) | with_reducible exact HSW.out _ (up_drew (Below.refl _ _)) | with_reducible exact HSW.out _ (HX0.out) | with_reducible exact HSW.out _ (HX1.out))
              ((first
                | (go_at_call 17; (with_reducible refine (HC0.out _ (up_drew (Below.refl _ _))).mono ?_); rintro e x0 ⟨A9, c9, rfl, hk9, hr9, hb9⟩; have HX0 := Lib.hid (up (up_drew (Below.refl _ _)) hb9); have HR9 := Lib.hid hr9; clear hb9 hr9)
                | (go_at_call 16; (with_reducible refine (HC1.out _ _ _ _ _ HX0.out HR9.out (Nat.le_refl _)).mono ?_); rintro e x1 ⟨rfl, hbx⟩; have HX1 := Lib.hid (up HX0.out hbx); clear hbx)
                | fail "no arm"))
            all_goals
              go_wp2
              go_ret
              exact ⟨rfl, up HB_25.out HX1.out⟩
    | true =>
      have HV1 := Lib.hid hV1
      have HV2 := Lib.hid hV2
      clear hV1 hV2
      have HIN := Lib.hid (inst_bad (R := ps) (R' := qs) (N := N) (T := T) (S := S) (N' := N2) (T' := T2) (S' := S2) (by rw [HV1.out, HV2.out]; rfl))
      have HK3 := Lib.hid (show ([] : List En).length = 0 from rfl)
      (with_reducible refine ((InstallSnapI_any N T S 0 _ m c1 A1 ps N2 T2 S2 0 _ m2 c3 A2 qs _ HL_3.out (by omega) (by omega) (by omega) HM_4.out (by omega) (by omega) (by omega)).mono fun _ _ h => SnPost1.p HIN.out HK3.out h).mono ?_)
      rintro e w3 ⟨A5, c5, rfl, hk5, hrd5, hbt⟩
      have HEV_26 := Lib.hid (HEV.out.below hbt HEV.out.lt)
      have HEW_27 := Lib.hid (HEW.out.below hbt HEW.out.lt)
      clear HEV HEW
      have HL_28 := Lib.hid (HL_3.out.keep hbt (by omega))
      have HM_29 := Lib.hid (HM_4.out.keep hbt (by omega))
      have HB_30 := Lib.hid (up HB_5.out hbt)
      have hz_3 := hbt.size
      clear HL_3 HM_4 HB_5
      have HU_31 := Lib.hid (hrd5.wide (Nat.zero_le _) (Nat.le_refl _))
      clear hrd5
      clear hbt
      have HEU_32 := Lib.hid (Blk.new w3 32 #[.int .i64 0, .int .i64 0, .int .i64 0, .slice A5 0 c5])
      have hbt := up_alloc (Below.refl _ w3) (.cells #[.int .i64 0, .int .i64 0, .int .i64 0, .slice A5 0 c5] 32)
      have hs_4 : (w3.alloc (.cells #[.int .i64 0, .int .i64 0, .int .i64 0, .slice A5 0 c5] 32)).heap.size = w3.heap.size + 1 := by simp
      have HEV_33 := Lib.hid (HEV_26.out.below hbt HEV_26.out.lt)
      have HEW_34 := Lib.hid (HEW_27.out.below hbt HEW_27.out.lt)
      clear HEV_26 HEW_27
      have HL_35 := Lib.hid (HL_28.out.keep hbt (by omega))
      have HM_36 := Lib.hid (HM_29.out.keep hbt (by omega))
      have HU_37 := Lib.hid (HU_31.out.keep hbt (by omega))
      have HB_38 := Lib.hid (up HB_30.out hbt)
      have hz_4 := hbt.size
      clear HL_28 HM_29 HU_31 HB_30
      clear hbt
      go_wp2_with (fail)
      generalize w3.alloc (.cells #[.int .i64 0, .int .i64 0, .int .i64 0, .slice A5 0 c5] 32) = w4 at *
      have hgU := HEU_32.out.lt
      have HC0 := Lib.hid (show ∀ wx, Below w4.heap.size w4 wx → Calls Try.prog 17 #[.agg #[.int .i64 N, .int .i64 T, .int .i64 S, .slice A1 m c1], .agg #[.int .i64 N2, .int .i64 T2, .int .i64 S2, .slice A2 m2 c3]] wx (SnP1 0 0 0 [] 0 wx) from fun wx hb => (InstallSnapS_any N T S 0 _ m c1 A1 ps N2 T2 S2 0 _ m2 c3 A2 qs wx (HL_35.out.keep hb (by omega)) (Nat.le_trans (by omega) hb.size) (by omega) (by omega) (HM_36.out.keep hb (by omega)) (Nat.le_trans (by omega) hb.size) (by omega) (by omega)).mono fun _ _ h => SnPost1.p HIN.out HK3.out h)
      have HC1 := Lib.hid (show ∀ wx A9 c9 lo9 hi9, Below w4.heap.size w4 wx → Rd wx lo9 hi9 2 A9 0 (pvs []) → hi9 ≤ wx.heap.size → Calls Try.prog 16 #[.agg #[.int .i64 0, .int .i64 0, .int .i64 0, .slice A5 0 c5], .agg #[.int .i64 0, .int .i64 0, .int .i64 0, .slice A9 0 c9]] wx fun e w' => e = .returned (.bool true) ∧ Below wx.heap.size wx w' from fun wx A9 c9 lo9 hi9 hb hr9 hh9 => equalSnap_same 0 0 0 0 _ 0 c5 lo9 hi9 c9 A5 A9 [] wx (HU_37.out.keep hb (by omega)) (Nat.le_trans (by omega) hb.size) (by omega) hr9 hh9)
      have HC2 := Lib.hid (show ∀ wx, Below w4.heap.size w4 wx → Calls Try.prog 18 #[.agg #[.int .i64 N, .int .i64 T, .int .i64 S, .slice A1 m c1]] wx fun e w' => e = .returned (.bool false) ∧ Below wx.heap.size wx w' from fun wx hb => (ValidSnapI_any N T S 0 _ m c1 A1 ps wx (HL_35.out.keep hb (by omega)) (Nat.le_trans (by omega) hb.size) (by omega) (by omega)).mono fun e w' ⟨h1, h2⟩ => ⟨by rw [h1, HV1.out], h2⟩)
      have HSW := Lib.hid (show ∀ wx, Below w4.heap.size w4 wx → wx.cell? ⟨w1.heap.size, 0, none⟩ = some (.int .i64 N) ∧ wx.cell? ⟨w1.heap.size, 1, none⟩ = some (.int .i64 T) ∧ wx.cell? ⟨w1.heap.size, 2, none⟩ = some (.int .i64 S) ∧ wx.cell? ⟨w1.heap.size, 3, none⟩ = some (.slice A1 m c1) ∧ wx.cell? ⟨(w1.heap.size + 1), 0, none⟩ = some (.int .i64 N2) ∧ wx.cell? ⟨(w1.heap.size + 1), 1, none⟩ = some (.int .i64 T2) ∧ wx.cell? ⟨(w1.heap.size + 1), 2, none⟩ = some (.int .i64 S2) ∧ wx.cell? ⟨(w1.heap.size + 1), 3, none⟩ = some (.slice A2 m2 c3) ∧ wx.cell? ⟨w3.heap.size, 0, none⟩ = some (.int .i64 0) ∧ wx.cell? ⟨w3.heap.size, 1, none⟩ = some (.int .i64 0) ∧ wx.cell? ⟨w3.heap.size, 2, none⟩ = some (.int .i64 0) ∧ wx.cell? ⟨w3.heap.size, 3, none⟩ = some (.slice A5 0 c5) from fun wx hb => ⟨(hb.cell (by show w1.heap.size < w4.heap.size; omega)).trans (HEV_33.out.cell 0), (hb.cell (by show w1.heap.size < w4.heap.size; omega)).trans (HEV_33.out.cell 1), (hb.cell (by show w1.heap.size < w4.heap.size; omega)).trans (HEV_33.out.cell 2), (hb.cell (by show w1.heap.size < w4.heap.size; omega)).trans (HEV_33.out.cell 3), (hb.cell (by show (w1.heap.size + 1) < w4.heap.size; omega)).trans (HEW_34.out.cell 0), (hb.cell (by show (w1.heap.size + 1) < w4.heap.size; omega)).trans (HEW_34.out.cell 1), (hb.cell (by show (w1.heap.size + 1) < w4.heap.size; omega)).trans (HEW_34.out.cell 2), (hb.cell (by show (w1.heap.size + 1) < w4.heap.size; omega)).trans (HEW_34.out.cell 3), (hb.cell (by show w3.heap.size < w4.heap.size; omega)).trans (HEU_32.out.cell 0), (hb.cell (by show w3.heap.size < w4.heap.size; omega)).trans (HEU_32.out.cell 1), (hb.cell (by show w3.heap.size < w4.heap.size; omega)).trans (HEU_32.out.cell 2), (hb.cell (by show w3.heap.size < w4.heap.size; omega)).trans (HEU_32.out.cell 3)⟩)
      obtain ⟨kk0, kk1, kk2, kk3, kk4, kk5, kk6, kk7, kk8, kk9, kk10, kk11⟩ := HSW.out _ (Below.refl _ _)
      go_wp2_with (fail)
      refine wp_region_any (by kernel_rfl) ?_
      try (change wpAny _ _ _ _ _ _ _ (World.drew _))
      refine wpAny_ready (rs := [0, 1, 2]) (by kernel_rfl) (by simp) ?_
      refine (AllReady.cons (o := ⟨_, _, _, _, _, _⟩) rfl (fun K hK => ?_) (AllReady.cons (o := ⟨_, _, _, _, _, _⟩) rfl (fun K hK => ?_) (AllReady.cons (o := ⟨_, _, _, _, _, _⟩) rfl (fun K hK => ?_) AllReady.nil)))
      · go_simp
        try (refine hK _ _ ?_)
        try clear hK
        try clear K
        try simp only [Act.put, List.setIfInBounds_toArray, List.set_cons_zero, List.set_cons_succ]
        refine wpAny_ready (rs := [1, 2]) (by kernel_rfl) (by simp) ?_
        refine (AllReady.cons (o := ⟨_, _, _, _, _, _⟩) rfl (fun K hK => ?_) (AllReady.cons (o := ⟨_, _, _, _, _, _⟩) rfl (fun K hK => ?_) AllReady.nil))
        · go_simp
          try (refine hK _ _ ?_)
          try clear hK
          try clear K
          try simp only [Act.put, List.setIfInBounds_toArray, List.set_cons_zero, List.set_cons_succ]
          refine wpAny_ready (rs := [2]) (by kernel_rfl) (by simp) ?_
          refine (AllReady.cons (o := ⟨_, _, _, _, _, _⟩) rfl (fun K hK => ?_) AllReady.nil)
          go_simp
          try (refine hK _ _ ?_)
          try clear hK
          try clear K
          try simp only [Act.put, List.setIfInBounds_toArray, List.set_cons_zero, List.set_cons_succ]
          refine wpAny_ready (rs := [3]) (by kernel_rfl) (by simp) ?_
          refine (AllReady.cons (o := ⟨_, _, _, _, _, _⟩) rfl (fun K hK => ?_) AllReady.nil)
          go_simp
          (go_at_call 17; (with_reducible refine (HC0.out _ (up_drew (Below.refl _ _))).mono ?_); rintro e x0 ⟨A9, c9, rfl, hk9, hr9, hb9⟩; have HX0 := Lib.hid (up (up_drew (Below.refl _ _)) hb9); have HR9 := Lib.hid hr9; clear hb9 hr9; obtain ⟨m0_0, m0_1, m0_2, m0_3, m0_4, m0_5, m0_6, m0_7, m0_8, m0_9, m0_10, m0_11⟩ := HSW.out _ HX0.out)
          try go_simp
          try (refine hK _ _ ?_)
          try clear hK
          try clear K
          try simp only [Act.put, List.setIfInBounds_toArray, List.set_cons_zero, List.set_cons_succ]
          refine wpAny_ready (rs := [4]) (by kernel_rfl) (by simp) ?_
          refine (AllReady.cons (o := ⟨_, _, _, _, _, _⟩) rfl (fun K hK => ?_) AllReady.nil)
          go_simp
          (go_at_call 16; (with_reducible refine (HC1.out _ _ _ _ _ HX0.out HR9.out (Nat.le_refl _)).mono ?_); rintro e x1 ⟨rfl, hbx⟩; have HX1 := Lib.hid (up HX0.out hbx); clear hbx; obtain ⟨m1_0, m1_1, m1_2, m1_3, m1_4, m1_5, m1_6, m1_7, m1_8, m1_9, m1_10, m1_11⟩ := HSW.out _ HX1.out)
          try go_simp
          try (refine hK _ _ ?_)
          try clear hK
          try clear K
          try simp only [Act.put, List.setIfInBounds_toArray, List.set_cons_zero, List.set_cons_succ]
          refine wpAny_take (i := 5) (oi := ⟨_, _, _, _, _, _⟩) (v := ?_) rfl (by kernel_rfl) (by kernel_rfl) (by kernel_rfl) (fun _ _ _ h => h) (Or.inl ⟨by rfl, ?_⟩) ?_
          rotate_left
          focus (intro w; go_simp; try (with_reducible rfl); done)
          try simp only [Act.put, List.setIfInBounds_toArray, List.set_cons_zero, List.set_cons_succ]
          refine wpAny_take (i := 6) (oi := ⟨_, _, _, _, _, _⟩) (v := ?_) rfl (by kernel_rfl) (by kernel_rfl) (by kernel_rfl) (fun _ _ _ h => h) (Or.inl ⟨by rfl, ?_⟩) ?_
          rotate_left
          focus (intro w; go_simp; try (with_reducible rfl); done)
          try simp only [Act.put, List.setIfInBounds_toArray, List.set_cons_zero, List.set_cons_succ]
          refine wpAny_ready (rs := [7]) (by kernel_rfl) (by simp) ?_
          refine (AllReady.cons (o := ⟨_, _, _, _, _, _⟩) rfl (fun K hK => ?_) AllReady.nil)
          go_simp
          try (refine hK _ _ ?_)
          try clear hK
          try clear K
          try simp only [Act.put, List.setIfInBounds_toArray, List.set_cons_zero, List.set_cons_succ]
          refine wpAny_ready (rs := [8]) (by kernel_rfl) (by simp) ?_
          refine (AllReady.cons (o := ⟨_, _, _, _, _, _⟩) rfl (fun K hK => ?_) AllReady.nil)
          go_simp
          (go_at_call 18; (with_reducible refine (HC2.out _ HX1.out).mono ?_); rintro e x2 ⟨rfl, hbx⟩; have HX2 := Lib.hid (up HX1.out hbx); clear hbx; obtain ⟨m2_0, m2_1, m2_2, m2_3, m2_4, m2_5, m2_6, m2_7, m2_8, m2_9, m2_10, m2_11⟩ := HSW.out _ HX2.out)
          try go_simp
          try (refine hK _ _ ?_)
          try clear hK
          try clear K
          try simp only [Act.put, List.setIfInBounds_toArray, List.set_cons_zero, List.set_cons_succ]
          refine wpAny_take (i := 9) (oi := ⟨_, _, _, _, _, _⟩) (v := ?_) rfl (by kernel_rfl) (by kernel_rfl) (by kernel_rfl) (fun _ _ _ h => h) (Or.inl ⟨by rfl, ?_⟩) ?_
          rotate_left
          focus (intro w; go_simp; try (with_reducible rfl); done)
          try simp only [Act.put, List.setIfInBounds_toArray, List.set_cons_zero, List.set_cons_succ]
          refine wpAny_take (i := 10) (oi := ⟨_, _, _, _, _, _⟩) (v := ?_) rfl (by kernel_rfl) (by kernel_rfl) (by kernel_rfl) (fun _ _ _ h => h) (Or.inl ⟨by rfl, ?_⟩) ?_
          rotate_left
          focus (intro w; go_simp; try (with_reducible rfl); done)
          try simp only [Act.put, List.setIfInBounds_toArray, List.set_cons_zero, List.set_cons_succ]
          refine wpAny_take (i := 11) (oi := ⟨_, _, _, _, _, _⟩) (v := ?_) rfl (by kernel_rfl) (by kernel_rfl) (by kernel_rfl) (fun _ _ _ h => h) (Or.inl ⟨by rfl, ?_⟩) ?_
          rotate_left
          focus (intro w; go_simp; try (with_reducible rfl); done)
          try simp only [Act.put, List.setIfInBounds_toArray, List.set_cons_zero, List.set_cons_succ]
          refine wpAny_take (i := 12) (oi := ⟨_, _, _, _, _, _⟩) (v := undef) rfl (by kernel_rfl) (by kernel_rfl) (by kernel_rfl) (fun _ _ _ h => h) (Or.inr ⟨by rfl, rfl⟩) ?_
          try simp only [Act.put, List.setIfInBounds_toArray, List.set_cons_zero, List.set_cons_succ]
          refine wpAny_take (i := 13) (oi := ⟨_, _, _, _, _, _⟩) (v := undef) rfl (by kernel_rfl) (by kernel_rfl) (by kernel_rfl) (fun _ _ _ h => h) (Or.inr ⟨by rfl, rfl⟩) ?_
          try simp only [Act.put, List.setIfInBounds_toArray, List.set_cons_zero, List.set_cons_succ]
          refine wpAny_take (i := 14) (oi := ⟨_, _, _, _, _, _⟩) (v := undef) rfl (by kernel_rfl) (by kernel_rfl) (by kernel_rfl) (fun _ _ _ h => h) (Or.inr ⟨by rfl, rfl⟩) ?_
          try simp only [Act.put, List.setIfInBounds_toArray, List.set_cons_zero, List.set_cons_succ]
          refine wpAny_take (i := 15) (oi := ⟨_, _, _, _, _, _⟩) (v := ?_) rfl (by kernel_rfl) (by kernel_rfl) (by kernel_rfl) (fun _ _ _ h => h) (Or.inl ⟨by rfl, ?_⟩) ?_
          rotate_left
          focus (intro w; go_simp; try (with_reducible rfl); done)
          try simp only [Act.put, List.setIfInBounds_toArray, List.set_cons_zero, List.set_cons_succ]
          refine wpAny_done (by kernel_rfl) ?_ _
          clear HSW HC0 HC1 HC2
          clear kk0 kk1 kk2 kk3 kk4 kk5 kk6 kk7 kk8 kk9 kk10 kk11
          clear m0_0 m0_1 m0_2 m0_3 m0_4 m0_5 m0_6 m0_7 m0_8 m0_9 m0_10 m0_11 m1_0 m1_1 m1_2 m1_3 m1_4 m1_5 m1_6 m1_7 m1_8 m1_9 m1_10 m1_11 m2_0 m2_1 m2_2 m2_3 m2_4 m2_5 m2_6 m2_7 m2_8 m2_9 m2_10 m2_11
          have hbt := HX2.out
          obtain ⟨w5, hww⟩ : ∃ x : World, x = x2 := ⟨_, rfl⟩
          subst hww
          have HEV_39 := Lib.hid (HEV_33.out.below hbt HEV_33.out.lt)
          have HEW_40 := Lib.hid (HEW_34.out.below hbt HEW_34.out.lt)
          have HEU_41 := Lib.hid (HEU_32.out.below hbt HEU_32.out.lt)
          clear HEV_33 HEW_34 HEU_32
          have HL_42 := Lib.hid (HL_35.out.keep hbt (by omega))
          have HM_43 := Lib.hid (HM_36.out.keep hbt (by omega))
          have HU_44 := Lib.hid (HU_37.out.keep hbt (by omega))
          have HB_45 := Lib.hid (up HB_38.out hbt)
          have hz_5 := hbt.size
          clear HL_35 HM_36 HU_37 HB_38
          clear hbt
          have HC0 := Lib.hid (show ∀ wx, Below w5.heap.size w5 wx → Calls Try.prog 17 #[.agg #[.int .i64 N, .int .i64 T, .int .i64 S, .slice A1 m c1], .agg #[.int .i64 N2, .int .i64 T2, .int .i64 S2, .slice A2 m2 c3]] wx (SnP1 0 0 0 [] 0 wx) from fun wx hb => (InstallSnapS_any N T S 0 _ m c1 A1 ps N2 T2 S2 0 _ m2 c3 A2 qs wx (HL_42.out.keep hb (by omega)) (Nat.le_trans (by omega) hb.size) (by omega) (by omega) (HM_43.out.keep hb (by omega)) (Nat.le_trans (by omega) hb.size) (by omega) (by omega)).mono fun _ _ h => SnPost1.p HIN.out HK3.out h)
          have HC1 := Lib.hid (show ∀ wx A9 c9 lo9 hi9, Below w5.heap.size w5 wx → Rd wx lo9 hi9 2 A9 0 (pvs []) → hi9 ≤ wx.heap.size → Calls Try.prog 16 #[.agg #[.int .i64 0, .int .i64 0, .int .i64 0, .slice A5 0 c5], .agg #[.int .i64 0, .int .i64 0, .int .i64 0, .slice A9 0 c9]] wx fun e w' => e = .returned (.bool true) ∧ Below wx.heap.size wx w' from fun wx A9 c9 lo9 hi9 hb hr9 hh9 => equalSnap_same 0 0 0 0 _ 0 c5 lo9 hi9 c9 A5 A9 [] wx (HU_44.out.keep hb (by omega)) (Nat.le_trans (by omega) hb.size) (by omega) hr9 hh9)
          have HSW := Lib.hid (show ∀ wx, Below w5.heap.size w5 wx → wx.cell? ⟨w1.heap.size, 0, none⟩ = some (.int .i64 N) ∧ wx.cell? ⟨w1.heap.size, 1, none⟩ = some (.int .i64 T) ∧ wx.cell? ⟨w1.heap.size, 2, none⟩ = some (.int .i64 S) ∧ wx.cell? ⟨w1.heap.size, 3, none⟩ = some (.slice A1 m c1) ∧ wx.cell? ⟨(w1.heap.size + 1), 0, none⟩ = some (.int .i64 N2) ∧ wx.cell? ⟨(w1.heap.size + 1), 1, none⟩ = some (.int .i64 T2) ∧ wx.cell? ⟨(w1.heap.size + 1), 2, none⟩ = some (.int .i64 S2) ∧ wx.cell? ⟨(w1.heap.size + 1), 3, none⟩ = some (.slice A2 m2 c3) ∧ wx.cell? ⟨w3.heap.size, 0, none⟩ = some (.int .i64 0) ∧ wx.cell? ⟨w3.heap.size, 1, none⟩ = some (.int .i64 0) ∧ wx.cell? ⟨w3.heap.size, 2, none⟩ = some (.int .i64 0) ∧ wx.cell? ⟨w3.heap.size, 3, none⟩ = some (.slice A5 0 c5) from fun wx hb => ⟨(hb.cell (by show w1.heap.size < w5.heap.size; omega)).trans (HEV_39.out.cell 0), (hb.cell (by show w1.heap.size < w5.heap.size; omega)).trans (HEV_39.out.cell 1), (hb.cell (by show w1.heap.size < w5.heap.size; omega)).trans (HEV_39.out.cell 2), (hb.cell (by show w1.heap.size < w5.heap.size; omega)).trans (HEV_39.out.cell 3), (hb.cell (by show (w1.heap.size + 1) < w5.heap.size; omega)).trans (HEW_40.out.cell 0), (hb.cell (by show (w1.heap.size + 1) < w5.heap.size; omega)).trans (HEW_40.out.cell 1), (hb.cell (by show (w1.heap.size + 1) < w5.heap.size; omega)).trans (HEW_40.out.cell 2), (hb.cell (by show (w1.heap.size + 1) < w5.heap.size; omega)).trans (HEW_40.out.cell 3), (hb.cell (by show w3.heap.size < w5.heap.size; omega)).trans (HEU_41.out.cell 0), (hb.cell (by show w3.heap.size < w5.heap.size; omega)).trans (HEU_41.out.cell 1), (hb.cell (by show w3.heap.size < w5.heap.size; omega)).trans (HEU_41.out.cell 2), (hb.cell (by show w3.heap.size < w5.heap.size; omega)).trans (HEU_41.out.cell 3)⟩)
          obtain ⟨kk0, kk1, kk2, kk3, kk4, kk5, kk6, kk7, kk8, kk9, kk10, kk11⟩ := HSW.out _ (Below.refl _ _)
          go_wp2_with (fail)
          clear kk0 kk1 kk2 kk3 kk4 kk5 kk6 kk7 kk8 kk9 kk10 kk11
          go_region_held3 (fun wx => wx.cell? ⟨w1.heap.size, 0, none⟩ = some (.int .i64 N) ∧ wx.cell? ⟨w1.heap.size, 1, none⟩ = some (.int .i64 T) ∧ wx.cell? ⟨w1.heap.size, 2, none⟩ = some (.int .i64 S) ∧ wx.cell? ⟨w1.heap.size, 3, none⟩ = some (.slice A1 m c1) ∧ wx.cell? ⟨(w1.heap.size + 1), 0, none⟩ = some (.int .i64 N2) ∧ wx.cell? ⟨(w1.heap.size + 1), 1, none⟩ = some (.int .i64 T2) ∧ wx.cell? ⟨(w1.heap.size + 1), 2, none⟩ = some (.int .i64 S2) ∧ wx.cell? ⟨(w1.heap.size + 1), 3, none⟩ = some (.slice A2 m2 c3) ∧ wx.cell? ⟨w3.heap.size, 0, none⟩ = some (.int .i64 0) ∧ wx.cell? ⟨w3.heap.size, 1, none⟩ = some (.int .i64 0) ∧ wx.cell? ⟨w3.heap.size, 2, none⟩ = some (.int .i64 0) ∧ wx.cell? ⟨w3.heap.size, 3, none⟩ = some (.slice A5 0 c5))
            (first | with_reducible exact HSW.out _ (Below.refl _ _) | with_reducible exact HSW.out _ (up_drew (Below.refl _ _)) | with_reducible exact HSW.out _ (HX0.out) | with_reducible exact HSW.out _ (HX1.out))
            ((first
              | (go_at_call 17; (with_reducible refine (HC0.out _ (up_drew (Below.refl _ _))).mono ?_); rintro e x0 ⟨A9, c9, rfl, hk9, hr9, hb9⟩; have HX0 := Lib.hid (up (up_drew (Below.refl _ _)) hb9); have HR9 := Lib.hid hr9; clear hb9 hr9)
              | (go_at_call 16; (with_reducible refine (HC1.out _ _ _ _ _ HX0.out HR9.out (Nat.le_refl _)).mono ?_); rintro e x1 ⟨rfl, hbx⟩; have HX1 := Lib.hid (up HX0.out hbx); clear hbx)
              | fail "no arm"))
          all_goals
            go_wp2
            go_ret
            exact ⟨rfl, up HB_45.out HX1.out⟩
        · go_simp
          try (refine hK _ _ ?_)
          try clear hK
          try clear K
          try simp only [Act.put, List.setIfInBounds_toArray, List.set_cons_zero, List.set_cons_succ]
          refine wpAny_ready (rs := [1]) (by kernel_rfl) (by simp) ?_
          refine (AllReady.cons (o := ⟨_, _, _, _, _, _⟩) rfl (fun K hK => ?_) AllReady.nil)
          go_simp
          try (refine hK _ _ ?_)
          try clear hK
          try clear K
          try simp only [Act.put, List.setIfInBounds_toArray, List.set_cons_zero, List.set_cons_succ]
          refine wpAny_ready (rs := [3]) (by kernel_rfl) (by simp) ?_
          refine (AllReady.cons (o := ⟨_, _, _, _, _, _⟩) rfl (fun K hK => ?_) AllReady.nil)
          go_simp
          (go_at_call 17; (with_reducible refine (HC0.out _ (up_drew (Below.refl _ _))).mono ?_); rintro e x0 ⟨A9, c9, rfl, hk9, hr9, hb9⟩; have HX0 := Lib.hid (up (up_drew (Below.refl _ _)) hb9); have HR9 := Lib.hid hr9; clear hb9 hr9; obtain ⟨m0_0, m0_1, m0_2, m0_3, m0_4, m0_5, m0_6, m0_7, m0_8, m0_9, m0_10, m0_11⟩ := HSW.out _ HX0.out)
          try go_simp
          try (refine hK _ _ ?_)
          try clear hK
          try clear K
          try simp only [Act.put, List.setIfInBounds_toArray, List.set_cons_zero, List.set_cons_succ]
          refine wpAny_ready (rs := [4]) (by kernel_rfl) (by simp) ?_
          refine (AllReady.cons (o := ⟨_, _, _, _, _, _⟩) rfl (fun K hK => ?_) AllReady.nil)
          go_simp
          (go_at_call 16; (with_reducible refine (HC1.out _ _ _ _ _ HX0.out HR9.out (Nat.le_refl _)).mono ?_); rintro e x1 ⟨rfl, hbx⟩; have HX1 := Lib.hid (up HX0.out hbx); clear hbx; obtain ⟨m1_0, m1_1, m1_2, m1_3, m1_4, m1_5, m1_6, m1_7, m1_8, m1_9, m1_10, m1_11⟩ := HSW.out _ HX1.out)
          try go_simp
          try (refine hK _ _ ?_)
          try clear hK
          try clear K
          try simp only [Act.put, List.setIfInBounds_toArray, List.set_cons_zero, List.set_cons_succ]
          refine wpAny_take (i := 5) (oi := ⟨_, _, _, _, _, _⟩) (v := ?_) rfl (by kernel_rfl) (by kernel_rfl) (by kernel_rfl) (fun _ _ _ h => h) (Or.inl ⟨by rfl, ?_⟩) ?_
          rotate_left
          focus (intro w; go_simp; try (with_reducible rfl); done)
          try simp only [Act.put, List.setIfInBounds_toArray, List.set_cons_zero, List.set_cons_succ]
          refine wpAny_take (i := 6) (oi := ⟨_, _, _, _, _, _⟩) (v := ?_) rfl (by kernel_rfl) (by kernel_rfl) (by kernel_rfl) (fun _ _ _ h => h) (Or.inl ⟨by rfl, ?_⟩) ?_
          rotate_left
          focus (intro w; go_simp; try (with_reducible rfl); done)
          try simp only [Act.put, List.setIfInBounds_toArray, List.set_cons_zero, List.set_cons_succ]
          refine wpAny_ready (rs := [7]) (by kernel_rfl) (by simp) ?_
          refine (AllReady.cons (o := ⟨_, _, _, _, _, _⟩) rfl (fun K hK => ?_) AllReady.nil)
          go_simp
          try (refine hK _ _ ?_)
          try clear hK
          try clear K
          try simp only [Act.put, List.setIfInBounds_toArray, List.set_cons_zero, List.set_cons_succ]
          refine wpAny_ready (rs := [8]) (by kernel_rfl) (by simp) ?_
          refine (AllReady.cons (o := ⟨_, _, _, _, _, _⟩) rfl (fun K hK => ?_) AllReady.nil)
          go_simp
          (go_at_call 18; (with_reducible refine (HC2.out _ HX1.out).mono ?_); rintro e x2 ⟨rfl, hbx⟩; have HX2 := Lib.hid (up HX1.out hbx); clear hbx; obtain ⟨m2_0, m2_1, m2_2, m2_3, m2_4, m2_5, m2_6, m2_7, m2_8, m2_9, m2_10, m2_11⟩ := HSW.out _ HX2.out)
          try go_simp
          try (refine hK _ _ ?_)
          try clear hK
          try clear K
          try simp only [Act.put, List.setIfInBounds_toArray, List.set_cons_zero, List.set_cons_succ]
          refine wpAny_take (i := 9) (oi := ⟨_, _, _, _, _, _⟩) (v := ?_) rfl (by kernel_rfl) (by kernel_rfl) (by kernel_rfl) (fun _ _ _ h => h) (Or.inl ⟨by rfl, ?_⟩) ?_
          rotate_left
          focus (intro w; go_simp; try (with_reducible rfl); done)
          try simp only [Act.put, List.setIfInBounds_toArray, List.set_cons_zero, List.set_cons_succ]
          refine wpAny_take (i := 10) (oi := ⟨_, _, _, _, _, _⟩) (v := ?_) rfl (by kernel_rfl) (by kernel_rfl) (by kernel_rfl) (fun _ _ _ h => h) (Or.inl ⟨by rfl, ?_⟩) ?_
          rotate_left
          focus (intro w; go_simp; try (with_reducible rfl); done)
          try simp only [Act.put, List.setIfInBounds_toArray, List.set_cons_zero, List.set_cons_succ]
          refine wpAny_take (i := 11) (oi := ⟨_, _, _, _, _, _⟩) (v := ?_) rfl (by kernel_rfl) (by kernel_rfl) (by kernel_rfl) (fun _ _ _ h => h) (Or.inl ⟨by rfl, ?_⟩) ?_
          rotate_left
          focus (intro w; go_simp; try (with_reducible rfl); done)
          try simp only [Act.put, List.setIfInBounds_toArray, List.set_cons_zero, List.set_cons_succ]
          refine wpAny_take (i := 12) (oi := ⟨_, _, _, _, _, _⟩) (v := undef) rfl (by kernel_rfl) (by kernel_rfl) (by kernel_rfl) (fun _ _ _ h => h) (Or.inr ⟨by rfl, rfl⟩) ?_
          try simp only [Act.put, List.setIfInBounds_toArray, List.set_cons_zero, List.set_cons_succ]
          refine wpAny_take (i := 13) (oi := ⟨_, _, _, _, _, _⟩) (v := undef) rfl (by kernel_rfl) (by kernel_rfl) (by kernel_rfl) (fun _ _ _ h => h) (Or.inr ⟨by rfl, rfl⟩) ?_
          try simp only [Act.put, List.setIfInBounds_toArray, List.set_cons_zero, List.set_cons_succ]
          refine wpAny_take (i := 14) (oi := ⟨_, _, _, _, _, _⟩) (v := undef) rfl (by kernel_rfl) (by kernel_rfl) (by kernel_rfl) (fun _ _ _ h => h) (Or.inr ⟨by rfl, rfl⟩) ?_
          try simp only [Act.put, List.setIfInBounds_toArray, List.set_cons_zero, List.set_cons_succ]
          refine wpAny_take (i := 15) (oi := ⟨_, _, _, _, _, _⟩) (v := ?_) rfl (by kernel_rfl) (by kernel_rfl) (by kernel_rfl) (fun _ _ _ h => h) (Or.inl ⟨by rfl, ?_⟩) ?_
          rotate_left
          focus (intro w; go_simp; try (with_reducible rfl); done)
          try simp only [Act.put, List.setIfInBounds_toArray, List.set_cons_zero, List.set_cons_succ]
          refine wpAny_done (by kernel_rfl) ?_ _
          clear HSW HC0 HC1 HC2
          clear kk0 kk1 kk2 kk3 kk4 kk5 kk6 kk7 kk8 kk9 kk10 kk11
          clear m0_0 m0_1 m0_2 m0_3 m0_4 m0_5 m0_6 m0_7 m0_8 m0_9 m0_10 m0_11 m1_0 m1_1 m1_2 m1_3 m1_4 m1_5 m1_6 m1_7 m1_8 m1_9 m1_10 m1_11 m2_0 m2_1 m2_2 m2_3 m2_4 m2_5 m2_6 m2_7 m2_8 m2_9 m2_10 m2_11
          have hbt := HX2.out
          obtain ⟨w5, hww⟩ : ∃ x : World, x = x2 := ⟨_, rfl⟩
          subst hww
          have HEV_39 := Lib.hid (HEV_33.out.below hbt HEV_33.out.lt)
          have HEW_40 := Lib.hid (HEW_34.out.below hbt HEW_34.out.lt)
          have HEU_41 := Lib.hid (HEU_32.out.below hbt HEU_32.out.lt)
          clear HEV_33 HEW_34 HEU_32
          have HL_42 := Lib.hid (HL_35.out.keep hbt (by omega))
          have HM_43 := Lib.hid (HM_36.out.keep hbt (by omega))
          have HU_44 := Lib.hid (HU_37.out.keep hbt (by omega))
          have HB_45 := Lib.hid (up HB_38.out hbt)
          have hz_5 := hbt.size
          clear HL_35 HM_36 HU_37 HB_38
          clear hbt
          have HC0 := Lib.hid (show ∀ wx, Below w5.heap.size w5 wx → Calls Try.prog 17 #[.agg #[.int .i64 N, .int .i64 T, .int .i64 S, .slice A1 m c1], .agg #[.int .i64 N2, .int .i64 T2, .int .i64 S2, .slice A2 m2 c3]] wx (SnP1 0 0 0 [] 0 wx) from fun wx hb => (InstallSnapS_any N T S 0 _ m c1 A1 ps N2 T2 S2 0 _ m2 c3 A2 qs wx (HL_42.out.keep hb (by omega)) (Nat.le_trans (by omega) hb.size) (by omega) (by omega) (HM_43.out.keep hb (by omega)) (Nat.le_trans (by omega) hb.size) (by omega) (by omega)).mono fun _ _ h => SnPost1.p HIN.out HK3.out h)
          have HC1 := Lib.hid (show ∀ wx A9 c9 lo9 hi9, Below w5.heap.size w5 wx → Rd wx lo9 hi9 2 A9 0 (pvs []) → hi9 ≤ wx.heap.size → Calls Try.prog 16 #[.agg #[.int .i64 0, .int .i64 0, .int .i64 0, .slice A5 0 c5], .agg #[.int .i64 0, .int .i64 0, .int .i64 0, .slice A9 0 c9]] wx fun e w' => e = .returned (.bool true) ∧ Below wx.heap.size wx w' from fun wx A9 c9 lo9 hi9 hb hr9 hh9 => equalSnap_same 0 0 0 0 _ 0 c5 lo9 hi9 c9 A5 A9 [] wx (HU_44.out.keep hb (by omega)) (Nat.le_trans (by omega) hb.size) (by omega) hr9 hh9)
          have HSW := Lib.hid (show ∀ wx, Below w5.heap.size w5 wx → wx.cell? ⟨w1.heap.size, 0, none⟩ = some (.int .i64 N) ∧ wx.cell? ⟨w1.heap.size, 1, none⟩ = some (.int .i64 T) ∧ wx.cell? ⟨w1.heap.size, 2, none⟩ = some (.int .i64 S) ∧ wx.cell? ⟨w1.heap.size, 3, none⟩ = some (.slice A1 m c1) ∧ wx.cell? ⟨(w1.heap.size + 1), 0, none⟩ = some (.int .i64 N2) ∧ wx.cell? ⟨(w1.heap.size + 1), 1, none⟩ = some (.int .i64 T2) ∧ wx.cell? ⟨(w1.heap.size + 1), 2, none⟩ = some (.int .i64 S2) ∧ wx.cell? ⟨(w1.heap.size + 1), 3, none⟩ = some (.slice A2 m2 c3) ∧ wx.cell? ⟨w3.heap.size, 0, none⟩ = some (.int .i64 0) ∧ wx.cell? ⟨w3.heap.size, 1, none⟩ = some (.int .i64 0) ∧ wx.cell? ⟨w3.heap.size, 2, none⟩ = some (.int .i64 0) ∧ wx.cell? ⟨w3.heap.size, 3, none⟩ = some (.slice A5 0 c5) from fun wx hb => ⟨(hb.cell (by show w1.heap.size < w5.heap.size; omega)).trans (HEV_39.out.cell 0), (hb.cell (by show w1.heap.size < w5.heap.size; omega)).trans (HEV_39.out.cell 1), (hb.cell (by show w1.heap.size < w5.heap.size; omega)).trans (HEV_39.out.cell 2), (hb.cell (by show w1.heap.size < w5.heap.size; omega)).trans (HEV_39.out.cell 3), (hb.cell (by show (w1.heap.size + 1) < w5.heap.size; omega)).trans (HEW_40.out.cell 0), (hb.cell (by show (w1.heap.size + 1) < w5.heap.size; omega)).trans (HEW_40.out.cell 1), (hb.cell (by show (w1.heap.size + 1) < w5.heap.size; omega)).trans (HEW_40.out.cell 2), (hb.cell (by show (w1.heap.size + 1) < w5.heap.size; omega)).trans (HEW_40.out.cell 3), (hb.cell (by show w3.heap.size < w5.heap.size; omega)).trans (HEU_41.out.cell 0), (hb.cell (by show w3.heap.size < w5.heap.size; omega)).trans (HEU_41.out.cell 1), (hb.cell (by show w3.heap.size < w5.heap.size; omega)).trans (HEU_41.out.cell 2), (hb.cell (by show w3.heap.size < w5.heap.size; omega)).trans (HEU_41.out.cell 3)⟩)
          obtain ⟨kk0, kk1, kk2, kk3, kk4, kk5, kk6, kk7, kk8, kk9, kk10, kk11⟩ := HSW.out _ (Below.refl _ _)
          go_wp2_with (fail)
          clear kk0 kk1 kk2 kk3 kk4 kk5 kk6 kk7 kk8 kk9 kk10 kk11
          go_region_held3 (fun wx => wx.cell? ⟨w1.heap.size, 0, none⟩ = some (.int .i64 N) ∧ wx.cell? ⟨w1.heap.size, 1, none⟩ = some (.int .i64 T) ∧ wx.cell? ⟨w1.heap.size, 2, none⟩ = some (.int .i64 S) ∧ wx.cell? ⟨w1.heap.size, 3, none⟩ = some (.slice A1 m c1) ∧ wx.cell? ⟨(w1.heap.size + 1), 0, none⟩ = some (.int .i64 N2) ∧ wx.cell? ⟨(w1.heap.size + 1), 1, none⟩ = some (.int .i64 T2) ∧ wx.cell? ⟨(w1.heap.size + 1), 2, none⟩ = some (.int .i64 S2) ∧ wx.cell? ⟨(w1.heap.size + 1), 3, none⟩ = some (.slice A2 m2 c3) ∧ wx.cell? ⟨w3.heap.size, 0, none⟩ = some (.int .i64 0) ∧ wx.cell? ⟨w3.heap.size, 1, none⟩ = some (.int .i64 0) ∧ wx.cell? ⟨w3.heap.size, 2, none⟩ = some (.int .i64 0) ∧ wx.cell? ⟨w3.heap.size, 3, none⟩ = some (.slice A5 0 c5))
            (first | with_reducible exact HSW.out _ (Below.refl _ _) | with_reducible exact HSW.out _ (up_drew (Below.refl _ _)) | with_reducible exact HSW.out _ (HX0.out) | with_reducible exact HSW.out _ (HX1.out))
            ((first
              | (go_at_call 17; (with_reducible refine (HC0.out _ (up_drew (Below.refl _ _))).mono ?_); rintro e x0 ⟨A9, c9, rfl, hk9, hr9, hb9⟩; have HX0 := Lib.hid (up (up_drew (Below.refl _ _)) hb9); have HR9 := Lib.hid hr9; clear hb9 hr9)
              | (go_at_call 16; (with_reducible refine (HC1.out _ _ _ _ _ HX0.out HR9.out (Nat.le_refl _)).mono ?_); rintro e x1 ⟨rfl, hbx⟩; have HX1 := Lib.hid (up HX0.out hbx); clear hbx)
              | fail "no arm"))
          all_goals
            go_wp2
            go_ret
            exact ⟨rfl, up HB_45.out HX1.out⟩
      · go_simp
        try (refine hK _ _ ?_)
        try clear hK
        try clear K
        try simp only [Act.put, List.setIfInBounds_toArray, List.set_cons_zero, List.set_cons_succ]
        refine wpAny_ready (rs := [0, 2]) (by kernel_rfl) (by simp) ?_
        refine (AllReady.cons (o := ⟨_, _, _, _, _, _⟩) rfl (fun K hK => ?_) (AllReady.cons (o := ⟨_, _, _, _, _, _⟩) rfl (fun K hK => ?_) AllReady.nil))
        · go_simp
          try (refine hK _ _ ?_)
          try clear hK
          try clear K
          try simp only [Act.put, List.setIfInBounds_toArray, List.set_cons_zero, List.set_cons_succ]
          refine wpAny_ready (rs := [2]) (by kernel_rfl) (by simp) ?_
          refine (AllReady.cons (o := ⟨_, _, _, _, _, _⟩) rfl (fun K hK => ?_) AllReady.nil)
          go_simp
          try (refine hK _ _ ?_)
          try clear hK
          try clear K
          try simp only [Act.put, List.setIfInBounds_toArray, List.set_cons_zero, List.set_cons_succ]
          refine wpAny_ready (rs := [3]) (by kernel_rfl) (by simp) ?_
          refine (AllReady.cons (o := ⟨_, _, _, _, _, _⟩) rfl (fun K hK => ?_) AllReady.nil)
          go_simp
          (go_at_call 17; (with_reducible refine (HC0.out _ (up_drew (Below.refl _ _))).mono ?_); rintro e x0 ⟨A9, c9, rfl, hk9, hr9, hb9⟩; have HX0 := Lib.hid (up (up_drew (Below.refl _ _)) hb9); have HR9 := Lib.hid hr9; clear hb9 hr9; obtain ⟨m0_0, m0_1, m0_2, m0_3, m0_4, m0_5, m0_6, m0_7, m0_8, m0_9, m0_10, m0_11⟩ := HSW.out _ HX0.out)
          try go_simp
          try (refine hK _ _ ?_)
          try clear hK
          try clear K
          try simp only [Act.put, List.setIfInBounds_toArray, List.set_cons_zero, List.set_cons_succ]
          refine wpAny_ready (rs := [4]) (by kernel_rfl) (by simp) ?_
          refine (AllReady.cons (o := ⟨_, _, _, _, _, _⟩) rfl (fun K hK => ?_) AllReady.nil)
          go_simp
          (go_at_call 16; (with_reducible refine (HC1.out _ _ _ _ _ HX0.out HR9.out (Nat.le_refl _)).mono ?_); rintro e x1 ⟨rfl, hbx⟩; have HX1 := Lib.hid (up HX0.out hbx); clear hbx; obtain ⟨m1_0, m1_1, m1_2, m1_3, m1_4, m1_5, m1_6, m1_7, m1_8, m1_9, m1_10, m1_11⟩ := HSW.out _ HX1.out)
          try go_simp
          try (refine hK _ _ ?_)
          try clear hK
          try clear K
          try simp only [Act.put, List.setIfInBounds_toArray, List.set_cons_zero, List.set_cons_succ]
          refine wpAny_take (i := 5) (oi := ⟨_, _, _, _, _, _⟩) (v := ?_) rfl (by kernel_rfl) (by kernel_rfl) (by kernel_rfl) (fun _ _ _ h => h) (Or.inl ⟨by rfl, ?_⟩) ?_
          rotate_left
          focus (intro w; go_simp; try (with_reducible rfl); done)
          try simp only [Act.put, List.setIfInBounds_toArray, List.set_cons_zero, List.set_cons_succ]
          refine wpAny_take (i := 6) (oi := ⟨_, _, _, _, _, _⟩) (v := ?_) rfl (by kernel_rfl) (by kernel_rfl) (by kernel_rfl) (fun _ _ _ h => h) (Or.inl ⟨by rfl, ?_⟩) ?_
          rotate_left
          focus (intro w; go_simp; try (with_reducible rfl); done)
          try simp only [Act.put, List.setIfInBounds_toArray, List.set_cons_zero, List.set_cons_succ]
          refine wpAny_ready (rs := [7]) (by kernel_rfl) (by simp) ?_
          refine (AllReady.cons (o := ⟨_, _, _, _, _, _⟩) rfl (fun K hK => ?_) AllReady.nil)
          go_simp
          try (refine hK _ _ ?_)
          try clear hK
          try clear K
          try simp only [Act.put, List.setIfInBounds_toArray, List.set_cons_zero, List.set_cons_succ]
          refine wpAny_ready (rs := [8]) (by kernel_rfl) (by simp) ?_
          refine (AllReady.cons (o := ⟨_, _, _, _, _, _⟩) rfl (fun K hK => ?_) AllReady.nil)
          go_simp
          (go_at_call 18; (with_reducible refine (HC2.out _ HX1.out).mono ?_); rintro e x2 ⟨rfl, hbx⟩; have HX2 := Lib.hid (up HX1.out hbx); clear hbx; obtain ⟨m2_0, m2_1, m2_2, m2_3, m2_4, m2_5, m2_6, m2_7, m2_8, m2_9, m2_10, m2_11⟩ := HSW.out _ HX2.out)
          try go_simp
          try (refine hK _ _ ?_)
          try clear hK
          try clear K
          try simp only [Act.put, List.setIfInBounds_toArray, List.set_cons_zero, List.set_cons_succ]
          refine wpAny_take (i := 9) (oi := ⟨_, _, _, _, _, _⟩) (v := ?_) rfl (by kernel_rfl) (by kernel_rfl) (by kernel_rfl) (fun _ _ _ h => h) (Or.inl ⟨by rfl, ?_⟩) ?_
          rotate_left
          focus (intro w; go_simp; try (with_reducible rfl); done)
          try simp only [Act.put, List.setIfInBounds_toArray, List.set_cons_zero, List.set_cons_succ]
          refine wpAny_take (i := 10) (oi := ⟨_, _, _, _, _, _⟩) (v := ?_) rfl (by kernel_rfl) (by kernel_rfl) (by kernel_rfl) (fun _ _ _ h => h) (Or.inl ⟨by rfl, ?_⟩) ?_
          rotate_left
          focus (intro w; go_simp; try (with_reducible rfl); done)
          try simp only [Act.put, List.setIfInBounds_toArray, List.set_cons_zero, List.set_cons_succ]
          refine wpAny_take (i := 11) (oi := ⟨_, _, _, _, _, _⟩) (v := ?_) rfl (by kernel_rfl) (by kernel_rfl) (by kernel_rfl) (fun _ _ _ h => h) (Or.inl ⟨by rfl, ?_⟩) ?_
          rotate_left
          focus (intro w; go_simp; try (with_reducible rfl); done)
          try simp only [Act.put, List.setIfInBounds_toArray, List.set_cons_zero, List.set_cons_succ]
          refine wpAny_take (i := 12) (oi := ⟨_, _, _, _, _, _⟩) (v := undef) rfl (by kernel_rfl) (by kernel_rfl) (by kernel_rfl) (fun _ _ _ h => h) (Or.inr ⟨by rfl, rfl⟩) ?_
          try simp only [Act.put, List.setIfInBounds_toArray, List.set_cons_zero, List.set_cons_succ]
          refine wpAny_take (i := 13) (oi := ⟨_, _, _, _, _, _⟩) (v := undef) rfl (by kernel_rfl) (by kernel_rfl) (by kernel_rfl) (fun _ _ _ h => h) (Or.inr ⟨by rfl, rfl⟩) ?_
          try simp only [Act.put, List.setIfInBounds_toArray, List.set_cons_zero, List.set_cons_succ]
          refine wpAny_take (i := 14) (oi := ⟨_, _, _, _, _, _⟩) (v := undef) rfl (by kernel_rfl) (by kernel_rfl) (by kernel_rfl) (fun _ _ _ h => h) (Or.inr ⟨by rfl, rfl⟩) ?_
          try simp only [Act.put, List.setIfInBounds_toArray, List.set_cons_zero, List.set_cons_succ]
          refine wpAny_take (i := 15) (oi := ⟨_, _, _, _, _, _⟩) (v := ?_) rfl (by kernel_rfl) (by kernel_rfl) (by kernel_rfl) (fun _ _ _ h => h) (Or.inl ⟨by rfl, ?_⟩) ?_
          rotate_left
          focus (intro w; go_simp; try (with_reducible rfl); done)
          try simp only [Act.put, List.setIfInBounds_toArray, List.set_cons_zero, List.set_cons_succ]
          refine wpAny_done (by kernel_rfl) ?_ _
          clear HSW HC0 HC1 HC2
          clear kk0 kk1 kk2 kk3 kk4 kk5 kk6 kk7 kk8 kk9 kk10 kk11
          clear m0_0 m0_1 m0_2 m0_3 m0_4 m0_5 m0_6 m0_7 m0_8 m0_9 m0_10 m0_11 m1_0 m1_1 m1_2 m1_3 m1_4 m1_5 m1_6 m1_7 m1_8 m1_9 m1_10 m1_11 m2_0 m2_1 m2_2 m2_3 m2_4 m2_5 m2_6 m2_7 m2_8 m2_9 m2_10 m2_11
          have hbt := HX2.out
          obtain ⟨w5, hww⟩ : ∃ x : World, x = x2 := ⟨_, rfl⟩
          subst hww
          have HEV_39 := Lib.hid (HEV_33.out.below hbt HEV_33.out.lt)
          have HEW_40 := Lib.hid (HEW_34.out.below hbt HEW_34.out.lt)
          have HEU_41 := Lib.hid (HEU_32.out.below hbt HEU_32.out.lt)
          clear HEV_33 HEW_34 HEU_32
          have HL_42 := Lib.hid (HL_35.out.keep hbt (by omega))
          have HM_43 := Lib.hid (HM_36.out.keep hbt (by omega))
          have HU_44 := Lib.hid (HU_37.out.keep hbt (by omega))
          have HB_45 := Lib.hid (up HB_38.out hbt)
          have hz_5 := hbt.size
          clear HL_35 HM_36 HU_37 HB_38
          clear hbt
          have HC0 := Lib.hid (show ∀ wx, Below w5.heap.size w5 wx → Calls Try.prog 17 #[.agg #[.int .i64 N, .int .i64 T, .int .i64 S, .slice A1 m c1], .agg #[.int .i64 N2, .int .i64 T2, .int .i64 S2, .slice A2 m2 c3]] wx (SnP1 0 0 0 [] 0 wx) from fun wx hb => (InstallSnapS_any N T S 0 _ m c1 A1 ps N2 T2 S2 0 _ m2 c3 A2 qs wx (HL_42.out.keep hb (by omega)) (Nat.le_trans (by omega) hb.size) (by omega) (by omega) (HM_43.out.keep hb (by omega)) (Nat.le_trans (by omega) hb.size) (by omega) (by omega)).mono fun _ _ h => SnPost1.p HIN.out HK3.out h)
          have HC1 := Lib.hid (show ∀ wx A9 c9 lo9 hi9, Below w5.heap.size w5 wx → Rd wx lo9 hi9 2 A9 0 (pvs []) → hi9 ≤ wx.heap.size → Calls Try.prog 16 #[.agg #[.int .i64 0, .int .i64 0, .int .i64 0, .slice A5 0 c5], .agg #[.int .i64 0, .int .i64 0, .int .i64 0, .slice A9 0 c9]] wx fun e w' => e = .returned (.bool true) ∧ Below wx.heap.size wx w' from fun wx A9 c9 lo9 hi9 hb hr9 hh9 => equalSnap_same 0 0 0 0 _ 0 c5 lo9 hi9 c9 A5 A9 [] wx (HU_44.out.keep hb (by omega)) (Nat.le_trans (by omega) hb.size) (by omega) hr9 hh9)
          have HSW := Lib.hid (show ∀ wx, Below w5.heap.size w5 wx → wx.cell? ⟨w1.heap.size, 0, none⟩ = some (.int .i64 N) ∧ wx.cell? ⟨w1.heap.size, 1, none⟩ = some (.int .i64 T) ∧ wx.cell? ⟨w1.heap.size, 2, none⟩ = some (.int .i64 S) ∧ wx.cell? ⟨w1.heap.size, 3, none⟩ = some (.slice A1 m c1) ∧ wx.cell? ⟨(w1.heap.size + 1), 0, none⟩ = some (.int .i64 N2) ∧ wx.cell? ⟨(w1.heap.size + 1), 1, none⟩ = some (.int .i64 T2) ∧ wx.cell? ⟨(w1.heap.size + 1), 2, none⟩ = some (.int .i64 S2) ∧ wx.cell? ⟨(w1.heap.size + 1), 3, none⟩ = some (.slice A2 m2 c3) ∧ wx.cell? ⟨w3.heap.size, 0, none⟩ = some (.int .i64 0) ∧ wx.cell? ⟨w3.heap.size, 1, none⟩ = some (.int .i64 0) ∧ wx.cell? ⟨w3.heap.size, 2, none⟩ = some (.int .i64 0) ∧ wx.cell? ⟨w3.heap.size, 3, none⟩ = some (.slice A5 0 c5) from fun wx hb => ⟨(hb.cell (by show w1.heap.size < w5.heap.size; omega)).trans (HEV_39.out.cell 0), (hb.cell (by show w1.heap.size < w5.heap.size; omega)).trans (HEV_39.out.cell 1), (hb.cell (by show w1.heap.size < w5.heap.size; omega)).trans (HEV_39.out.cell 2), (hb.cell (by show w1.heap.size < w5.heap.size; omega)).trans (HEV_39.out.cell 3), (hb.cell (by show (w1.heap.size + 1) < w5.heap.size; omega)).trans (HEW_40.out.cell 0), (hb.cell (by show (w1.heap.size + 1) < w5.heap.size; omega)).trans (HEW_40.out.cell 1), (hb.cell (by show (w1.heap.size + 1) < w5.heap.size; omega)).trans (HEW_40.out.cell 2), (hb.cell (by show (w1.heap.size + 1) < w5.heap.size; omega)).trans (HEW_40.out.cell 3), (hb.cell (by show w3.heap.size < w5.heap.size; omega)).trans (HEU_41.out.cell 0), (hb.cell (by show w3.heap.size < w5.heap.size; omega)).trans (HEU_41.out.cell 1), (hb.cell (by show w3.heap.size < w5.heap.size; omega)).trans (HEU_41.out.cell 2), (hb.cell (by show w3.heap.size < w5.heap.size; omega)).trans (HEU_41.out.cell 3)⟩)
          obtain ⟨kk0, kk1, kk2, kk3, kk4, kk5, kk6, kk7, kk8, kk9, kk10, kk11⟩ := HSW.out _ (Below.refl _ _)
          go_wp2_with (fail)
          clear kk0 kk1 kk2 kk3 kk4 kk5 kk6 kk7 kk8 kk9 kk10 kk11
          go_region_held3 (fun wx => wx.cell? ⟨w1.heap.size, 0, none⟩ = some (.int .i64 N) ∧ wx.cell? ⟨w1.heap.size, 1, none⟩ = some (.int .i64 T) ∧ wx.cell? ⟨w1.heap.size, 2, none⟩ = some (.int .i64 S) ∧ wx.cell? ⟨w1.heap.size, 3, none⟩ = some (.slice A1 m c1) ∧ wx.cell? ⟨(w1.heap.size + 1), 0, none⟩ = some (.int .i64 N2) ∧ wx.cell? ⟨(w1.heap.size + 1), 1, none⟩ = some (.int .i64 T2) ∧ wx.cell? ⟨(w1.heap.size + 1), 2, none⟩ = some (.int .i64 S2) ∧ wx.cell? ⟨(w1.heap.size + 1), 3, none⟩ = some (.slice A2 m2 c3) ∧ wx.cell? ⟨w3.heap.size, 0, none⟩ = some (.int .i64 0) ∧ wx.cell? ⟨w3.heap.size, 1, none⟩ = some (.int .i64 0) ∧ wx.cell? ⟨w3.heap.size, 2, none⟩ = some (.int .i64 0) ∧ wx.cell? ⟨w3.heap.size, 3, none⟩ = some (.slice A5 0 c5))
            (first | with_reducible exact HSW.out _ (Below.refl _ _) | with_reducible exact HSW.out _ (up_drew (Below.refl _ _)) | with_reducible exact HSW.out _ (HX0.out) | with_reducible exact HSW.out _ (HX1.out))
            ((first
              | (go_at_call 17; (with_reducible refine (HC0.out _ (up_drew (Below.refl _ _))).mono ?_); rintro e x0 ⟨A9, c9, rfl, hk9, hr9, hb9⟩; have HX0 := Lib.hid (up (up_drew (Below.refl _ _)) hb9); have HR9 := Lib.hid hr9; clear hb9 hr9)
              | (go_at_call 16; (with_reducible refine (HC1.out _ _ _ _ _ HX0.out HR9.out (Nat.le_refl _)).mono ?_); rintro e x1 ⟨rfl, hbx⟩; have HX1 := Lib.hid (up HX0.out hbx); clear hbx)
              | fail "no arm"))
          all_goals
            go_wp2
            go_ret
            exact ⟨rfl, up HB_45.out HX1.out⟩
        · go_simp
          try (refine hK _ _ ?_)
          try clear hK
          try clear K
          try simp only [Act.put, List.setIfInBounds_toArray, List.set_cons_zero, List.set_cons_succ]
          refine wpAny_ready (rs := [0, 3]) (by kernel_rfl) (by simp) ?_
          refine (AllReady.cons (o := ⟨_, _, _, _, _, _⟩) rfl (fun K hK => ?_) (AllReady.cons (o := ⟨_, _, _, _, _, _⟩) rfl (fun K hK => ?_) AllReady.nil))
          · go_simp
            try (refine hK _ _ ?_)
            try clear hK
            try clear K
            try simp only [Act.put, List.setIfInBounds_toArray, List.set_cons_zero, List.set_cons_succ]
            refine wpAny_ready (rs := [3]) (by kernel_rfl) (by simp) ?_
            refine (AllReady.cons (o := ⟨_, _, _, _, _, _⟩) rfl (fun K hK => ?_) AllReady.nil)
            go_simp
            (go_at_call 17; (with_reducible refine (HC0.out _ (up_drew (Below.refl _ _))).mono ?_); rintro e x0 ⟨A9, c9, rfl, hk9, hr9, hb9⟩; have HX0 := Lib.hid (up (up_drew (Below.refl _ _)) hb9); have HR9 := Lib.hid hr9; clear hb9 hr9; obtain ⟨m0_0, m0_1, m0_2, m0_3, m0_4, m0_5, m0_6, m0_7, m0_8, m0_9, m0_10, m0_11⟩ := HSW.out _ HX0.out)
            try go_simp
            try (refine hK _ _ ?_)
            try clear hK
            try clear K
            try simp only [Act.put, List.setIfInBounds_toArray, List.set_cons_zero, List.set_cons_succ]
            refine wpAny_ready (rs := [4]) (by kernel_rfl) (by simp) ?_
            refine (AllReady.cons (o := ⟨_, _, _, _, _, _⟩) rfl (fun K hK => ?_) AllReady.nil)
            go_simp
            (go_at_call 16; (with_reducible refine (HC1.out _ _ _ _ _ HX0.out HR9.out (Nat.le_refl _)).mono ?_); rintro e x1 ⟨rfl, hbx⟩; have HX1 := Lib.hid (up HX0.out hbx); clear hbx; obtain ⟨m1_0, m1_1, m1_2, m1_3, m1_4, m1_5, m1_6, m1_7, m1_8, m1_9, m1_10, m1_11⟩ := HSW.out _ HX1.out)
            try go_simp
            try (refine hK _ _ ?_)
            try clear hK
            try clear K
            try simp only [Act.put, List.setIfInBounds_toArray, List.set_cons_zero, List.set_cons_succ]
            refine wpAny_take (i := 5) (oi := ⟨_, _, _, _, _, _⟩) (v := ?_) rfl (by kernel_rfl) (by kernel_rfl) (by kernel_rfl) (fun _ _ _ h => h) (Or.inl ⟨by rfl, ?_⟩) ?_
            rotate_left
            focus (intro w; go_simp; try (with_reducible rfl); done)
            try simp only [Act.put, List.setIfInBounds_toArray, List.set_cons_zero, List.set_cons_succ]
            refine wpAny_take (i := 6) (oi := ⟨_, _, _, _, _, _⟩) (v := ?_) rfl (by kernel_rfl) (by kernel_rfl) (by kernel_rfl) (fun _ _ _ h => h) (Or.inl ⟨by rfl, ?_⟩) ?_
            rotate_left
            focus (intro w; go_simp; try (with_reducible rfl); done)
            try simp only [Act.put, List.setIfInBounds_toArray, List.set_cons_zero, List.set_cons_succ]
            refine wpAny_ready (rs := [7]) (by kernel_rfl) (by simp) ?_
            refine (AllReady.cons (o := ⟨_, _, _, _, _, _⟩) rfl (fun K hK => ?_) AllReady.nil)
            go_simp
            try (refine hK _ _ ?_)
            try clear hK
            try clear K
            try simp only [Act.put, List.setIfInBounds_toArray, List.set_cons_zero, List.set_cons_succ]
            refine wpAny_ready (rs := [8]) (by kernel_rfl) (by simp) ?_
            refine (AllReady.cons (o := ⟨_, _, _, _, _, _⟩) rfl (fun K hK => ?_) AllReady.nil)
            go_simp
            (go_at_call 18; (with_reducible refine (HC2.out _ HX1.out).mono ?_); rintro e x2 ⟨rfl, hbx⟩; have HX2 := Lib.hid (up HX1.out hbx); clear hbx; obtain ⟨m2_0, m2_1, m2_2, m2_3, m2_4, m2_5, m2_6, m2_7, m2_8, m2_9, m2_10, m2_11⟩ := HSW.out _ HX2.out)
            try go_simp
            try (refine hK _ _ ?_)
            try clear hK
            try clear K
            try simp only [Act.put, List.setIfInBounds_toArray, List.set_cons_zero, List.set_cons_succ]
            refine wpAny_take (i := 9) (oi := ⟨_, _, _, _, _, _⟩) (v := ?_) rfl (by kernel_rfl) (by kernel_rfl) (by kernel_rfl) (fun _ _ _ h => h) (Or.inl ⟨by rfl, ?_⟩) ?_
            rotate_left
            focus (intro w; go_simp; try (with_reducible rfl); done)
            try simp only [Act.put, List.setIfInBounds_toArray, List.set_cons_zero, List.set_cons_succ]
            refine wpAny_take (i := 10) (oi := ⟨_, _, _, _, _, _⟩) (v := ?_) rfl (by kernel_rfl) (by kernel_rfl) (by kernel_rfl) (fun _ _ _ h => h) (Or.inl ⟨by rfl, ?_⟩) ?_
            rotate_left
            focus (intro w; go_simp; try (with_reducible rfl); done)
            try simp only [Act.put, List.setIfInBounds_toArray, List.set_cons_zero, List.set_cons_succ]
            refine wpAny_take (i := 11) (oi := ⟨_, _, _, _, _, _⟩) (v := ?_) rfl (by kernel_rfl) (by kernel_rfl) (by kernel_rfl) (fun _ _ _ h => h) (Or.inl ⟨by rfl, ?_⟩) ?_
            rotate_left
            focus (intro w; go_simp; try (with_reducible rfl); done)
            try simp only [Act.put, List.setIfInBounds_toArray, List.set_cons_zero, List.set_cons_succ]
            refine wpAny_take (i := 12) (oi := ⟨_, _, _, _, _, _⟩) (v := undef) rfl (by kernel_rfl) (by kernel_rfl) (by kernel_rfl) (fun _ _ _ h => h) (Or.inr ⟨by rfl, rfl⟩) ?_
            try simp only [Act.put, List.setIfInBounds_toArray, List.set_cons_zero, List.set_cons_succ]
            refine wpAny_take (i := 13) (oi := ⟨_, _, _, _, _, _⟩) (v := undef) rfl (by kernel_rfl) (by kernel_rfl) (by kernel_rfl) (fun _ _ _ h => h) (Or.inr ⟨by rfl, rfl⟩) ?_
            try simp only [Act.put, List.setIfInBounds_toArray, List.set_cons_zero, List.set_cons_succ]
            refine wpAny_take (i := 14) (oi := ⟨_, _, _, _, _, _⟩) (v := undef) rfl (by kernel_rfl) (by kernel_rfl) (by kernel_rfl) (fun _ _ _ h => h) (Or.inr ⟨by rfl, rfl⟩) ?_
            try simp only [Act.put, List.setIfInBounds_toArray, List.set_cons_zero, List.set_cons_succ]
            refine wpAny_take (i := 15) (oi := ⟨_, _, _, _, _, _⟩) (v := ?_) rfl (by kernel_rfl) (by kernel_rfl) (by kernel_rfl) (fun _ _ _ h => h) (Or.inl ⟨by rfl, ?_⟩) ?_
            rotate_left
            focus (intro w; go_simp; try (with_reducible rfl); done)
            try simp only [Act.put, List.setIfInBounds_toArray, List.set_cons_zero, List.set_cons_succ]
            refine wpAny_done (by kernel_rfl) ?_ _
            clear HSW HC0 HC1 HC2
            clear kk0 kk1 kk2 kk3 kk4 kk5 kk6 kk7 kk8 kk9 kk10 kk11
            clear m0_0 m0_1 m0_2 m0_3 m0_4 m0_5 m0_6 m0_7 m0_8 m0_9 m0_10 m0_11 m1_0 m1_1 m1_2 m1_3 m1_4 m1_5 m1_6 m1_7 m1_8 m1_9 m1_10 m1_11 m2_0 m2_1 m2_2 m2_3 m2_4 m2_5 m2_6 m2_7 m2_8 m2_9 m2_10 m2_11
            have hbt := HX2.out
            obtain ⟨w5, hww⟩ : ∃ x : World, x = x2 := ⟨_, rfl⟩
            subst hww
            have HEV_39 := Lib.hid (HEV_33.out.below hbt HEV_33.out.lt)
            have HEW_40 := Lib.hid (HEW_34.out.below hbt HEW_34.out.lt)
            have HEU_41 := Lib.hid (HEU_32.out.below hbt HEU_32.out.lt)
            clear HEV_33 HEW_34 HEU_32
            have HL_42 := Lib.hid (HL_35.out.keep hbt (by omega))
            have HM_43 := Lib.hid (HM_36.out.keep hbt (by omega))
            have HU_44 := Lib.hid (HU_37.out.keep hbt (by omega))
            have HB_45 := Lib.hid (up HB_38.out hbt)
            have hz_5 := hbt.size
            clear HL_35 HM_36 HU_37 HB_38
            clear hbt
            have HC0 := Lib.hid (show ∀ wx, Below w5.heap.size w5 wx → Calls Try.prog 17 #[.agg #[.int .i64 N, .int .i64 T, .int .i64 S, .slice A1 m c1], .agg #[.int .i64 N2, .int .i64 T2, .int .i64 S2, .slice A2 m2 c3]] wx (SnP1 0 0 0 [] 0 wx) from fun wx hb => (InstallSnapS_any N T S 0 _ m c1 A1 ps N2 T2 S2 0 _ m2 c3 A2 qs wx (HL_42.out.keep hb (by omega)) (Nat.le_trans (by omega) hb.size) (by omega) (by omega) (HM_43.out.keep hb (by omega)) (Nat.le_trans (by omega) hb.size) (by omega) (by omega)).mono fun _ _ h => SnPost1.p HIN.out HK3.out h)
            have HC1 := Lib.hid (show ∀ wx A9 c9 lo9 hi9, Below w5.heap.size w5 wx → Rd wx lo9 hi9 2 A9 0 (pvs []) → hi9 ≤ wx.heap.size → Calls Try.prog 16 #[.agg #[.int .i64 0, .int .i64 0, .int .i64 0, .slice A5 0 c5], .agg #[.int .i64 0, .int .i64 0, .int .i64 0, .slice A9 0 c9]] wx fun e w' => e = .returned (.bool true) ∧ Below wx.heap.size wx w' from fun wx A9 c9 lo9 hi9 hb hr9 hh9 => equalSnap_same 0 0 0 0 _ 0 c5 lo9 hi9 c9 A5 A9 [] wx (HU_44.out.keep hb (by omega)) (Nat.le_trans (by omega) hb.size) (by omega) hr9 hh9)
            have HSW := Lib.hid (show ∀ wx, Below w5.heap.size w5 wx → wx.cell? ⟨w1.heap.size, 0, none⟩ = some (.int .i64 N) ∧ wx.cell? ⟨w1.heap.size, 1, none⟩ = some (.int .i64 T) ∧ wx.cell? ⟨w1.heap.size, 2, none⟩ = some (.int .i64 S) ∧ wx.cell? ⟨w1.heap.size, 3, none⟩ = some (.slice A1 m c1) ∧ wx.cell? ⟨(w1.heap.size + 1), 0, none⟩ = some (.int .i64 N2) ∧ wx.cell? ⟨(w1.heap.size + 1), 1, none⟩ = some (.int .i64 T2) ∧ wx.cell? ⟨(w1.heap.size + 1), 2, none⟩ = some (.int .i64 S2) ∧ wx.cell? ⟨(w1.heap.size + 1), 3, none⟩ = some (.slice A2 m2 c3) ∧ wx.cell? ⟨w3.heap.size, 0, none⟩ = some (.int .i64 0) ∧ wx.cell? ⟨w3.heap.size, 1, none⟩ = some (.int .i64 0) ∧ wx.cell? ⟨w3.heap.size, 2, none⟩ = some (.int .i64 0) ∧ wx.cell? ⟨w3.heap.size, 3, none⟩ = some (.slice A5 0 c5) from fun wx hb => ⟨(hb.cell (by show w1.heap.size < w5.heap.size; omega)).trans (HEV_39.out.cell 0), (hb.cell (by show w1.heap.size < w5.heap.size; omega)).trans (HEV_39.out.cell 1), (hb.cell (by show w1.heap.size < w5.heap.size; omega)).trans (HEV_39.out.cell 2), (hb.cell (by show w1.heap.size < w5.heap.size; omega)).trans (HEV_39.out.cell 3), (hb.cell (by show (w1.heap.size + 1) < w5.heap.size; omega)).trans (HEW_40.out.cell 0), (hb.cell (by show (w1.heap.size + 1) < w5.heap.size; omega)).trans (HEW_40.out.cell 1), (hb.cell (by show (w1.heap.size + 1) < w5.heap.size; omega)).trans (HEW_40.out.cell 2), (hb.cell (by show (w1.heap.size + 1) < w5.heap.size; omega)).trans (HEW_40.out.cell 3), (hb.cell (by show w3.heap.size < w5.heap.size; omega)).trans (HEU_41.out.cell 0), (hb.cell (by show w3.heap.size < w5.heap.size; omega)).trans (HEU_41.out.cell 1), (hb.cell (by show w3.heap.size < w5.heap.size; omega)).trans (HEU_41.out.cell 2), (hb.cell (by show w3.heap.size < w5.heap.size; omega)).trans (HEU_41.out.cell 3)⟩)
            obtain ⟨kk0, kk1, kk2, kk3, kk4, kk5, kk6, kk7, kk8, kk9, kk10, kk11⟩ := HSW.out _ (Below.refl _ _)
            go_wp2_with (fail)
            clear kk0 kk1 kk2 kk3 kk4 kk5 kk6 kk7 kk8 kk9 kk10 kk11
            go_region_held3 (fun wx => wx.cell? ⟨w1.heap.size, 0, none⟩ = some (.int .i64 N) ∧ wx.cell? ⟨w1.heap.size, 1, none⟩ = some (.int .i64 T) ∧ wx.cell? ⟨w1.heap.size, 2, none⟩ = some (.int .i64 S) ∧ wx.cell? ⟨w1.heap.size, 3, none⟩ = some (.slice A1 m c1) ∧ wx.cell? ⟨(w1.heap.size + 1), 0, none⟩ = some (.int .i64 N2) ∧ wx.cell? ⟨(w1.heap.size + 1), 1, none⟩ = some (.int .i64 T2) ∧ wx.cell? ⟨(w1.heap.size + 1), 2, none⟩ = some (.int .i64 S2) ∧ wx.cell? ⟨(w1.heap.size + 1), 3, none⟩ = some (.slice A2 m2 c3) ∧ wx.cell? ⟨w3.heap.size, 0, none⟩ = some (.int .i64 0) ∧ wx.cell? ⟨w3.heap.size, 1, none⟩ = some (.int .i64 0) ∧ wx.cell? ⟨w3.heap.size, 2, none⟩ = some (.int .i64 0) ∧ wx.cell? ⟨w3.heap.size, 3, none⟩ = some (.slice A5 0 c5))
              (first | with_reducible exact HSW.out _ (Below.refl _ _) | with_reducible exact HSW.out _ (up_drew (Below.refl _ _)) | with_reducible exact HSW.out _ (HX0.out) | with_reducible exact HSW.out _ (HX1.out))
              ((first
                | (go_at_call 17; (with_reducible refine (HC0.out _ (up_drew (Below.refl _ _))).mono ?_); rintro e x0 ⟨A9, c9, rfl, hk9, hr9, hb9⟩; have HX0 := Lib.hid (up (up_drew (Below.refl _ _)) hb9); have HR9 := Lib.hid hr9; clear hb9 hr9)
                | (go_at_call 16; (with_reducible refine (HC1.out _ _ _ _ _ HX0.out HR9.out (Nat.le_refl _)).mono ?_); rintro e x1 ⟨rfl, hbx⟩; have HX1 := Lib.hid (up HX0.out hbx); clear hbx)
                | fail "no arm"))
            all_goals
              go_wp2
              go_ret
              exact ⟨rfl, up HB_45.out HX1.out⟩
          · go_simp
            (go_at_call 17; (with_reducible refine (HC0.out _ (up_drew (Below.refl _ _))).mono ?_); rintro e x0 ⟨A9, c9, rfl, hk9, hr9, hb9⟩; have HX0 := Lib.hid (up (up_drew (Below.refl _ _)) hb9); have HR9 := Lib.hid hr9; clear hb9 hr9; obtain ⟨m0_0, m0_1, m0_2, m0_3, m0_4, m0_5, m0_6, m0_7, m0_8, m0_9, m0_10, m0_11⟩ := HSW.out _ HX0.out)
            try go_simp
            try (refine hK _ _ ?_)
            try clear hK
            try clear K
            try simp only [Act.put, List.setIfInBounds_toArray, List.set_cons_zero, List.set_cons_succ]
            refine wpAny_ready (rs := [0]) (by kernel_rfl) (by simp) ?_
            refine (AllReady.cons (o := ⟨_, _, _, _, _, _⟩) rfl (fun K hK => ?_) AllReady.nil)
            go_simp
            try (refine hK _ _ ?_)
            try clear hK
            try clear K
            try simp only [Act.put, List.setIfInBounds_toArray, List.set_cons_zero, List.set_cons_succ]
            refine wpAny_ready (rs := [4]) (by kernel_rfl) (by simp) ?_
            refine (AllReady.cons (o := ⟨_, _, _, _, _, _⟩) rfl (fun K hK => ?_) AllReady.nil)
            go_simp
            (go_at_call 16; (with_reducible refine (HC1.out _ _ _ _ _ HX0.out HR9.out (Nat.le_refl _)).mono ?_); rintro e x1 ⟨rfl, hbx⟩; have HX1 := Lib.hid (up HX0.out hbx); clear hbx; obtain ⟨m1_0, m1_1, m1_2, m1_3, m1_4, m1_5, m1_6, m1_7, m1_8, m1_9, m1_10, m1_11⟩ := HSW.out _ HX1.out)
            try go_simp
            try (refine hK _ _ ?_)
            try clear hK
            try clear K
            try simp only [Act.put, List.setIfInBounds_toArray, List.set_cons_zero, List.set_cons_succ]
            refine wpAny_take (i := 5) (oi := ⟨_, _, _, _, _, _⟩) (v := ?_) rfl (by kernel_rfl) (by kernel_rfl) (by kernel_rfl) (fun _ _ _ h => h) (Or.inl ⟨by rfl, ?_⟩) ?_
            rotate_left
            focus (intro w; go_simp; try (with_reducible rfl); done)
            try simp only [Act.put, List.setIfInBounds_toArray, List.set_cons_zero, List.set_cons_succ]
            refine wpAny_take (i := 6) (oi := ⟨_, _, _, _, _, _⟩) (v := ?_) rfl (by kernel_rfl) (by kernel_rfl) (by kernel_rfl) (fun _ _ _ h => h) (Or.inl ⟨by rfl, ?_⟩) ?_
            rotate_left
            focus (intro w; go_simp; try (with_reducible rfl); done)
            try simp only [Act.put, List.setIfInBounds_toArray, List.set_cons_zero, List.set_cons_succ]
            refine wpAny_ready (rs := [7]) (by kernel_rfl) (by simp) ?_
            refine (AllReady.cons (o := ⟨_, _, _, _, _, _⟩) rfl (fun K hK => ?_) AllReady.nil)
            go_simp
            try (refine hK _ _ ?_)
            try clear hK
            try clear K
            try simp only [Act.put, List.setIfInBounds_toArray, List.set_cons_zero, List.set_cons_succ]
            refine wpAny_ready (rs := [8]) (by kernel_rfl) (by simp) ?_
            refine (AllReady.cons (o := ⟨_, _, _, _, _, _⟩) rfl (fun K hK => ?_) AllReady.nil)
            go_simp
            (go_at_call 18; (with_reducible refine (HC2.out _ HX1.out).mono ?_); rintro e x2 ⟨rfl, hbx⟩; have HX2 := Lib.hid (up HX1.out hbx); clear hbx; obtain ⟨m2_0, m2_1, m2_2, m2_3, m2_4, m2_5, m2_6, m2_7, m2_8, m2_9, m2_10, m2_11⟩ := HSW.out _ HX2.out)
            try go_simp
            try (refine hK _ _ ?_)
            try clear hK
            try clear K
            try simp only [Act.put, List.setIfInBounds_toArray, List.set_cons_zero, List.set_cons_succ]
            refine wpAny_take (i := 9) (oi := ⟨_, _, _, _, _, _⟩) (v := ?_) rfl (by kernel_rfl) (by kernel_rfl) (by kernel_rfl) (fun _ _ _ h => h) (Or.inl ⟨by rfl, ?_⟩) ?_
            rotate_left
            focus (intro w; go_simp; try (with_reducible rfl); done)
            try simp only [Act.put, List.setIfInBounds_toArray, List.set_cons_zero, List.set_cons_succ]
            refine wpAny_take (i := 10) (oi := ⟨_, _, _, _, _, _⟩) (v := ?_) rfl (by kernel_rfl) (by kernel_rfl) (by kernel_rfl) (fun _ _ _ h => h) (Or.inl ⟨by rfl, ?_⟩) ?_
            rotate_left
            focus (intro w; go_simp; try (with_reducible rfl); done)
            try simp only [Act.put, List.setIfInBounds_toArray, List.set_cons_zero, List.set_cons_succ]
            refine wpAny_take (i := 11) (oi := ⟨_, _, _, _, _, _⟩) (v := ?_) rfl (by kernel_rfl) (by kernel_rfl) (by kernel_rfl) (fun _ _ _ h => h) (Or.inl ⟨by rfl, ?_⟩) ?_
            rotate_left
            focus (intro w; go_simp; try (with_reducible rfl); done)
            try simp only [Act.put, List.setIfInBounds_toArray, List.set_cons_zero, List.set_cons_succ]
            refine wpAny_take (i := 12) (oi := ⟨_, _, _, _, _, _⟩) (v := undef) rfl (by kernel_rfl) (by kernel_rfl) (by kernel_rfl) (fun _ _ _ h => h) (Or.inr ⟨by rfl, rfl⟩) ?_
            try simp only [Act.put, List.setIfInBounds_toArray, List.set_cons_zero, List.set_cons_succ]
            refine wpAny_take (i := 13) (oi := ⟨_, _, _, _, _, _⟩) (v := undef) rfl (by kernel_rfl) (by kernel_rfl) (by kernel_rfl) (fun _ _ _ h => h) (Or.inr ⟨by rfl, rfl⟩) ?_
            try simp only [Act.put, List.setIfInBounds_toArray, List.set_cons_zero, List.set_cons_succ]
            refine wpAny_take (i := 14) (oi := ⟨_, _, _, _, _, _⟩) (v := undef) rfl (by kernel_rfl) (by kernel_rfl) (by kernel_rfl) (fun _ _ _ h => h) (Or.inr ⟨by rfl, rfl⟩) ?_
            try simp only [Act.put, List.setIfInBounds_toArray, List.set_cons_zero, List.set_cons_succ]
            refine wpAny_take (i := 15) (oi := ⟨_, _, _, _, _, _⟩) (v := ?_) rfl (by kernel_rfl) (by kernel_rfl) (by kernel_rfl) (fun _ _ _ h => h) (Or.inl ⟨by rfl, ?_⟩) ?_
            rotate_left
            focus (intro w; go_simp; try (with_reducible rfl); done)
            try simp only [Act.put, List.setIfInBounds_toArray, List.set_cons_zero, List.set_cons_succ]
            refine wpAny_done (by kernel_rfl) ?_ _
            clear HSW HC0 HC1 HC2
            clear kk0 kk1 kk2 kk3 kk4 kk5 kk6 kk7 kk8 kk9 kk10 kk11
            clear m0_0 m0_1 m0_2 m0_3 m0_4 m0_5 m0_6 m0_7 m0_8 m0_9 m0_10 m0_11 m1_0 m1_1 m1_2 m1_3 m1_4 m1_5 m1_6 m1_7 m1_8 m1_9 m1_10 m1_11 m2_0 m2_1 m2_2 m2_3 m2_4 m2_5 m2_6 m2_7 m2_8 m2_9 m2_10 m2_11
            have hbt := HX2.out
            obtain ⟨w5, hww⟩ : ∃ x : World, x = x2 := ⟨_, rfl⟩
            subst hww
            have HEV_39 := Lib.hid (HEV_33.out.below hbt HEV_33.out.lt)
            have HEW_40 := Lib.hid (HEW_34.out.below hbt HEW_34.out.lt)
            have HEU_41 := Lib.hid (HEU_32.out.below hbt HEU_32.out.lt)
            clear HEV_33 HEW_34 HEU_32
            have HL_42 := Lib.hid (HL_35.out.keep hbt (by omega))
            have HM_43 := Lib.hid (HM_36.out.keep hbt (by omega))
            have HU_44 := Lib.hid (HU_37.out.keep hbt (by omega))
            have HB_45 := Lib.hid (up HB_38.out hbt)
            have hz_5 := hbt.size
            clear HL_35 HM_36 HU_37 HB_38
            clear hbt
            have HC0 := Lib.hid (show ∀ wx, Below w5.heap.size w5 wx → Calls Try.prog 17 #[.agg #[.int .i64 N, .int .i64 T, .int .i64 S, .slice A1 m c1], .agg #[.int .i64 N2, .int .i64 T2, .int .i64 S2, .slice A2 m2 c3]] wx (SnP1 0 0 0 [] 0 wx) from fun wx hb => (InstallSnapS_any N T S 0 _ m c1 A1 ps N2 T2 S2 0 _ m2 c3 A2 qs wx (HL_42.out.keep hb (by omega)) (Nat.le_trans (by omega) hb.size) (by omega) (by omega) (HM_43.out.keep hb (by omega)) (Nat.le_trans (by omega) hb.size) (by omega) (by omega)).mono fun _ _ h => SnPost1.p HIN.out HK3.out h)
            have HC1 := Lib.hid (show ∀ wx A9 c9 lo9 hi9, Below w5.heap.size w5 wx → Rd wx lo9 hi9 2 A9 0 (pvs []) → hi9 ≤ wx.heap.size → Calls Try.prog 16 #[.agg #[.int .i64 0, .int .i64 0, .int .i64 0, .slice A5 0 c5], .agg #[.int .i64 0, .int .i64 0, .int .i64 0, .slice A9 0 c9]] wx fun e w' => e = .returned (.bool true) ∧ Below wx.heap.size wx w' from fun wx A9 c9 lo9 hi9 hb hr9 hh9 => equalSnap_same 0 0 0 0 _ 0 c5 lo9 hi9 c9 A5 A9 [] wx (HU_44.out.keep hb (by omega)) (Nat.le_trans (by omega) hb.size) (by omega) hr9 hh9)
            have HSW := Lib.hid (show ∀ wx, Below w5.heap.size w5 wx → wx.cell? ⟨w1.heap.size, 0, none⟩ = some (.int .i64 N) ∧ wx.cell? ⟨w1.heap.size, 1, none⟩ = some (.int .i64 T) ∧ wx.cell? ⟨w1.heap.size, 2, none⟩ = some (.int .i64 S) ∧ wx.cell? ⟨w1.heap.size, 3, none⟩ = some (.slice A1 m c1) ∧ wx.cell? ⟨(w1.heap.size + 1), 0, none⟩ = some (.int .i64 N2) ∧ wx.cell? ⟨(w1.heap.size + 1), 1, none⟩ = some (.int .i64 T2) ∧ wx.cell? ⟨(w1.heap.size + 1), 2, none⟩ = some (.int .i64 S2) ∧ wx.cell? ⟨(w1.heap.size + 1), 3, none⟩ = some (.slice A2 m2 c3) ∧ wx.cell? ⟨w3.heap.size, 0, none⟩ = some (.int .i64 0) ∧ wx.cell? ⟨w3.heap.size, 1, none⟩ = some (.int .i64 0) ∧ wx.cell? ⟨w3.heap.size, 2, none⟩ = some (.int .i64 0) ∧ wx.cell? ⟨w3.heap.size, 3, none⟩ = some (.slice A5 0 c5) from fun wx hb => ⟨(hb.cell (by show w1.heap.size < w5.heap.size; omega)).trans (HEV_39.out.cell 0), (hb.cell (by show w1.heap.size < w5.heap.size; omega)).trans (HEV_39.out.cell 1), (hb.cell (by show w1.heap.size < w5.heap.size; omega)).trans (HEV_39.out.cell 2), (hb.cell (by show w1.heap.size < w5.heap.size; omega)).trans (HEV_39.out.cell 3), (hb.cell (by show (w1.heap.size + 1) < w5.heap.size; omega)).trans (HEW_40.out.cell 0), (hb.cell (by show (w1.heap.size + 1) < w5.heap.size; omega)).trans (HEW_40.out.cell 1), (hb.cell (by show (w1.heap.size + 1) < w5.heap.size; omega)).trans (HEW_40.out.cell 2), (hb.cell (by show (w1.heap.size + 1) < w5.heap.size; omega)).trans (HEW_40.out.cell 3), (hb.cell (by show w3.heap.size < w5.heap.size; omega)).trans (HEU_41.out.cell 0), (hb.cell (by show w3.heap.size < w5.heap.size; omega)).trans (HEU_41.out.cell 1), (hb.cell (by show w3.heap.size < w5.heap.size; omega)).trans (HEU_41.out.cell 2), (hb.cell (by show w3.heap.size < w5.heap.size; omega)).trans (HEU_41.out.cell 3)⟩)
            obtain ⟨kk0, kk1, kk2, kk3, kk4, kk5, kk6, kk7, kk8, kk9, kk10, kk11⟩ := HSW.out _ (Below.refl _ _)
            go_wp2_with (fail)
            clear kk0 kk1 kk2 kk3 kk4 kk5 kk6 kk7 kk8 kk9 kk10 kk11
            go_region_held3 (fun wx => wx.cell? ⟨w1.heap.size, 0, none⟩ = some (.int .i64 N) ∧ wx.cell? ⟨w1.heap.size, 1, none⟩ = some (.int .i64 T) ∧ wx.cell? ⟨w1.heap.size, 2, none⟩ = some (.int .i64 S) ∧ wx.cell? ⟨w1.heap.size, 3, none⟩ = some (.slice A1 m c1) ∧ wx.cell? ⟨(w1.heap.size + 1), 0, none⟩ = some (.int .i64 N2) ∧ wx.cell? ⟨(w1.heap.size + 1), 1, none⟩ = some (.int .i64 T2) ∧ wx.cell? ⟨(w1.heap.size + 1), 2, none⟩ = some (.int .i64 S2) ∧ wx.cell? ⟨(w1.heap.size + 1), 3, none⟩ = some (.slice A2 m2 c3) ∧ wx.cell? ⟨w3.heap.size, 0, none⟩ = some (.int .i64 0) ∧ wx.cell? ⟨w3.heap.size, 1, none⟩ = some (.int .i64 0) ∧ wx.cell? ⟨w3.heap.size, 2, none⟩ = some (.int .i64 0) ∧ wx.cell? ⟨w3.heap.size, 3, none⟩ = some (.slice A5 0 c5))
              (first | with_reducible exact HSW.out _ (Below.refl _ _) | with_reducible exact HSW.out _ (up_drew (Below.refl _ _)) | with_reducible exact HSW.out _ (HX0.out) | with_reducible exact HSW.out _ (HX1.out))
              ((first
                | (go_at_call 17; (with_reducible refine (HC0.out _ (up_drew (Below.refl _ _))).mono ?_); rintro e x0 ⟨A9, c9, rfl, hk9, hr9, hb9⟩; have HX0 := Lib.hid (up (up_drew (Below.refl _ _)) hb9); have HR9 := Lib.hid hr9; clear hb9 hr9)
                | (go_at_call 16; (with_reducible refine (HC1.out _ _ _ _ _ HX0.out HR9.out (Nat.le_refl _)).mono ?_); rintro e x1 ⟨rfl, hbx⟩; have HX1 := Lib.hid (up HX0.out hbx); clear hbx)
                | fail "no arm"))
            all_goals
              go_wp2
              go_ret
              exact ⟨rfl, up HB_45.out HX1.out⟩
      · go_simp
        try (refine hK _ _ ?_)
        try clear hK
        try clear K
        try simp only [Act.put, List.setIfInBounds_toArray, List.set_cons_zero, List.set_cons_succ]
        refine wpAny_ready (rs := [0, 1]) (by kernel_rfl) (by simp) ?_
        refine (AllReady.cons (o := ⟨_, _, _, _, _, _⟩) rfl (fun K hK => ?_) (AllReady.cons (o := ⟨_, _, _, _, _, _⟩) rfl (fun K hK => ?_) AllReady.nil))
        · go_simp
          try (refine hK _ _ ?_)
          try clear hK
          try clear K
          try simp only [Act.put, List.setIfInBounds_toArray, List.set_cons_zero, List.set_cons_succ]
          refine wpAny_ready (rs := [1]) (by kernel_rfl) (by simp) ?_
          refine (AllReady.cons (o := ⟨_, _, _, _, _, _⟩) rfl (fun K hK => ?_) AllReady.nil)
          go_simp
          try (refine hK _ _ ?_)
          try clear hK
          try clear K
          try simp only [Act.put, List.setIfInBounds_toArray, List.set_cons_zero, List.set_cons_succ]
          refine wpAny_ready (rs := [3]) (by kernel_rfl) (by simp) ?_
          refine (AllReady.cons (o := ⟨_, _, _, _, _, _⟩) rfl (fun K hK => ?_) AllReady.nil)
          go_simp
          (go_at_call 17; (with_reducible refine (HC0.out _ (up_drew (Below.refl _ _))).mono ?_); rintro e x0 ⟨A9, c9, rfl, hk9, hr9, hb9⟩; have HX0 := Lib.hid (up (up_drew (Below.refl _ _)) hb9); have HR9 := Lib.hid hr9; clear hb9 hr9; obtain ⟨m0_0, m0_1, m0_2, m0_3, m0_4, m0_5, m0_6, m0_7, m0_8, m0_9, m0_10, m0_11⟩ := HSW.out _ HX0.out)
          try go_simp
          try (refine hK _ _ ?_)
          try clear hK
          try clear K
          try simp only [Act.put, List.setIfInBounds_toArray, List.set_cons_zero, List.set_cons_succ]
          refine wpAny_ready (rs := [4]) (by kernel_rfl) (by simp) ?_
          refine (AllReady.cons (o := ⟨_, _, _, _, _, _⟩) rfl (fun K hK => ?_) AllReady.nil)
          go_simp
          (go_at_call 16; (with_reducible refine (HC1.out _ _ _ _ _ HX0.out HR9.out (Nat.le_refl _)).mono ?_); rintro e x1 ⟨rfl, hbx⟩; have HX1 := Lib.hid (up HX0.out hbx); clear hbx; obtain ⟨m1_0, m1_1, m1_2, m1_3, m1_4, m1_5, m1_6, m1_7, m1_8, m1_9, m1_10, m1_11⟩ := HSW.out _ HX1.out)
          try go_simp
          try (refine hK _ _ ?_)
          try clear hK
          try clear K
          try simp only [Act.put, List.setIfInBounds_toArray, List.set_cons_zero, List.set_cons_succ]
          refine wpAny_take (i := 5) (oi := ⟨_, _, _, _, _, _⟩) (v := ?_) rfl (by kernel_rfl) (by kernel_rfl) (by kernel_rfl) (fun _ _ _ h => h) (Or.inl ⟨by rfl, ?_⟩) ?_
          rotate_left
          focus (intro w; go_simp; try (with_reducible rfl); done)
          try simp only [Act.put, List.setIfInBounds_toArray, List.set_cons_zero, List.set_cons_succ]
          refine wpAny_take (i := 6) (oi := ⟨_, _, _, _, _, _⟩) (v := ?_) rfl (by kernel_rfl) (by kernel_rfl) (by kernel_rfl) (fun _ _ _ h => h) (Or.inl ⟨by rfl, ?_⟩) ?_
          rotate_left
          focus (intro w; go_simp; try (with_reducible rfl); done)
          try simp only [Act.put, List.setIfInBounds_toArray, List.set_cons_zero, List.set_cons_succ]
          refine wpAny_ready (rs := [7]) (by kernel_rfl) (by simp) ?_
          refine (AllReady.cons (o := ⟨_, _, _, _, _, _⟩) rfl (fun K hK => ?_) AllReady.nil)
          go_simp
          try (refine hK _ _ ?_)
          try clear hK
          try clear K
          try simp only [Act.put, List.setIfInBounds_toArray, List.set_cons_zero, List.set_cons_succ]
          refine wpAny_ready (rs := [8]) (by kernel_rfl) (by simp) ?_
          refine (AllReady.cons (o := ⟨_, _, _, _, _, _⟩) rfl (fun K hK => ?_) AllReady.nil)
          go_simp
          (go_at_call 18; (with_reducible refine (HC2.out _ HX1.out).mono ?_); rintro e x2 ⟨rfl, hbx⟩; have HX2 := Lib.hid (up HX1.out hbx); clear hbx; obtain ⟨m2_0, m2_1, m2_2, m2_3, m2_4, m2_5, m2_6, m2_7, m2_8, m2_9, m2_10, m2_11⟩ := HSW.out _ HX2.out)
          try go_simp
          try (refine hK _ _ ?_)
          try clear hK
          try clear K
          try simp only [Act.put, List.setIfInBounds_toArray, List.set_cons_zero, List.set_cons_succ]
          refine wpAny_take (i := 9) (oi := ⟨_, _, _, _, _, _⟩) (v := ?_) rfl (by kernel_rfl) (by kernel_rfl) (by kernel_rfl) (fun _ _ _ h => h) (Or.inl ⟨by rfl, ?_⟩) ?_
          rotate_left
          focus (intro w; go_simp; try (with_reducible rfl); done)
          try simp only [Act.put, List.setIfInBounds_toArray, List.set_cons_zero, List.set_cons_succ]
          refine wpAny_take (i := 10) (oi := ⟨_, _, _, _, _, _⟩) (v := ?_) rfl (by kernel_rfl) (by kernel_rfl) (by kernel_rfl) (fun _ _ _ h => h) (Or.inl ⟨by rfl, ?_⟩) ?_
          rotate_left
          focus (intro w; go_simp; try (with_reducible rfl); done)
          try simp only [Act.put, List.setIfInBounds_toArray, List.set_cons_zero, List.set_cons_succ]
          refine wpAny_take (i := 11) (oi := ⟨_, _, _, _, _, _⟩) (v := ?_) rfl (by kernel_rfl) (by kernel_rfl) (by kernel_rfl) (fun _ _ _ h => h) (Or.inl ⟨by rfl, ?_⟩) ?_
          rotate_left
          focus (intro w; go_simp; try (with_reducible rfl); done)
          try simp only [Act.put, List.setIfInBounds_toArray, List.set_cons_zero, List.set_cons_succ]
          refine wpAny_take (i := 12) (oi := ⟨_, _, _, _, _, _⟩) (v := undef) rfl (by kernel_rfl) (by kernel_rfl) (by kernel_rfl) (fun _ _ _ h => h) (Or.inr ⟨by rfl, rfl⟩) ?_
          try simp only [Act.put, List.setIfInBounds_toArray, List.set_cons_zero, List.set_cons_succ]
          refine wpAny_take (i := 13) (oi := ⟨_, _, _, _, _, _⟩) (v := undef) rfl (by kernel_rfl) (by kernel_rfl) (by kernel_rfl) (fun _ _ _ h => h) (Or.inr ⟨by rfl, rfl⟩) ?_
          try simp only [Act.put, List.setIfInBounds_toArray, List.set_cons_zero, List.set_cons_succ]
          refine wpAny_take (i := 14) (oi := ⟨_, _, _, _, _, _⟩) (v := undef) rfl (by kernel_rfl) (by kernel_rfl) (by kernel_rfl) (fun _ _ _ h => h) (Or.inr ⟨by rfl, rfl⟩) ?_
          try simp only [Act.put, List.setIfInBounds_toArray, List.set_cons_zero, List.set_cons_succ]
          refine wpAny_take (i := 15) (oi := ⟨_, _, _, _, _, _⟩) (v := ?_) rfl (by kernel_rfl) (by kernel_rfl) (by kernel_rfl) (fun _ _ _ h => h) (Or.inl ⟨by rfl, ?_⟩) ?_
          rotate_left
          focus (intro w; go_simp; try (with_reducible rfl); done)
          try simp only [Act.put, List.setIfInBounds_toArray, List.set_cons_zero, List.set_cons_succ]
          refine wpAny_done (by kernel_rfl) ?_ _
          clear HSW HC0 HC1 HC2
          clear kk0 kk1 kk2 kk3 kk4 kk5 kk6 kk7 kk8 kk9 kk10 kk11
          clear m0_0 m0_1 m0_2 m0_3 m0_4 m0_5 m0_6 m0_7 m0_8 m0_9 m0_10 m0_11 m1_0 m1_1 m1_2 m1_3 m1_4 m1_5 m1_6 m1_7 m1_8 m1_9 m1_10 m1_11 m2_0 m2_1 m2_2 m2_3 m2_4 m2_5 m2_6 m2_7 m2_8 m2_9 m2_10 m2_11
          have hbt := HX2.out
          obtain ⟨w5, hww⟩ : ∃ x : World, x = x2 := ⟨_, rfl⟩
          subst hww
          have HEV_39 := Lib.hid (HEV_33.out.below hbt HEV_33.out.lt)
          have HEW_40 := Lib.hid (HEW_34.out.below hbt HEW_34.out.lt)
          have HEU_41 := Lib.hid (HEU_32.out.below hbt HEU_32.out.lt)
          clear HEV_33 HEW_34 HEU_32
          have HL_42 := Lib.hid (HL_35.out.keep hbt (by omega))
          have HM_43 := Lib.hid (HM_36.out.keep hbt (by omega))
          have HU_44 := Lib.hid (HU_37.out.keep hbt (by omega))
          have HB_45 := Lib.hid (up HB_38.out hbt)
          have hz_5 := hbt.size
          clear HL_35 HM_36 HU_37 HB_38
          clear hbt
          have HC0 := Lib.hid (show ∀ wx, Below w5.heap.size w5 wx → Calls Try.prog 17 #[.agg #[.int .i64 N, .int .i64 T, .int .i64 S, .slice A1 m c1], .agg #[.int .i64 N2, .int .i64 T2, .int .i64 S2, .slice A2 m2 c3]] wx (SnP1 0 0 0 [] 0 wx) from fun wx hb => (InstallSnapS_any N T S 0 _ m c1 A1 ps N2 T2 S2 0 _ m2 c3 A2 qs wx (HL_42.out.keep hb (by omega)) (Nat.le_trans (by omega) hb.size) (by omega) (by omega) (HM_43.out.keep hb (by omega)) (Nat.le_trans (by omega) hb.size) (by omega) (by omega)).mono fun _ _ h => SnPost1.p HIN.out HK3.out h)
          have HC1 := Lib.hid (show ∀ wx A9 c9 lo9 hi9, Below w5.heap.size w5 wx → Rd wx lo9 hi9 2 A9 0 (pvs []) → hi9 ≤ wx.heap.size → Calls Try.prog 16 #[.agg #[.int .i64 0, .int .i64 0, .int .i64 0, .slice A5 0 c5], .agg #[.int .i64 0, .int .i64 0, .int .i64 0, .slice A9 0 c9]] wx fun e w' => e = .returned (.bool true) ∧ Below wx.heap.size wx w' from fun wx A9 c9 lo9 hi9 hb hr9 hh9 => equalSnap_same 0 0 0 0 _ 0 c5 lo9 hi9 c9 A5 A9 [] wx (HU_44.out.keep hb (by omega)) (Nat.le_trans (by omega) hb.size) (by omega) hr9 hh9)
          have HSW := Lib.hid (show ∀ wx, Below w5.heap.size w5 wx → wx.cell? ⟨w1.heap.size, 0, none⟩ = some (.int .i64 N) ∧ wx.cell? ⟨w1.heap.size, 1, none⟩ = some (.int .i64 T) ∧ wx.cell? ⟨w1.heap.size, 2, none⟩ = some (.int .i64 S) ∧ wx.cell? ⟨w1.heap.size, 3, none⟩ = some (.slice A1 m c1) ∧ wx.cell? ⟨(w1.heap.size + 1), 0, none⟩ = some (.int .i64 N2) ∧ wx.cell? ⟨(w1.heap.size + 1), 1, none⟩ = some (.int .i64 T2) ∧ wx.cell? ⟨(w1.heap.size + 1), 2, none⟩ = some (.int .i64 S2) ∧ wx.cell? ⟨(w1.heap.size + 1), 3, none⟩ = some (.slice A2 m2 c3) ∧ wx.cell? ⟨w3.heap.size, 0, none⟩ = some (.int .i64 0) ∧ wx.cell? ⟨w3.heap.size, 1, none⟩ = some (.int .i64 0) ∧ wx.cell? ⟨w3.heap.size, 2, none⟩ = some (.int .i64 0) ∧ wx.cell? ⟨w3.heap.size, 3, none⟩ = some (.slice A5 0 c5) from fun wx hb => ⟨(hb.cell (by show w1.heap.size < w5.heap.size; omega)).trans (HEV_39.out.cell 0), (hb.cell (by show w1.heap.size < w5.heap.size; omega)).trans (HEV_39.out.cell 1), (hb.cell (by show w1.heap.size < w5.heap.size; omega)).trans (HEV_39.out.cell 2), (hb.cell (by show w1.heap.size < w5.heap.size; omega)).trans (HEV_39.out.cell 3), (hb.cell (by show (w1.heap.size + 1) < w5.heap.size; omega)).trans (HEW_40.out.cell 0), (hb.cell (by show (w1.heap.size + 1) < w5.heap.size; omega)).trans (HEW_40.out.cell 1), (hb.cell (by show (w1.heap.size + 1) < w5.heap.size; omega)).trans (HEW_40.out.cell 2), (hb.cell (by show (w1.heap.size + 1) < w5.heap.size; omega)).trans (HEW_40.out.cell 3), (hb.cell (by show w3.heap.size < w5.heap.size; omega)).trans (HEU_41.out.cell 0), (hb.cell (by show w3.heap.size < w5.heap.size; omega)).trans (HEU_41.out.cell 1), (hb.cell (by show w3.heap.size < w5.heap.size; omega)).trans (HEU_41.out.cell 2), (hb.cell (by show w3.heap.size < w5.heap.size; omega)).trans (HEU_41.out.cell 3)⟩)
          obtain ⟨kk0, kk1, kk2, kk3, kk4, kk5, kk6, kk7, kk8, kk9, kk10, kk11⟩ := HSW.out _ (Below.refl _ _)
          go_wp2_with (fail)
          clear kk0 kk1 kk2 kk3 kk4 kk5 kk6 kk7 kk8 kk9 kk10 kk11
          go_region_held3 (fun wx => wx.cell? ⟨w1.heap.size, 0, none⟩ = some (.int .i64 N) ∧ wx.cell? ⟨w1.heap.size, 1, none⟩ = some (.int .i64 T) ∧ wx.cell? ⟨w1.heap.size, 2, none⟩ = some (.int .i64 S) ∧ wx.cell? ⟨w1.heap.size, 3, none⟩ = some (.slice A1 m c1) ∧ wx.cell? ⟨(w1.heap.size + 1), 0, none⟩ = some (.int .i64 N2) ∧ wx.cell? ⟨(w1.heap.size + 1), 1, none⟩ = some (.int .i64 T2) ∧ wx.cell? ⟨(w1.heap.size + 1), 2, none⟩ = some (.int .i64 S2) ∧ wx.cell? ⟨(w1.heap.size + 1), 3, none⟩ = some (.slice A2 m2 c3) ∧ wx.cell? ⟨w3.heap.size, 0, none⟩ = some (.int .i64 0) ∧ wx.cell? ⟨w3.heap.size, 1, none⟩ = some (.int .i64 0) ∧ wx.cell? ⟨w3.heap.size, 2, none⟩ = some (.int .i64 0) ∧ wx.cell? ⟨w3.heap.size, 3, none⟩ = some (.slice A5 0 c5))
            (first | with_reducible exact HSW.out _ (Below.refl _ _) | with_reducible exact HSW.out _ (up_drew (Below.refl _ _)) | with_reducible exact HSW.out _ (HX0.out) | with_reducible exact HSW.out _ (HX1.out))
            ((first
              | (go_at_call 17; (with_reducible refine (HC0.out _ (up_drew (Below.refl _ _))).mono ?_); rintro e x0 ⟨A9, c9, rfl, hk9, hr9, hb9⟩; have HX0 := Lib.hid (up (up_drew (Below.refl _ _)) hb9); have HR9 := Lib.hid hr9; clear hb9 hr9)
              | (go_at_call 16; (with_reducible refine (HC1.out _ _ _ _ _ HX0.out HR9.out (Nat.le_refl _)).mono ?_); rintro e x1 ⟨rfl, hbx⟩; have HX1 := Lib.hid (up HX0.out hbx); clear hbx)
              | fail "no arm"))
          all_goals
            go_wp2
            go_ret
            exact ⟨rfl, up HB_45.out HX1.out⟩
        · go_simp
          try (refine hK _ _ ?_)
          try clear hK
          try clear K
          try simp only [Act.put, List.setIfInBounds_toArray, List.set_cons_zero, List.set_cons_succ]
          refine wpAny_ready (rs := [0, 3]) (by kernel_rfl) (by simp) ?_
          refine (AllReady.cons (o := ⟨_, _, _, _, _, _⟩) rfl (fun K hK => ?_) (AllReady.cons (o := ⟨_, _, _, _, _, _⟩) rfl (fun K hK => ?_) AllReady.nil))
          · go_simp
            try (refine hK _ _ ?_)
            try clear hK
            try clear K
            try simp only [Act.put, List.setIfInBounds_toArray, List.set_cons_zero, List.set_cons_succ]
            refine wpAny_ready (rs := [3]) (by kernel_rfl) (by simp) ?_
            refine (AllReady.cons (o := ⟨_, _, _, _, _, _⟩) rfl (fun K hK => ?_) AllReady.nil)
            go_simp
            (go_at_call 17; (with_reducible refine (HC0.out _ (up_drew (Below.refl _ _))).mono ?_); rintro e x0 ⟨A9, c9, rfl, hk9, hr9, hb9⟩; have HX0 := Lib.hid (up (up_drew (Below.refl _ _)) hb9); have HR9 := Lib.hid hr9; clear hb9 hr9; obtain ⟨m0_0, m0_1, m0_2, m0_3, m0_4, m0_5, m0_6, m0_7, m0_8, m0_9, m0_10, m0_11⟩ := HSW.out _ HX0.out)
            try go_simp
            try (refine hK _ _ ?_)
            try clear hK
            try clear K
            try simp only [Act.put, List.setIfInBounds_toArray, List.set_cons_zero, List.set_cons_succ]
            refine wpAny_ready (rs := [4]) (by kernel_rfl) (by simp) ?_
            refine (AllReady.cons (o := ⟨_, _, _, _, _, _⟩) rfl (fun K hK => ?_) AllReady.nil)
            go_simp
            (go_at_call 16; (with_reducible refine (HC1.out _ _ _ _ _ HX0.out HR9.out (Nat.le_refl _)).mono ?_); rintro e x1 ⟨rfl, hbx⟩; have HX1 := Lib.hid (up HX0.out hbx); clear hbx; obtain ⟨m1_0, m1_1, m1_2, m1_3, m1_4, m1_5, m1_6, m1_7, m1_8, m1_9, m1_10, m1_11⟩ := HSW.out _ HX1.out)
            try go_simp
            try (refine hK _ _ ?_)
            try clear hK
            try clear K
            try simp only [Act.put, List.setIfInBounds_toArray, List.set_cons_zero, List.set_cons_succ]
            refine wpAny_take (i := 5) (oi := ⟨_, _, _, _, _, _⟩) (v := ?_) rfl (by kernel_rfl) (by kernel_rfl) (by kernel_rfl) (fun _ _ _ h => h) (Or.inl ⟨by rfl, ?_⟩) ?_
            rotate_left
            focus (intro w; go_simp; try (with_reducible rfl); done)
            try simp only [Act.put, List.setIfInBounds_toArray, List.set_cons_zero, List.set_cons_succ]
            refine wpAny_take (i := 6) (oi := ⟨_, _, _, _, _, _⟩) (v := ?_) rfl (by kernel_rfl) (by kernel_rfl) (by kernel_rfl) (fun _ _ _ h => h) (Or.inl ⟨by rfl, ?_⟩) ?_
            rotate_left
            focus (intro w; go_simp; try (with_reducible rfl); done)
            try simp only [Act.put, List.setIfInBounds_toArray, List.set_cons_zero, List.set_cons_succ]
            refine wpAny_ready (rs := [7]) (by kernel_rfl) (by simp) ?_
            refine (AllReady.cons (o := ⟨_, _, _, _, _, _⟩) rfl (fun K hK => ?_) AllReady.nil)
            go_simp
            try (refine hK _ _ ?_)
            try clear hK
            try clear K
            try simp only [Act.put, List.setIfInBounds_toArray, List.set_cons_zero, List.set_cons_succ]
            refine wpAny_ready (rs := [8]) (by kernel_rfl) (by simp) ?_
            refine (AllReady.cons (o := ⟨_, _, _, _, _, _⟩) rfl (fun K hK => ?_) AllReady.nil)
            go_simp
            (go_at_call 18; (with_reducible refine (HC2.out _ HX1.out).mono ?_); rintro e x2 ⟨rfl, hbx⟩; have HX2 := Lib.hid (up HX1.out hbx); clear hbx; obtain ⟨m2_0, m2_1, m2_2, m2_3, m2_4, m2_5, m2_6, m2_7, m2_8, m2_9, m2_10, m2_11⟩ := HSW.out _ HX2.out)
            try go_simp
            try (refine hK _ _ ?_)
            try clear hK
            try clear K
            try simp only [Act.put, List.setIfInBounds_toArray, List.set_cons_zero, List.set_cons_succ]
            refine wpAny_take (i := 9) (oi := ⟨_, _, _, _, _, _⟩) (v := ?_) rfl (by kernel_rfl) (by kernel_rfl) (by kernel_rfl) (fun _ _ _ h => h) (Or.inl ⟨by rfl, ?_⟩) ?_
            rotate_left
            focus (intro w; go_simp; try (with_reducible rfl); done)
            try simp only [Act.put, List.setIfInBounds_toArray, List.set_cons_zero, List.set_cons_succ]
            refine wpAny_take (i := 10) (oi := ⟨_, _, _, _, _, _⟩) (v := ?_) rfl (by kernel_rfl) (by kernel_rfl) (by kernel_rfl) (fun _ _ _ h => h) (Or.inl ⟨by rfl, ?_⟩) ?_
            rotate_left
            focus (intro w; go_simp; try (with_reducible rfl); done)
            try simp only [Act.put, List.setIfInBounds_toArray, List.set_cons_zero, List.set_cons_succ]
            refine wpAny_take (i := 11) (oi := ⟨_, _, _, _, _, _⟩) (v := ?_) rfl (by kernel_rfl) (by kernel_rfl) (by kernel_rfl) (fun _ _ _ h => h) (Or.inl ⟨by rfl, ?_⟩) ?_
            rotate_left
            focus (intro w; go_simp; try (with_reducible rfl); done)
            try simp only [Act.put, List.setIfInBounds_toArray, List.set_cons_zero, List.set_cons_succ]
            refine wpAny_take (i := 12) (oi := ⟨_, _, _, _, _, _⟩) (v := undef) rfl (by kernel_rfl) (by kernel_rfl) (by kernel_rfl) (fun _ _ _ h => h) (Or.inr ⟨by rfl, rfl⟩) ?_
            try simp only [Act.put, List.setIfInBounds_toArray, List.set_cons_zero, List.set_cons_succ]
            refine wpAny_take (i := 13) (oi := ⟨_, _, _, _, _, _⟩) (v := undef) rfl (by kernel_rfl) (by kernel_rfl) (by kernel_rfl) (fun _ _ _ h => h) (Or.inr ⟨by rfl, rfl⟩) ?_
            try simp only [Act.put, List.setIfInBounds_toArray, List.set_cons_zero, List.set_cons_succ]
            refine wpAny_take (i := 14) (oi := ⟨_, _, _, _, _, _⟩) (v := undef) rfl (by kernel_rfl) (by kernel_rfl) (by kernel_rfl) (fun _ _ _ h => h) (Or.inr ⟨by rfl, rfl⟩) ?_
            try simp only [Act.put, List.setIfInBounds_toArray, List.set_cons_zero, List.set_cons_succ]
            refine wpAny_take (i := 15) (oi := ⟨_, _, _, _, _, _⟩) (v := ?_) rfl (by kernel_rfl) (by kernel_rfl) (by kernel_rfl) (fun _ _ _ h => h) (Or.inl ⟨by rfl, ?_⟩) ?_
            rotate_left
            focus (intro w; go_simp; try (with_reducible rfl); done)
            try simp only [Act.put, List.setIfInBounds_toArray, List.set_cons_zero, List.set_cons_succ]
            refine wpAny_done (by kernel_rfl) ?_ _
            clear HSW HC0 HC1 HC2
            clear kk0 kk1 kk2 kk3 kk4 kk5 kk6 kk7 kk8 kk9 kk10 kk11
            clear m0_0 m0_1 m0_2 m0_3 m0_4 m0_5 m0_6 m0_7 m0_8 m0_9 m0_10 m0_11 m1_0 m1_1 m1_2 m1_3 m1_4 m1_5 m1_6 m1_7 m1_8 m1_9 m1_10 m1_11 m2_0 m2_1 m2_2 m2_3 m2_4 m2_5 m2_6 m2_7 m2_8 m2_9 m2_10 m2_11
            have hbt := HX2.out
            obtain ⟨w5, hww⟩ : ∃ x : World, x = x2 := ⟨_, rfl⟩
            subst hww
            have HEV_39 := Lib.hid (HEV_33.out.below hbt HEV_33.out.lt)
            have HEW_40 := Lib.hid (HEW_34.out.below hbt HEW_34.out.lt)
            have HEU_41 := Lib.hid (HEU_32.out.below hbt HEU_32.out.lt)
            clear HEV_33 HEW_34 HEU_32
            have HL_42 := Lib.hid (HL_35.out.keep hbt (by omega))
            have HM_43 := Lib.hid (HM_36.out.keep hbt (by omega))
            have HU_44 := Lib.hid (HU_37.out.keep hbt (by omega))
            have HB_45 := Lib.hid (up HB_38.out hbt)
            have hz_5 := hbt.size
            clear HL_35 HM_36 HU_37 HB_38
            clear hbt
            have HC0 := Lib.hid (show ∀ wx, Below w5.heap.size w5 wx → Calls Try.prog 17 #[.agg #[.int .i64 N, .int .i64 T, .int .i64 S, .slice A1 m c1], .agg #[.int .i64 N2, .int .i64 T2, .int .i64 S2, .slice A2 m2 c3]] wx (SnP1 0 0 0 [] 0 wx) from fun wx hb => (InstallSnapS_any N T S 0 _ m c1 A1 ps N2 T2 S2 0 _ m2 c3 A2 qs wx (HL_42.out.keep hb (by omega)) (Nat.le_trans (by omega) hb.size) (by omega) (by omega) (HM_43.out.keep hb (by omega)) (Nat.le_trans (by omega) hb.size) (by omega) (by omega)).mono fun _ _ h => SnPost1.p HIN.out HK3.out h)
            have HC1 := Lib.hid (show ∀ wx A9 c9 lo9 hi9, Below w5.heap.size w5 wx → Rd wx lo9 hi9 2 A9 0 (pvs []) → hi9 ≤ wx.heap.size → Calls Try.prog 16 #[.agg #[.int .i64 0, .int .i64 0, .int .i64 0, .slice A5 0 c5], .agg #[.int .i64 0, .int .i64 0, .int .i64 0, .slice A9 0 c9]] wx fun e w' => e = .returned (.bool true) ∧ Below wx.heap.size wx w' from fun wx A9 c9 lo9 hi9 hb hr9 hh9 => equalSnap_same 0 0 0 0 _ 0 c5 lo9 hi9 c9 A5 A9 [] wx (HU_44.out.keep hb (by omega)) (Nat.le_trans (by omega) hb.size) (by omega) hr9 hh9)
            have HSW := Lib.hid (show ∀ wx, Below w5.heap.size w5 wx → wx.cell? ⟨w1.heap.size, 0, none⟩ = some (.int .i64 N) ∧ wx.cell? ⟨w1.heap.size, 1, none⟩ = some (.int .i64 T) ∧ wx.cell? ⟨w1.heap.size, 2, none⟩ = some (.int .i64 S) ∧ wx.cell? ⟨w1.heap.size, 3, none⟩ = some (.slice A1 m c1) ∧ wx.cell? ⟨(w1.heap.size + 1), 0, none⟩ = some (.int .i64 N2) ∧ wx.cell? ⟨(w1.heap.size + 1), 1, none⟩ = some (.int .i64 T2) ∧ wx.cell? ⟨(w1.heap.size + 1), 2, none⟩ = some (.int .i64 S2) ∧ wx.cell? ⟨(w1.heap.size + 1), 3, none⟩ = some (.slice A2 m2 c3) ∧ wx.cell? ⟨w3.heap.size, 0, none⟩ = some (.int .i64 0) ∧ wx.cell? ⟨w3.heap.size, 1, none⟩ = some (.int .i64 0) ∧ wx.cell? ⟨w3.heap.size, 2, none⟩ = some (.int .i64 0) ∧ wx.cell? ⟨w3.heap.size, 3, none⟩ = some (.slice A5 0 c5) from fun wx hb => ⟨(hb.cell (by show w1.heap.size < w5.heap.size; omega)).trans (HEV_39.out.cell 0), (hb.cell (by show w1.heap.size < w5.heap.size; omega)).trans (HEV_39.out.cell 1), (hb.cell (by show w1.heap.size < w5.heap.size; omega)).trans (HEV_39.out.cell 2), (hb.cell (by show w1.heap.size < w5.heap.size; omega)).trans (HEV_39.out.cell 3), (hb.cell (by show (w1.heap.size + 1) < w5.heap.size; omega)).trans (HEW_40.out.cell 0), (hb.cell (by show (w1.heap.size + 1) < w5.heap.size; omega)).trans (HEW_40.out.cell 1), (hb.cell (by show (w1.heap.size + 1) < w5.heap.size; omega)).trans (HEW_40.out.cell 2), (hb.cell (by show (w1.heap.size + 1) < w5.heap.size; omega)).trans (HEW_40.out.cell 3), (hb.cell (by show w3.heap.size < w5.heap.size; omega)).trans (HEU_41.out.cell 0), (hb.cell (by show w3.heap.size < w5.heap.size; omega)).trans (HEU_41.out.cell 1), (hb.cell (by show w3.heap.size < w5.heap.size; omega)).trans (HEU_41.out.cell 2), (hb.cell (by show w3.heap.size < w5.heap.size; omega)).trans (HEU_41.out.cell 3)⟩)
            obtain ⟨kk0, kk1, kk2, kk3, kk4, kk5, kk6, kk7, kk8, kk9, kk10, kk11⟩ := HSW.out _ (Below.refl _ _)
            go_wp2_with (fail)
            clear kk0 kk1 kk2 kk3 kk4 kk5 kk6 kk7 kk8 kk9 kk10 kk11
            go_region_held3 (fun wx => wx.cell? ⟨w1.heap.size, 0, none⟩ = some (.int .i64 N) ∧ wx.cell? ⟨w1.heap.size, 1, none⟩ = some (.int .i64 T) ∧ wx.cell? ⟨w1.heap.size, 2, none⟩ = some (.int .i64 S) ∧ wx.cell? ⟨w1.heap.size, 3, none⟩ = some (.slice A1 m c1) ∧ wx.cell? ⟨(w1.heap.size + 1), 0, none⟩ = some (.int .i64 N2) ∧ wx.cell? ⟨(w1.heap.size + 1), 1, none⟩ = some (.int .i64 T2) ∧ wx.cell? ⟨(w1.heap.size + 1), 2, none⟩ = some (.int .i64 S2) ∧ wx.cell? ⟨(w1.heap.size + 1), 3, none⟩ = some (.slice A2 m2 c3) ∧ wx.cell? ⟨w3.heap.size, 0, none⟩ = some (.int .i64 0) ∧ wx.cell? ⟨w3.heap.size, 1, none⟩ = some (.int .i64 0) ∧ wx.cell? ⟨w3.heap.size, 2, none⟩ = some (.int .i64 0) ∧ wx.cell? ⟨w3.heap.size, 3, none⟩ = some (.slice A5 0 c5))
              (first | with_reducible exact HSW.out _ (Below.refl _ _) | with_reducible exact HSW.out _ (up_drew (Below.refl _ _)) | with_reducible exact HSW.out _ (HX0.out) | with_reducible exact HSW.out _ (HX1.out))
              ((first
                | (go_at_call 17; (with_reducible refine (HC0.out _ (up_drew (Below.refl _ _))).mono ?_); rintro e x0 ⟨A9, c9, rfl, hk9, hr9, hb9⟩; have HX0 := Lib.hid (up (up_drew (Below.refl _ _)) hb9); have HR9 := Lib.hid hr9; clear hb9 hr9)
                | (go_at_call 16; (with_reducible refine (HC1.out _ _ _ _ _ HX0.out HR9.out (Nat.le_refl _)).mono ?_); rintro e x1 ⟨rfl, hbx⟩; have HX1 := Lib.hid (up HX0.out hbx); clear hbx)
                | fail "no arm"))
            all_goals
              go_wp2
              go_ret
              exact ⟨rfl, up HB_45.out HX1.out⟩
          · go_simp
            (go_at_call 17; (with_reducible refine (HC0.out _ (up_drew (Below.refl _ _))).mono ?_); rintro e x0 ⟨A9, c9, rfl, hk9, hr9, hb9⟩; have HX0 := Lib.hid (up (up_drew (Below.refl _ _)) hb9); have HR9 := Lib.hid hr9; clear hb9 hr9; obtain ⟨m0_0, m0_1, m0_2, m0_3, m0_4, m0_5, m0_6, m0_7, m0_8, m0_9, m0_10, m0_11⟩ := HSW.out _ HX0.out)
            try go_simp
            try (refine hK _ _ ?_)
            try clear hK
            try clear K
            try simp only [Act.put, List.setIfInBounds_toArray, List.set_cons_zero, List.set_cons_succ]
            refine wpAny_ready (rs := [0]) (by kernel_rfl) (by simp) ?_
            refine (AllReady.cons (o := ⟨_, _, _, _, _, _⟩) rfl (fun K hK => ?_) AllReady.nil)
            go_simp
            try (refine hK _ _ ?_)
            try clear hK
            try clear K
            try simp only [Act.put, List.setIfInBounds_toArray, List.set_cons_zero, List.set_cons_succ]
            refine wpAny_ready (rs := [4]) (by kernel_rfl) (by simp) ?_
            refine (AllReady.cons (o := ⟨_, _, _, _, _, _⟩) rfl (fun K hK => ?_) AllReady.nil)
            go_simp
            (go_at_call 16; (with_reducible refine (HC1.out _ _ _ _ _ HX0.out HR9.out (Nat.le_refl _)).mono ?_); rintro e x1 ⟨rfl, hbx⟩; have HX1 := Lib.hid (up HX0.out hbx); clear hbx; obtain ⟨m1_0, m1_1, m1_2, m1_3, m1_4, m1_5, m1_6, m1_7, m1_8, m1_9, m1_10, m1_11⟩ := HSW.out _ HX1.out)
            try go_simp
            try (refine hK _ _ ?_)
            try clear hK
            try clear K
            try simp only [Act.put, List.setIfInBounds_toArray, List.set_cons_zero, List.set_cons_succ]
            refine wpAny_take (i := 5) (oi := ⟨_, _, _, _, _, _⟩) (v := ?_) rfl (by kernel_rfl) (by kernel_rfl) (by kernel_rfl) (fun _ _ _ h => h) (Or.inl ⟨by rfl, ?_⟩) ?_
            rotate_left
            focus (intro w; go_simp; try (with_reducible rfl); done)
            try simp only [Act.put, List.setIfInBounds_toArray, List.set_cons_zero, List.set_cons_succ]
            refine wpAny_take (i := 6) (oi := ⟨_, _, _, _, _, _⟩) (v := ?_) rfl (by kernel_rfl) (by kernel_rfl) (by kernel_rfl) (fun _ _ _ h => h) (Or.inl ⟨by rfl, ?_⟩) ?_
            rotate_left
            focus (intro w; go_simp; try (with_reducible rfl); done)
            try simp only [Act.put, List.setIfInBounds_toArray, List.set_cons_zero, List.set_cons_succ]
            refine wpAny_ready (rs := [7]) (by kernel_rfl) (by simp) ?_
            refine (AllReady.cons (o := ⟨_, _, _, _, _, _⟩) rfl (fun K hK => ?_) AllReady.nil)
            go_simp
            try (refine hK _ _ ?_)
            try clear hK
            try clear K
            try simp only [Act.put, List.setIfInBounds_toArray, List.set_cons_zero, List.set_cons_succ]
            refine wpAny_ready (rs := [8]) (by kernel_rfl) (by simp) ?_
            refine (AllReady.cons (o := ⟨_, _, _, _, _, _⟩) rfl (fun K hK => ?_) AllReady.nil)
            go_simp
            (go_at_call 18; (with_reducible refine (HC2.out _ HX1.out).mono ?_); rintro e x2 ⟨rfl, hbx⟩; have HX2 := Lib.hid (up HX1.out hbx); clear hbx; obtain ⟨m2_0, m2_1, m2_2, m2_3, m2_4, m2_5, m2_6, m2_7, m2_8, m2_9, m2_10, m2_11⟩ := HSW.out _ HX2.out)
            try go_simp
            try (refine hK _ _ ?_)
            try clear hK
            try clear K
            try simp only [Act.put, List.setIfInBounds_toArray, List.set_cons_zero, List.set_cons_succ]
            refine wpAny_take (i := 9) (oi := ⟨_, _, _, _, _, _⟩) (v := ?_) rfl (by kernel_rfl) (by kernel_rfl) (by kernel_rfl) (fun _ _ _ h => h) (Or.inl ⟨by rfl, ?_⟩) ?_
            rotate_left
            focus (intro w; go_simp; try (with_reducible rfl); done)
            try simp only [Act.put, List.setIfInBounds_toArray, List.set_cons_zero, List.set_cons_succ]
            refine wpAny_take (i := 10) (oi := ⟨_, _, _, _, _, _⟩) (v := ?_) rfl (by kernel_rfl) (by kernel_rfl) (by kernel_rfl) (fun _ _ _ h => h) (Or.inl ⟨by rfl, ?_⟩) ?_
            rotate_left
            focus (intro w; go_simp; try (with_reducible rfl); done)
            try simp only [Act.put, List.setIfInBounds_toArray, List.set_cons_zero, List.set_cons_succ]
            refine wpAny_take (i := 11) (oi := ⟨_, _, _, _, _, _⟩) (v := ?_) rfl (by kernel_rfl) (by kernel_rfl) (by kernel_rfl) (fun _ _ _ h => h) (Or.inl ⟨by rfl, ?_⟩) ?_
            rotate_left
            focus (intro w; go_simp; try (with_reducible rfl); done)
            try simp only [Act.put, List.setIfInBounds_toArray, List.set_cons_zero, List.set_cons_succ]
            refine wpAny_take (i := 12) (oi := ⟨_, _, _, _, _, _⟩) (v := undef) rfl (by kernel_rfl) (by kernel_rfl) (by kernel_rfl) (fun _ _ _ h => h) (Or.inr ⟨by rfl, rfl⟩) ?_
            try simp only [Act.put, List.setIfInBounds_toArray, List.set_cons_zero, List.set_cons_succ]
            refine wpAny_take (i := 13) (oi := ⟨_, _, _, _, _, _⟩) (v := undef) rfl (by kernel_rfl) (by kernel_rfl) (by kernel_rfl) (fun _ _ _ h => h) (Or.inr ⟨by rfl, rfl⟩) ?_
            try simp only [Act.put, List.setIfInBounds_toArray, List.set_cons_zero, List.set_cons_succ]
            refine wpAny_take (i := 14) (oi := ⟨_, _, _, _, _, _⟩) (v := undef) rfl (by kernel_rfl) (by kernel_rfl) (by kernel_rfl) (fun _ _ _ h => h) (Or.inr ⟨by rfl, rfl⟩) ?_
            try simp only [Act.put, List.setIfInBounds_toArray, List.set_cons_zero, List.set_cons_succ]
            refine wpAny_take (i := 15) (oi := ⟨_, _, _, _, _, _⟩) (v := ?_) rfl (by kernel_rfl) (by kernel_rfl) (by kernel_rfl) (fun _ _ _ h => h) (Or.inl ⟨by rfl, ?_⟩) ?_
            rotate_left
            focus (intro w; go_simp; try (with_reducible rfl); done)
            try simp only [Act.put, List.setIfInBounds_toArray, List.set_cons_zero, List.set_cons_succ]
            refine wpAny_done (by kernel_rfl) ?_ _
            clear HSW HC0 HC1 HC2
            clear kk0 kk1 kk2 kk3 kk4 kk5 kk6 kk7 kk8 kk9 kk10 kk11
            clear m0_0 m0_1 m0_2 m0_3 m0_4 m0_5 m0_6 m0_7 m0_8 m0_9 m0_10 m0_11 m1_0 m1_1 m1_2 m1_3 m1_4 m1_5 m1_6 m1_7 m1_8 m1_9 m1_10 m1_11 m2_0 m2_1 m2_2 m2_3 m2_4 m2_5 m2_6 m2_7 m2_8 m2_9 m2_10 m2_11
            have hbt := HX2.out
            obtain ⟨w5, hww⟩ : ∃ x : World, x = x2 := ⟨_, rfl⟩
            subst hww
            have HEV_39 := Lib.hid (HEV_33.out.below hbt HEV_33.out.lt)
            have HEW_40 := Lib.hid (HEW_34.out.below hbt HEW_34.out.lt)
            have HEU_41 := Lib.hid (HEU_32.out.below hbt HEU_32.out.lt)
            clear HEV_33 HEW_34 HEU_32
            have HL_42 := Lib.hid (HL_35.out.keep hbt (by omega))
            have HM_43 := Lib.hid (HM_36.out.keep hbt (by omega))
            have HU_44 := Lib.hid (HU_37.out.keep hbt (by omega))
            have HB_45 := Lib.hid (up HB_38.out hbt)
            have hz_5 := hbt.size
            clear HL_35 HM_36 HU_37 HB_38
            clear hbt
            have HC0 := Lib.hid (show ∀ wx, Below w5.heap.size w5 wx → Calls Try.prog 17 #[.agg #[.int .i64 N, .int .i64 T, .int .i64 S, .slice A1 m c1], .agg #[.int .i64 N2, .int .i64 T2, .int .i64 S2, .slice A2 m2 c3]] wx (SnP1 0 0 0 [] 0 wx) from fun wx hb => (InstallSnapS_any N T S 0 _ m c1 A1 ps N2 T2 S2 0 _ m2 c3 A2 qs wx (HL_42.out.keep hb (by omega)) (Nat.le_trans (by omega) hb.size) (by omega) (by omega) (HM_43.out.keep hb (by omega)) (Nat.le_trans (by omega) hb.size) (by omega) (by omega)).mono fun _ _ h => SnPost1.p HIN.out HK3.out h)
            have HC1 := Lib.hid (show ∀ wx A9 c9 lo9 hi9, Below w5.heap.size w5 wx → Rd wx lo9 hi9 2 A9 0 (pvs []) → hi9 ≤ wx.heap.size → Calls Try.prog 16 #[.agg #[.int .i64 0, .int .i64 0, .int .i64 0, .slice A5 0 c5], .agg #[.int .i64 0, .int .i64 0, .int .i64 0, .slice A9 0 c9]] wx fun e w' => e = .returned (.bool true) ∧ Below wx.heap.size wx w' from fun wx A9 c9 lo9 hi9 hb hr9 hh9 => equalSnap_same 0 0 0 0 _ 0 c5 lo9 hi9 c9 A5 A9 [] wx (HU_44.out.keep hb (by omega)) (Nat.le_trans (by omega) hb.size) (by omega) hr9 hh9)
            have HSW := Lib.hid (show ∀ wx, Below w5.heap.size w5 wx → wx.cell? ⟨w1.heap.size, 0, none⟩ = some (.int .i64 N) ∧ wx.cell? ⟨w1.heap.size, 1, none⟩ = some (.int .i64 T) ∧ wx.cell? ⟨w1.heap.size, 2, none⟩ = some (.int .i64 S) ∧ wx.cell? ⟨w1.heap.size, 3, none⟩ = some (.slice A1 m c1) ∧ wx.cell? ⟨(w1.heap.size + 1), 0, none⟩ = some (.int .i64 N2) ∧ wx.cell? ⟨(w1.heap.size + 1), 1, none⟩ = some (.int .i64 T2) ∧ wx.cell? ⟨(w1.heap.size + 1), 2, none⟩ = some (.int .i64 S2) ∧ wx.cell? ⟨(w1.heap.size + 1), 3, none⟩ = some (.slice A2 m2 c3) ∧ wx.cell? ⟨w3.heap.size, 0, none⟩ = some (.int .i64 0) ∧ wx.cell? ⟨w3.heap.size, 1, none⟩ = some (.int .i64 0) ∧ wx.cell? ⟨w3.heap.size, 2, none⟩ = some (.int .i64 0) ∧ wx.cell? ⟨w3.heap.size, 3, none⟩ = some (.slice A5 0 c5) from fun wx hb => ⟨(hb.cell (by show w1.heap.size < w5.heap.size; omega)).trans (HEV_39.out.cell 0), (hb.cell (by show w1.heap.size < w5.heap.size; omega)).trans (HEV_39.out.cell 1), (hb.cell (by show w1.heap.size < w5.heap.size; omega)).trans (HEV_39.out.cell 2), (hb.cell (by show w1.heap.size < w5.heap.size; omega)).trans (HEV_39.out.cell 3), (hb.cell (by show (w1.heap.size + 1) < w5.heap.size; omega)).trans (HEW_40.out.cell 0), (hb.cell (by show (w1.heap.size + 1) < w5.heap.size; omega)).trans (HEW_40.out.cell 1), (hb.cell (by show (w1.heap.size + 1) < w5.heap.size; omega)).trans (HEW_40.out.cell 2), (hb.cell (by show (w1.heap.size + 1) < w5.heap.size; omega)).trans (HEW_40.out.cell 3), (hb.cell (by show w3.heap.size < w5.heap.size; omega)).trans (HEU_41.out.cell 0), (hb.cell (by show w3.heap.size < w5.heap.size; omega)).trans (HEU_41.out.cell 1), (hb.cell (by show w3.heap.size < w5.heap.size; omega)).trans (HEU_41.out.cell 2), (hb.cell (by show w3.heap.size < w5.heap.size; omega)).trans (HEU_41.out.cell 3)⟩)
            obtain ⟨kk0, kk1, kk2, kk3, kk4, kk5, kk6, kk7, kk8, kk9, kk10, kk11⟩ := HSW.out _ (Below.refl _ _)
            go_wp2_with (fail)
            clear kk0 kk1 kk2 kk3 kk4 kk5 kk6 kk7 kk8 kk9 kk10 kk11
            go_region_held3 (fun wx => wx.cell? ⟨w1.heap.size, 0, none⟩ = some (.int .i64 N) ∧ wx.cell? ⟨w1.heap.size, 1, none⟩ = some (.int .i64 T) ∧ wx.cell? ⟨w1.heap.size, 2, none⟩ = some (.int .i64 S) ∧ wx.cell? ⟨w1.heap.size, 3, none⟩ = some (.slice A1 m c1) ∧ wx.cell? ⟨(w1.heap.size + 1), 0, none⟩ = some (.int .i64 N2) ∧ wx.cell? ⟨(w1.heap.size + 1), 1, none⟩ = some (.int .i64 T2) ∧ wx.cell? ⟨(w1.heap.size + 1), 2, none⟩ = some (.int .i64 S2) ∧ wx.cell? ⟨(w1.heap.size + 1), 3, none⟩ = some (.slice A2 m2 c3) ∧ wx.cell? ⟨w3.heap.size, 0, none⟩ = some (.int .i64 0) ∧ wx.cell? ⟨w3.heap.size, 1, none⟩ = some (.int .i64 0) ∧ wx.cell? ⟨w3.heap.size, 2, none⟩ = some (.int .i64 0) ∧ wx.cell? ⟨w3.heap.size, 3, none⟩ = some (.slice A5 0 c5))
              (first | with_reducible exact HSW.out _ (Below.refl _ _) | with_reducible exact HSW.out _ (up_drew (Below.refl _ _)) | with_reducible exact HSW.out _ (HX0.out) | with_reducible exact HSW.out _ (HX1.out))
              ((first
                | (go_at_call 17; (with_reducible refine (HC0.out _ (up_drew (Below.refl _ _))).mono ?_); rintro e x0 ⟨A9, c9, rfl, hk9, hr9, hb9⟩; have HX0 := Lib.hid (up (up_drew (Below.refl _ _)) hb9); have HR9 := Lib.hid hr9; clear hb9 hr9)
                | (go_at_call 16; (with_reducible refine (HC1.out _ _ _ _ _ HX0.out HR9.out (Nat.le_refl _)).mono ?_); rintro e x1 ⟨rfl, hbx⟩; have HX1 := Lib.hid (up HX0.out hbx); clear hbx)
                | fail "no arm"))
            all_goals
              go_wp2
              go_ret
              exact ⟨rfl, up HB_45.out HX1.out⟩
  | true =>
    cases hV2 : vSnap N2 T2 S2 qs with
    | false =>
      have HV1 := Lib.hid hV1
      have HV2 := Lib.hid hV2
      clear hV1 hV2
      have HIN := Lib.hid (inst_bad (R := ps) (R' := qs) (N := N) (T := T) (S := S) (N' := N2) (T' := T2) (S' := S2) (by rw [HV1.out, HV2.out]; rfl))
      have HK3 := Lib.hid (show ([] : List En).length = 0 from rfl)
      (with_reducible refine ((InstallSnapI_any N T S 0 _ m c1 A1 ps N2 T2 S2 0 _ m2 c3 A2 qs _ HL_3.out (by omega) (by omega) (by omega) HM_4.out (by omega) (by omega) (by omega)).mono fun _ _ h => SnPost1.p HIN.out HK3.out h).mono ?_)
      rintro e w3 ⟨A5, c5, rfl, hk5, hrd5, hbt⟩
      have HEV_46 := Lib.hid (HEV.out.below hbt HEV.out.lt)
      have HEW_47 := Lib.hid (HEW.out.below hbt HEW.out.lt)
      clear HEV HEW
      have HL_48 := Lib.hid (HL_3.out.keep hbt (by omega))
      have HM_49 := Lib.hid (HM_4.out.keep hbt (by omega))
      have HB_50 := Lib.hid (up HB_5.out hbt)
      have hz_3 := hbt.size
      clear HL_3 HM_4 HB_5
      have HU_51 := Lib.hid (hrd5.wide (Nat.zero_le _) (Nat.le_refl _))
      clear hrd5
      clear hbt
      have HEU_52 := Lib.hid (Blk.new w3 32 #[.int .i64 0, .int .i64 0, .int .i64 0, .slice A5 0 c5])
      have hbt := up_alloc (Below.refl _ w3) (.cells #[.int .i64 0, .int .i64 0, .int .i64 0, .slice A5 0 c5] 32)
      have hs_4 : (w3.alloc (.cells #[.int .i64 0, .int .i64 0, .int .i64 0, .slice A5 0 c5] 32)).heap.size = w3.heap.size + 1 := by simp
      have HEV_53 := Lib.hid (HEV_46.out.below hbt HEV_46.out.lt)
      have HEW_54 := Lib.hid (HEW_47.out.below hbt HEW_47.out.lt)
      clear HEV_46 HEW_47
      have HL_55 := Lib.hid (HL_48.out.keep hbt (by omega))
      have HM_56 := Lib.hid (HM_49.out.keep hbt (by omega))
      have HU_57 := Lib.hid (HU_51.out.keep hbt (by omega))
      have HB_58 := Lib.hid (up HB_50.out hbt)
      have hz_4 := hbt.size
      clear HL_48 HM_49 HU_51 HB_50
      clear hbt
      go_wp2_with (fail)
      generalize w3.alloc (.cells #[.int .i64 0, .int .i64 0, .int .i64 0, .slice A5 0 c5] 32) = w4 at *
      have hgU := HEU_52.out.lt
      have HC0 := Lib.hid (show ∀ wx, Below w4.heap.size w4 wx → Calls Try.prog 17 #[.agg #[.int .i64 N, .int .i64 T, .int .i64 S, .slice A1 m c1], .agg #[.int .i64 N2, .int .i64 T2, .int .i64 S2, .slice A2 m2 c3]] wx (SnP1 0 0 0 [] 0 wx) from fun wx hb => (InstallSnapS_any N T S 0 _ m c1 A1 ps N2 T2 S2 0 _ m2 c3 A2 qs wx (HL_55.out.keep hb (by omega)) (Nat.le_trans (by omega) hb.size) (by omega) (by omega) (HM_56.out.keep hb (by omega)) (Nat.le_trans (by omega) hb.size) (by omega) (by omega)).mono fun _ _ h => SnPost1.p HIN.out HK3.out h)
      have HC1 := Lib.hid (show ∀ wx A9 c9 lo9 hi9, Below w4.heap.size w4 wx → Rd wx lo9 hi9 2 A9 0 (pvs []) → hi9 ≤ wx.heap.size → Calls Try.prog 16 #[.agg #[.int .i64 0, .int .i64 0, .int .i64 0, .slice A5 0 c5], .agg #[.int .i64 0, .int .i64 0, .int .i64 0, .slice A9 0 c9]] wx fun e w' => e = .returned (.bool true) ∧ Below wx.heap.size wx w' from fun wx A9 c9 lo9 hi9 hb hr9 hh9 => equalSnap_same 0 0 0 0 _ 0 c5 lo9 hi9 c9 A5 A9 [] wx (HU_57.out.keep hb (by omega)) (Nat.le_trans (by omega) hb.size) (by omega) hr9 hh9)
      have HC2 := Lib.hid (show ∀ wx, Below w4.heap.size w4 wx → Calls Try.prog 18 #[.agg #[.int .i64 N, .int .i64 T, .int .i64 S, .slice A1 m c1]] wx fun e w' => e = .returned (.bool true) ∧ Below wx.heap.size wx w' from fun wx hb => (ValidSnapI_any N T S 0 _ m c1 A1 ps wx (HL_55.out.keep hb (by omega)) (Nat.le_trans (by omega) hb.size) (by omega) (by omega)).mono fun e w' ⟨h1, h2⟩ => ⟨by rw [h1, HV1.out], h2⟩)
      have HC3 := Lib.hid (show ∀ wx, Below w4.heap.size w4 wx → Calls Try.prog 18 #[.agg #[.int .i64 N2, .int .i64 T2, .int .i64 S2, .slice A2 m2 c3]] wx fun e w' => e = .returned (.bool false) ∧ Below wx.heap.size wx w' from fun wx hb => (ValidSnapI_any N2 T2 S2 0 _ m2 c3 A2 qs wx (HM_56.out.keep hb (by omega)) (Nat.le_trans (by omega) hb.size) (by omega) (by omega)).mono fun e w' ⟨h1, h2⟩ => ⟨by rw [h1, HV2.out], h2⟩)
      have HSW := Lib.hid (show ∀ wx, Below w4.heap.size w4 wx → wx.cell? ⟨w1.heap.size, 0, none⟩ = some (.int .i64 N) ∧ wx.cell? ⟨w1.heap.size, 1, none⟩ = some (.int .i64 T) ∧ wx.cell? ⟨w1.heap.size, 2, none⟩ = some (.int .i64 S) ∧ wx.cell? ⟨w1.heap.size, 3, none⟩ = some (.slice A1 m c1) ∧ wx.cell? ⟨(w1.heap.size + 1), 0, none⟩ = some (.int .i64 N2) ∧ wx.cell? ⟨(w1.heap.size + 1), 1, none⟩ = some (.int .i64 T2) ∧ wx.cell? ⟨(w1.heap.size + 1), 2, none⟩ = some (.int .i64 S2) ∧ wx.cell? ⟨(w1.heap.size + 1), 3, none⟩ = some (.slice A2 m2 c3) ∧ wx.cell? ⟨w3.heap.size, 0, none⟩ = some (.int .i64 0) ∧ wx.cell? ⟨w3.heap.size, 1, none⟩ = some (.int .i64 0) ∧ wx.cell? ⟨w3.heap.size, 2, none⟩ = some (.int .i64 0) ∧ wx.cell? ⟨w3.heap.size, 3, none⟩ = some (.slice A5 0 c5) from fun wx hb => ⟨(hb.cell (by show w1.heap.size < w4.heap.size; omega)).trans (HEV_53.out.cell 0), (hb.cell (by show w1.heap.size < w4.heap.size; omega)).trans (HEV_53.out.cell 1), (hb.cell (by show w1.heap.size < w4.heap.size; omega)).trans (HEV_53.out.cell 2), (hb.cell (by show w1.heap.size < w4.heap.size; omega)).trans (HEV_53.out.cell 3), (hb.cell (by show (w1.heap.size + 1) < w4.heap.size; omega)).trans (HEW_54.out.cell 0), (hb.cell (by show (w1.heap.size + 1) < w4.heap.size; omega)).trans (HEW_54.out.cell 1), (hb.cell (by show (w1.heap.size + 1) < w4.heap.size; omega)).trans (HEW_54.out.cell 2), (hb.cell (by show (w1.heap.size + 1) < w4.heap.size; omega)).trans (HEW_54.out.cell 3), (hb.cell (by show w3.heap.size < w4.heap.size; omega)).trans (HEU_52.out.cell 0), (hb.cell (by show w3.heap.size < w4.heap.size; omega)).trans (HEU_52.out.cell 1), (hb.cell (by show w3.heap.size < w4.heap.size; omega)).trans (HEU_52.out.cell 2), (hb.cell (by show w3.heap.size < w4.heap.size; omega)).trans (HEU_52.out.cell 3)⟩)
      obtain ⟨kk0, kk1, kk2, kk3, kk4, kk5, kk6, kk7, kk8, kk9, kk10, kk11⟩ := HSW.out _ (Below.refl _ _)
      go_wp2_with (fail)
      clear kk0 kk1 kk2 kk3 kk4 kk5 kk6 kk7 kk8 kk9 kk10 kk11
      go_region_held3 (fun wx => wx.cell? ⟨w1.heap.size, 0, none⟩ = some (.int .i64 N) ∧ wx.cell? ⟨w1.heap.size, 1, none⟩ = some (.int .i64 T) ∧ wx.cell? ⟨w1.heap.size, 2, none⟩ = some (.int .i64 S) ∧ wx.cell? ⟨w1.heap.size, 3, none⟩ = some (.slice A1 m c1) ∧ wx.cell? ⟨(w1.heap.size + 1), 0, none⟩ = some (.int .i64 N2) ∧ wx.cell? ⟨(w1.heap.size + 1), 1, none⟩ = some (.int .i64 T2) ∧ wx.cell? ⟨(w1.heap.size + 1), 2, none⟩ = some (.int .i64 S2) ∧ wx.cell? ⟨(w1.heap.size + 1), 3, none⟩ = some (.slice A2 m2 c3) ∧ wx.cell? ⟨w3.heap.size, 0, none⟩ = some (.int .i64 0) ∧ wx.cell? ⟨w3.heap.size, 1, none⟩ = some (.int .i64 0) ∧ wx.cell? ⟨w3.heap.size, 2, none⟩ = some (.int .i64 0) ∧ wx.cell? ⟨w3.heap.size, 3, none⟩ = some (.slice A5 0 c5))
        (first | with_reducible exact HSW.out _ (Below.refl _ _) | with_reducible exact HSW.out _ (up_drew (Below.refl _ _)) | with_reducible exact HSW.out _ (HX0.out) | with_reducible exact HSW.out _ (HX1.out) | with_reducible exact HSW.out _ (HX2.out) | with_reducible exact HSW.out _ (HX3.out))
        ((first
          | (go_at_call 17; (with_reducible refine (HC0.out _ (up_drew (Below.refl _ _))).mono ?_); rintro e x0 ⟨A9, c9, rfl, hk9, hr9, hb9⟩; have HX0 := Lib.hid (up (up_drew (Below.refl _ _)) hb9); have HR9 := Lib.hid hr9; clear hb9 hr9)
          | (go_at_call 16; (with_reducible refine (HC1.out _ _ _ _ _ HX0.out HR9.out (Nat.le_refl _)).mono ?_); rintro e x1 ⟨rfl, hbx⟩; have HX1 := Lib.hid (up HX0.out hbx); clear hbx)
          | (go_at_call 18; (with_reducible refine (HC2.out _ HX1.out).mono ?_); rintro e x2 ⟨rfl, hbx⟩; have HX2 := Lib.hid (up HX1.out hbx); clear hbx)
          | (go_at_call 18; (with_reducible refine (HC3.out _ HX2.out).mono ?_); rintro e x3 ⟨rfl, hbx⟩; have HX3 := Lib.hid (up HX2.out hbx); clear hbx)
          | fail "no arm"))
      all_goals
        clear HSW HC0 HC1 HC2 HC3
        have hbt := HX3.out
        obtain ⟨w5, hww⟩ : ∃ x : World, x = x3 := ⟨_, rfl⟩
        subst hww
        have HEV_59 := Lib.hid (HEV_53.out.below hbt HEV_53.out.lt)
        have HEW_60 := Lib.hid (HEW_54.out.below hbt HEW_54.out.lt)
        have HEU_61 := Lib.hid (HEU_52.out.below hbt HEU_52.out.lt)
        clear HEV_53 HEW_54 HEU_52
        have HL_62 := Lib.hid (HL_55.out.keep hbt (by omega))
        have HM_63 := Lib.hid (HM_56.out.keep hbt (by omega))
        have HU_64 := Lib.hid (HU_57.out.keep hbt (by omega))
        have HB_65 := Lib.hid (up HB_58.out hbt)
        have hz_5 := hbt.size
        clear HL_55 HM_56 HU_57 HB_58
        clear hbt
        have HC0 := Lib.hid (show ∀ wx, Below w5.heap.size w5 wx → Calls Try.prog 17 #[.agg #[.int .i64 N, .int .i64 T, .int .i64 S, .slice A1 m c1], .agg #[.int .i64 N2, .int .i64 T2, .int .i64 S2, .slice A2 m2 c3]] wx (SnP1 0 0 0 [] 0 wx) from fun wx hb => (InstallSnapS_any N T S 0 _ m c1 A1 ps N2 T2 S2 0 _ m2 c3 A2 qs wx (HL_62.out.keep hb (by omega)) (Nat.le_trans (by omega) hb.size) (by omega) (by omega) (HM_63.out.keep hb (by omega)) (Nat.le_trans (by omega) hb.size) (by omega) (by omega)).mono fun _ _ h => SnPost1.p HIN.out HK3.out h)
        have HC1 := Lib.hid (show ∀ wx A9 c9 lo9 hi9, Below w5.heap.size w5 wx → Rd wx lo9 hi9 2 A9 0 (pvs []) → hi9 ≤ wx.heap.size → Calls Try.prog 16 #[.agg #[.int .i64 0, .int .i64 0, .int .i64 0, .slice A5 0 c5], .agg #[.int .i64 0, .int .i64 0, .int .i64 0, .slice A9 0 c9]] wx fun e w' => e = .returned (.bool true) ∧ Below wx.heap.size wx w' from fun wx A9 c9 lo9 hi9 hb hr9 hh9 => equalSnap_same 0 0 0 0 _ 0 c5 lo9 hi9 c9 A5 A9 [] wx (HU_64.out.keep hb (by omega)) (Nat.le_trans (by omega) hb.size) (by omega) hr9 hh9)
        have HSW := Lib.hid (show ∀ wx, Below w5.heap.size w5 wx → wx.cell? ⟨w1.heap.size, 0, none⟩ = some (.int .i64 N) ∧ wx.cell? ⟨w1.heap.size, 1, none⟩ = some (.int .i64 T) ∧ wx.cell? ⟨w1.heap.size, 2, none⟩ = some (.int .i64 S) ∧ wx.cell? ⟨w1.heap.size, 3, none⟩ = some (.slice A1 m c1) ∧ wx.cell? ⟨(w1.heap.size + 1), 0, none⟩ = some (.int .i64 N2) ∧ wx.cell? ⟨(w1.heap.size + 1), 1, none⟩ = some (.int .i64 T2) ∧ wx.cell? ⟨(w1.heap.size + 1), 2, none⟩ = some (.int .i64 S2) ∧ wx.cell? ⟨(w1.heap.size + 1), 3, none⟩ = some (.slice A2 m2 c3) ∧ wx.cell? ⟨w3.heap.size, 0, none⟩ = some (.int .i64 0) ∧ wx.cell? ⟨w3.heap.size, 1, none⟩ = some (.int .i64 0) ∧ wx.cell? ⟨w3.heap.size, 2, none⟩ = some (.int .i64 0) ∧ wx.cell? ⟨w3.heap.size, 3, none⟩ = some (.slice A5 0 c5) from fun wx hb => ⟨(hb.cell (by show w1.heap.size < w5.heap.size; omega)).trans (HEV_59.out.cell 0), (hb.cell (by show w1.heap.size < w5.heap.size; omega)).trans (HEV_59.out.cell 1), (hb.cell (by show w1.heap.size < w5.heap.size; omega)).trans (HEV_59.out.cell 2), (hb.cell (by show w1.heap.size < w5.heap.size; omega)).trans (HEV_59.out.cell 3), (hb.cell (by show (w1.heap.size + 1) < w5.heap.size; omega)).trans (HEW_60.out.cell 0), (hb.cell (by show (w1.heap.size + 1) < w5.heap.size; omega)).trans (HEW_60.out.cell 1), (hb.cell (by show (w1.heap.size + 1) < w5.heap.size; omega)).trans (HEW_60.out.cell 2), (hb.cell (by show (w1.heap.size + 1) < w5.heap.size; omega)).trans (HEW_60.out.cell 3), (hb.cell (by show w3.heap.size < w5.heap.size; omega)).trans (HEU_61.out.cell 0), (hb.cell (by show w3.heap.size < w5.heap.size; omega)).trans (HEU_61.out.cell 1), (hb.cell (by show w3.heap.size < w5.heap.size; omega)).trans (HEU_61.out.cell 2), (hb.cell (by show w3.heap.size < w5.heap.size; omega)).trans (HEU_61.out.cell 3)⟩)
        obtain ⟨kk0, kk1, kk2, kk3, kk4, kk5, kk6, kk7, kk8, kk9, kk10, kk11⟩ := HSW.out _ (Below.refl _ _)
        go_wp2_with (fail)
        clear kk0 kk1 kk2 kk3 kk4 kk5 kk6 kk7 kk8 kk9 kk10 kk11
        go_region_held3 (fun wx => wx.cell? ⟨w1.heap.size, 0, none⟩ = some (.int .i64 N) ∧ wx.cell? ⟨w1.heap.size, 1, none⟩ = some (.int .i64 T) ∧ wx.cell? ⟨w1.heap.size, 2, none⟩ = some (.int .i64 S) ∧ wx.cell? ⟨w1.heap.size, 3, none⟩ = some (.slice A1 m c1) ∧ wx.cell? ⟨(w1.heap.size + 1), 0, none⟩ = some (.int .i64 N2) ∧ wx.cell? ⟨(w1.heap.size + 1), 1, none⟩ = some (.int .i64 T2) ∧ wx.cell? ⟨(w1.heap.size + 1), 2, none⟩ = some (.int .i64 S2) ∧ wx.cell? ⟨(w1.heap.size + 1), 3, none⟩ = some (.slice A2 m2 c3) ∧ wx.cell? ⟨w3.heap.size, 0, none⟩ = some (.int .i64 0) ∧ wx.cell? ⟨w3.heap.size, 1, none⟩ = some (.int .i64 0) ∧ wx.cell? ⟨w3.heap.size, 2, none⟩ = some (.int .i64 0) ∧ wx.cell? ⟨w3.heap.size, 3, none⟩ = some (.slice A5 0 c5))
          (first | with_reducible exact HSW.out _ (Below.refl _ _) | with_reducible exact HSW.out _ (up_drew (Below.refl _ _)) | with_reducible exact HSW.out _ (HX0.out) | with_reducible exact HSW.out _ (HX1.out))
          ((first
            | (go_at_call 17; (with_reducible refine (HC0.out _ (up_drew (Below.refl _ _))).mono ?_); rintro e x0 ⟨A9, c9, rfl, hk9, hr9, hb9⟩; have HX0 := Lib.hid (up (up_drew (Below.refl _ _)) hb9); have HR9 := Lib.hid hr9; clear hb9 hr9)
            | (go_at_call 16; (with_reducible refine (HC1.out _ _ _ _ _ HX0.out HR9.out (Nat.le_refl _)).mono ?_); rintro e x1 ⟨rfl, hbx⟩; have HX1 := Lib.hid (up HX0.out hbx); clear hbx)
            | fail "no arm"))
        all_goals
          go_wp2
          go_ret
          exact ⟨rfl, up HB_65.out HX1.out⟩
    | true =>
      have HV1 := Lib.hid hV1
      have HV2 := Lib.hid hV2
      clear hV1 hV2
      obtain ⟨⟨N3, T3, S3, R3⟩, hU⟩ : ∃ u, instOf N T S ps N2 T2 S2 qs = u := ⟨_, rfl⟩
      obtain ⟨k3, hk3⟩ : ∃ k, R3.length = k := ⟨_, rfl⟩
      have hk3b : k3 ≤ 17 := by
        have h1 := instOf_len N T S ps N2 T2 S2 qs
        have h2 := HPL.out
        rw [hU] at h1
        dsimp only at h1
        omega
      obtain ⟨hmx, hv3, hin2⟩ := inst_facts HV1.out HV2.out hU
      have HIN := Lib.hid hU
      have HK3 := Lib.hid hk3
      have HV3 := Lib.hid hv3
      have HIN2 := Lib.hid hin2
      have HMX := Lib.hid hmx
      clear hU hk3 hv3 hin2 hmx
      (with_reducible refine ((InstallSnapI_any N T S 0 _ m c1 A1 ps N2 T2 S2 0 _ m2 c3 A2 qs _ HL_3.out (by omega) (by omega) (by omega) HM_4.out (by omega) (by omega) (by omega)).mono fun _ _ h => SnPost1.p HIN.out HK3.out h).mono ?_)
      rintro e w3 ⟨A5, c5, rfl, hk5, hrd5, hbt⟩
      have HEV_66 := Lib.hid (HEV.out.below hbt HEV.out.lt)
      have HEW_67 := Lib.hid (HEW.out.below hbt HEW.out.lt)
      clear HEV HEW
      have HL_68 := Lib.hid (HL_3.out.keep hbt (by omega))
      have HM_69 := Lib.hid (HM_4.out.keep hbt (by omega))
      have HB_70 := Lib.hid (up HB_5.out hbt)
      have hz_3 := hbt.size
      clear HL_3 HM_4 HB_5
      have HU_71 := Lib.hid (hrd5.wide (Nat.zero_le _) (Nat.le_refl _))
      clear hrd5
      clear hbt
      have HEU_72 := Lib.hid (Blk.new w3 32 #[.int .i64 N3, .int .i64 T3, .int .i64 S3, .slice A5 k3 c5])
      have hbt := up_alloc (Below.refl _ w3) (.cells #[.int .i64 N3, .int .i64 T3, .int .i64 S3, .slice A5 k3 c5] 32)
      have hs_4 : (w3.alloc (.cells #[.int .i64 N3, .int .i64 T3, .int .i64 S3, .slice A5 k3 c5] 32)).heap.size = w3.heap.size + 1 := by simp
      have HEV_73 := Lib.hid (HEV_66.out.below hbt HEV_66.out.lt)
      have HEW_74 := Lib.hid (HEW_67.out.below hbt HEW_67.out.lt)
      clear HEV_66 HEW_67
      have HL_75 := Lib.hid (HL_68.out.keep hbt (by omega))
      have HM_76 := Lib.hid (HM_69.out.keep hbt (by omega))
      have HU_77 := Lib.hid (HU_71.out.keep hbt (by omega))
      have HB_78 := Lib.hid (up HB_70.out hbt)
      have hz_4 := hbt.size
      clear HL_68 HM_69 HU_71 HB_70
      clear hbt
      go_wp2_with (fail)
      generalize w3.alloc (.cells #[.int .i64 N3, .int .i64 T3, .int .i64 S3, .slice A5 k3 c5] 32) = w4 at *
      have hgU := HEU_72.out.lt
      have HC0 := Lib.hid (show ∀ wx, Below w4.heap.size w4 wx → Calls Try.prog 17 #[.agg #[.int .i64 N, .int .i64 T, .int .i64 S, .slice A1 m c1], .agg #[.int .i64 N2, .int .i64 T2, .int .i64 S2, .slice A2 m2 c3]] wx (SnP1 N3 T3 S3 R3 k3 wx) from fun wx hb => (InstallSnapS_any N T S 0 _ m c1 A1 ps N2 T2 S2 0 _ m2 c3 A2 qs wx (HL_75.out.keep hb (by omega)) (Nat.le_trans (by omega) hb.size) (by omega) (by omega) (HM_76.out.keep hb (by omega)) (Nat.le_trans (by omega) hb.size) (by omega) (by omega)).mono fun _ _ h => SnPost1.p HIN.out HK3.out h)
      have HC1 := Lib.hid (show ∀ wx A9 c9 lo9 hi9, Below w4.heap.size w4 wx → Rd wx lo9 hi9 2 A9 k3 (pvs R3) → hi9 ≤ wx.heap.size → Calls Try.prog 16 #[.agg #[.int .i64 N3, .int .i64 T3, .int .i64 S3, .slice A5 k3 c5], .agg #[.int .i64 N3, .int .i64 T3, .int .i64 S3, .slice A9 k3 c9]] wx fun e w' => e = .returned (.bool true) ∧ Below wx.heap.size wx w' from fun wx A9 c9 lo9 hi9 hb hr9 hh9 => equalSnap_same N3 T3 S3 0 _ k3 c5 lo9 hi9 c9 A5 A9 R3 wx (HU_77.out.keep hb (by omega)) (Nat.le_trans (by omega) hb.size) (by omega) hr9 hh9)
      have HC2 := Lib.hid (show ∀ wx, Below w4.heap.size w4 wx → Calls Try.prog 18 #[.agg #[.int .i64 N, .int .i64 T, .int .i64 S, .slice A1 m c1]] wx fun e w' => e = .returned (.bool true) ∧ Below wx.heap.size wx w' from fun wx hb => (ValidSnapI_any N T S 0 _ m c1 A1 ps wx (HL_75.out.keep hb (by omega)) (Nat.le_trans (by omega) hb.size) (by omega) (by omega)).mono fun e w' ⟨h1, h2⟩ => ⟨by rw [h1, HV1.out], h2⟩)
      have HC3 := Lib.hid (show ∀ wx, Below w4.heap.size w4 wx → Calls Try.prog 18 #[.agg #[.int .i64 N2, .int .i64 T2, .int .i64 S2, .slice A2 m2 c3]] wx fun e w' => e = .returned (.bool true) ∧ Below wx.heap.size wx w' from fun wx hb => (ValidSnapI_any N2 T2 S2 0 _ m2 c3 A2 qs wx (HM_76.out.keep hb (by omega)) (Nat.le_trans (by omega) hb.size) (by omega) (by omega)).mono fun e w' ⟨h1, h2⟩ => ⟨by rw [h1, HV2.out], h2⟩)
      have HSW := Lib.hid (show ∀ wx, Below w4.heap.size w4 wx → wx.cell? ⟨w1.heap.size, 0, none⟩ = some (.int .i64 N) ∧ wx.cell? ⟨w1.heap.size, 1, none⟩ = some (.int .i64 T) ∧ wx.cell? ⟨w1.heap.size, 2, none⟩ = some (.int .i64 S) ∧ wx.cell? ⟨w1.heap.size, 3, none⟩ = some (.slice A1 m c1) ∧ wx.cell? ⟨(w1.heap.size + 1), 0, none⟩ = some (.int .i64 N2) ∧ wx.cell? ⟨(w1.heap.size + 1), 1, none⟩ = some (.int .i64 T2) ∧ wx.cell? ⟨(w1.heap.size + 1), 2, none⟩ = some (.int .i64 S2) ∧ wx.cell? ⟨(w1.heap.size + 1), 3, none⟩ = some (.slice A2 m2 c3) ∧ wx.cell? ⟨w3.heap.size, 0, none⟩ = some (.int .i64 N3) ∧ wx.cell? ⟨w3.heap.size, 1, none⟩ = some (.int .i64 T3) ∧ wx.cell? ⟨w3.heap.size, 2, none⟩ = some (.int .i64 S3) ∧ wx.cell? ⟨w3.heap.size, 3, none⟩ = some (.slice A5 k3 c5) from fun wx hb => ⟨(hb.cell (by show w1.heap.size < w4.heap.size; omega)).trans (HEV_73.out.cell 0), (hb.cell (by show w1.heap.size < w4.heap.size; omega)).trans (HEV_73.out.cell 1), (hb.cell (by show w1.heap.size < w4.heap.size; omega)).trans (HEV_73.out.cell 2), (hb.cell (by show w1.heap.size < w4.heap.size; omega)).trans (HEV_73.out.cell 3), (hb.cell (by show (w1.heap.size + 1) < w4.heap.size; omega)).trans (HEW_74.out.cell 0), (hb.cell (by show (w1.heap.size + 1) < w4.heap.size; omega)).trans (HEW_74.out.cell 1), (hb.cell (by show (w1.heap.size + 1) < w4.heap.size; omega)).trans (HEW_74.out.cell 2), (hb.cell (by show (w1.heap.size + 1) < w4.heap.size; omega)).trans (HEW_74.out.cell 3), (hb.cell (by show w3.heap.size < w4.heap.size; omega)).trans (HEU_72.out.cell 0), (hb.cell (by show w3.heap.size < w4.heap.size; omega)).trans (HEU_72.out.cell 1), (hb.cell (by show w3.heap.size < w4.heap.size; omega)).trans (HEU_72.out.cell 2), (hb.cell (by show w3.heap.size < w4.heap.size; omega)).trans (HEU_72.out.cell 3)⟩)
      obtain ⟨kk0, kk1, kk2, kk3, kk4, kk5, kk6, kk7, kk8, kk9, kk10, kk11⟩ := HSW.out _ (Below.refl _ _)
      go_wp2_with (fail)
      clear kk0 kk1 kk2 kk3 kk4 kk5 kk6 kk7 kk8 kk9 kk10 kk11
      go_region_held3 (fun wx => wx.cell? ⟨w1.heap.size, 0, none⟩ = some (.int .i64 N) ∧ wx.cell? ⟨w1.heap.size, 1, none⟩ = some (.int .i64 T) ∧ wx.cell? ⟨w1.heap.size, 2, none⟩ = some (.int .i64 S) ∧ wx.cell? ⟨w1.heap.size, 3, none⟩ = some (.slice A1 m c1) ∧ wx.cell? ⟨(w1.heap.size + 1), 0, none⟩ = some (.int .i64 N2) ∧ wx.cell? ⟨(w1.heap.size + 1), 1, none⟩ = some (.int .i64 T2) ∧ wx.cell? ⟨(w1.heap.size + 1), 2, none⟩ = some (.int .i64 S2) ∧ wx.cell? ⟨(w1.heap.size + 1), 3, none⟩ = some (.slice A2 m2 c3) ∧ wx.cell? ⟨w3.heap.size, 0, none⟩ = some (.int .i64 N3) ∧ wx.cell? ⟨w3.heap.size, 1, none⟩ = some (.int .i64 T3) ∧ wx.cell? ⟨w3.heap.size, 2, none⟩ = some (.int .i64 S3) ∧ wx.cell? ⟨w3.heap.size, 3, none⟩ = some (.slice A5 k3 c5))
        (first | with_reducible exact HSW.out _ (Below.refl _ _) | with_reducible exact HSW.out _ (up_drew (Below.refl _ _)) | with_reducible exact HSW.out _ (HX0.out) | with_reducible exact HSW.out _ (HX1.out) | with_reducible exact HSW.out _ (HX2.out) | with_reducible exact HSW.out _ (HX3.out))
        ((first
          | (go_at_call 17; (with_reducible refine (HC0.out _ (up_drew (Below.refl _ _))).mono ?_); rintro e x0 ⟨A9, c9, rfl, hk9, hr9, hb9⟩; have HX0 := Lib.hid (up (up_drew (Below.refl _ _)) hb9); have HR9 := Lib.hid hr9; clear hb9 hr9)
          | (go_at_call 16; (with_reducible refine (HC1.out _ _ _ _ _ HX0.out HR9.out (Nat.le_refl _)).mono ?_); rintro e x1 ⟨rfl, hbx⟩; have HX1 := Lib.hid (up HX0.out hbx); clear hbx)
          | (go_at_call 18; (with_reducible refine (HC2.out _ HX1.out).mono ?_); rintro e x2 ⟨rfl, hbx⟩; have HX2 := Lib.hid (up HX1.out hbx); clear hbx)
          | (go_at_call 18; (with_reducible refine (HC3.out _ HX2.out).mono ?_); rintro e x3 ⟨rfl, hbx⟩; have HX3 := Lib.hid (up HX2.out hbx); clear hbx)
          | fail "no arm"))
      all_goals
        clear HSW HC0 HC1 HC2 HC3
        have hbt := HX3.out
        obtain ⟨w5, hww⟩ : ∃ x : World, x = x3 := ⟨_, rfl⟩
        subst hww
        have HEV_79 := Lib.hid (HEV_73.out.below hbt HEV_73.out.lt)
        have HEW_80 := Lib.hid (HEW_74.out.below hbt HEW_74.out.lt)
        have HEU_81 := Lib.hid (HEU_72.out.below hbt HEU_72.out.lt)
        clear HEV_73 HEW_74 HEU_72
        have HL_82 := Lib.hid (HL_75.out.keep hbt (by omega))
        have HM_83 := Lib.hid (HM_76.out.keep hbt (by omega))
        have HU_84 := Lib.hid (HU_77.out.keep hbt (by omega))
        have HB_85 := Lib.hid (up HB_78.out hbt)
        have hz_5 := hbt.size
        clear HL_75 HM_76 HU_77 HB_78
        clear hbt
        have HC0 := Lib.hid (show ∀ wx, Below w5.heap.size w5 wx → Calls Try.prog 15 #[.agg #[.int .i64 N3, .int .i64 T3, .int .i64 S3, .slice A5 k3 c5], .agg #[.int .i64 N2, .int .i64 T2, .int .i64 S2, .slice A2 m2 c3]] wx (SnP1 N3 T3 S3 R3 k3 wx) from fun wx hb => (InstallSnapI_any N3 T3 S3 0 _ k3 c5 A5 R3 N2 T2 S2 0 _ m2 c3 A2 qs wx (HU_84.out.keep hb (by omega)) (Nat.le_trans (by omega) hb.size) (by omega) (by omega) (HM_83.out.keep hb (by omega)) (Nat.le_trans (by omega) hb.size) (by omega) (by omega)).mono fun _ _ h => SnPost1.p HIN2.out HK3.out h)
        have HC1 := Lib.hid (show ∀ wx A9 c9 lo9 hi9, Below w5.heap.size w5 wx → Rd wx lo9 hi9 2 A9 k3 (pvs R3) → hi9 ≤ wx.heap.size → Calls Try.prog 16 #[.agg #[.int .i64 N3, .int .i64 T3, .int .i64 S3, .slice A9 k3 c9], .agg #[.int .i64 N3, .int .i64 T3, .int .i64 S3, .slice A5 k3 c5]] wx fun e w' => e = .returned (.bool true) ∧ Below wx.heap.size wx w' from fun wx A9 c9 lo9 hi9 hb hr9 hh9 => equalSnap_same N3 T3 S3 lo9 hi9 k3 c9 0 _ c5 A9 A5 R3 wx hr9 hh9 (by omega) (HU_84.out.keep hb (by omega)) (Nat.le_trans (by omega) hb.size))
        have HC2 := Lib.hid (show ∀ wx, Below w5.heap.size w5 wx → Calls Try.prog 18 #[.agg #[.int .i64 N3, .int .i64 T3, .int .i64 S3, .slice A5 k3 c5]] wx fun e w' => e = .returned (.bool true) ∧ Below wx.heap.size wx w' from fun wx hb => (ValidSnapI_any N3 T3 S3 0 _ k3 c5 A5 R3 wx (HU_84.out.keep hb (by omega)) (Nat.le_trans (by omega) hb.size) (by omega) (by omega)).mono fun e w' ⟨h1, h2⟩ => ⟨by rw [h1, HV3.out], h2⟩)
        by_cases hle : N2 ≤ N
        case pos =>
          have hmx : N3 = N := by have := HMX.out; rw [if_pos hle] at this; exact this
          have bmx : (N3 == max N N2) = true := by rw [beq_iff_eq]; omega
          clear hmx hle
          have HSW := Lib.hid (show ∀ wx, Below w5.heap.size w5 wx → wx.cell? ⟨w1.heap.size, 0, none⟩ = some (.int .i64 N) ∧ wx.cell? ⟨w1.heap.size, 1, none⟩ = some (.int .i64 T) ∧ wx.cell? ⟨w1.heap.size, 2, none⟩ = some (.int .i64 S) ∧ wx.cell? ⟨w1.heap.size, 3, none⟩ = some (.slice A1 m c1) ∧ wx.cell? ⟨(w1.heap.size + 1), 0, none⟩ = some (.int .i64 N2) ∧ wx.cell? ⟨(w1.heap.size + 1), 1, none⟩ = some (.int .i64 T2) ∧ wx.cell? ⟨(w1.heap.size + 1), 2, none⟩ = some (.int .i64 S2) ∧ wx.cell? ⟨(w1.heap.size + 1), 3, none⟩ = some (.slice A2 m2 c3) ∧ wx.cell? ⟨w3.heap.size, 0, none⟩ = some (.int .i64 N3) ∧ wx.cell? ⟨w3.heap.size, 1, none⟩ = some (.int .i64 T3) ∧ wx.cell? ⟨w3.heap.size, 2, none⟩ = some (.int .i64 S3) ∧ wx.cell? ⟨w3.heap.size, 3, none⟩ = some (.slice A5 k3 c5) from fun wx hb => ⟨(hb.cell (by show w1.heap.size < w5.heap.size; omega)).trans (HEV_79.out.cell 0), (hb.cell (by show w1.heap.size < w5.heap.size; omega)).trans (HEV_79.out.cell 1), (hb.cell (by show w1.heap.size < w5.heap.size; omega)).trans (HEV_79.out.cell 2), (hb.cell (by show w1.heap.size < w5.heap.size; omega)).trans (HEV_79.out.cell 3), (hb.cell (by show (w1.heap.size + 1) < w5.heap.size; omega)).trans (HEW_80.out.cell 0), (hb.cell (by show (w1.heap.size + 1) < w5.heap.size; omega)).trans (HEW_80.out.cell 1), (hb.cell (by show (w1.heap.size + 1) < w5.heap.size; omega)).trans (HEW_80.out.cell 2), (hb.cell (by show (w1.heap.size + 1) < w5.heap.size; omega)).trans (HEW_80.out.cell 3), (hb.cell (by show w3.heap.size < w5.heap.size; omega)).trans (HEU_81.out.cell 0), (hb.cell (by show w3.heap.size < w5.heap.size; omega)).trans (HEU_81.out.cell 1), (hb.cell (by show w3.heap.size < w5.heap.size; omega)).trans (HEU_81.out.cell 2), (hb.cell (by show w3.heap.size < w5.heap.size; omega)).trans (HEU_81.out.cell 3)⟩)
          obtain ⟨kk0, kk1, kk2, kk3, kk4, kk5, kk6, kk7, kk8, kk9, kk10, kk11⟩ := HSW.out _ (Below.refl _ _)
          go_wp2_with (fail)
          clear kk0 kk1 kk2 kk3 kk4 kk5 kk6 kk7 kk8 kk9 kk10 kk11
          go_region_held3 (fun wx => wx.cell? ⟨w1.heap.size, 0, none⟩ = some (.int .i64 N) ∧ wx.cell? ⟨w1.heap.size, 1, none⟩ = some (.int .i64 T) ∧ wx.cell? ⟨w1.heap.size, 2, none⟩ = some (.int .i64 S) ∧ wx.cell? ⟨w1.heap.size, 3, none⟩ = some (.slice A1 m c1) ∧ wx.cell? ⟨(w1.heap.size + 1), 0, none⟩ = some (.int .i64 N2) ∧ wx.cell? ⟨(w1.heap.size + 1), 1, none⟩ = some (.int .i64 T2) ∧ wx.cell? ⟨(w1.heap.size + 1), 2, none⟩ = some (.int .i64 S2) ∧ wx.cell? ⟨(w1.heap.size + 1), 3, none⟩ = some (.slice A2 m2 c3) ∧ wx.cell? ⟨w3.heap.size, 0, none⟩ = some (.int .i64 N3) ∧ wx.cell? ⟨w3.heap.size, 1, none⟩ = some (.int .i64 T3) ∧ wx.cell? ⟨w3.heap.size, 2, none⟩ = some (.int .i64 S3) ∧ wx.cell? ⟨w3.heap.size, 3, none⟩ = some (.slice A5 k3 c5))
            (first | with_reducible exact HSW.out _ (Below.refl _ _) | with_reducible exact HSW.out _ (up_drew (Below.refl _ _)) | with_reducible exact HSW.out _ (HX0.out) | with_reducible exact HSW.out _ (HX1.out) | with_reducible exact HSW.out _ (HX2.out))
            ((first
              | (go_at_call 15; (with_reducible refine (HC0.out _ (up_drew (Below.refl _ _))).mono ?_); rintro e x0 ⟨A9, c9, rfl, hk9, hr9, hb9⟩; have HX0 := Lib.hid (up (up_drew (Below.refl _ _)) hb9); have HR9 := Lib.hid hr9; clear hb9 hr9)
              | (go_at_call 16; (with_reducible refine (HC1.out _ _ _ _ _ HX0.out HR9.out (Nat.le_refl _)).mono ?_); rintro e x1 ⟨rfl, hbx⟩; have HX1 := Lib.hid (up HX0.out hbx); clear hbx)
              | (go_at_call 18; (with_reducible refine (HC2.out _ HX1.out).mono ?_); rintro e x2 ⟨rfl, hbx⟩; have HX2 := Lib.hid (up HX1.out hbx); clear hbx)
              | fail "no arm"))
          all_goals
            go_wp2
            go_ret
            exact ⟨rfl, up HB_85.out HX2.out⟩
        have hmx : N3 = N2 := by have := HMX.out; rw [if_neg hle] at this; exact this
        have bmx : (N3 == max N N2) = true := by rw [beq_iff_eq]; omega
        clear hmx hle
        have HSW := Lib.hid (show ∀ wx, Below w5.heap.size w5 wx → wx.cell? ⟨w1.heap.size, 0, none⟩ = some (.int .i64 N) ∧ wx.cell? ⟨w1.heap.size, 1, none⟩ = some (.int .i64 T) ∧ wx.cell? ⟨w1.heap.size, 2, none⟩ = some (.int .i64 S) ∧ wx.cell? ⟨w1.heap.size, 3, none⟩ = some (.slice A1 m c1) ∧ wx.cell? ⟨(w1.heap.size + 1), 0, none⟩ = some (.int .i64 N2) ∧ wx.cell? ⟨(w1.heap.size + 1), 1, none⟩ = some (.int .i64 T2) ∧ wx.cell? ⟨(w1.heap.size + 1), 2, none⟩ = some (.int .i64 S2) ∧ wx.cell? ⟨(w1.heap.size + 1), 3, none⟩ = some (.slice A2 m2 c3) ∧ wx.cell? ⟨w3.heap.size, 0, none⟩ = some (.int .i64 N3) ∧ wx.cell? ⟨w3.heap.size, 1, none⟩ = some (.int .i64 T3) ∧ wx.cell? ⟨w3.heap.size, 2, none⟩ = some (.int .i64 S3) ∧ wx.cell? ⟨w3.heap.size, 3, none⟩ = some (.slice A5 k3 c5) from fun wx hb => ⟨(hb.cell (by show w1.heap.size < w5.heap.size; omega)).trans (HEV_79.out.cell 0), (hb.cell (by show w1.heap.size < w5.heap.size; omega)).trans (HEV_79.out.cell 1), (hb.cell (by show w1.heap.size < w5.heap.size; omega)).trans (HEV_79.out.cell 2), (hb.cell (by show w1.heap.size < w5.heap.size; omega)).trans (HEV_79.out.cell 3), (hb.cell (by show (w1.heap.size + 1) < w5.heap.size; omega)).trans (HEW_80.out.cell 0), (hb.cell (by show (w1.heap.size + 1) < w5.heap.size; omega)).trans (HEW_80.out.cell 1), (hb.cell (by show (w1.heap.size + 1) < w5.heap.size; omega)).trans (HEW_80.out.cell 2), (hb.cell (by show (w1.heap.size + 1) < w5.heap.size; omega)).trans (HEW_80.out.cell 3), (hb.cell (by show w3.heap.size < w5.heap.size; omega)).trans (HEU_81.out.cell 0), (hb.cell (by show w3.heap.size < w5.heap.size; omega)).trans (HEU_81.out.cell 1), (hb.cell (by show w3.heap.size < w5.heap.size; omega)).trans (HEU_81.out.cell 2), (hb.cell (by show w3.heap.size < w5.heap.size; omega)).trans (HEU_81.out.cell 3)⟩)
        obtain ⟨kk0, kk1, kk2, kk3, kk4, kk5, kk6, kk7, kk8, kk9, kk10, kk11⟩ := HSW.out _ (Below.refl _ _)
        go_wp2_with (fail)
        clear kk0 kk1 kk2 kk3 kk4 kk5 kk6 kk7 kk8 kk9 kk10 kk11
        go_region_held3 (fun wx => wx.cell? ⟨w1.heap.size, 0, none⟩ = some (.int .i64 N) ∧ wx.cell? ⟨w1.heap.size, 1, none⟩ = some (.int .i64 T) ∧ wx.cell? ⟨w1.heap.size, 2, none⟩ = some (.int .i64 S) ∧ wx.cell? ⟨w1.heap.size, 3, none⟩ = some (.slice A1 m c1) ∧ wx.cell? ⟨(w1.heap.size + 1), 0, none⟩ = some (.int .i64 N2) ∧ wx.cell? ⟨(w1.heap.size + 1), 1, none⟩ = some (.int .i64 T2) ∧ wx.cell? ⟨(w1.heap.size + 1), 2, none⟩ = some (.int .i64 S2) ∧ wx.cell? ⟨(w1.heap.size + 1), 3, none⟩ = some (.slice A2 m2 c3) ∧ wx.cell? ⟨w3.heap.size, 0, none⟩ = some (.int .i64 N3) ∧ wx.cell? ⟨w3.heap.size, 1, none⟩ = some (.int .i64 T3) ∧ wx.cell? ⟨w3.heap.size, 2, none⟩ = some (.int .i64 S3) ∧ wx.cell? ⟨w3.heap.size, 3, none⟩ = some (.slice A5 k3 c5))
          (first | with_reducible exact HSW.out _ (Below.refl _ _) | with_reducible exact HSW.out _ (up_drew (Below.refl _ _)) | with_reducible exact HSW.out _ (HX0.out) | with_reducible exact HSW.out _ (HX1.out) | with_reducible exact HSW.out _ (HX2.out))
          ((first
            | (go_at_call 15; (with_reducible refine (HC0.out _ (up_drew (Below.refl _ _))).mono ?_); rintro e x0 ⟨A9, c9, rfl, hk9, hr9, hb9⟩; have HX0 := Lib.hid (up (up_drew (Below.refl _ _)) hb9); have HR9 := Lib.hid hr9; clear hb9 hr9)
            | (go_at_call 16; (with_reducible refine (HC1.out _ _ _ _ _ HX0.out HR9.out (Nat.le_refl _)).mono ?_); rintro e x1 ⟨rfl, hbx⟩; have HX1 := Lib.hid (up HX0.out hbx); clear hbx)
            | (go_at_call 18; (with_reducible refine (HC2.out _ HX1.out).mono ?_); rintro e x2 ⟨rfl, hbx⟩; have HX2 := Lib.hid (up HX1.out hbx); clear hbx)
            | fail "no arm"))
        all_goals
          go_wp2
          go_ret
          exact ⟨rfl, up HB_85.out HX2.out⟩
end Go.Proofs.Ytfpiejcfhdnjiaa
