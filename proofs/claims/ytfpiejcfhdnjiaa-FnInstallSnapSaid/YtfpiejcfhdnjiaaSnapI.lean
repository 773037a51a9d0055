/- The program's snapshots: ValidSnap, StateOf, Snap.restBehind. -/
import Derived.Test.YtfpiejcfhdnjiaaSnapV
import Derived.Test.YtfpiejcfhdnjiaaSnapP
import Derived.Test.YtfpiejcfhdnjiaaAskI
import Derived.Deep.RegionHeld3
set_option linter.unusedSimpArgs false
set_option linter.unusedVariables false
namespace Go.Proofs.Ytfpiejcfhdnjiaa
open Go.RowKit

set_option maxRecDepth 100000 in
set_option maxHeartbeats 3200000 in
theorem ValidSnapI_any (N T S : Int) (lo hi n c : Nat) (A : Option Addr) (ls : List En) (w : World) (hr : Rd w lo hi 2 A n (pvs ls)) (hB : hi ≤ w.heap.size) (hn : n ≤ 1048576) (hcap : n ≤ c) :
    Calls Try.prog 18 #[.agg #[.int .i64 N, .int .i64 T, .int .i64 S, .slice A n c]] w fun e w' => e = .returned (.bool (vSnap N T S ls)) ∧ Below w.heap.size w w' := by
  have hb0 := up_alloc (Below.refl _ w) (.cells #[.int .i64 N, .int .i64 T, .int .i64 S, .slice A n c] 32)
  have HL := Lib.hid hr.len2
  have HR := Lib.hid (hr.keep hb0 hB)
  have HE := Lib.hid (Blk.new w 32 #[.int .i64 N, .int .i64 T, .int .i64 S, .slice A n c])
  have HB0 := Lib.hid hb0
  have hz0 : (w.alloc (.cells #[.int .i64 N, .int .i64 T, .int .i64 S, .slice A n c] 32)).heap.size = w.heap.size + 1 := by simp
  clear hr hb0
  by_cases hin : (0 ≤ N ∧ N ≤ 999) ∧ (0 ≤ T ∧ T ≤ 9) ∧ (0 ≤ S ∧ S ≤ 10006)
  case neg =>
    have HX := Lib.hid (show vSnap N T S ls = false by
      rw [← Bool.not_eq_true, vSnap_iff]
      exact fun h => hin ⟨h.1, h.2.1, h.2.2.1⟩)
    rcases (show N < 0 ∨ (0 ≤ N ∧ 999 < N) ∨ ((0 ≤ N ∧ N ≤ 999) ∧ T < 0) ∨ ((0 ≤ N ∧ N ≤ 999) ∧ 0 ≤ T ∧ 9 < T) ∨ ((0 ≤ N ∧ N ≤ 999) ∧ (0 ≤ T ∧ T ≤ 9) ∧ S < 0) ∨ ((0 ≤ N ∧ N ≤ 999) ∧ (0 ≤ T ∧ T ≤ 9) ∧ 0 ≤ S ∧ 10007 ≤ S) by omega) with h | h | h | h | h | h
    · have d1 : decide (N < 0) = true := decide_eq_true h
      clear hin
      go_enter Try.func18, Try.ntmps18
      go_wp2
      go_ret
      exact ⟨ret_bool HX.out.symm, HB0.out⟩
    · have d1 : decide (N < 0) = false := decide_eq_false (by omega)
      have d2 : decide (999 < N) = true := decide_eq_true h.2
      clear hin h
      go_enter Try.func18, Try.ntmps18
      go_wp2
      go_ret
      exact ⟨ret_bool HX.out.symm, HB0.out⟩
    · have d1 : decide (N < 0) = false := decide_eq_false (by omega)
      have d2 : decide (999 < N) = false := decide_eq_false (by omega)
      have d3 : decide (T < 0) = true := decide_eq_true h.2
      clear hin h
      go_enter Try.func18, Try.ntmps18
      go_wp2
      go_ret
      exact ⟨ret_bool HX.out.symm, HB0.out⟩
    · have d1 : decide (N < 0) = false := decide_eq_false (by omega)
      have d2 : decide (999 < N) = false := decide_eq_false (by omega)
      have d3 : decide (T < 0) = false := decide_eq_false (by omega)
      have d4 : decide (9 < T) = true := decide_eq_true h.2.2
      clear hin h
      go_enter Try.func18, Try.ntmps18
      go_wp2
      go_ret
      exact ⟨ret_bool HX.out.symm, HB0.out⟩
    · have d1 : decide (N < 0) = false := decide_eq_false (by omega)
      have d2 : decide (999 < N) = false := decide_eq_false (by omega)
      have d3 : decide (T < 0) = false := decide_eq_false (by omega)
      have d4 : decide (9 < T) = false := decide_eq_false (by omega)
      have d5 : decide (S < 0) = true := decide_eq_true h.2.2
      clear hin h
      go_enter Try.func18, Try.ntmps18
      go_wp2
      go_ret
      exact ⟨ret_bool HX.out.symm, HB0.out⟩
    · have d1 : decide (N < 0) = false := decide_eq_false (by omega)
      have d2 : decide (999 < N) = false := decide_eq_false (by omega)
      have d3 : decide (T < 0) = false := decide_eq_false (by omega)
      have d4 : decide (9 < T) = false := decide_eq_false (by omega)
      have d5 : decide (S < 0) = false := decide_eq_false (by omega)
      have d6 : decide (10007 ≤ S) = true := decide_eq_true h.2.2.2
      clear hin h
      go_enter Try.func18, Try.ntmps18
      go_wp2
      go_ret
      exact ⟨ret_bool HX.out.symm, HB0.out⟩
  have HV := Lib.hid (show vSnap N T S ls = (vLog ls && headOk T ls) by
    rw [Bool.eq_iff_iff, vSnap_iff, Bool.and_eq_true]
    exact ⟨fun h => h.2.2.2, fun h => ⟨hin.1, hin.2.1, hin.2.2, h⟩⟩)
  have d1 : decide (N < 0) = false := decide_eq_false (by omega)
  have d2 : decide (999 < N) = false := decide_eq_false (by omega)
  have d3 : decide (T < 0) = false := decide_eq_false (by omega)
  have d4 : decide (9 < T) = false := decide_eq_false (by omega)
  have d5 : decide (S < 0) = false := decide_eq_false (by omega)
  have d6 : decide (10007 ≤ S) = false := decide_eq_false (by omega)
  clear hin
  generalize vSnap N T S ls = u at *
  have HS := Lib.hid (show ∀ wx, Below (w.alloc (.cells #[.int .i64 N, .int .i64 T, .int .i64 S, .slice A n c] 32)).heap.size (w.alloc (.cells #[.int .i64 N, .int .i64 T, .int .i64 S, .slice A n c] 32)) wx → wx.cell? ⟨w.heap.size, 1, none⟩ = some (.int .i64 T) ∧ wx.cell? ⟨w.heap.size, 3, none⟩ = some (.slice A n c) from fun wx hb => ⟨(hb.cell (by show w.heap.size < _; omega)).trans (HE.out.cell 1), (hb.cell (by show w.heap.size < _; omega)).trans (HE.out.cell 3)⟩)
  have HC := Lib.hid (show ∀ wx, Below (w.alloc (.cells #[.int .i64 N, .int .i64 T, .int .i64 S, .slice A n c] 32)).heap.size (w.alloc (.cells #[.int .i64 N, .int .i64 T, .int .i64 S, .slice A n c] 32)) wx → Calls Try.prog 37 #[.slice A n c] wx fun e w' => e = .returned (.bool (vLog ls)) ∧ Below (w.alloc (.cells #[.int .i64 N, .int .i64 T, .int .i64 S, .slice A n c] 32)).heap.size (w.alloc (.cells #[.int .i64 N, .int .i64 T, .int .i64 S, .slice A n c] 32)) w' from fun wx hb => (ValidLogI_any lo hi n c A ls wx (HR.out.keep hb (by omega)) (Nat.le_trans (by omega) hb.size) hn hcap).mono fun e w' ⟨h1, h2⟩ => ⟨h1, up hb h2⟩)
  cases h4 : vLog ls with
  | false =>
    have HY := Lib.hid (show u = false by rw [HV.out, h4]; rfl)
    rw [h4] at HC
    clear h4
    obtain ⟨e1, e3⟩ := HS.out _ (Below.refl _ _)
    go_enter Try.func18, Try.ntmps18
    go_wp2_with (fail)
    generalize w.alloc (.cells #[.int .i64 N, .int .i64 T, .int .i64 S, .slice A n c] 32) = w0 at *
    refine wp_region_any (by kernel_rfl) ?_
    try (change wpAny _ _ _ _ _ _ _ (World.drew _))
    refine wpAny_take (i := 0) (oi := ⟨_, _, _, _, _, _⟩) (v := ?_) rfl (by kernel_rfl) (by kernel_rfl) (by kernel_rfl) (fun _ _ _ h => h) (Or.inl ⟨by rfl, ?_⟩) ?_
    rotate_left
    focus (intro w; go_simp; try (with_reducible rfl); done)
    try simp only [Act.put, List.setIfInBounds_toArray, List.set_cons_zero, List.set_cons_succ]
    refine wpAny_ready (rs := [1]) (by kernel_rfl) (by simp) ?_
    refine AllReady.cons (o := ⟨_, _, _, _, _, _⟩) rfl (fun K hK => ?_) AllReady.nil
    go_simp
    try (refine hK _ _ ?_)
    try clear hK
    try clear K
    try simp only [Act.put, List.setIfInBounds_toArray, List.set_cons_zero, List.set_cons_succ]
    refine wpAny_ready (rs := [2]) (by kernel_rfl) (by simp) ?_
    refine AllReady.cons (o := ⟨_, _, _, _, _, _⟩) rfl (fun K hK => ?_) AllReady.nil
    go_simp
    (go_at_call 37; (with_reducible refine (HC.out _ (up_drew (Below.refl _ _))).mono ?_); rintro e w6 ⟨rfl, hb6⟩; have HB6 := Lib.hid hb6; obtain ⟨f1, f3⟩ := HS.out _ hb6; clear hb6)
    try go_simp
    try (refine hK _ _ ?_)
    try clear hK
    try clear K
    try simp only [Act.put, List.setIfInBounds_toArray, List.set_cons_zero, List.set_cons_succ]
    refine wpAny_take (i := 3) (oi := ⟨_, _, _, _, _, _⟩) (v := ?_) rfl (by kernel_rfl) (by kernel_rfl) (by kernel_rfl) (fun _ _ _ h => h) (Or.inl ⟨by rfl, ?_⟩) ?_
    rotate_left
    focus (intro w; go_simp; try (with_reducible rfl); done)
    try simp only [Act.put, List.setIfInBounds_toArray, List.set_cons_zero, List.set_cons_succ]
    refine wpAny_take (i := 4) (oi := ⟨_, _, _, _, _, _⟩) (v := undef) rfl (by kernel_rfl) (by kernel_rfl) (by kernel_rfl) (fun _ _ _ h => h) (Or.inr ⟨by rfl, rfl⟩) ?_
    try simp only [Act.put, List.setIfInBounds_toArray, List.set_cons_zero, List.set_cons_succ]
    refine wpAny_take (i := 5) (oi := ⟨_, _, _, _, _, _⟩) (v := undef) rfl (by kernel_rfl) (by kernel_rfl) (by kernel_rfl) (fun _ _ _ h => h) (Or.inr ⟨by rfl, rfl⟩) ?_
    try simp only [Act.put, List.setIfInBounds_toArray, List.set_cons_zero, List.set_cons_succ]
    refine wpAny_take (i := 6) (oi := ⟨_, _, _, _, _, _⟩) (v := undef) rfl (by kernel_rfl) (by kernel_rfl) (by kernel_rfl) (fun _ _ _ h => h) (Or.inr ⟨by rfl, rfl⟩) ?_
    try simp only [Act.put, List.setIfInBounds_toArray, List.set_cons_zero, List.set_cons_succ]
    refine wpAny_take (i := 7) (oi := ⟨_, _, _, _, _, _⟩) (v := undef) rfl (by kernel_rfl) (by kernel_rfl) (by kernel_rfl) (fun _ _ _ h => h) (Or.inr ⟨by rfl, rfl⟩) ?_
    try simp only [Act.put, List.setIfInBounds_toArray, List.set_cons_zero, List.set_cons_succ]
    refine wpAny_take (i := 8) (oi := ⟨_, _, _, _, _, _⟩) (v := undef) rfl (by kernel_rfl) (by kernel_rfl) (by kernel_rfl) (fun _ _ _ h => h) (Or.inr ⟨by rfl, rfl⟩) ?_
    try simp only [Act.put, List.setIfInBounds_toArray, List.set_cons_zero, List.set_cons_succ]
    refine wpAny_take (i := 9) (oi := ⟨_, _, _, _, _, _⟩) (v := undef) rfl (by kernel_rfl) (by kernel_rfl) (by kernel_rfl) (fun _ _ _ h => h) (Or.inr ⟨by rfl, rfl⟩) ?_
    try simp only [Act.put, List.setIfInBounds_toArray, List.set_cons_zero, List.set_cons_succ]
    refine wpAny_take (i := 10) (oi := ⟨_, _, _, _, _, _⟩) (v := undef) rfl (by kernel_rfl) (by kernel_rfl) (by kernel_rfl) (fun _ _ _ h => h) (Or.inr ⟨by rfl, rfl⟩) ?_
    try simp only [Act.put, List.setIfInBounds_toArray, List.set_cons_zero, List.set_cons_succ]
    refine wpAny_take (i := 11) (oi := ⟨_, _, _, _, _, _⟩) (v := undef) rfl (by kernel_rfl) (by kernel_rfl) (by kernel_rfl) (fun _ _ _ h => h) (Or.inr ⟨by rfl, rfl⟩) ?_
    try simp only [Act.put, List.setIfInBounds_toArray, List.set_cons_zero, List.set_cons_succ]
    refine wpAny_take (i := 12) (oi := ⟨_, _, _, _, _, _⟩) (v := undef) rfl (by kernel_rfl) (by kernel_rfl) (by kernel_rfl) (fun _ _ _ h => h) (Or.inr ⟨by rfl, rfl⟩) ?_
    try simp only [Act.put, List.setIfInBounds_toArray, List.set_cons_zero, List.set_cons_succ]
    refine wpAny_take (i := 13) (oi := ⟨_, _, _, _, _, _⟩) (v := undef) rfl (by kernel_rfl) (by kernel_rfl) (by kernel_rfl) (fun _ _ _ h => h) (Or.inr ⟨by rfl, rfl⟩) ?_
    try simp only [Act.put, List.setIfInBounds_toArray, List.set_cons_zero, List.set_cons_succ]
    refine wpAny_take (i := 14) (oi := ⟨_, _, _, _, _, _⟩) (v := undef) rfl (by kernel_rfl) (by kernel_rfl) (by kernel_rfl) (fun _ _ _ h => h) (Or.inr ⟨by rfl, rfl⟩) ?_
    try simp only [Act.put, List.setIfInBounds_toArray, List.set_cons_zero, List.set_cons_succ]
    refine wpAny_take (i := 15) (oi := ⟨_, _, _, _, _, _⟩) (v := undef) rfl (by kernel_rfl) (by kernel_rfl) (by kernel_rfl) (fun _ _ _ h => h) (Or.inr ⟨by rfl, rfl⟩) ?_
    try simp only [Act.put, List.setIfInBounds_toArray, List.set_cons_zero, List.set_cons_succ]
    refine wpAny_take (i := 16) (oi := ⟨_, _, _, _, _, _⟩) (v := undef) rfl (by kernel_rfl) (by kernel_rfl) (by kernel_rfl) (fun _ _ _ h => h) (Or.inr ⟨by rfl, rfl⟩) ?_
    try simp only [Act.put, List.setIfInBounds_toArray, List.set_cons_zero, List.set_cons_succ]
    refine wpAny_take (i := 17) (oi := ⟨_, _, _, _, _, _⟩) (v := undef) rfl (by kernel_rfl) (by kernel_rfl) (by kernel_rfl) (fun _ _ _ h => h) (Or.inr ⟨by rfl, rfl⟩) ?_
    try simp only [Act.put, List.setIfInBounds_toArray, List.set_cons_zero, List.set_cons_succ]
    refine wpAny_take (i := 18) (oi := ⟨_, _, _, _, _, _⟩) (v := ?_) rfl (by kernel_rfl) (by kernel_rfl) (by kernel_rfl) (fun _ _ _ h => h) (Or.inl ⟨by rfl, ?_⟩) ?_
    rotate_left
    focus (intro w; go_simp; try (with_reducible rfl); done)
    try simp only [Act.put, List.setIfInBounds_toArray, List.set_cons_zero, List.set_cons_succ]
    refine wpAny_take (i := 19) (oi := ⟨_, _, _, _, _, _⟩) (v := ?_) rfl (by kernel_rfl) (by kernel_rfl) (by kernel_rfl) (fun _ _ _ h => h) (Or.inl ⟨by rfl, ?_⟩) ?_
    rotate_left
    focus (intro w; go_simp; try (with_reducible rfl); done)
    try simp only [Act.put, List.setIfInBounds_toArray, List.set_cons_zero, List.set_cons_succ]
    refine wpAny_done (by kernel_rfl) ?_ _
    go_wp2
    go_ret
    exact ⟨ret_bool HY.out.symm, up HB0.out HB6.out⟩
  | true =>
  have HY := Lib.hid (show u = headOk T ls by rw [HV.out, h4]; rfl)
  rw [h4] at HC
  clear h4 HV
  by_cases hz0' : n = 0
  · subst hz0'
    have HZ := Lib.hid (show u = true by rw [HY.out, List.eq_nil_of_length_eq_zero HL.out]; rfl)
    obtain ⟨e1, e3⟩ := HS.out _ (Below.refl _ _)
    go_enter Try.func18, Try.ntmps18
    go_wp2_with (fail)
    generalize w.alloc (.cells #[.int .i64 N, .int .i64 T, .int .i64 S, .slice A 0 c] 32) = w0 at *
    refine wp_region_any (by kernel_rfl) ?_
    try (change wpAny _ _ _ _ _ _ _ (World.drew _))
    refine wpAny_take (i := 0) (oi := ⟨_, _, _, _, _, _⟩) (v := ?_) rfl (by kernel_rfl) (by kernel_rfl) (by kernel_rfl) (fun _ _ _ h => h) (Or.inl ⟨by rfl, ?_⟩) ?_
    rotate_left
    focus (intro w; go_simp; try (with_reducible rfl); done)
    try simp only [Act.put, List.setIfInBounds_toArray, List.set_cons_zero, List.set_cons_succ]
    refine wpAny_ready (rs := [1]) (by kernel_rfl) (by simp) ?_
    refine AllReady.cons (o := ⟨_, _, _, _, _, _⟩) rfl (fun K hK => ?_) AllReady.nil
    go_simp
    try (refine hK _ _ ?_)
    try clear hK
    try clear K
    try simp only [Act.put, List.setIfInBounds_toArray, List.set_cons_zero, List.set_cons_succ]
    refine wpAny_ready (rs := [2]) (by kernel_rfl) (by simp) ?_
    refine AllReady.cons (o := ⟨_, _, _, _, _, _⟩) rfl (fun K hK => ?_) AllReady.nil
    go_simp
    (go_at_call 37; (with_reducible refine (HC.out _ (up_drew (Below.refl _ _))).mono ?_); rintro e w6 ⟨rfl, hb6⟩; have HB6 := Lib.hid hb6; obtain ⟨f1, f3⟩ := HS.out _ hb6; clear hb6)
    try go_simp
    try (refine hK _ _ ?_)
    try clear hK
    try clear K
    try simp only [Act.put, List.setIfInBounds_toArray, List.set_cons_zero, List.set_cons_succ]
    refine wpAny_take (i := 3) (oi := ⟨_, _, _, _, _, _⟩) (v := ?_) rfl (by kernel_rfl) (by kernel_rfl) (by kernel_rfl) (fun _ _ _ h => h) (Or.inl ⟨by rfl, ?_⟩) ?_
    rotate_left
    focus (intro w; go_simp; try (with_reducible rfl); done)
    try simp only [Act.put, List.setIfInBounds_toArray, List.set_cons_zero, List.set_cons_succ]
    refine wpAny_take (i := 4) (oi := ⟨_, _, _, _, _, _⟩) (v := ?_) rfl (by kernel_rfl) (by kernel_rfl) (by kernel_rfl) (fun _ _ _ h => h) (Or.inl ⟨by rfl, ?_⟩) ?_
    rotate_left
    focus (intro w; go_simp; try (with_reducible rfl); done)
    try simp only [Act.put, List.setIfInBounds_toArray, List.set_cons_zero, List.set_cons_succ]
    refine wpAny_ready (rs := [5]) (by kernel_rfl) (by simp) ?_
    refine AllReady.cons (o := ⟨_, _, _, _, _, _⟩) rfl (fun K hK => ?_) AllReady.nil
    go_simp
    try (refine hK _ _ ?_)
    try clear hK
    try clear K
    try simp only [Act.put, List.setIfInBounds_toArray, List.set_cons_zero, List.set_cons_succ]
    refine wpAny_take (i := 6) (oi := ⟨_, _, _, _, _, _⟩) (v := ?_) rfl (by kernel_rfl) (by kernel_rfl) (by kernel_rfl) (fun _ _ _ h => h) (Or.inl ⟨by rfl, ?_⟩) ?_
    rotate_left
    focus (intro w; go_simp; try (with_reducible rfl); done)
    try simp only [Act.put, List.setIfInBounds_toArray, List.set_cons_zero, List.set_cons_succ]
    refine wpAny_take (i := 7) (oi := ⟨_, _, _, _, _, _⟩) (v := ?_) rfl (by kernel_rfl) (by kernel_rfl) (by kernel_rfl) (fun _ _ _ h => h) (Or.inl ⟨by rfl, ?_⟩) ?_
    rotate_left
    focus (intro w; go_simp; try (with_reducible rfl); done)
    try simp only [Act.put, List.setIfInBounds_toArray, List.set_cons_zero, List.set_cons_succ]
    refine wpAny_take (i := 8) (oi := ⟨_, _, _, _, _, _⟩) (v := ?_) rfl (by kernel_rfl) (by kernel_rfl) (by kernel_rfl) (fun _ _ _ h => h) (Or.inl ⟨by rfl, ?_⟩) ?_
    rotate_left
    focus (intro w; go_simp; try (with_reducible rfl); done)
    try simp only [Act.put, List.setIfInBounds_toArray, List.set_cons_zero, List.set_cons_succ]
    refine wpAny_take (i := 9) (oi := ⟨_, _, _, _, _, _⟩) (v := undef) rfl (by kernel_rfl) (by kernel_rfl) (by kernel_rfl) (fun _ _ _ h => h) (Or.inr ⟨by rfl, rfl⟩) ?_
    try simp only [Act.put, List.setIfInBounds_toArray, List.set_cons_zero, List.set_cons_succ]
    refine wpAny_take (i := 10) (oi := ⟨_, _, _, _, _, _⟩) (v := undef) rfl (by kernel_rfl) (by kernel_rfl) (by kernel_rfl) (fun _ _ _ h => h) (Or.inr ⟨by rfl, rfl⟩) ?_
    try simp only [Act.put, List.setIfInBounds_toArray, List.set_cons_zero, List.set_cons_succ]
    refine wpAny_take (i := 11) (oi := ⟨_, _, _, _, _, _⟩) (v := undef) rfl (by kernel_rfl) (by kernel_rfl) (by kernel_rfl) (fun _ _ _ h => h) (Or.inr ⟨by rfl, rfl⟩) ?_
    try simp only [Act.put, List.setIfInBounds_toArray, List.set_cons_zero, List.set_cons_succ]
    refine wpAny_take (i := 12) (oi := ⟨_, _, _, _, _, _⟩) (v := undef) rfl (by kernel_rfl) (by kernel_rfl) (by kernel_rfl) (fun _ _ _ h => h) (Or.inr ⟨by rfl, rfl⟩) ?_
    try simp only [Act.put, List.setIfInBounds_toArray, List.set_cons_zero, List.set_cons_succ]
    refine wpAny_take (i := 13) (oi := ⟨_, _, _, _, _, _⟩) (v := undef) rfl (by kernel_rfl) (by kernel_rfl) (by kernel_rfl) (fun _ _ _ h => h) (Or.inr ⟨by rfl, rfl⟩) ?_
    try simp only [Act.put, List.setIfInBounds_toArray, List.set_cons_zero, List.set_cons_succ]
    refine wpAny_take (i := 14) (oi := ⟨_, _, _, _, _, _⟩) (v := undef) rfl (by kernel_rfl) (by kernel_rfl) (by kernel_rfl) (fun _ _ _ h => h) (Or.inr ⟨by rfl, rfl⟩) ?_
    try simp only [Act.put, List.setIfInBounds_toArray, List.set_cons_zero, List.set_cons_succ]
    refine wpAny_take (i := 15) (oi := ⟨_, _, _, _, _, _⟩) (v := undef) rfl (by kernel_rfl) (by kernel_rfl) (by kernel_rfl) (fun _ _ _ h => h) (Or.inr ⟨by rfl, rfl⟩) ?_
    try simp only [Act.put, List.setIfInBounds_toArray, List.set_cons_zero, List.set_cons_succ]
    refine wpAny_take (i := 16) (oi := ⟨_, _, _, _, _, _⟩) (v := undef) rfl (by kernel_rfl) (by kernel_rfl) (by kernel_rfl) (fun _ _ _ h => h) (Or.inr ⟨by rfl, rfl⟩) ?_
    try simp only [Act.put, List.setIfInBounds_toArray, List.set_cons_zero, List.set_cons_succ]
    refine wpAny_take (i := 17) (oi := ⟨_, _, _, _, _, _⟩) (v := ?_) rfl (by kernel_rfl) (by kernel_rfl) (by kernel_rfl) (fun _ _ _ h => h) (Or.inl ⟨by rfl, ?_⟩) ?_
    rotate_left
    focus (intro w; go_simp; try (with_reducible rfl); done)
    try simp only [Act.put, List.setIfInBounds_toArray, List.set_cons_zero, List.set_cons_succ]
    refine wpAny_take (i := 18) (oi := ⟨_, _, _, _, _, _⟩) (v := ?_) rfl (by kernel_rfl) (by kernel_rfl) (by kernel_rfl) (fun _ _ _ h => h) (Or.inl ⟨by rfl, ?_⟩) ?_
    rotate_left
    focus (intro w; go_simp; try (with_reducible rfl); done)
    try simp only [Act.put, List.setIfInBounds_toArray, List.set_cons_zero, List.set_cons_succ]
    refine wpAny_take (i := 19) (oi := ⟨_, _, _, _, _, _⟩) (v := ?_) rfl (by kernel_rfl) (by kernel_rfl) (by kernel_rfl) (fun _ _ _ h => h) (Or.inl ⟨by rfl, ?_⟩) ?_
    rotate_left
    focus (intro w; go_simp; try (with_reducible rfl); done)
    try simp only [Act.put, List.setIfInBounds_toArray, List.set_cons_zero, List.set_cons_succ]
    refine wpAny_done (by kernel_rfl) ?_ _
    go_wp2
    go_ret
    exact ⟨ret_bool HZ.out.symm, up HB0.out HB6.out⟩
  have hz : 0 < n := by omega
  obtain ⟨b, off, x, y, hA, hbB, _, hg, hc0, hc1⟩ := HR.out.pair hz
  subst hA
  simp only [Nat.zero_mul, Nat.add_zero] at hc0 hc1
  have hn0 : ((n : Int) == 0) = false := by rw [beq_eq_false_iff_ne]; omega
  have hn1 : (0 : Int) < (n : Int) := by omega
  have HZ := Lib.hid (show u = decide (T ≤ x) by
      rw [HY.out, Bool.eq_iff_iff, headOk_iff, decide_eq_true_eq]
      exact ⟨fun h => h _ hg, fun h p hp => by rw [hg] at hp; injection hp with hp; subst hp; exact h⟩)
  clear hg
  have HK := Lib.hid (show ∀ wx, Below (w.alloc (.cells #[.int .i64 N, .int .i64 T, .int .i64 S, .slice (some ⟨b, off, none⟩) n c] 32)).heap.size (w.alloc (.cells #[.int .i64 N, .int .i64 T, .int .i64 S, .slice (some ⟨b, off, none⟩) n c] 32)) wx → wx.cell? ⟨w.heap.size, 1, none⟩ = some (.int .i64 T) ∧ wx.cell? ⟨w.heap.size, 3, none⟩ = some (.slice (some ⟨b, off, none⟩) n c) ∧ wx.cell? ⟨b, off, none⟩ = some (.int .i64 x) from fun wx hb => ⟨(HS.out _ hb).1, (HS.out _ hb).2, (hb.cell (by show b < _; omega)).trans hc0⟩)
  obtain ⟨e1, e3⟩ := HS.out _ (Below.refl _ _)
  go_enter Try.func18, Try.ntmps18
  go_wp2_with (fail)
  generalize w.alloc (.cells #[.int .i64 N, .int .i64 T, .int .i64 S, .slice (some ⟨b, off, none⟩) n c] 32) = w0 at *
  cases h5 : decide (T ≤ x) with
  | false =>
    have HW := Lib.hid (HZ.out.trans h5)
    go_region_held3 (fun wx => wx.cell? ⟨w.heap.size, 1, none⟩ = some (.int .i64 T) ∧ wx.cell? ⟨w.heap.size, 3, none⟩ = some (.slice (some ⟨b, off, none⟩) n c) ∧ wx.cell? ⟨b, off, none⟩ = some (.int .i64 x))
      (first | exact HK.out _ (Below.refl _ _) | exact HK.out _ (up_drew (Below.refl _ _)) | exact HK.out _ HB6.out)
      ((first | (go_at_call 37; (with_reducible refine (HC.out _ (up_drew (Below.refl _ _))).mono ?_); rintro e w6 ⟨rfl, hb6⟩; have HB6 := Lib.hid hb6; clear hb6) | fail "no arm"))
    all_goals
      go_wp2
      go_ret
      exact ⟨ret_bool HW.out.symm, up HB0.out HB6.out⟩
  | true =>
    have HW := Lib.hid (HZ.out.trans h5)
    go_region_held3 (fun wx => wx.cell? ⟨w.heap.size, 1, none⟩ = some (.int .i64 T) ∧ wx.cell? ⟨w.heap.size, 3, none⟩ = some (.slice (some ⟨b, off, none⟩) n c) ∧ wx.cell? ⟨b, off, none⟩ = some (.int .i64 x))
      (first | exact HK.out _ (Below.refl _ _) | exact HK.out _ (up_drew (Below.refl _ _)) | exact HK.out _ HB6.out)
      ((first | (go_at_call 37; (with_reducible refine (HC.out _ (up_drew (Below.refl _ _))).mono ?_); rintro e w6 ⟨rfl, hb6⟩; have HB6 := Lib.hid hb6; clear hb6) | fail "no arm"))
    all_goals
      go_wp2
      go_ret
      exact ⟨ret_bool HW.out.symm, up HB0.out HB6.out⟩
end Go.Proofs.Ytfpiejcfhdnjiaa
