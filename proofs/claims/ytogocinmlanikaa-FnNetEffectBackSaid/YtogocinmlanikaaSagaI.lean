/- The program's steps: validSteps, NetEffect, CanUndo. -/
import Derived.Test.YtogocinmlanikaaSagaMath
import Derived.Test.YtogocinmlanikaaExInt
import Derived.BigQuiet
set_option linter.unusedSimpArgs false
set_option linter.unusedVariables false
namespace Go.Proofs.Ytogocinmlanikaa
open Go.RowKit

theorem validValueJ_any (n : Int) (w : World) :
    Calls Try.prog 38 #[.int .i64 n] w fun e w' => e = .returned (.bool (inR n (-9999) 9999)) ∧ w = w' := by
  unfold inR
  by_cases h : -9999 ≤ n
  · have h' : decide (-9999 ≤ n) = true := by simpa using h
    go_enter Try.func38, Try.ntmps38
    go_wp2
    go_ret
    simp [h]
  · have h' : decide (-9999 ≤ n) = false := by simpa using h
    go_enter Try.func38, Try.ntmps38
    go_wp2
    go_ret
    simp
set_option maxRecDepth 100000 in
set_option maxHeartbeats 1600000 in
theorem validStepsI_any (lo hi n c : Nat) (A : Option Addr) (ps : List St) (w : World) (hr : Rd w lo hi 2 A n (pvs ps)) (hB : hi ≤ w.heap.size) (hn : n ≤ 1048576) :
    Calls Try.prog 33 #[.slice A n c] w fun e w' => e = .returned (.bool (vSteps ps)) ∧ Below w.heap.size w w' := by
  have HL := Lib.hid hr.len2
  go_enter Try.func33, Try.ntmps33
  go_wp2
  go_loopw [7] (fun iv wr => ∃ (k : Nat), k ≤ n ∧ iv = .int .i64 k ∧ Hid ((ps.take k).all okSt = true) ∧ Hid (Below w.heap.size w wr))
     (fun iv _ => n - (intOf iv).toNat)
  case atStart => exact ⟨0, by omega, rfl, rfl, Below.refl _ _⟩
  case round =>
    obtain ⟨k, hk, rfl, hS, HB⟩ := hrel
    by_cases hlt : k < n
    · obtain ⟨b, off, x, y, hA, hbB, _, hg, hc0, hc1⟩ := (hr.keep HB.out hB).pair hlt
      subst hA
      have hkn : (k : Int) < (n : Int) := by omega
      have hk0 : (0 : Int) ≤ (k : Int) := by omega
      have HG := Lib.hid hg
      clear hg
      have HB1 := Lib.hid (up_alloc HB.out (.cells #[.int .i64 x, .int .i64 y] 28))
      cases h0 : inR x (-9999) 9999 with
      | false =>
        have HX := Lib.hid (show vSteps ps = false from vSteps_bad HG.out (by simp [okSt, h0]))
        go_wp2_with (go_at_call 38; refine (validValueJ_any _ _).mono ?_; rintro e w' ⟨rfl, rfl⟩)
        go_ret
        exact ⟨ret_bool HX.out.symm, HB1.out⟩
      | true =>
      cases h1 : inR y (-9999) 9999 with
      | false =>
        have HX := Lib.hid (show vSteps ps = false from vSteps_bad HG.out (by simp [okSt, h0, h1]))
        go_wp2_with (go_at_call 38; refine (validValueJ_any _ _).mono ?_; rintro e w' ⟨rfl, rfl⟩)
        go_ret
        exact ⟨ret_bool HX.out.symm, HB1.out⟩
      | true =>
        have HS := Lib.hid (all_take_step HG.out hS.out (show okSt (x, y) = true by simp [okSt, h0, h1]))
        go_wp2_with (go_at_call 38; refine (validValueJ_any _ _).mono ?_; rintro e w' ⟨rfl, rfl⟩)
        go_roundw
        case rel => exact ⟨k + 1, by omega, by go_num, HS, HB1.out⟩
        case measure => simp [intOf]; omega
    · obtain rfl : n = k := by omega
      have HX := Lib.hid (all_of_take hS.out (by rw [HL.out]; omega))
      by_cases hm : n ≤ 10
      · have HX2 := Lib.hid (show vSteps ps = true by rw [vSteps, HX.out, HL.out, decide_eq_true hm]; rfl)
        go_wp2
        go_ret
        exact ⟨ret_bool (by rw [HX2.out]; exact decide_eq_true (by omega)), HB.out⟩
      · have HX2 := Lib.hid (show vSteps ps = false by rw [vSteps, HL.out, decide_eq_false hm]; simp)
        go_wp2
        go_ret
        exact ⟨ret_bool (by rw [HX2.out]; exact decide_eq_false (by omega)), HB.out⟩
set_option maxRecDepth 100000 in
set_option maxHeartbeats 1600000 in
theorem NetEffectI_same (lo hi n c : Nat) (A : Option Addr) (xs : List Int) (w : World) (hr : Rd w lo hi 1 A n (ivs xs)) (hB : hi ≤ w.heap.size) (hn : n ≤ 1048576) :
    Calls Try.prog 21 #[.slice A n c] w fun e w' => e = .returned (.int .i64 (netOf xs)) ∧ w = w' := by
  have HL := Lib.hid hr.len1
  by_cases hbig : (20 : Int) < (n : Int)
  · have HX := Lib.hid (show netOf xs = 0 from netOf_no (by rw [netOk, HL.out, decide_eq_false (by omega)]; simp))
    go_enter Try.func21, Try.ntmps21
    go_wp2
    go_ret
    exact ⟨by rw [HX.out]; rfl, rfl⟩
  go_enter Try.func21, Try.ntmps21
  go_wp2
  go_loop [3, 11] (fun sv iv => ∃ (k : Nat) (S : Int), k ≤ n ∧ iv = .int .i64 k ∧ sv = .int .i64 S ∧ -199980 ≤ S ∧ S ≤ 199980 ∧ Hid (allIn (-9999) 9999 (xs.take k) = true) ∧ Hid (S = sumOf (xs.take k)))
     (fun _ iv => n - (intOf iv).toNat)
  case atStart => exact ⟨0, 0, by omega, rfl, rfl, by omega, by omega, rfl, rfl⟩
  case round =>
    obtain ⟨k, S, hk, rfl, rfl, hs0, hs1, hV, hS⟩ := hrel
    by_cases hlt : k < n
    · obtain ⟨b, off, x, rfl, _, _, hg, hc0⟩ := hr.one hlt
      have hkn : (k : Int) < (n : Int) := by omega
      have hk0 : (0 : Int) ≤ (k : Int) := by omega
      have HG := Lib.hid hg
      clear hg
      cases h0 : inR x (-9999) 9999 with
      | false =>
        have HX := Lib.hid (show netOf xs = 0 from netOf_no (by rw [netOk, allIn, all_bad HG.out h0]; rfl))
        go_wp2_with (go_at_call 38; refine (validValueJ_any _ _).mono ?_; rintro e w' ⟨rfl, rfl⟩)
        go_ret
        exact ⟨by rw [HX.out]; rfl, rfl⟩
      | true =>
        have HV := Lib.hid (show allIn (-9999) 9999 (xs.take (k + 1)) = true from all_take_step HG.out hV.out h0)
        have HT := Lib.hid (sumOf_step HG.out)
        have hbd : -199980 ≤ S + x ∧ S + x ≤ 199980 := by
          have h1 := sumOf_bound HV.out
          rw [HT.out, ← hS.out, List.length_take, HL.out] at h1
          omega
        obtain ⟨hb0, hb1⟩ := hbd
        have hw : IntKind.i64.wrap (S + x) = S + x := IntWalk.i64_in _ (by omega)
        have HS := Lib.hid (show S + x = sumOf (xs.take (k + 1)) by rw [HT.out, hS.out])
        go_wp2_with (go_at_call 38; refine (validValueJ_any _ _).mono ?_; rintro e w' ⟨rfl, rfl⟩)
        go_round
        case rel => exact ⟨k + 1, S + x, by omega, by go_num, rfl, hb0, hb1, HV, HS⟩
        case measure => simp [intOf]; omega
    · obtain rfl : n = k := by omega
      have HX := Lib.hid (show netOf xs = S by
        have h1 : xs.take n = xs := List.take_of_length_le (by rw [HL.out]; omega)
        rw [netOf_yes, hS.out, h1]
        rw [netOk, HL.out, decide_eq_true (by omega), Bool.and_true, ← h1]; exact hV.out)
      go_wp2
      go_ret
      exact ⟨by rw [HX.out]; rfl, rfl⟩
theorem NetEffectI_any (lo hi n c : Nat) (A : Option Addr) (xs : List Int) (w : World) (hr : Rd w lo hi 1 A n (ivs xs)) (hB : hi ≤ w.heap.size) (hn : n ≤ 1048576) :
    Calls Try.prog 21 #[.slice A n c] w fun e w' => e = .returned (.int .i64 (netOf xs)) ∧ Below w.heap.size w w' :=
  (NetEffectI_same lo hi n c A xs w hr hB hn).mono fun e w' ⟨h1, h2⟩ => ⟨h1, by subst h2; exact Below.refl _ _⟩
/-- What the program asks of a step, with the wrapping of machine words. -/
def oppW (p : St) : Bool := p.2 == wrap64 (-p.1)
theorem undoOf_W (ps : List St) : undoOf ps = (ps.all oppW && vSteps ps) := by
  cases hv : vSteps ps with
  | false => simp [undoOf, hv]
  | true =>
    rw [undoOf, hv, Bool.and_true, Bool.true_and, Bool.eq_iff_iff, List.all_eq_true, List.all_eq_true]
    have e : ∀ p ∈ ps, oppW p = opp p := fun p hp => by
      have := okSt_bounds (vSteps_ok hv hp)
      rw [oppW, opp, show wrap64 (-p.1) = -p.1 by unfold wrap64; omega]
    exact ⟨fun h p hp => by rw [e p hp]; exact h p hp, fun h p hp => by rw [← e p hp]; exact h p hp⟩
set_option maxRecDepth 100000 in
set_option maxHeartbeats 1600000 in
theorem CanUndoI_any (lo hi n c : Nat) (A : Option Addr) (ps : List St) (w : World) (hr : Rd w lo hi 2 A n (pvs ps)) (hB : hi ≤ w.heap.size) (hn : n ≤ 1048576) :
    Calls Try.prog 14 #[.slice A n c] w fun e w' => e = .returned (.bool (undoOf ps)) ∧ Below w.heap.size w w' := by
  have HL := Lib.hid hr.len2
  go_enter Try.func14, Try.ntmps14
  go_wp2
  go_loopw [7] (fun iv wr => ∃ (k : Nat), k ≤ n ∧ iv = .int .i64 k ∧ Hid ((ps.take k).all oppW = true) ∧ Hid (Below w.heap.size w wr))
     (fun iv _ => n - (intOf iv).toNat)
  case atStart => exact ⟨0, by omega, rfl, rfl, Below.refl _ _⟩
  case round =>
    obtain ⟨k, hk, rfl, hS, HB⟩ := hrel
    by_cases hlt : k < n
    · obtain ⟨b, off, x, y, hA, hbB, _, hg, hc0, hc1⟩ := (hr.keep HB.out hB).pair hlt
      subst hA
      have hkn : (k : Int) < (n : Int) := by omega
      have hk0 : (0 : Int) ≤ (k : Int) := by omega
      have HG := Lib.hid hg
      clear hg
      have HB1 := Lib.hid (up_alloc HB.out (.cells #[.int .i64 x, .int .i64 y] 28))
      cases h0 : (y == wrap64 (-x)) with
      | false =>
        have HX := Lib.hid (show undoOf ps = false by rw [undoOf_W, all_bad HG.out (by simp [oppW, h0])]; rfl)
        have h0' : (y != wrap64 (-x)) = true := by simp [bne, h0]
        clear h0
        go_wp2
        go_ret
        exact ⟨ret_bool HX.out.symm, HB1.out⟩
      | true =>
        have HS := Lib.hid (all_take_step HG.out hS.out (show oppW (x, y) = true by simp [oppW, h0]))
        have h0' : (y != wrap64 (-x)) = false := by simp [bne, h0]
        clear h0
        go_wp2
        go_roundw
        case rel => exact ⟨k + 1, by omega, by go_num, HS, HB1.out⟩
        case measure => simp [intOf]; omega
    · obtain rfl : n = k := by omega
      have HX := Lib.hid (show undoOf ps = vSteps ps by rw [undoOf_W, all_of_take hS.out (by rw [HL.out]; omega)]; rfl)
      go_wp2_with (fail)
      (with_reducible refine (validStepsI_any lo hi n c A ps _ (hr.keep HB.out hB) (Nat.le_trans hB HB.out.size) hn).mono ?_)
      rintro e w1 ⟨rfl, hb1⟩
      have HB1 := Lib.hid (up HB.out hb1)
      clear hb1
      go_wp2
      go_ret
      exact ⟨ret_bool HX.out.symm, HB1.out⟩
end Go.Proofs.Ytogocinmlanikaa
