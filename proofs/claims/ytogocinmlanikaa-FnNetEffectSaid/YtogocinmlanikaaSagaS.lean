/- The reference's steps: validSteps, NetEffect, CanUndo, RunSaga. -/
import Derived.Test.YtogocinmlanikaaSagaMath
import Derived.Test.YtogocinmlanikaaSmallS
import Derived.Test.YtogocinmlanikaaExInt
import Derived.BigQuiet
set_option linter.unusedSimpArgs false
set_option linter.unusedVariables false
namespace Go.Proofs.Ytogocinmlanikaa
open Go.RowKit

set_option maxRecDepth 100000 in
set_option maxHeartbeats 1600000 in
theorem validStepsS_any (lo hi n c : Nat) (A : Option Addr) (ps : List St) (w : World) (hr : Rd w lo hi 2 A n (pvs ps)) (hn : n ≤ 1048576) :
    Calls Try.prog 34 #[.slice A n c] w fun e w' => e = .returned (.bool (vSteps ps)) ∧ w = w' := by
  have HL := Lib.hid hr.len2
  go_enter Try.func34, Try.ntmps34
  go_wp2
  go_loop [3] (fun iv => ∃ (k : Nat), k ≤ n ∧ iv = .int .i64 k ∧ Hid ((ps.take k).all okSt = true))
     (fun iv => n - (intOf iv).toNat)
  case atStart => exact ⟨0, by omega, rfl, rfl⟩
  case round =>
    obtain ⟨k, hk, rfl, hS⟩ := hrel
    by_cases hlt : k < n
    · obtain ⟨b, off, x, y, hA, hbB, _, hg, hc0, hc1⟩ := hr.pair hlt
      subst hA
      have hkn : (k : Int) < (n : Int) := by omega
      have hk0 : (0 : Int) ≤ (k : Int) := by omega
      have HG := Lib.hid hg
      clear hg
      cases h0 : inR x (-9999) 9999 with
      | false =>
        have HX := Lib.hid (show vSteps ps = false from vSteps_bad HG.out (by simp [okSt, h0]))
        go_wp2_with (go_at_call 39; refine (inRange_any _ _ _ _).mono ?_; rintro e w' ⟨rfl, rfl⟩)
        go_ret
        exact ⟨ret_bool HX.out.symm, rfl⟩
      | true =>
      cases h1 : inR y (-9999) 9999 with
      | false =>
        have HX := Lib.hid (show vSteps ps = false from vSteps_bad HG.out (by simp [okSt, h0, h1]))
        go_wp2_with (go_at_call 39; refine (inRange_any _ _ _ _).mono ?_; rintro e w' ⟨rfl, rfl⟩)
        go_ret
        exact ⟨ret_bool HX.out.symm, rfl⟩
      | true =>
        have HS := Lib.hid (all_take_step HG.out hS.out (show okSt (x, y) = true by simp [okSt, h0, h1]))
        go_wp2_with (go_at_call 39; refine (inRange_any _ _ _ _).mono ?_; rintro e w' ⟨rfl, rfl⟩)
        go_round
        case rel => exact ⟨k + 1, by omega, by go_num, HS⟩
        case measure => simp [intOf]; omega
    · obtain rfl : n = k := by omega
      have HX := Lib.hid (all_of_take hS.out (by rw [HL.out]; omega))
      by_cases hm : n ≤ 10
      · have HX2 := Lib.hid (show vSteps ps = true by rw [vSteps, HX.out, HL.out, decide_eq_true hm]; rfl)
        go_wp2
        go_ret
        exact ⟨ret_bool (by rw [HX2.out]; exact decide_eq_true (by omega)), rfl⟩
      · have HX2 := Lib.hid (show vSteps ps = false by rw [vSteps, HL.out, decide_eq_false hm]; simp)
        go_wp2
        go_ret
        exact ⟨ret_bool (by rw [HX2.out]; exact decide_eq_false (by omega)), rfl⟩
set_option maxRecDepth 100000 in
set_option maxHeartbeats 1600000 in
theorem NetEffectS_same (lo hi n c : Nat) (A : Option Addr) (xs : List Int) (w : World) (hr : Rd w lo hi 1 A n (ivs xs)) (hn : n ≤ 1048576) :
    Calls Try.prog 19 #[.slice A n c] w fun e w' => e = .returned (.int .i64 (netOf xs)) ∧ w = w' := by
  have HL := Lib.hid hr.len1
  by_cases hbig : (20 : Int) < (n : Int)
  · have HX := Lib.hid (show netOf xs = 0 from netOf_no (by rw [netOk, HL.out, decide_eq_false (by omega)]; simp))
    go_enter Try.func19, Try.ntmps19
    go_wp2
    go_ret
    exact ⟨by rw [HX.out]; rfl, rfl⟩
  have HC := Lib.hid (show Calls Try.prog 37 #[.slice A n c, .int .i64 (-9999), .int .i64 9999] w fun e w' => e = .returned (.bool (allIn (-9999) 9999 xs)) ∧ w = w' from allIn_any lo hi n c A xs (-9999) 9999 w hr (by omega))
  cases hv : allIn (-9999) 9999 xs with
  | false =>
    have HX := Lib.hid (show netOf xs = 0 from netOf_no (by rw [netOk, hv]; rfl))
    go_enter Try.func19, Try.ntmps19
    go_wp2_with (go_at_call 37; (with_reducible refine HC.out.mono ?_); rintro e w' ⟨rfl, rfl⟩)
    go_ret
    exact ⟨by rw [HX.out]; rfl, rfl⟩
  | true =>
  have HV := Lib.hid (show netOk xs = true by rw [netOk, hv, HL.out, decide_eq_true (by omega)]; rfl)
  go_enter Try.func19, Try.ntmps19
  go_wp2_with (go_at_call 37; (with_reducible refine HC.out.mono ?_); rintro e w' ⟨rfl, rfl⟩)
  clear hv
  go_loop [3, 4] (fun sv iv => ∃ (k : Nat) (S : Int), k ≤ n ∧ iv = .int .i64 k ∧ sv = .int .i64 S ∧ -199980 ≤ S ∧ S ≤ 199980 ∧ Hid (S = sumOf (xs.take k)))
     (fun _ iv => n - (intOf iv).toNat)
  case atStart => exact ⟨0, 0, by omega, rfl, rfl, by omega, by omega, rfl⟩
  case round =>
    obtain ⟨k, S, hk, rfl, rfl, hs0, hs1, hS⟩ := hrel
    by_cases hlt : k < n
    · obtain ⟨b, off, x, rfl, _, _, hg, hc0⟩ := hr.one hlt
      have hkn : (k : Int) < (n : Int) := by omega
      have hk0 : (0 : Int) ≤ (k : Int) := by omega
      have HT := Lib.hid (sumOf_step hg)
      have hbd : -199980 ≤ S + x ∧ S + x ≤ 199980 := by
        have h1 := net_take HV.out (k := k + 1) (by rw [HL.out]; omega)
        rw [HT.out, ← hS.out] at h1
        exact h1
      obtain ⟨hb0, hb1⟩ := hbd
      have hw : IntKind.i64.wrap (S + x) = S + x := IntWalk.i64_in _ (by omega)
      have HS := Lib.hid (show S + x = sumOf (xs.take (k + 1)) by rw [HT.out, hS.out])
      clear hg
      go_wp2
      go_round
      case rel => exact ⟨k + 1, S + x, by omega, by go_num, rfl, hb0, hb1, HS⟩
      case measure => simp [intOf]; omega
    · obtain rfl : n = k := by omega
      have HX := Lib.hid (show netOf xs = S by
        have h1 : xs.take n = xs := List.take_of_length_le (by rw [HL.out]; omega)
        rw [netOf_yes HV.out, hS.out, h1])
      go_wp2
      go_ret
      exact ⟨by rw [HX.out]; rfl, rfl⟩
theorem NetEffectS_any (lo hi n c : Nat) (A : Option Addr) (xs : List Int) (w : World) (hr : Rd w lo hi 1 A n (ivs xs)) (hB : hi ≤ w.heap.size) (hn : n ≤ 1048576) :
    Calls Try.prog 19 #[.slice A n c] w fun e w' => e = .returned (.int .i64 (netOf xs)) ∧ Below w.heap.size w w' :=
  (NetEffectS_same lo hi n c A xs w hr hn).mono fun e w' ⟨h1, h2⟩ => ⟨h1, by subst h2; exact Below.refl _ _⟩
set_option maxRecDepth 100000 in
set_option maxHeartbeats 1600000 in
theorem CanUndoS_any (lo hi n c : Nat) (A : Option Addr) (ps : List St) (w : World) (hr : Rd w lo hi 2 A n (pvs ps)) (hB : hi ≤ w.heap.size) (hn : n ≤ 1048576) :
    Calls Try.prog 15 #[.slice A n c] w fun e w' => e = .returned (.bool (undoOf ps)) ∧ Below w.heap.size w w' := by
  have HL := Lib.hid hr.len2
  have HR := Lib.hid hr
  clear hr
  go_enter Try.func15, Try.ntmps15
  go_wp2_with (fail)
  (with_reducible refine (validStepsS_any lo hi n c A ps _ HR.out hn).mono ?_)
  rintro e w1 ⟨rfl, rfl⟩
  cases hv : vSteps ps with
  | false =>
    have HX := Lib.hid (show undoOf ps = false by rw [undoOf, hv]; rfl)
    clear hv
    go_wp2
    go_ret
    exact ⟨ret_bool HX.out.symm, Below.refl _ _⟩
  | true =>
  have HV := Lib.hid hv
  clear hv
  go_wp2
  go_loopw [3] (fun iv wr => ∃ (k : Nat), k ≤ n ∧ iv = .int .i64 k ∧ Hid ((ps.take k).all opp = true) ∧ Hid (Below w.heap.size w wr))
     (fun iv _ => n - (intOf iv).toNat)
  case atStart => exact ⟨0, by omega, rfl, rfl, Below.refl _ _⟩
  case round =>
    obtain ⟨k, hk, rfl, hS, HB⟩ := hrel
    by_cases hlt : k < n
    · obtain ⟨b, off, x, y, hA, hbB, _, hg, hc0, hc1⟩ := (HR.out.keep HB.out hB).pair hlt
      subst hA
      have hkn : (k : Int) < (n : Int) := by omega
      have hk0 : (0 : Int) ≤ (k : Int) := by omega
      have HG := Lib.hid hg
      have hbx := vSteps_at HV.out hg
      obtain ⟨⟨hx0, hx1⟩, hy0, hy1⟩ := hbx
      have hw : IntKind.i64.wrap (-x) = -x := IntWalk.i64_in _ (by omega)
      clear hg
      cases h0 : (y == -x) with
      | false =>
        have HX := Lib.hid (show undoOf ps = false by rw [undoOf, all_bad HG.out (f := opp) (by simp [opp, h0])]; simp)
        have h0' : (y != -x) = true := by simp [bne, h0]
        clear h0
        go_wp2
        go_quiet (fail)
        go_wp2
        go_ret
        exact ⟨ret_bool HX.out.symm, up_drewN HB.out _⟩
      | true =>
        have HS := Lib.hid (all_take_step HG.out hS.out (show opp (x, y) = true by simp [opp, h0]))
        have h0' : (y != -x) = false := by simp [bne, h0]
        clear h0
        go_wp2
        go_quiet (fail)
        go_wp2
        go_roundw
        case rel => exact ⟨k + 1, by omega, by go_num, HS, up_drewN HB.out _⟩
        case measure => simp [intOf]; omega
    · obtain rfl : n = k := by omega
      have HX := Lib.hid (show undoOf ps = true by rw [undoOf, HV.out, all_of_take hS.out (by rw [HL.out]; omega)]; rfl)
      go_wp2
      go_ret
      exact ⟨ret_bool HX.out.symm, HB.out⟩
theorem infoIntH : (Try.prog.info? 3).map (fun i => (i.zero, i.size, i.bytes)) = some (some (.int .i64 0), 1, 8) := by kernel_rfl
set_option maxRecDepth 100000 in
set_option maxHeartbeats 3200000 in
theorem RunSagaS_any (lo hi n c : Nat) (A : Option Addr) (ps : List St) (z : Int) (w : World) (hr : Rd w lo hi 2 A n (pvs ps)) (hB : hi ≤ w.heap.size) (hn : n ≤ 1048576) (hz : in64 z) :
    Calls Try.prog 23 #[.slice A n c, .int .i64 z] w (FreshS (sagaOf ps z) (sagaOk ps z) w) := by
  obtain ⟨i0, hi0, hz0, hz1, hz2⟩ := info_parts infoIntH
  have HL := Lib.hid hr.len2
  have HR := Lib.hid hr
  have hb0 := up_alloc (Below.refl _ w) (.cells #[] 3)
  have HB0 := Lib.hid hb0
  have HO0 := Lib.hid (show (w.alloc (.cells #[] 3)).ownsRow w.heap.size 3 1 (.slice (some ⟨w.heap.size, 0, none⟩) 0 0) 0 [] from World.ownsRow_made w #[] 0 (Nat.le_refl _) (by unfold maxLen; omega) (by simp))
  clear hr hb0
  go_enter Try.func23, Try.ntmps23
  go_wp2_with (fail)
  (with_reducible refine (validStepsS_any lo hi n c A ps _ (HR.out.keep HB0.out hB) hn).mono ?_)
  rintro e w1 ⟨rfl, rfl⟩
  cases hv : vSteps ps with
  | false =>
    have HX := Lib.hid (show FreshS (sagaOf ps z) (sagaOk ps z) w (.returned (.tuple #[.slice none 0 0, .bool false])) (w.alloc (.cells #[] 3)) by
      rw [(sagaOf_bad hv).1, (sagaOf_bad hv).2]; exact FreshS.nope HB0.out)
    clear hv
    go_wp2
    exact bodyPost_ret (v := .tuple #[.slice none 0 0, .bool false]) (by simp [results, Try.results23, go_sem]) rfl HX.out
  | true =>
  have HV := Lib.hid hv
  have h10 := vSteps_len hv
  rw [HL.out] at h10
  clear hv
  have hwn : IntKind.i64.wrap ((n : Int) - 1) = (n : Int) - 1 := IntWalk.i64_in _ (by omega)
  cases hf : failsAt ps z with
  | false =>
    have hf' : inR z 0 ((n : Int) - 1) = false := by rw [← HL.out]; exact hf
    have HSX := Lib.hid (sagaOf_good HV.out hf)
    clear hf
    go_wp2_with (fail)
    (with_reducible refine (inRange_any _ _ _ _).mono ?_)
    rintro e w1 ⟨rfl, rfl⟩
    rw [hf']
    clear hf'
    go_wp2
    go_loopw [6, 9] (fun v iv wr => ∃ (k : Nat), k ≤ n ∧ iv = .int .i64 k ∧ Hid (wr.ownsRow w.heap.size 3 1 v k (ivs (dos (ps.take k)))) ∧ Hid (Below w.heap.size w wr))
       (fun _ iv _ => n - (intOf iv).toNat)
    case atStart => exact ⟨0, by omega, rfl, HO0.out, HB0.out⟩
    case round =>
      clear HO0 HB0
      obtain ⟨k, hk, rfl, HO, HB⟩ := hrel
      by_cases hlt : k < n
      · obtain ⟨b, off, x, y, hA, hbB, _, hg, hc0, hc1⟩ := (HR.out.keep HB.out hB).pair hlt
        subst hA
        have hkn : (k : Int) < (n : Int) := by omega
        have hk0 : (0 : Int) ≤ (k : Int) := by omega
        have HG := Lib.hid hg
        clear hg
        go_wp2_with (at_builtin; refine wpList_append_own _ rfl _ _ 34 rfl w.heap.size 3 i0 _ 1 8 Try.underlying34 hi0 hz0 hz1 hz2 rfl (by decide) _ _ _ rfl (HO.out.alloc _) _ 1 1 [.int .i64 x] rfl rfl (World.news_of_block (heap_alloc_new _ _)) ?d2 ?d3 ?d4 ?d5 ?_)
        case d2 => first | (intro u hu; simp at hu; subst hu; rfl) | rfl
        case d3 => unfold maxLen; omega
        case d4 => omega
        case d5 => have := HB.out.size; simp; omega
        intro v2 w2 hown2 hg2 _
        have HB2 := Lib.hid (up_grown (up_alloc HB.out _) (HO.out.alloc _) hg2 (Nat.le_refl _))
        have HO2 := Lib.hid (show w2.ownsRow w.heap.size 3 1 v2 (k + 1) (ivs (dos (ps.take (k + 1)))) by rw [dos_take_step HG.out, ivs_append]; exact hown2)
        clear hown2 hg2
        go_wp2
        go_roundw
        case rel => exact ⟨k + 1, by omega, by go_num, HO2, HB2⟩
        case measure => simp [intOf]; omega
      · obtain rfl : n = k := by omega
        have e0 : ps.take n = ps := List.take_of_length_le (by rw [HL.out]; omega)
        obtain ⟨A3, c3, rfl, hc3, _, _⟩ := own_form HO.out
        have HX := Lib.hid (show FreshS (sagaOf ps z) (sagaOk ps z) w (.returned (.tuple #[.slice A3 n c3, .bool true])) wr by
          rw [HSX.out.1, HSX.out.2]
          refine FreshS.of_own (ty := 3) ?_ HB.out
          rw [dos_len, HL.out]
          have := HO.out; rwa [e0] at this)
        go_wp2
        go_loopw [6, 10] (fun v iv wy => v = .slice A3 n c3 ∧ iv = .int .i64 ((n : Int) - 1) ∧ wy = wr) (fun _ _ _ => 0)
        case atStart => exact ⟨rfl, rfl, rfl⟩
        case round =>
          obtain ⟨rfl, rfl, rfl⟩ := hrel
          go_wp2
          exact bodyPost_ret (v := .tuple #[.slice A3 n c3, .bool true]) (by simp [results, Try.results23, go_sem]) rfl HX.out
  | true =>
    have hf' : inR z 0 ((n : Int) - 1) = true := by rw [← HL.out]; exact hf
    have HSX := Lib.hid (sagaOf_fail HV.out hf)
    obtain ⟨hz0', hz1'⟩ := failsAt_iff.1 hf
    rw [HL.out] at hz1'
    obtain ⟨m, rfl⟩ := Int.eq_ofNat_of_zero_le hz0'
    have hmn : m < n := by omega
    have HPL := Lib.hid (show (ps.take m).length = m by rw [List.length_take, HL.out]; omega)
    clear hf hz0' hz1'
    go_wp2_with (fail)
    (with_reducible refine (inRange_any _ _ _ _).mono ?_)
    rintro e w1 ⟨rfl, rfl⟩
    rw [hf']
    clear hf'
    have hwm : IntKind.i64.wrap ((m : Int) - 1) = (m : Int) - 1 := IntWalk.i64_in _ (by omega)
    go_wp2
    go_loopw [6, 9] (fun v iv wr => ∃ (k : Nat), k ≤ m ∧ iv = .int .i64 k ∧ Hid (wr.ownsRow w.heap.size 3 1 v k (ivs (dos (ps.take k)))) ∧ Hid (Below w.heap.size w wr))
       (fun _ iv _ => m - (intOf iv).toNat)
    case atStart => exact ⟨0, by omega, rfl, HO0.out, HB0.out⟩
    case round =>
      clear HO0 HB0
      obtain ⟨k, hk, rfl, HO, HB⟩ := hrel
      by_cases hlt : k < m
      · obtain ⟨b, off, x, y, hA, hbB, _, hg, hc0, hc1⟩ := (HR.out.keep HB.out hB).pair (k := k) (by omega)
        subst hA
        have hkn : (k : Int) < (n : Int) := by omega
        have hk0 : (0 : Int) ≤ (k : Int) := by omega
        have HG := Lib.hid hg
        clear hg
        go_wp2_with (at_builtin; refine wpList_append_own _ rfl _ _ 34 rfl w.heap.size 3 i0 _ 1 8 Try.underlying34 hi0 hz0 hz1 hz2 rfl (by decide) _ _ _ rfl (HO.out.alloc _) _ 1 1 [.int .i64 x] rfl rfl (World.news_of_block (heap_alloc_new _ _)) ?d2 ?d3 ?d4 ?d5 ?_)
        case d2 => first | (intro u hu; simp at hu; subst hu; rfl) | rfl
        case d3 => unfold maxLen; omega
        case d4 => omega
        case d5 => have := HB.out.size; simp; omega
        intro v2 w2 hown2 hg2 _
        have HB2 := Lib.hid (up_grown (up_alloc HB.out _) (HO.out.alloc _) hg2 (Nat.le_refl _))
        have HO2 := Lib.hid (show w2.ownsRow w.heap.size 3 1 v2 (k + 1) (ivs (dos (ps.take (k + 1)))) by rw [dos_take_step HG.out, ivs_append]; exact hown2)
        clear hown2 hg2
        go_wp2
        go_roundw
        case rel => exact ⟨k + 1, by omega, by go_num, HO2, HB2⟩
        case measure => simp [intOf]; omega
      · obtain rfl : m = k := by omega
        have HO1 := Lib.hid (show wr.ownsRow w.heap.size 3 1 _ (m + (m - m)) (ivs (backTo (ps.take m) m)) by
          have e : backTo (ps.take m) m = dos (ps.take m) := by have := backTo_all (ps.take m); rwa [HPL.out] at this
          rw [e, show m + (m - m) = m by omega]; exact HO.out)
        obtain ⟨wo, hwo⟩ : ∃ wo : World, wo = wr := ⟨_, rfl⟩
        subst hwo
        have HBO := HB
        clear HO HB
        go_wp2
        go_loopw [6, 10] (fun v iv wr => ∃ (j : Nat), j ≤ m ∧ iv = .int .i64 ((j : Int) - 1) ∧ Hid (wr.ownsRow w.heap.size 3 1 v (m + (m - j)) (ivs (backTo (ps.take m) j))) ∧ Hid (Below w.heap.size w wr))
           (fun _ iv _ => (intOf iv + 1).toNat)
        case atStart => exact ⟨m, by omega, rfl, HO1.out, HBO.out⟩
        case round =>
          clear HO1 HBO
          obtain ⟨j, hj, rfl, HO, HB⟩ := hrel
          rcases Nat.eq_zero_or_pos j with h0 | h0
          · subst h0
            obtain ⟨A3, c3, rfl, hc3, _, _⟩ := own_form HO.out
            have HX := Lib.hid (show FreshS (sagaOf ps (m : Int)) (sagaOk ps (m : Int)) w (.returned (.tuple #[.slice A3 (m + (m - 0)) c3, .bool false])) wr by
              rw [HSX.out.1, HSX.out.2]
              refine FreshS.of_own (ty := 3) ?_ HB.out
              have := HO.out
              rw [backTo_zero] at this
              have e : (backed (ps.take (m : Int).toNat)).length = m + (m - 0) := by rw [Int.toNat_natCast, backed_len, HPL.out]; omega
              rw [e, Int.toNat_natCast]; exact this)
            go_wp2
            exact bodyPost_ret (v := .tuple #[.slice A3 (m + (m - 0)) c3, .bool false]) (by simp [results, Try.results23, go_sem]) rfl HX.out
          · obtain ⟨i, rfl⟩ : ∃ i, j = i + 1 := ⟨j - 1, by omega⟩
            obtain ⟨b, off, x, y, hA, hbB, _, hg, hc0, hc1⟩ := (HR.out.keep HB.out hB).pair (k := i) (by omega)
            have hAe := hA
            have hi1 : ((i + 1 : Nat) : Int) - 1 = (i : Int) := by omega
            have hin : (i : Int) < (n : Int) := by omega
            have hii : (0 : Int) ≤ (i : Int) := by omega
            have hwi : IntKind.i64.wrap ((i : Int) - 1) = (i : Int) - 1 := IntWalk.i64_in _ (by omega)
            have HST := Lib.hid (backTo_step (show (ps.take m)[i]? = some (x, y) by rw [get_take (by omega)]; exact hg))
            clear hg
            rw [hi1]
            subst hA
            go_wp2_with (at_builtin; refine wpList_append_own _ rfl _ _ 34 rfl w.heap.size 3 i0 _ 1 8 Try.underlying34 hi0 hz0 hz1 hz2 rfl (by decide) _ _ _ rfl (HO.out.alloc _) _ 1 1 [.int .i64 y] rfl rfl (World.news_of_block (heap_alloc_new _ _)) ?d2 ?d3 ?d4 ?d5 ?_)
            case d2 => first | (intro u hu; simp at hu; subst hu; rfl) | rfl
            case d3 => unfold maxLen; omega
            case d4 => omega
            case d5 => have := HB.out.size; simp; omega
            intro v2 w2 hown2 hg2 _
            have HB2 := Lib.hid (up_grown (up_alloc HB.out _) (HO.out.alloc _) hg2 (Nat.le_refl _))
            have HO2 := Lib.hid (show w2.ownsRow w.heap.size 3 1 v2 (m + (m - i)) (ivs (backTo (ps.take m) i)) by
              rw [HST.out, ivs_append, show m + (m - i) = m + (m - (i + 1)) + 1 by omega]; exact hown2)
            clear hown2 hg2
            go_wp2
            go_roundw
            case rel => exact ⟨i, by omega, rfl, HO2, HB2⟩
            case measure => simp [intOf] <;> omega
end Go.Proofs.Ytogocinmlanikaa
