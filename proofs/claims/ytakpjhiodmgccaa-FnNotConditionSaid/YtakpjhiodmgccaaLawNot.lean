/- The law FnNotCondition, walked: it returns true. -/
import Derived.Test.YtakpjhiodmgccaaDraw5
import Derived.Test.YtakpjhiodmgccaaEvalS
import Derived.Test.YtakpjhiodmgccaaEvalI
import Derived.Test.YtakpjhiodmgccaaCondNot
import Derived.Test.YtakpjhiodmgccaaCondUsedI
import Derived.Test.YtakpjhiodmgccaaLawLists
import Derived.Test.YtakpjhiodmgccaaJoinMath
namespace Go.Proofs.Ytakpjhiodmgccaa
open Go.RowKit

theorem used_not {ps : List (Int × Int)} (h : vCond ps = true) (hl : ps.length ≠ 12) : usedOf (ps ++ [(2, 0)]) = usedOf ps := by
  have h1 := vCond_len h
  have hq : scanD [(2, 0)] 1 = some 1 := by simp [scanD, vPart, inR, needs1]
  have hc : vCond (ps ++ [(2, 0)]) = true := vCond_join h (by simp; omega) hq
  simp [usedOf, hc, h, usedUp, hasV]
theorem vVals_four {k m : Int} (h0 : 0 ≤ k) (h5 : k < 5) (hm0 : 0 ≤ m) (hm1 : m < 50) : vVals [k, 2 - k, 7 * k, m] = true := by
  have e1 : inR k (-9999) 9999 = true := inR_iff.2 ⟨by omega, by omega⟩
  have e2 : inR (2 - k) (-9999) 9999 = true := inR_iff.2 ⟨by omega, by omega⟩
  have e3 : inR (7 * k) (-9999) 9999 = true := inR_iff.2 ⟨by omega, by omega⟩
  have e4 : inR m (-9999) 9999 = true := inR_iff.2 ⟨by omega, by omega⟩
  simp [vVals, e1, e2, e3, e4]

set_option maxRecDepth 100000 in
set_option maxHeartbeats 1600000 in
theorem lawNot_any (n c : Nat) (A : Option Addr) (xs : List Int) (w : World) (hr : Rd w 0 w.heap.size 1 A n (bvs xs)) (hby : Bytes xs) (hc : n ≤ c) (hc2 : c ≤ 9223372036854775807) :
    Calls Try.prog 7 #[.slice A n c] w fun e w' => e = .returned (.bool true) ∧ Below w.heap.size w w' := by
  by_cases hbig : (1048576 : Int) < n
  · go_enter Try.func7, Try.ntmps7
    go_wp2
    go_ret
    exact ⟨rfl, Below.refl _ _⟩
  have hnb : n ≤ 1048576 := by omega
  go_enter Try.func7, Try.ntmps7
  go_wp2_with (fail)
  (with_reducible refine (drawNot_any n c A xs w hr hby (by omega) hc hc2).mono ?_)
  clear hbig
  rintro e w1 ⟨A1, n1, c1, ps, rfl, hn1, _, _, hr1, hb1⟩
  have HL := Lib.hid hr1.len2
  go_wp2_with (fail)
  (with_reducible refine (notI_any _ _ n1 c1 A1 ps w1 hr1 (Nat.le_refl _) (by omega)).mono ?_)
  rintro e w2 (⟨hN, rfl, hb2⟩ | ⟨A3, c3, hN, rfl, _, hr3, _, hb2⟩)
  · have hr12 := hr1.keep hb2 (Nat.le_refl _)
    have hsz2 := hb2.size
    go_wp2_with (fail)
    (with_reducible refine (notS_any _ _ n1 c1 A1 ps w2 hr12 hsz2 (by omega)).mono ?_)
    rintro e w3 (⟨_, rfl, hb3⟩ | ⟨_, _, hN2, _⟩)
    case inr => rw [hN] at hN2; cases hN2
    clear hN
    go_wp2_with (fail)
    (with_reducible refine (equalParts_any 0 0 0 0 0 0 0 0 none none [] [] w3 (Rd.nil _ _ _ _ _) (by omega) (by omega) (Rd.nil _ _ _ _ _) (by omega) (by omega)).mono ?_)
    rintro e w4 ⟨rfl, hb4⟩
    rw [beq_self_eq_true]
    go_wp2_with (fail)
    (with_reducible refine (equalParts_any 0 0 0 0 0 0 0 0 none none [] [] w4 (Rd.nil _ _ _ _ _) (by omega) (by omega) (Rd.nil _ _ _ _ _) (by omega) (by omega)).mono ?_)
    rintro e w5 ⟨rfl, hb5⟩
    rw [beq_self_eq_true]
    go_wp2
    go_ret
    exact ⟨by simp, up (up (up (up hb1 hb2) hb3) hb4) hb5⟩
  · have hr12 := hr1.keep hb2 (Nat.le_refl _)
    have hsz2 := hb2.size
    have hb02 := up hb1 hb2
    have HN := Lib.hid hN
    have hvl : vCond ps = true ∧ ps.length ≠ 12 := by
      unfold notOf at hN
      split at hN
      · assumption
      · cases hN
    have HV := Lib.hid hvl
    rw [HL.out] at hr3
    rw [HL.out]
    clear hN hvl
    go_wp2_with (fail)
    (with_reducible refine (notS_any _ _ n1 c1 A1 ps w2 hr12 hsz2 (by omega)).mono ?_)
    rintro e w3 (⟨hN2, _⟩ | ⟨A4, c4, _, rfl, _, hr4, _, hb3⟩)
    case inl => rw [HN.out] at hN2; cases hN2
    rw [HL.out] at hr4
    rw [HL.out]
    have hr13 := hr12.keep hb3 hsz2
    have hr33 := hr3.keep hb3 (Nat.le_refl _)
    have hsz3 := hb3.size
    have hb03 := up hb02 hb3
    clear hb1 hb2 hb3 hb02 hr1 hr12 hr3
    go_wp2_with (fail)
    (with_reducible refine (equalParts_any _ _ (n1 + 1) c3 _ _ (n1 + 1) c4 A3 A4 _ _ w3 hr33 (by omega) (by omega) hr4 (Nat.le_refl _) (by omega)).mono ?_)
    rintro e w4 ⟨rfl, hb4⟩
    rw [beq_self_eq_true]
    have hr14 := hr13.keep hb4 (by omega)
    have hr34 := hr33.keep hb4 (by omega)
    have hsz4 := hb4.size
    have hb04 := up hb03 hb4
    clear hb4 hb03 hr13 hr33 hr4
    go_wp2
    go_loopw [8] (fun kv wr => ∃ (k : Nat), k ≤ 5 ∧ kv = .int .i64 k ∧ Below w4.heap.size w4 wr)
       (fun kv _ => 5 - (intOf kv).toNat)
    case atStart => exact ⟨0, by omega, rfl, Below.refl _ _⟩
    case round =>
      obtain ⟨k, hk, rfl, hbl⟩ := hrel
      have hszr := hbl.size
      by_cases hk5 : k < 5
      · have hvv : vVals [(k : Int), 2 - (k : Int), 7 * (k : Int), (n : Int) % 50] = true := vVals_four (by omega) (by omega) (by omega) (by omega)
        have HVV := Lib.hid hvv
        clear hvv
        go_wp2_with (fail)
        have hblk := Blk.new wr 3 #[.int .i64 (k : Int), .int .i64 (2 - (k : Int)), .int .i64 (7 * (k : Int)), .int .i64 ((n : Int) % 50)]
        (with_reducible refine (EvalConditionI_any _ _ (n1 + 1) c3 wr.heap.size (wr.heap.size + 1) 4 4 A3 _ (ps ++ [(2, 0)]) [(k : Int), 2 - (k : Int), 7 * (k : Int), (n : Int) % 50] _ (hr34.keep (up_alloc hbl _) (by omega)) (by simp; omega) (by omega) (Rd.of_blk hblk rfl) (by simp) (by omega)).mono ?_)
        rintro e w6 ⟨rfl, hb6⟩
        rw [(evalOf_not HV.out.1 HVV.out HV.out.2).2]
        have hb46 := up (up_alloc hbl _) hb6
        have hrv6 := (Rd.of_blk (size := 1) (n := 4) hblk rfl).keep hb6 (by simp)
        have hsz6 := hb6.size
        simp at hsz6
        clear hb6 hblk
        go_wp2_with (fail)
        (with_reducible refine (EvalConditionI_any _ _ n1 c1 wr.heap.size (wr.heap.size + 1) 4 4 A1 _ ps [(k : Int), 2 - (k : Int), 7 * (k : Int), (n : Int) % 50] w6 (hr14.keep hb46 (by omega)) (by omega) (by omega) hrv6 (by omega) (by omega)).mono ?_)
        rintro e w7 ⟨rfl, hb7⟩
        have hb47 := up hb46 hb7
        clear hb46 hb7 hrv6
        generalize evalOf ps [(k : Int), 2 - (k : Int), 7 * (k : Int), (n : Int) % 50] = m
        by_cases hm0 : m = 0
        · subst hm0
          have ht : tr ((0 : Int) == 0) = 1 := by simp [tr]
          rw [ht]
          clear ht
          go_wp2
          go_roundw
          case rel => exact ⟨k + 1, by omega, by go_num, hb47⟩
          case measure => simp [intOf]; omega
        · have hm1 : (m == 0) = false := by simpa using hm0
          have ht : tr (m == 0) = 0 := by rw [hm1]; simp [tr]
          rw [ht]
          clear ht hm0
          go_wp2
          go_roundw
          case rel => exact ⟨k + 1, by omega, by go_num, hb47⟩
          case measure => simp [intOf]; omega
      · obtain rfl : k = 5 := by omega
        have hr3r := hr34.keep hbl (by omega)
        have hr1r := hr14.keep hbl (by omega)
        have HU := Lib.hid (used_not HV.out.1 HV.out.2)
        have hul := used_le ps
        go_wp2_with (fail)
        (with_reducible refine (usedI_any _ _ (n1 + 1) c3 A3 (ps ++ [(2, 0)]) wr hr3r (by omega) (by omega)).mono ?_)
        rw [HU.out]
        rintro e w6 ⟨A6, c6, rfl, _, hr6, _, hb6⟩
        have hsz6 := hb6.size
        go_wp2_with (fail)
        (with_reducible refine (usedI_any _ _ n1 c1 A1 ps w6 (hr1r.keep hb6 (by omega)) (by omega) (by omega)).mono ?_)
        rintro e w7 ⟨A7, c7, rfl, _, hr7, _, hb7⟩
        have hsz7 := hb7.size
        go_wp2_with (fail)
        (with_reducible refine (equalInts_any _ _ _ c6 _ _ _ c7 A6 A7 (usedOf ps) (usedOf ps) w7 (hr6.keep hb7 (Nat.le_refl _)) (by omega) (by omega) hr7 (Nat.le_refl _) (by omega)).mono ?_)
        rintro e w8 ⟨rfl, hb8⟩
        rw [beq_self_eq_true]
        go_wp2
        go_ret
        exact ⟨rfl, up hb04 (up (up (up hbl hb6) hb7) hb8)⟩
end Go.Proofs.Ytakpjhiodmgccaa
