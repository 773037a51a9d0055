/- The reference's groups: validGroup, IsQuorum, OneStep. -/
import Derived.Test.YtobjcifoaejonacVoteMath
import Derived.Test.YtobjcifoaejonacSmallS
import Derived.Test.YtobjcifoaejonacExInt
import Derived.BigQuiet
set_option linter.unusedSimpArgs false
set_option linter.unusedVariables false
namespace Go.Proofs.Ytobjcifoaejonac
open Go.RowKit

/-- What stands ahead of place k. -/
def aheadI (xs : List Int) : Nat → Option Int
  | 0 => none
  | k + 1 => xs[k]?
theorem upFrom_step {xs : List Int} {k : Nat} {x y : Int} (hg : xs[k]? = some x) (hy : aheadI xs k = some y) : upFrom (some y) (xs.drop k) = (decide (y < x) && upFrom (some x) (xs.drop (k + 1))) := by
  rw [drop_cons2 hg]; simp only [upFrom]
theorem upFrom_first {xs : List Int} {x : Int} (hg : xs[0]? = some x) : upFrom none xs = upFrom (some x) (xs.drop 1) := by
  have := drop_cons2 hg
  rw [List.drop_zero] at this
  rw [this]; simp [upFrom]
theorem vGroup_no {xs : List Int} (h : upFrom none xs = false) : vGroup xs = false := by simp [vGroup, h]
set_option maxRecDepth 100000 in
set_option maxHeartbeats 1600000 in
theorem validGroupS_any (lo hi n c : Nat) (A : Option Addr) (xs : List Int) (w : World) (hr : Rd w lo hi 1 A n (ivs xs)) (hn : n ≤ 1048576) :
    Calls Try.prog 50 #[.slice A n c] w fun e w' => e = .returned (.bool (vGroup xs)) ∧ Below w.heap.size w w' := by
  have HL := Lib.hid hr.len1
  have HR := Lib.hid hr
  clear hr
  go_enter Try.func50, Try.ntmps50
  go_wp2
  go_loopw [3] (fun iv wr => ∃ (k : Nat), 1 ≤ k ∧ (k ≤ n ∨ k = 1) ∧ iv = .int .i64 k ∧ Hid (∀ y, xs[k - 1]? = some y → upFrom none xs = upFrom (some y) (xs.drop k)) ∧ Hid (∃ m, wr = w.drewN m))
     (fun iv _ => n - (intOf iv).toNat)
  case atStart => exact ⟨1, by omega, .inr rfl, rfl, fun y hy => upFrom_first hy, 0, rfl⟩
  case round =>
    obtain ⟨k, hk0, hk, rfl, hS, HW⟩ := hrel
    obtain ⟨m, hm⟩ := HW.out
    clear HW
    by_cases hlt : k < n
    · obtain ⟨j, rfl⟩ : ∃ j, k = j + 1 := ⟨k - 1, by omega⟩
      have HRW := Lib.hid (show Rd wr lo hi 1 A n (ivs xs) by subst hm; exact HR.out)
      have HM := Lib.hid hm
      clear hm
      obtain ⟨b, off, x, hA, _, _, hg, hc0⟩ := HRW.out.one hlt
      obtain ⟨b', off', x', hA', _, _, hg', hc0'⟩ := HRW.out.one (k := j) (by omega)
      subst hA
      injection hA' with hA'; injection hA' with h1 h2
      subst h1; subst h2
      have hj1 : IntKind.i64.wrap (((j + 1 : Nat) : Int) - 1) = (j : Int) := by rw [IntWalk.i64_in _ (by omega)]; omega
      have hj2 : ((j + 1 : Nat) : Int) - 1 = (j : Int) := by omega
      have hj0 : (0 : Int) ≤ (j : Int) := by omega
      have hjn : (j : Int) < (n : Int) := by omega
      have hk1 : (0 : Int) ≤ ((j + 1 : Nat) : Int) := by omega
      have hkn : ((j + 1 : Nat) : Int) < (n : Int) := by omega
      have HS := Lib.hid (show upFrom none xs = (decide (x' < x) && upFrom (some x) (xs.drop (j + 1 + 1))) by rw [hS.out x' hg', upFrom_step hg hg'])
      have HG := Lib.hid hg
      clear hg hg'
      by_cases hle : x ≤ x'
      · have hd : decide (x ≤ x') = true := decide_eq_true hle
        have HX := Lib.hid (show vGroup xs = false from vGroup_no (by rw [HS.out, decide_eq_false (by omega)]; rfl))
        go_wp2
        go_quiet (fail)
        go_wp2
        go_ret
        exact ⟨ret_bool HX.out.symm, by rw [HM.out]; exact up_drewN (up_drewN (Below.refl _ _) _) _⟩
      · have hd : decide (x ≤ x') = false := decide_eq_false hle
        have HX := Lib.hid (show upFrom none xs = upFrom (some x) (xs.drop (j + 1 + 1)) by rw [HS.out, decide_eq_true (by omega)]; rfl)
        go_wp2
        go_quiet (fail)
        go_wp2
        go_roundw
        case rel => exact ⟨j + 1 + 1, by omega, .inl (by omega), by go_num, fun y hy => by rw [show j + 1 + 1 - 1 = j + 1 by omega, HG.out] at hy; injection hy with hy; subst hy; exact HX.out, by rw [HM.out]; exact ⟨_, World.drewN_drewN _ _ _⟩⟩
        case measure => simp [intOf]; omega
    · have HU := Lib.hid (show upFrom none xs = true by
        rcases Nat.eq_zero_or_pos n with h0 | h0
        · have : xs = [] := List.eq_nil_of_length_eq_zero (by rw [HL.out]; exact h0)
          rw [this]; rfl
        · have hkn : k = n := by omega
          have hl : k - 1 < xs.length := by rw [HL.out]; omega
          rw [hS.out _ (List.getElem?_eq_getElem hl), List.drop_of_length_le (by rw [HL.out]; omega)]
          rfl)
      have HV := Lib.hid (show vGroup xs = (inR (n : Int) 1 7 && allR xs 0 6) by rw [vGroup, HU.out, HL.out, Bool.true_and]; rfl)
      have HC := Lib.hid (show Rd wr lo hi 1 A n (ivs xs) by subst hm; exact HR.out)
      have HB := Lib.hid (show Below w.heap.size w wr by subst hm; exact up_drewN (Below.refl _ _) _)
      clear hm hS
      cases hi0 : inR (n : Int) 1 7 with
      | false =>
        have HX := Lib.hid (show vGroup xs = false by rw [HV.out, hi0]; rfl)
        go_wp2_with (fail)
        (with_reducible refine (inRange_any _ _ _ _).mono ?_)
        rintro e w1 ⟨rfl, rfl⟩
        rw [hi0]
        clear hi0
        go_wp2
        go_ret
        exact ⟨by rw [HX.out]; rfl, HB.out⟩
      | true =>
        have HX := Lib.hid (show vGroup xs = allR xs 0 6 by rw [HV.out, hi0]; rfl)
        go_wp2_with (fail)
        (with_reducible refine (inRange_any _ _ _ _).mono ?_)
        rintro e w1 ⟨rfl, rfl⟩
        rw [hi0]
        clear hi0
        go_wp2_with (fail)
        (with_reducible refine (allIn_any lo hi n c A xs 0 6 _ HC.out (by omega)).mono ?_)
        rintro e w1 ⟨rfl, rfl⟩
        generalize allR xs 0 6 = q at *
        go_wp2
        go_ret
        exact ⟨by rw [HX.out]; rfl, HB.out⟩
/-- How many of the first k are in a set. -/
def inUp (g s : List Int) (k : Nat) : Nat := (g.take k).countP fun x => s.contains x
theorem inUp_snoc {g s : List Int} {k : Nat} {x : Int} (hg : g[k]? = some x) : inUp g s (k + 1) = inUp g s k + if inL s x = true then 1 else 0 := by
  unfold inUp inL; rw [take_snoc hg, List.countP_append, List.countP_cons, List.countP_nil, Nat.zero_add]
theorem inUp_le (g s : List Int) (k : Nat) : inUp g s k ≤ k := Nat.le_trans List.countP_le_length (by rw [List.length_take]; omega)
set_option maxRecDepth 100000 in
set_option maxHeartbeats 1600000 in
theorem IsQuorumS_any (lo hi n c : Nat) (A : Option Addr) (g : List Int) (lo2 hi2 n2 c2 : Nat) (A2 : Option Addr) (s : List Int) (w : World) (hr : Rd w lo hi 1 A n (ivs g)) (hB : hi ≤ w.heap.size) (hn : n ≤ 1048576) (hr2 : Rd w lo2 hi2 1 A2 n2 (ivs s)) (hB2 : hi2 ≤ w.heap.size) (hn2 : n2 ≤ 1048576) :
    Calls Try.prog 23 #[.slice A n c, .slice A2 n2 c2] w fun e w' => e = .returned (.bool (quorumOf g s)) ∧ Below w.heap.size w w' := by
  have HL := Lib.hid hr.len1
  have HR := Lib.hid hr
  have HR2 := Lib.hid hr2
  clear hr hr2
  go_enter Try.func23, Try.ntmps23
  go_wp2_with (fail)
  (with_reducible refine (validGroupS_any lo hi n c A g _ HR.out hn).mono ?_)
  rintro e w1 ⟨rfl, hb1⟩
  have HB1 := Lib.hid hb1
  clear hb1
  cases hv : vGroup g with
  | false =>
    have HX := Lib.hid (show quorumOf g s = false by rw [quorumOf, hv]; rfl)
    clear hv
    go_wp2
    go_ret
    exact ⟨by rw [HX.out]; rfl, HB1.out⟩
  | true =>
  have hn7 : n ≤ 7 := by have := (vGroup_iff.1 hv).2.1; rw [HL.out] at this; omega
  have HX := Lib.hid (show quorumOf g s = decide (n < 2 * inUp g s n) by rw [quorumOf, hv, HL.out, inUp, List.take_of_length_le (by rw [HL.out]; exact Nat.le_refl _)]; rfl)
  clear hv
  have HRW := Lib.hid (HR.out.keep HB1.out hB)
  have HRW2 := Lib.hid (HR2.out.keep HB1.out hB2)
  clear HR HR2
  go_wp2
  go_loop [5, 6] (fun sv iv => ∃ (k q : Nat), k ≤ n ∧ iv = .int .i64 k ∧ sv = .int .i64 q ∧ q ≤ k ∧ Hid (inUp g s k = q))
     (fun _ iv => n - (intOf iv).toNat)
  case atStart => exact ⟨0, 0, by omega, rfl, rfl, by omega, rfl⟩
  case round =>
    obtain ⟨k, q, hk, rfl, rfl, hq, hS⟩ := hrel
    by_cases hlt : k < n
    · obtain ⟨b, off, x, hA, _, _, hg, hc0⟩ := HRW.out.one hlt
      subst hA
      have hkn : (k : Int) < (n : Int) := by omega
      have hk0 : (0 : Int) ≤ (k : Int) := by omega
      have HS := Lib.hid (inUp_snoc (s := s) hg)
      clear hg
      go_wp2_with (fail)
      (with_reducible refine (isInS_any lo2 hi2 n2 c2 A2 s x _ HRW2.out hn2).mono ?_)
      rintro e w2 ⟨rfl, rfl⟩
      cases hx : inL s x with
      | false =>
        have HQ := Lib.hid (show inUp g s (k + 1) = q by rw [HS.out, hx, hS.out]; rfl)
        clear hx
        go_wp2_with (fail)
        (with_reducible refine (toInt_any false _).mono ?_)
        rintro e w2 ⟨rfl, rfl⟩
        have hw : IntKind.i64.wrap ((q : Int) + tr false) = (q : Int) := by rw [show tr false = 0 from rfl, IntWalk.i64_in _ (by omega)]; omega
        go_wp2
        go_round
        case rel => exact ⟨k + 1, q, by omega, by go_num, by first | rfl | go_num, by omega, HQ⟩
        case measure => simp [intOf]; omega
      | true =>
        have HQ := Lib.hid (show inUp g s (k + 1) = q + 1 by rw [HS.out, hx, hS.out]; rfl)
        clear hx
        go_wp2_with (fail)
        (with_reducible refine (toInt_any true _).mono ?_)
        rintro e w2 ⟨rfl, rfl⟩
        have hw : IntKind.i64.wrap ((q : Int) + tr true) = ((q + 1 : Nat) : Int) := by rw [show tr true = 1 from rfl, IntWalk.i64_in _ (by omega)]; omega
        go_wp2
        go_round
        case rel => exact ⟨k + 1, q + 1, by omega, by go_num, by first | rfl | go_num, by omega, HQ⟩
        case measure => simp [intOf]; omega
    · obtain rfl : k = n := by omega
      have hw : IntKind.i64.wrap (2 * (q : Int)) = ((2 * q : Nat) : Int) := by rw [IntWalk.i64_in _ (by omega)]; omega
      have HY := Lib.hid (show quorumOf g s = decide (k < 2 * q) by rw [HX.out, hS.out])
      go_wp2
      go_ret
      exact ⟨by rw [HY.out]; first | rfl | (congr 1; simp <;> omega), HB1.out⟩
/-- In how many of the first k servers two lists part. -/
def xorUp (a b : List Int) (k : Nat) : Nat := (([0, 1, 2, 3, 4, 5, 6] : List Int).take k).countP fun s => a.contains s != b.contains s
theorem xorUp_snoc (a b : List Int) {k : Nat} (hk : k < 7) : xorUp a b (k + 1) = xorUp a b k + if (inL a (k : Int) != inL b (k : Int)) = true then 1 else 0 := by
  have hg : ([0, 1, 2, 3, 4, 5, 6] : List Int)[k]? = some (k : Int) := by
    rcases k with _ | _ | _ | _ | _ | _ | _ | k
    all_goals first | rfl | omega
  unfold xorUp inL; rw [take_snoc hg, List.countP_append, List.countP_cons, List.countP_nil, Nat.zero_add]
set_option maxRecDepth 100000 in
set_option maxHeartbeats 1600000 in
theorem OneStepS_any (lo hi n c : Nat) (A : Option Addr) (g : List Int) (lo2 hi2 n2 c2 : Nat) (A2 : Option Addr) (s : List Int) (w : World) (hr : Rd w lo hi 1 A n (ivs g)) (hB : hi ≤ w.heap.size) (hn : n ≤ 1048576) (hr2 : Rd w lo2 hi2 1 A2 n2 (ivs s)) (hB2 : hi2 ≤ w.heap.size) (hn2 : n2 ≤ 1048576) :
    Calls Try.prog 27 #[.slice A n c, .slice A2 n2 c2] w fun e w' => e = .returned (.bool (stepOf g s)) ∧ Below w.heap.size w w' := by
  have HR := Lib.hid hr
  have HR2 := Lib.hid hr2
  clear hr hr2
  go_enter Try.func27, Try.ntmps27
  go_wp2_with (fail)
  (with_reducible refine (validGroupS_any lo hi n c A g _ HR.out hn).mono ?_)
  rintro e w1 ⟨rfl, hb1⟩
  have HB1 := Lib.hid hb1
  have hs1 := hb1.size
  clear hb1
  cases hv : vGroup g with
  | false =>
    have HX := Lib.hid (show stepOf g s = false by rw [stepOf, hv]; rfl)
    clear hv
    go_wp2
    go_ret
    exact ⟨by rw [HX.out]; rfl, HB1.out⟩
  | true =>
  have HV := Lib.hid hv
  clear hv
  go_wp2_with (fail)
  (with_reducible refine (validGroupS_any lo2 hi2 n2 c2 A2 s _ (HR2.out.keep HB1.out hB2) hn2).mono ?_)
  rintro e w2 ⟨rfl, hb2⟩
  have HB2 := Lib.hid (up HB1.out hb2)
  clear hb2
  cases hv : vGroup s with
  | false =>
    have HX := Lib.hid (show stepOf g s = false by rw [stepOf, HV.out, hv]; rfl)
    clear hv
    go_wp2
    go_ret
    exact ⟨by rw [HX.out]; rfl, HB2.out⟩
  | true =>
  have HX := Lib.hid (show stepOf g s = decide (xorUp g s 7 = 1) by rw [stepOf, HV.out, hv]; rfl)
  clear hv
  have HRW := Lib.hid (HR.out.keep HB2.out hB)
  have HRW2 := Lib.hid (HR2.out.keep HB2.out hB2)
  clear HR HR2 HB1 HV
  go_wp2
  go_loop [5, 6] (fun sv iv => ∃ (k q : Nat), k ≤ 7 ∧ iv = .int .i64 k ∧ sv = .int .i64 q ∧ q ≤ k ∧ Hid (xorUp g s k = q))
     (fun _ iv => 7 - (intOf iv).toNat)
  case atStart => exact ⟨0, 0, by omega, rfl, rfl, by omega, rfl⟩
  case round =>
    obtain ⟨k, q, hk, rfl, rfl, hq, hS⟩ := hrel
    by_cases hlt : k < 7
    · have HS := Lib.hid (xorUp_snoc g s hlt)
      have hk7 : (k : Int) < 7 := by omega
      go_wp2_with (fail)
      (with_reducible refine (isInS_any lo hi n c A g (k : Int) _ HRW.out hn).mono ?_)
      rintro e w3 ⟨rfl, rfl⟩
      go_wp2_with (fail)
      (with_reducible refine (isInS_any lo2 hi2 n2 c2 A2 s (k : Int) _ HRW2.out hn2).mono ?_)
      rintro e w3 ⟨rfl, rfl⟩
      generalize inL g (k : Int) = x at *
      generalize inL s (k : Int) = y at *
      cases x with
      | false =>
        cases y with
        | false =>
          have HQ := Lib.hid (show xorUp g s (k + 1) = q by rw [HS.out, hS.out]; rfl)
          go_wp2_with (fail)
          (with_reducible refine (toInt_any false _).mono ?_)
          rintro e w3 ⟨rfl, rfl⟩
          have hw : IntKind.i64.wrap ((q : Int) + tr false) = (q : Int) := by rw [show tr false = 0 from rfl, IntWalk.i64_in _ (by omega)]; omega
          go_wp2
          go_round
          case rel => exact ⟨k + 1, q, by omega, by go_num, by first | rfl | go_num, by omega, HQ⟩
          case measure => simp [intOf]; omega
        | true =>
          have HQ := Lib.hid (show xorUp g s (k + 1) = q + 1 by rw [HS.out, hS.out]; rfl)
          go_wp2_with (fail)
          (with_reducible refine (toInt_any true _).mono ?_)
          rintro e w3 ⟨rfl, rfl⟩
          have hw : IntKind.i64.wrap ((q : Int) + tr true) = ((q + 1 : Nat) : Int) := by rw [show tr true = 1 from rfl, IntWalk.i64_in _ (by omega)]; omega
          go_wp2
          go_round
          case rel => exact ⟨k + 1, q + 1, by omega, by go_num, by first | rfl | go_num, by omega, HQ⟩
          case measure => simp [intOf]; omega
      | true =>
        cases y with
        | false =>
          have HQ := Lib.hid (show xorUp g s (k + 1) = q + 1 by rw [HS.out, hS.out]; rfl)
          go_wp2_with (fail)
          (with_reducible refine (toInt_any true _).mono ?_)
          rintro e w3 ⟨rfl, rfl⟩
          have hw : IntKind.i64.wrap ((q : Int) + tr true) = ((q + 1 : Nat) : Int) := by rw [show tr true = 1 from rfl, IntWalk.i64_in _ (by omega)]; omega
          go_wp2
          go_round
          case rel => exact ⟨k + 1, q + 1, by omega, by go_num, by first | rfl | go_num, by omega, HQ⟩
          case measure => simp [intOf]; omega
        | true =>
          have HQ := Lib.hid (show xorUp g s (k + 1) = q by rw [HS.out, hS.out]; rfl)
          go_wp2_with (fail)
          (with_reducible refine (toInt_any false _).mono ?_)
          rintro e w3 ⟨rfl, rfl⟩
          have hw : IntKind.i64.wrap ((q : Int) + tr false) = (q : Int) := by rw [show tr false = 0 from rfl, IntWalk.i64_in _ (by omega)]; omega
          go_wp2
          go_round
          case rel => exact ⟨k + 1, q, by omega, by go_num, by first | rfl | go_num, by omega, HQ⟩
          case measure => simp [intOf]; omega
    · obtain rfl : k = 7 := by omega
      have HY := Lib.hid (show stepOf g s = decide (q = 1) by rw [HX.out, hS.out])
      go_wp2
      go_ret
      exact ⟨by rw [HY.out]; show Ending.returned (Value.bool ((q : Int) == 1)) = _; congr 2; rw [Bool.eq_iff_iff]; simp; omega, HB2.out⟩
end Go.Proofs.Ytobjcifoaejonac
