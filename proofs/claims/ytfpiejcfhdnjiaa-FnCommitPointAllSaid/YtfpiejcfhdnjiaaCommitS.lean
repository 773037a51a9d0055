/- The reference's commit point. -/
import Derived.Test.YtfpiejcfhdnjiaaLogS1
import Derived.Test.YtfpiejcfhdnjiaaSmallS
set_option linter.unusedSimpArgs false
set_option linter.unusedVariables false
namespace Go.Proofs.Ytfpiejcfhdnjiaa
open Go.RowKit

/-- How many of the first k have at least so many. -/
def haveUp (has : List Int) (z : Int) (k : Nat) : Nat := haveN (has.take k) z
theorem haveUp_snoc {has : List Int} {z : Int} {k : Nat} {x : Int} (hg : has[k]? = some x) : haveUp has z (k + 1) = haveUp has z k + if decide (z ≤ x) = true then 1 else 0 := by
  unfold haveUp haveN; rw [take_snoc hg, List.countP_append, List.countP_cons, List.countP_nil, Nat.zero_add]
theorem commit_no {ps : List En} {has : List Int} {term : Int} (h : vLog ps = false ∨ vHas has = false) : commitOf ps has term = -1 := by
  unfold commitOf
  rcases h with h | h <;> simp [h]
theorem commit_yes {ps : List En} {has : List Int} {term : Int} (h : vLog ps = true) (k : vHas has = true) : commitOf ps has term = (topFrom ps has term ps.length : Int) := by
  simp [commitOf, h, k]
set_option maxRecDepth 100000 in
set_option maxHeartbeats 1600000 in
theorem CommitPointS_any (lo hi n c : Nat) (A : Option Addr) (ps : List En) (lo2 hi2 n2 c2 : Nat) (A2 : Option Addr) (has : List Int) (term : Int) (w : World) (hr : Rd w lo hi 2 A n (pvs ps)) (hB : hi ≤ w.heap.size) (hn : n ≤ 1048576) (hr2 : Rd w lo2 hi2 1 A2 n2 (ivs has)) (hB2 : hi2 ≤ w.heap.size) (hn2 : n2 ≤ 1048576) (ht : in64 term) :
    Calls Try.prog 13 #[.slice A n c, .slice A2 n2 c2, .int .i64 term] w fun e w' => e = .returned (.int .i64 (commitOf ps has term)) ∧ Below w.heap.size w w' := by
  have HL := Lib.hid hr.len2
  have HL2 := Lib.hid hr2.len1
  have HR := Lib.hid hr
  have HR2 := Lib.hid hr2
  clear hr hr2
  go_enter Try.func13, Try.ntmps13
  go_wp2_with (fail)
  (with_reducible refine (validLogS_any lo hi n c A ps _ HR.out hB hn).mono ?_)
  rintro e w1 ⟨rfl, hb1⟩
  have HB1 := Lib.hid hb1
  clear hb1
  cases hv : vLog ps with
  | false =>
    have HX := Lib.hid (commit_no (has := has) (term := term) (.inl hv))
    clear hv
    go_wp2
    go_ret
    exact ⟨by rw [HX.out]; rfl, HB1.out⟩
  | true =>
  have HV := Lib.hid hv
  have hn16 : n ≤ 16 := by rw [← HL.out]; exact vLog_len hv
  clear hv
  have HRW := Lib.hid (HR.out.keep HB1.out hB)
  have HRW2 := Lib.hid (HR2.out.keep HB1.out hB2)
  clear HR HR2
  go_wp2_with (fail)
  (with_reducible refine (inRange_any _ _ _ _).mono ?_)
  rintro e w2 ⟨rfl, rfl⟩
  cases hi7 : inR (n2 : Int) 1 7 with
  | false =>
    have HX := Lib.hid (commit_no (ps := ps) (term := term) (.inr (show vHas has = false by rw [vHas, HL2.out, hi7]; rfl)))
    clear hi7
    go_wp2
    go_ret
    exact ⟨by rw [HX.out]; rfl, HB1.out⟩
  | true =>
  have h7 : n2 ≤ 7 := by have := (inR_iff.1 hi7).2; omega
  have HI := Lib.hid hi7
  clear hi7
  go_wp2_with (fail)
  (with_reducible refine (allIn_any lo2 hi2 n2 c2 A2 has 0 16 _ HRW2.out (by omega)).mono ?_)
  rintro e w2 ⟨rfl, rfl⟩
  cases hal : allR has 0 16 with
  | false =>
    have HX := Lib.hid (commit_no (ps := ps) (term := term) (.inr (show vHas has = false by rw [vHas, HL2.out, HI.out]; exact hal)))
    clear hal
    go_wp2
    go_ret
    exact ⟨by rw [HX.out]; rfl, HB1.out⟩
  | true =>
  have HX := Lib.hid (show commitOf ps has term = (topFrom ps has term n : Int) by rw [commit_yes HV.out (show vHas has = true by rw [vHas, HL2.out, HI.out]; exact hal), HL.out])
  clear hal
  go_wp2
  go_loop [7] (fun iv => ∃ (k : Nat), k ≤ n ∧ iv = .int .i64 k ∧ Hid (topFrom ps has term n = topFrom ps has term k))
     (fun iv => (intOf iv).toNat)
  case atStart => exact ⟨n, by omega, rfl, rfl⟩
  case round =>
    obtain ⟨k, hk, rfl, hT⟩ := hrel
    rcases Nat.eq_zero_or_pos k with hz | hz
    · subst hz
      have HY := Lib.hid (show commitOf ps has term = 0 by rw [HX.out, hT.out]; rfl)
      go_wp2
      go_ret
      exact ⟨by rw [HY.out]; rfl, HB1.out⟩
    obtain ⟨j, rfl⟩ : ∃ j, k = j + 1 := ⟨k - 1, by omega⟩
    clear hz
    have hpos : decide ((0 : Int) < ((j + 1 : Nat) : Int)) = true := decide_eq_true (by omega)
    have hpos2 : (0 : Int) < ((j + 1 : Nat) : Int) := by omega
    go_wp2
    go_loop [8, 9] (fun sv iv => ∃ (i q : Nat), i ≤ n2 ∧ iv = .int .i64 i ∧ sv = .int .i64 q ∧ q ≤ i ∧ Hid (haveUp has ((j + 1 : Nat) : Int) i = q))
       (fun _ iv => n2 - (intOf iv).toNat)
    case atStart => exact ⟨0, 0, by omega, rfl, rfl, by omega, rfl⟩
    case round =>
      obtain ⟨i, q, hi, rfl, rfl, hq, hS⟩ := hrel
      by_cases hlt : i < n2
      · obtain ⟨b, off, x, hA, _, _, hg, hc0⟩ := HRW2.out.one hlt
        subst hA
        have hin : (i : Int) < (n2 : Int) := by omega
        have hi0 : (0 : Int) ≤ (i : Int) := by omega
        have HS := Lib.hid (haveUp_snoc (z := ((j + 1 : Nat) : Int)) hg)
        clear hg
        by_cases hx : ((j + 1 : Nat) : Int) ≤ x
        · have hd : decide (((j + 1 : Nat) : Int) ≤ x) = true := decide_eq_true hx
          have hd2 : decide ((j : Int) + 1 ≤ x) = true := decide_eq_true (by omega)
          have HQ := Lib.hid (show haveUp has ((j + 1 : Nat) : Int) (i + 1) = q + 1 by rw [HS.out, hd, hS.out]; rfl)
          clear hx
          go_wp2_with (fail)
          (with_reducible refine (toInt_any true _).mono ?_)
          rintro e w2 ⟨rfl, rfl⟩
          have hw : IntKind.i64.wrap ((q : Int) + tr true) = ((q + 1 : Nat) : Int) := by rw [show tr true = 1 from rfl, IntWalk.i64_in _ (by omega)]; omega
          go_wp2
          go_round
          case rel => exact ⟨i + 1, q + 1, by omega, by go_num, by first | rfl | go_num, by omega, HQ⟩
          case measure => simp [intOf]; omega
        · have hd : decide (((j + 1 : Nat) : Int) ≤ x) = false := decide_eq_false hx
          have hd2 : decide ((j : Int) + 1 ≤ x) = false := decide_eq_false (by omega)
          have HQ := Lib.hid (show haveUp has ((j + 1 : Nat) : Int) (i + 1) = q by rw [HS.out, hd, hS.out]; rfl)
          clear hx
          go_wp2_with (fail)
          (with_reducible refine (toInt_any false _).mono ?_)
          rintro e w2 ⟨rfl, rfl⟩
          have hw : IntKind.i64.wrap ((q : Int) + tr false) = (q : Int) := by rw [show tr false = 0 from rfl, IntWalk.i64_in _ (by omega)]; omega
          go_wp2
          go_round
          case rel => exact ⟨i + 1, q, by omega, by go_num, by first | rfl | go_num, by omega, HQ⟩
          case measure => simp [intOf]; omega
      · obtain rfl : i = n2 := by omega
        have HQ := Lib.hid (show haveN has ((j + 1 : Nat) : Int) = q by rw [← hS.out, haveUp, List.take_of_length_le (by rw [HL2.out]; exact Nat.le_refl _)])
        have HTT := Lib.hid (show topFrom ps has term n = if termOf ps (j + 1) = term ∧ i < 2 * q then j + 1 else topFrom ps has term j by rw [hT.out, topFrom, HQ.out, HL2.out])
        obtain ⟨b, off, x, y, hA, _, _, hg, hc0, hc1⟩ := HRW.out.pair (k := j) (by omega)
        subst hA
        have HTX := Lib.hid (termOf_get hg)
        clear hg
        have hj1 : IntKind.i64.wrap (((j + 1 : Nat) : Int) - 1) = (j : Int) := by rw [IntWalk.i64_in _ (by omega)]; omega
        have hj0 : (0 : Int) ≤ (j : Int) := by omega
        have hjn : (j : Int) < (n : Int) := by omega
        have hw2 : IntKind.i64.wrap (2 * (q : Int)) = 2 * (q : Int) := IntWalk.i64_in _ (by omega)
        by_cases hxt : x = term
        · have hd1 : (x == term) = true := by simpa using hxt
          by_cases hmq : i < 2 * q
          · have hd2 : decide ((i : Int) < 2 * (q : Int)) = true := decide_eq_true (by omega)
            have HY := Lib.hid (show commitOf ps has term = ((j + 1 : Nat) : Int) by rw [HX.out, HTT.out, if_pos ⟨by rw [HTX.out]; exact hxt, hmq⟩])
            clear hxt
            go_wp2
            go_ret
            exact ⟨by rw [HY.out]; rfl, HB1.out⟩
          · have hd2 : decide ((i : Int) < 2 * (q : Int)) = false := decide_eq_false (by omega)
            have HT2 := Lib.hid (show topFrom ps has term n = topFrom ps has term j by rw [HTT.out, if_neg (fun h => hmq h.2)])
            clear hxt
            go_wp2
            go_round
            case rel => exact ⟨j, by omega, by first | rfl | go_num, HT2⟩
            case measure => first | (simp [intOf]; done) | (simp [intOf]; omega)
        · have hd1 : (x == term) = false := by simpa using hxt
          have HT2 := Lib.hid (show topFrom ps has term n = topFrom ps has term j by rw [HTT.out, if_neg (fun h => hxt (by rw [← h.1, HTX.out]))])
          clear hxt
          go_wp2
          go_round
          case rel => exact ⟨j, by omega, by first | rfl | go_num, HT2⟩
          case measure => first | (simp [intOf]; done) | (simp [intOf]; omega)
end Go.Proofs.Ytfpiejcfhdnjiaa
