/- Which values are valid; spec.eval and spec.EvalCondition. -/
import Derived.Test.YthlcbdjjegageaaEvalLeaf
namespace Go.Proofs.Ythlcbdjjegageaa
open Go.RowKit

theorem all_hit {f : Int → Bool} {xs : List Int} {k : Nat} {x : Int} (hg : xs[k]? = some x) (h : f x = true) : (xs.drop k).all f = (xs.drop (k + 1)).all f := by
  rw [drop_cons2 hg, List.all_cons, h, Bool.true_and]
theorem all_miss {f : Int → Bool} {xs : List Int} {k : Nat} {x : Int} (hg : xs[k]? = some x) (h : f x = false) : (xs.drop k).all f = false := by
  rw [drop_cons2 hg, List.all_cons, h, Bool.false_and]
/-- All numbers lie in a range. -/
def allR (xs : List Int) (lo hi : Int) : Bool := xs.all fun x => inR x lo hi

set_option maxHeartbeats 400000 in
theorem allIn_any (lo hi n c : Nat) (A : Option Addr) (xs : List Int) (l h : Int) (w : World) (hr : Rd w lo hi 1 A n (ivs xs)) (hn : n ≤ 9223372036854775807) :
    Calls Try.prog 101 #[.slice A n c, .int .i64 l, .int .i64 h] w fun e w' => e = .returned (.bool (allR xs l h)) ∧ w = w' := by
  have HL := Lib.hid hr.len1
  go_enter Try.func101, Try.ntmps101
  go_wp2
  go_loop [7] (fun iv => ∃ (k : Nat), k ≤ n ∧ iv = .int .i64 k ∧ Hid (allR xs l h = allR (xs.drop k) l h))
     (fun iv => n - (intOf iv).toNat)
  case atStart => exact ⟨0, by omega, rfl, rfl⟩
  case round =>
    obtain ⟨k, hk, rfl, hS⟩ := hrel
    by_cases hlt : k < n
    · obtain ⟨b, off, x, rfl, _, _, hg, hc0⟩ := hr.one hlt
      by_cases hx : inR x l h = true
      · have HS := Lib.hid (hS.out.trans (all_hit (f := fun x => inR x l h) hg hx))
        clear hg
        go_wp2_with (go_at_call 57; refine (inRange_any _ _ _ _).mono ?_; rintro e w' ⟨rfl, rfl⟩)
        go_round
        case rel => exact ⟨k + 1, by omega, by go_num, HS⟩
        case measure => simp [intOf]; omega
      · have hx' : inR x l h = false := by simpa using hx
        have HS := Lib.hid (hS.out.trans (all_miss (f := fun x => inR x l h) hg hx'))
        clear hg hx
        go_wp2_with (go_at_call 57; refine (inRange_any _ _ _ _).mono ?_; rintro e w' ⟨rfl, rfl⟩)
        go_ret
        exact ⟨ret_bool HS.out.symm, rfl⟩
    · obtain rfl : k = n := by omega
      go_wp2
      go_ret
      exact ⟨ret_bool (by rw [hS.out, List.drop_of_length_le (by rw [HL.out]; omega)]; rfl), rfl⟩

theorem validValuesS_any (lo hi n c : Nat) (A : Option Addr) (vs : List Int) (w : World) (hr : Rd w lo hi 1 A n (ivs vs)) (hn : n ≤ 9223372036854775807) :
    Calls Try.prog 79 #[.slice A n c] w fun e w' => e = .returned (.bool (vVals vs)) ∧ w = w' := by
  have HL := Lib.hid hr.len1
  by_cases h4 : n = 4
  · have hv : Hid (vVals vs = allR vs (-9999) 9999) := by simp [Hid, vVals, allR, HL.out, h4]
    have h4' : ((n : Int) == 4) = true := by simp; omega
    clear h4
    go_enter Try.func79, Try.ntmps79
    go_wp2_with (fail)
    (with_reducible refine (allIn_any lo hi n c A vs _ _ w hr hn).mono ?_)
    rintro e w' ⟨rfl, rfl⟩
    go_wp2
    go_ret
    exact ⟨ret_bool hv.out.symm, rfl⟩
  · have hv : Hid (vVals vs = false) := by simp [Hid, vVals, HL.out, h4]
    have h4' : ((n : Int) == 4) = false := by simp; omega
    clear h4
    go_enter Try.func79, Try.ntmps79
    go_wp2
    go_ret
    exact ⟨ret_bool hv.out.symm, rfl⟩

set_option maxHeartbeats 400000 in
theorem validValuesI_any (lo hi n c : Nat) (A : Option Addr) (vs : List Int) (w : World) (hr : Rd w lo hi 1 A n (ivs vs)) (hn : n ≤ 9223372036854775807) :
    Calls Try.prog 82 #[.slice A n c] w fun e w' => e = .returned (.bool (vVals vs)) ∧ w = w' := by
  have HL := Lib.hid hr.len1
  by_cases h4 : n = 4
  · have hv : Hid (vVals vs = allR vs (-9999) 9999) := by simp [Hid, vVals, allR, HL.out, h4]
    have h4' : ((n : Int) != 4) = false := by simp; omega
    have hn4 : n ≤ 4 := by omega
    clear h4
    go_enter Try.func82, Try.ntmps82
    go_wp2
    go_loop [10] (fun iv => ∃ (k : Nat), k ≤ n ∧ iv = .int .i64 k ∧ Hid (allR vs (-9999) 9999 = allR (vs.drop k) (-9999) 9999))
       (fun iv => n - (intOf iv).toNat)
    case atStart => exact ⟨0, by omega, rfl, rfl⟩
    case round =>
      obtain ⟨k, hk, rfl, hS⟩ := hrel
      by_cases hlt : k < n
      · obtain ⟨b, off, x, rfl, _, _, hg, hc0⟩ := hr.one hlt
        by_cases hx : inR x (-9999) 9999 = true
        · have HS := Lib.hid (hS.out.trans (all_hit (f := fun x => inR x (-9999) 9999) hg hx))
          clear hg
          go_wp2_with (go_at_call 104; refine (validValue_any _ _).mono ?_; rintro e w' ⟨rfl, rfl⟩)
          go_round
          case rel => exact ⟨k + 1, by omega, by go_num, HS⟩
          case measure => simp [intOf]; omega
        · have hx' : inR x (-9999) 9999 = false := by simpa using hx
          have HS := Lib.hid (hS.out.trans (all_miss (f := fun x => inR x (-9999) 9999) hg hx'))
          clear hg hx
          go_wp2_with (go_at_call 104; refine (validValue_any _ _).mono ?_; rintro e w' ⟨rfl, rfl⟩)
          go_ret
          exact ⟨ret_bool (by rw [hv.out, HS.out]), rfl⟩
      · obtain rfl : k = n := by omega
        go_wp2
        go_ret
        exact ⟨ret_bool (by rw [hv.out, hS.out, List.drop_of_length_le (by rw [HL.out]; omega)]; rfl), rfl⟩
  · have hv : Hid (vVals vs = false) := by simp [Hid, vVals, HL.out, h4]
    have h4' : ((n : Int) != 4) = true := by simp; omega
    clear h4
    go_enter Try.func82, Try.ntmps82
    go_wp2
    go_ret
    exact ⟨ret_bool hv.out.symm, rfl⟩
end Go.Proofs.Ythlcbdjjegageaa
