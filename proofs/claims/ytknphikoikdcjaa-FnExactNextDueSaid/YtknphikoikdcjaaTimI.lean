/- How the program compares two timers: cmp.Compare, cmp.Or at int, compareTimers. -/
import Derived.Test.YtknphikoikdcjaaInstS
import Derived.Test.YtknphikoikdcjaaHeapMath
import Derived.Deep.RegionHeld3
set_option linter.unusedSimpArgs false
set_option linter.unusedVariables false
namespace Go.Proofs.Ytknphikoikdcjaa
open Go.RowKit

/-- How two numbers compare. -/
def cmpI (x y : Int) : Int := if x < y then -1 else if y < x then 1 else 0
/-- How two timers compare. -/
def cmpT (a b : Tm) : Int := if cmpI a.2 b.2 = 0 then cmpI a.1 b.1 else cmpI a.2 b.2
theorem cmpT_lt (a b : Tm) : decide (cmpT a b < 0) = tlt a b := by
  rw [Bool.eq_iff_iff, decide_eq_true_iff, tlt_iff]
  unfold cmpT cmpI
  split <;> split at * <;> (try split at *) <;> (try split) <;> omega
/-- The first that is not 0. -/
def firstNZ : List Int → Int
  | [] => 0
  | x :: l => if x = 0 then firstNZ l else x
theorem firstNZ_hit {l : List Int} {k : Nat} {x : Int} (h : l[k]? = some x) (hx : x ≠ 0) : firstNZ (l.drop k) = x := by
  obtain ⟨hl, e⟩ := List.getElem?_eq_some_iff.1 h
  rw [List.drop_eq_getElem_cons hl, e, firstNZ, if_neg hx]
theorem firstNZ_miss {l : List Int} {k : Nat} {x : Int} (h : l[k]? = some x) (hx : x = 0) : firstNZ (l.drop k) = firstNZ (l.drop (k + 1)) := by
  obtain ⟨hl, e⟩ := List.getElem?_eq_some_iff.1 h
  rw [List.drop_eq_getElem_cons hl, e, firstNZ, if_pos hx]
theorem isNaN_any (x : Int) (w : World) : Calls Try.prog 85 #[.int .i64 x] w fun e w' => e = .returned (.bool false) ∧ w = w' := by
  have h : (x == x) = true := by simp
  go_enter Try.func85, Try.ntmps85
  go_wp2
  go_ret
  exact ⟨ret_bool (by simp), rfl⟩
theorem Compare_any (x y : Int) (w : World) : Calls Try.prog 78 #[.int .i64 x, .int .i64 y] w fun e w' => e = .returned (.int .i64 (cmpI x y)) ∧ w = w' := by
  by_cases h1 : x < y
  · have hr : cmpI x y = -1 := if_pos h1
    rw [hr]; clear hr
    go_enter Try.func78, Try.ntmps78
    go_wp2_with (go_at_call 85; refine (isNaN_any _ _).mono ?_; rintro e w' ⟨rfl, rfl⟩)
    go_ret
    exact ⟨rfl, rfl⟩
  · by_cases h2 : y < x
    · have hr : cmpI x y = 1 := by rw [cmpI, if_neg h1, if_pos h2]
      rw [hr]; clear hr
      go_enter Try.func78, Try.ntmps78
      go_wp2_with (go_at_call 85; refine (isNaN_any _ _).mono ?_; rintro e w' ⟨rfl, rfl⟩)
      go_ret
      exact ⟨rfl, rfl⟩
    · have hr : cmpI x y = 0 := by rw [cmpI, if_neg h1, if_neg h2]
      rw [hr]; clear hr
      go_enter Try.func78, Try.ntmps78
      go_wp2_with (go_at_call 85; refine (isNaN_any _ _).mono ?_; rintro e w' ⟨rfl, rfl⟩)
      go_ret
      exact ⟨rfl, rfl⟩
set_option maxHeartbeats 400000 in
theorem Or_any (lo hi n c : Nat) (A : Option Addr) (xs : List Int) (w : World) (hr : Rd w lo hi 1 A n (ivs xs)) (hn : n ≤ 1048576) :
    Calls Try.prog 77 #[.slice A n c] w fun e w' => e = .returned (.int .i64 (firstNZ xs)) ∧ w = w' := by
  have HL := Lib.hid hr.len1
  go_enter Try.func77, Try.ntmps77
  go_wp2
  go_loop [8] (fun iv => ∃ (k : Nat), k ≤ n ∧ iv = .int .i64 k ∧ Hid (firstNZ xs = firstNZ (xs.drop k)))
     (fun iv => n - (intOf iv).toNat)
  case atStart => exact ⟨0, by omega, rfl, rfl⟩
  case round =>
    obtain ⟨k, hk, rfl, hS⟩ := hrel
    by_cases hlt : k < n
    · obtain ⟨b, off, x, rfl, _, _, hg, hc0⟩ := hr.one hlt
      by_cases hx : x = 0
      · have HS := Lib.hid (hS.out.trans (firstNZ_miss hg hx))
        subst hx
        clear hg
        go_wp2
        go_round
        case rel => exact ⟨k + 1, by omega, by go_num, HS⟩
        case measure => simp [intOf]; omega
      · have HS := Lib.hid (hS.out.trans (firstNZ_hit hg hx))
        have hx1 : (x == 0) = false := by simpa using hx
        clear hg hx
        go_wp2
        go_ret
        exact ⟨by rw [HS.out]; rfl, rfl⟩
    · obtain rfl : k = n := by omega
      go_wp2
      go_ret
      exact ⟨by rw [hS.out, List.drop_of_length_le (by rw [HL.out]; omega)]; rfl, rfl⟩
