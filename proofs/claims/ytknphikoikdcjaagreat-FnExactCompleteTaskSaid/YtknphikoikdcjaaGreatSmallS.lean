/- The reference's small functions: toInt, allIn, isIn. (Out of EvalA and WorkS.) -/
import Derived.Test.YtknphikoikdcjaaGreatCondS
import Derived.Test.YtknphikoikdcjaaGreatLawLists
set_option linter.unusedSimpArgs false
set_option linter.unusedVariables false
namespace Go.Proofs.YtknphikoikdcjaaGreat
open Go.RowKit

theorem toInt_any (b : Bool) (w : World) : Calls Tryz.prog 144 #[.bool b] w fun e w' => e = .returned (.int .i64 (tr b)) ∧ w = w' := by
  cases b
  · go_enter Tryz.func144, Tryz.ntmps144
    go_wp2
    go_ret
    exact ⟨rfl, rfl⟩
  · go_enter Tryz.func144, Tryz.ntmps144
    go_wp2
    go_ret
    exact ⟨rfl, rfl⟩
theorem all_hit {f : Int → Bool} {xs : List Int} {k : Nat} {x : Int} (hg : xs[k]? = some x) (h : f x = true) : (xs.drop k).all f = (xs.drop (k + 1)).all f := by
  rw [drop_cons2 hg, List.all_cons, h, Bool.true_and]
theorem all_miss {f : Int → Bool} {xs : List Int} {k : Nat} {x : Int} (hg : xs[k]? = some x) (h : f x = false) : (xs.drop k).all f = false := by
  rw [drop_cons2 hg, List.all_cons, h, Bool.false_and]
/-- All numbers lie in a range. -/
def allR (xs : List Int) (lo hi : Int) : Bool := xs.all fun x => inR x lo hi

set_option maxHeartbeats 400000 in
theorem allIn_any (lo hi n c : Nat) (A : Option Addr) (xs : List Int) (l h : Int) (w : World) (hr : Rd w lo hi 1 A n (ivs xs)) (hn : n ≤ 9223372036854775807) :
    Calls Tryz.prog 145 #[.slice A n c, .int .i64 l, .int .i64 h] w fun e w' => e = .returned (.bool (allR xs l h)) ∧ w = w' := by
  have HL := Lib.hid hr.len1
  go_enter Tryz.func145, Tryz.ntmps145
  go_wp2
  go_loop [7] (fun iv => ∃ (k : Nat), k ≤ n ∧ iv = .int .i64 k ∧ Hid (allR xs l h = allR (xs.drop k) l h))
     (fun iv => n - (intOf iv).toNat)
  case atStart => exact ⟨0, by omega, rfl, rfl⟩
  case round =>
    obtain ⟨k, hk, rfl, hS⟩ := hrel
    by_cases hlt : k < n
    · obtain ⟨b, off, x, rfl, _, _, hg, hc0⟩ := hr.one hlt
      by_cases hx : inR x l h = true
      · have HS := Lib.hid (hS.out.trans (all_hit (f := fun x => inR x l h) hg hx))
        clear hg
        go_wp2_with (go_at_call 101; refine (inRange_any _ _ _ _).mono ?_; rintro e w' ⟨rfl, rfl⟩)
        go_round
        case rel => exact ⟨k + 1, by omega, by go_num, HS⟩
        case measure => simp [intOf]; omega
      · have hx' : inR x l h = false := by simpa using hx
        have HS := Lib.hid (hS.out.trans (all_miss (f := fun x => inR x l h) hg hx'))
        clear hg hx
        go_wp2_with (go_at_call 101; refine (inRange_any _ _ _ _).mono ?_; rintro e w' ⟨rfl, rfl⟩)
        go_ret
        exact ⟨ret_bool HS.out.symm, rfl⟩
    · obtain rfl : k = n := by omega
      go_wp2
      go_ret
      exact ⟨ret_bool (by rw [hS.out, List.drop_of_length_le (by rw [HL.out]; omega)]; rfl), rfl⟩

set_option maxHeartbeats 400000 in
theorem isInS_any (lo hi n c : Nat) (A : Option Addr) (xs : List Int) (m : Int) (w : World) (hr : Rd w lo hi 1 A n (ivs xs)) (hn : n ≤ 1048576) :
    Calls Tryz.prog 93 #[.slice A n c, .int .i64 m] w fun e w' => e = .returned (.bool (inL xs m)) ∧ w = w' := by
  have HL := Lib.hid hr.len1
  go_enter Tryz.func93, Tryz.ntmps93
  go_wp2
  go_loop [5] (fun iv => ∃ (k : Nat), k ≤ n ∧ iv = .int .i64 k ∧ Hid (inL xs m = inL (xs.drop k) m))
     (fun iv => n - (intOf iv).toNat)
  case atStart => exact ⟨0, by omega, rfl, rfl⟩
  case round =>
    obtain ⟨k, hk, rfl, hS⟩ := hrel
    by_cases hlt : k < n
    · obtain ⟨b, off, x, rfl, _, _, hg, hc0⟩ := hr.one hlt
      have Hg := Lib.hid hg; clear hg
      by_cases he : x = m
      · subst he
        go_wp2
        go_ret
        exact ⟨ret_bool (by rw [hS.out, inL_hit Hg.out]), rfl⟩
      · have he1 : (x == m) = false := by simpa using he
        have HS := Lib.hid (hS.out.trans (inL_miss Hg.out he))
        clear he
        go_wp2
        go_round
        case rel => exact ⟨k + 1, by omega, by go_num, HS⟩
        case measure => simp [intOf]; omega
    · obtain rfl : k = n := by omega
      go_wp2
      go_ret
      exact ⟨ret_bool (by rw [hS.out, List.drop_of_length_le (by rw [HL.out]; omega)]; rfl), rfl⟩
end Go.Proofs.YtknphikoikdcjaaGreat
