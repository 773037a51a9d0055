/- The reference's small functions: toInt, allIn, isIn. (Out of EvalA and WorkS.) -/
import Derived.Test.YtknphikoikdcjaaCondS
import Derived.Test.YtknphikoikdcjaaLawLists
set_option linter.unusedSimpArgs false
set_option linter.unusedVariables false
namespace Go.Proofs.Ytknphikoikdcjaa
open Go.RowKit

theorem toInt_any (b : Bool) (w : World) : Calls Try.prog 39 #[.bool b] w fun e w' => e = .returned (.int .i64 (tr b)) ∧ w = w' := by
  cases b
  · go_enter Try.func39, Try.ntmps39
    go_wp2
    go_ret
    exact ⟨rfl, rfl⟩
  · go_enter Try.func39, Try.ntmps39
    go_wp2
    go_ret
    exact ⟨rfl, rfl⟩
theorem all_hit {f : Int → Bool} {xs : List Int} {k : Nat} {x : Int} (hg : xs[k]? = some x) (h : f x = true) : (xs.drop k).all f = (xs.drop (k + 1)).all f := by
  rw [drop_cons2 hg, List.all_cons, h, Bool.true_and]
theorem all_miss {f : Int → Bool} {xs : List Int} {k : Nat} {x : Int} (hg : xs[k]? = some x) (h : f x = false) : (xs.drop k).all f = false := by
  rw [drop_cons2 hg, List.all_cons, h, Bool.false_and]
/-- All numbers lie in a range. -/
def allR (xs : List Int) (lo hi : Int) : Bool := xs.all fun x => inR x lo hi

set_option maxHeartbeats 400000 in
theorem allIn_any (lo hi n c : Nat) (A : Option Addr) (xs : List Int) (l h : Int) (w : World) (hr : Rd w lo hi 1 A n (ivs xs)) (hn : n ≤ 9223372036854775807) :
    Calls Try.prog 57 #[.slice A n c, .int .i64 l, .int .i64 h] w fun e w' => e = .returned (.bool (allR xs l h)) ∧ w = w' := by
  have HL := Lib.hid hr.len1
  go_enter Try.func57, Try.ntmps57
  go_wp2
  go_loop [7] (fun iv => ∃ (k : Nat), k ≤ n ∧ iv = .int .i64 k ∧ Hid (allR xs l h = allR (xs.drop k) l h))
     (fun iv => n - (intOf iv).toNat)
  case atStart => exact ⟨0, by omega, rfl, rfl⟩
  case round =>
    obtain ⟨k, hk, rfl, hS⟩ := hrel
    by_cases hlt : k < n
    · obtain ⟨b, off, x, rfl, _, _, hg, hc0⟩ := hr.one hlt
      by_cases hx : inR x l h = true
      · have HS := Lib.hid (hS.out.trans (all_hit (f := fun x => inR x l h) hg hx))
        clear hg
        go_wp2_with (go_at_call 36; refine (inRange_any _ _ _ _).mono ?_; rintro e w' ⟨rfl, rfl⟩)
        go_round
        case rel => exact ⟨k + 1, by omega, by go_num, HS⟩
        case measure => simp [intOf]; omega
      · have hx' : inR x l h = false := by simpa using hx
        have HS := Lib.hid (hS.out.trans (all_miss (f := fun x => inR x l h) hg hx'))
        clear hg hx
        go_wp2_with (go_at_call 36; refine (inRange_any _ _ _ _).mono ?_; rintro e w' ⟨rfl, rfl⟩)
        go_ret
        exact ⟨ret_bool HS.out.symm, rfl⟩
    · obtain rfl : k = n := by omega
      go_wp2
      go_ret
      exact ⟨ret_bool (by rw [hS.out, List.drop_of_length_le (by rw [HL.out]; omega)]; rfl), rfl⟩

end Go.Proofs.Ytknphikoikdcjaa
