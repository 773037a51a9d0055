/- The laws' own helpers on lists: equal lists, a number in a list. -/
import Derived.Test.YtobjcifoaejonacRows
import Derived.Test.YtobjcifoaejonacBase
import Derived.BigQuiet
import Derived.Deep.QuietTactic
import Derived.WalkLawsBesides
set_option linter.unusedSimpArgs false
set_option linter.unusedVariables false
namespace Go.Proofs.Ytobjcifoaejonac
open Go.RowKit



/-- A number stands in a list. -/
def inL (xs : List Int) (m : Int) : Bool := xs.contains m
theorem inL_hit {xs : List Int} {k : Nat} {m : Int} (hg : xs[k]? = some m) : inL (xs.drop k) m = true := by rw [inL, drop_cons2 hg]; simp
theorem inL_miss {xs : List Int} {k : Nat} {x m : Int} (hg : xs[k]? = some x) (h : ¬ x = m) : inL (xs.drop k) m = inL (xs.drop (k + 1)) m := by
  rw [inL, inL, drop_cons2 hg, List.contains_cons, show (m == x) = false by simpa using fun e => h e.symm]; simp
set_option maxHeartbeats 400000 in
theorem isIn_any (lo hi n c : Nat) (A : Option Addr) (xs : List Int) (m : Int) (w : World) (hr : Rd w lo hi 1 A n (ivs xs)) (hn : n ≤ 1048576) :
    Calls Try.prog 24 #[.slice A n c, .int .i64 m] w fun e w' => e = .returned (.bool (inL xs m)) ∧ w = w' := by
  have HL := Lib.hid hr.len1
  go_enter Try.func24, Try.ntmps24
  go_wp2
  go_loop [5] (fun iv => ∃ (k : Nat), k ≤ n ∧ iv = .int .i64 k ∧ Hid (inL xs m = inL (xs.drop k) m))
     (fun iv => n - (intOf iv).toNat)
  case atStart => exact ⟨0, by omega, rfl, rfl⟩
  case round =>
    obtain ⟨k, hk, rfl, hS⟩ := hrel
    by_cases hlt : k < n
    · obtain ⟨b, off, x, rfl, _, _, hg, hc0⟩ := hr.one hlt
      have Hg := Lib.hid hg; clear hg
      by_cases he : x = m
      · subst he
        go_wp2
        go_ret
        exact ⟨ret_bool (by rw [hS.out, inL_hit Hg.out]), rfl⟩
      · have he1 : (x == m) = false := by simpa using he
        have HS := Lib.hid (hS.out.trans (inL_miss Hg.out he))
        clear he
        go_wp2
        go_round
        case rel => exact ⟨k + 1, by omega, by go_num, HS⟩
        case measure => simp [intOf]; omega
    · obtain rfl : k = n := by omega
      go_wp2
      go_ret
      exact ⟨ret_bool (by rw [hS.out, List.drop_of_length_le (by rw [HL.out]; omega)]; rfl), rfl⟩
end Go.Proofs.Ytobjcifoaejonac
