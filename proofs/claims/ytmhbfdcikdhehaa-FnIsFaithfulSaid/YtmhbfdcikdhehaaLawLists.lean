/- The laws' own helpers on lists: equal lists, a number in a list. -/
import Derived.Test.YtmhbfdcikdhehaaRows
import Derived.Test.YtmhbfdcikdhehaaBase
import Derived.BigQuiet
import Derived.Deep.QuietTactic
import Derived.WalkLawsBesides
set_option linter.unusedSimpArgs false
set_option linter.unusedVariables false
namespace Go.Proofs.Ytmhbfdcikdhehaa
open Go.RowKit

set_option maxHeartbeats 400000 in
theorem equalInts_any (lo hi n c lo' hi' n' c' : Nat) (A A' : Option Addr) (xs ys : List Int) (w : World) (hr : Rd w lo hi 1 A n (ivs xs)) (hB : hi ≤ w.heap.size) (hn : n ≤ 1048576) (hr' : Rd w lo' hi' 1 A' n' (ivs ys)) (hB' : hi' ≤ w.heap.size) (hn' : n' ≤ 1048576) :
    Calls Try.prog 12 #[.slice A n c, .slice A' n' c'] w fun e w' => e = .returned (.bool (xs == ys)) ∧ Below w.heap.size w w' := by
  have HL := Lib.hid hr.len1
  have HL' := Lib.hid hr'.len1
  by_cases hnn : n = n'
  · subst hnn
    go_enter Try.func12, Try.ntmps12
    go_wp2
    go_loopw [5] (fun iv wr => ∃ (k : Nat), k ≤ n ∧ iv = .int .i64 k ∧ Hid ((xs == ys) = (xs.drop k == ys.drop k)) ∧ Below w.heap.size w wr)
       (fun iv _ => n - (intOf iv).toNat)
    case atStart => exact ⟨0, by omega, rfl, rfl, Below.refl _ _⟩
    case round =>
      obtain ⟨k, hk, rfl, hS, hbl⟩ := hrel
      by_cases hlt : k < n
      · have hsz := hbl.size
        obtain ⟨b, off, x, rfl, hbB, _, hg, hc0⟩ := (hr.keep hbl hB).one hlt
        obtain ⟨b', off', y, rfl, hbB', _, hg', hc0'⟩ := (hr'.keep hbl hB').one hlt
        have Hg := Lib.hid hg; clear hg
        have Hg' := Lib.hid hg'; clear hg'
        have hkn : (k : Int) < (n : Int) := by omega
        have hk0 : (0 : Int) ≤ (k : Int) := by omega
        go_wp2
        go_quiet (fail)
        by_cases he : x = y
        · subst he
          go_wp2
          go_roundw
          case rel =>
            refine ⟨k + 1, by omega, by go_num, ?_, up_drewN hbl _⟩
            rw [Hid, hS.out, drop_cons2 Hg.out, drop_cons2 Hg'.out]
            simp
          case measure => simp [intOf]; omega
        · have he1 : (x == y) = false := by simpa using he
          have he2 : (x != y) = true := by simpa using he
          have He := Lib.hid he
          clear he
          go_wp2
          go_ret
          refine ⟨ret_bool ?_, up_drewN hbl _⟩
          rw [hS.out, drop_cons2 Hg.out, drop_cons2 Hg'.out]
          symm
          rw [beq_eq_false_iff_ne]
          intro h
          injection h with h _
          exact He.out h
      · obtain rfl : k = n := by omega
        go_wp2
        go_ret
        refine ⟨ret_bool ?_, hbl⟩
        rw [hS.out, List.drop_of_length_le (by rw [HL.out]; omega), List.drop_of_length_le (by rw [HL'.out]; omega)]
        rfl
  · have hne : ((n : Int) != (n' : Int)) = true := by rw [bne_iff_ne]; omega
    go_enter Try.func12, Try.ntmps12
    go_wp2
    go_ret
    refine ⟨ret_bool ?_, Below.refl _ _⟩
    symm
    rw [beq_eq_false_iff_ne]
    intro h
    exact hnn (by rw [← HL.out, ← HL'.out, h])


/-- A number stands in a list. -/
def inL (xs : List Int) (m : Int) : Bool := xs.contains m
theorem inL_hit {xs : List Int} {k : Nat} {m : Int} (hg : xs[k]? = some m) : inL (xs.drop k) m = true := by rw [inL, drop_cons2 hg]; simp
theorem inL_miss {xs : List Int} {k : Nat} {x m : Int} (hg : xs[k]? = some x) (h : ¬ x = m) : inL (xs.drop k) m = inL (xs.drop (k + 1)) m := by
  rw [inL, inL, drop_cons2 hg, List.contains_cons, show (m == x) = false by simpa using fun e => h e.symm]; simp
end Go.Proofs.Ytmhbfdcikdhehaa
