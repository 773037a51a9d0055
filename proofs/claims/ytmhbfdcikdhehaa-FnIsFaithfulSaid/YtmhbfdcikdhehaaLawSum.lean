/- laws.sum: the sum of small numbers. -/
import Derived.Test.YtmhbfdcikdhehaaLawLists
set_option linter.unusedSimpArgs false
set_option linter.unusedVariables false
namespace Go.Proofs.Ytmhbfdcikdhehaa
open Go.RowKit

theorem sum_drop1 (xs : List Int) {k : Nat} {x : Int} (h : xs[k]? = some x) : (xs.drop k).sum = x + (xs.drop (k + 1)).sum := by
  rw [drop_cons2 h, List.sum_cons]
set_option maxHeartbeats 400000 in
theorem sum_any (lo hi n c : Nat) (A : Option Addr) (xs : List Int) (w : World) (hr : Rd w lo hi 1 A n (ivs xs)) (hn : n ≤ 1048576) (h3 : ∀ z ∈ xs, 0 ≤ z ∧ z ≤ 1000) :
    Calls Try.prog 21 #[.slice A n c] w fun e w' => e = .returned (.int .i64 xs.sum) ∧ w = w' := by
  have HL := Lib.hid hr.len1
  have H3 := Lib.hid h3
  clear h3
  go_enter Try.func21, Try.ntmps21
  go_wp2
  go_loop [3, 4] (fun sv iv => ∃ (k : Nat) (s : Int), k ≤ n ∧ iv = .int .i64 k ∧ sv = .int .i64 s ∧ 0 ≤ s ∧ s ≤ 1000 * (k : Int) ∧ Hid (xs.sum = s + (xs.drop k).sum))
     (fun _ iv => n - (intOf iv).toNat)
  case atStart => exact ⟨0, 0, by omega, rfl, rfl, by omega, by omega, by rw [Hid]; simp⟩
  case round =>
    obtain ⟨k, s, hk, rfl, rfl, hs0, hs1, hS⟩ := hrel
    by_cases hlt : k < n
    · obtain ⟨b, off, x, rfl, _, _, hg, hc0⟩ := hr.one hlt
      have hx := H3.out x (List.mem_of_getElem? hg)
      have hx0 := hx.1
      have hx1 := hx.2
      clear hx
      have HS := Lib.hid (show xs.sum = (s + x) + (xs.drop (k + 1)).sum by rw [hS.out, sum_drop1 xs hg]; omega)
      have hwr : IntKind.i64.wrap (s + x) = s + x := IntWalk.i64_in _ (by omega)
      clear hg
      go_wp2
      go_round
      case rel => exact ⟨k + 1, s + x, by omega, by go_num, rfl, by omega, by omega, HS⟩
      case measure => simp [intOf]; omega
    · obtain rfl : k = n := by omega
      go_wp2
      go_ret
      exact ⟨ret_int (by rw [hS.out, List.drop_of_length_le (by rw [HL.out]; omega)]; simp), rfl⟩
end Go.Proofs.Ytmhbfdcikdhehaa
