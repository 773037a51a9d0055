/- The small functions of the evaluation, the specification's and the program's. -/
import Derived.Test.YthlcbdjjegageaaEvalMath
import Derived.Test.YthlcbdjjegageaaCondSpec
import Derived.Test.YthlcbdjjegageaaCondParts
import Derived.Lib.MinMax
namespace Go.Proofs.Ythlcbdjjegageaa
open Go.RowKit

theorem toInt_any (b : Bool) (w : World) : Calls Try.prog 94 #[.bool b] w fun e w' => e = .returned (.int .i64 (tr b)) ∧ w = w' := by
  cases b
  · go_enter Try.func94, Try.ntmps94
    go_wp2
    go_ret
    exact ⟨rfl, rfl⟩
  · go_enter Try.func94, Try.ntmps94
    go_wp2
    go_ret
    exact ⟨rfl, rfl⟩
theorem truth_any (b : Bool) (w : World) : Calls Try.prog 148 #[.bool b] w fun e w' => e = .returned (.int .i64 (tr b)) ∧ w = w' := by
  cases b
  · go_enter Try.func148, Try.ntmps148
    go_wp2
    go_ret
    exact ⟨rfl, rfl⟩
  · go_enter Try.func148, Try.ntmps148
    go_wp2
    go_ret
    exact ⟨rfl, rfl⟩
theorem limit_any (n : Int) (w : World) : Calls Try.prog 124 #[.int .i64 n] w fun e w' => e = .returned (.int .i64 (lim n)) ∧ w = w' := by
  have hl : max (-9999) (min 9999 n) = lim n := by unfold lim; split <;> (try split) <;> omega
  have HL := Lib.hid hl; clear hl
  go_enter Try.func124, Try.ntmps124
  go_wp2
  go_ret
  exact ⟨ret_int HL.out, rfl⟩
theorem limited_any (n : Int) (w : World) : Calls Try.prog 151 #[.int .i64 n] w fun e w' => e = .returned (.int .i64 (lim n)) ∧ w = w' := by
  have hl : min (max n (-9999)) 9999 = lim n := by unfold lim; split <;> (try split) <;> omega
  have HL := Lib.hid hl; clear hl
  go_enter Try.func151, Try.ntmps151
  go_wp2
  go_ret
  exact ⟨ret_int HL.out, rfl⟩

theorem operate_any (k a b : Int) (w : World) (ha : -9999 ≤ a ∧ a ≤ 9999) (hb : -9999 ≤ b ∧ b ≤ 9999) :
    Calls Try.prog 117 #[.int .i64 k, .int .i64 a, .int .i64 b] w fun e w' => e = .returned (.int .i64 (opv k a b)) ∧ w = w' := by
  obtain ⟨ha0, ha1⟩ := ha
  obtain ⟨hb0, hb1⟩ := hb
  by_cases h3 : k = 3
  · subst h3
    have hv : Hid (opv 3 a b = lim (a + b)) := by simp [Hid, opv]
    go_enter Try.func117, Try.ntmps117
    go_wp2_with (go_at_call 124; refine (limit_any _ _).mono ?_; rintro e w' ⟨rfl, rfl⟩)
    go_ret
    exact ⟨ret_int hv.out.symm, rfl⟩
  by_cases h4 : k = 4
  · subst h4
    have hv : Hid (opv 4 a b = lim (a - b)) := by simp [Hid, opv]
    clear h3
    go_enter Try.func117, Try.ntmps117
    go_wp2_with (go_at_call 124; refine (limit_any _ _).mono ?_; rintro e w' ⟨rfl, rfl⟩)
    go_ret
    exact ⟨ret_int hv.out.symm, rfl⟩
  have g3 : (k == 3) = false := by simpa using h3
  have g4 : (k == 4) = false := by simpa using h4
  by_cases h5 : k = 5
  · subst h5
    clear h3 h4 g3 g4
    by_cases hz : a = 0
    · subst hz
      have hv : Hid (opv 5 0 b = tr false) := by simp [Hid, opv]
      go_enter Try.func117, Try.ntmps117
      go_wp2_with (go_at_call 94; refine (toInt_any _ _).mono ?_; rintro e w' ⟨rfl, rfl⟩)
      go_ret
      exact ⟨ret_int hv.out.symm, rfl⟩
    · have g : (a != 0) = true := by simpa using hz
      have g' : (a == 0) = false := by simpa using hz
      have hv : Hid (opv 5 a b = tr (b != 0)) := by simp [Hid, opv, g]
      go_enter Try.func117, Try.ntmps117
      go_wp2_with (go_at_call 94; refine (toInt_any _ _).mono ?_; rintro e w' ⟨rfl, rfl⟩)
      go_ret
      exact ⟨ret_int (by rw [hv.out]), rfl⟩
  have g5 : (k == 5) = false := by simpa using h5
  by_cases h6 : k = 6
  · subst h6
    clear h3 h4 h5 g3 g4 g5
    by_cases hz : a = 0
    · subst hz
      have hv : Hid (opv 6 0 b = tr (b != 0)) := by simp [Hid, opv]
      go_enter Try.func117, Try.ntmps117
      go_wp2_with (go_at_call 94; refine (toInt_any _ _).mono ?_; rintro e w' ⟨rfl, rfl⟩)
      go_ret
      exact ⟨ret_int (by rw [hv.out]), rfl⟩
    · have g : (a != 0) = true := by simpa using hz
      have g' : (a == 0) = false := by simpa using hz
      have hv : Hid (opv 6 a b = tr true) := by simp [Hid, opv, g]
      go_enter Try.func117, Try.ntmps117
      go_wp2_with (go_at_call 94; refine (toInt_any _ _).mono ?_; rintro e w' ⟨rfl, rfl⟩)
      go_ret
      exact ⟨ret_int hv.out.symm, rfl⟩
  have g6 : (k == 6) = false := by simpa using h6
  by_cases h7 : k = 7
  · subst h7
    clear h3 h4 h5 h6 g3 g4 g5 g6
    have hv : Hid (opv 7 a b = tr (decide (a < b))) := by simp [Hid, opv]
    go_enter Try.func117, Try.ntmps117
    go_wp2_with (go_at_call 94; refine (toInt_any _ _).mono ?_; rintro e w' ⟨rfl, rfl⟩)
    go_ret
    exact ⟨ret_int hv.out.symm, rfl⟩
  have g7 : (k == 7) = false := by simpa using h7
  have hv : Hid (opv k a b = tr (a == b)) := by simp [Hid, opv, h3, h4, h5, h6, h7]
  clear h3 h4 h5 h6 h7
  go_enter Try.func117, Try.ntmps117
  go_wp2_with (go_at_call 94; refine (toInt_any _ _).mono ?_; rintro e w' ⟨rfl, rfl⟩)
  go_ret
  exact ⟨ret_int hv.out.symm, rfl⟩
end Go.Proofs.Ythlcbdjjegageaa
