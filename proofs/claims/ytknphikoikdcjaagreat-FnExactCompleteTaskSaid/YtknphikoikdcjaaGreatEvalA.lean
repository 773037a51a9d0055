/- Merged: EvalLeaf, EvalVals. -/
import Derived.Test.YtknphikoikdcjaaGreatBase
import Derived.Test.YtknphikoikdcjaaGreatCondS
import Derived.Test.YtknphikoikdcjaaGreatSmallS
import Derived.Test.YtknphikoikdcjaaGreatCondI
import Derived.Lib.MinMax
/- The small functions of the evaluation, the specification's and the program's. -/
set_option linter.unusedSimpArgs false
set_option linter.unusedVariables false
namespace Go.Proofs.YtknphikoikdcjaaGreat
open Go.RowKit

theorem truth_any (b : Bool) (w : World) : Calls Tryz.prog 244 #[.bool b] w fun e w' => e = .returned (.int .i64 (tr b)) ∧ w = w' := by
  cases b
  · go_enter Tryz.func244, Tryz.ntmps244
    go_wp2
    go_ret
    exact ⟨rfl, rfl⟩
  · go_enter Tryz.func244, Tryz.ntmps244
    go_wp2
    go_ret
    exact ⟨rfl, rfl⟩
theorem limit_any (n : Int) (w : World) : Calls Tryz.prog 213 #[.int .i64 n] w fun e w' => e = .returned (.int .i64 (lim n)) ∧ w = w' := by
  have hl : max (-9999) (min 9999 n) = lim n := by unfold lim; split <;> (try split) <;> omega
  have HL := Lib.hid hl; clear hl
  go_enter Tryz.func213, Tryz.ntmps213
  go_wp2
  go_ret
  exact ⟨ret_int HL.out, rfl⟩
theorem limited_any (n : Int) (w : World) : Calls Tryz.prog 247 #[.int .i64 n] w fun e w' => e = .returned (.int .i64 (lim n)) ∧ w = w' := by
  have hl : min (max n (-9999)) 9999 = lim n := by unfold lim; split <;> (try split) <;> omega
  have HL := Lib.hid hl; clear hl
  go_enter Tryz.func247, Tryz.ntmps247
  go_wp2
  go_ret
  exact ⟨ret_int HL.out, rfl⟩

theorem operate_any (k a b : Int) (w : World) (ha : -9999 ≤ a ∧ a ≤ 9999) (hb : -9999 ≤ b ∧ b ≤ 9999) :
    Calls Tryz.prog 208 #[.int .i64 k, .int .i64 a, .int .i64 b] w fun e w' => e = .returned (.int .i64 (opv k a b)) ∧ w = w' := by
  obtain ⟨ha0, ha1⟩ := ha
  obtain ⟨hb0, hb1⟩ := hb
  by_cases h3 : k = 3
  · subst h3
    have hv : Hid (opv 3 a b = lim (a + b)) := by simp [Hid, opv]
    go_enter Tryz.func208, Tryz.ntmps208
    go_wp2_with (go_at_call 213; refine (limit_any _ _).mono ?_; rintro e w' ⟨rfl, rfl⟩)
    go_ret
    exact ⟨ret_int hv.out.symm, rfl⟩
  by_cases h4 : k = 4
  · subst h4
    have hv : Hid (opv 4 a b = lim (a - b)) := by simp [Hid, opv]
    clear h3
    go_enter Tryz.func208, Tryz.ntmps208
    go_wp2_with (go_at_call 213; refine (limit_any _ _).mono ?_; rintro e w' ⟨rfl, rfl⟩)
    go_ret
    exact ⟨ret_int hv.out.symm, rfl⟩
  have g3 : (k == 3) = false := by simpa using h3
  have g4 : (k == 4) = false := by simpa using h4
  by_cases h5 : k = 5
  · subst h5
    clear h3 h4 g3 g4
    by_cases hz : a = 0
    · subst hz
      have hv : Hid (opv 5 0 b = tr false) := by simp [Hid, opv]
      go_enter Tryz.func208, Tryz.ntmps208
      go_wp2_with (go_at_call 144; refine (toInt_any _ _).mono ?_; rintro e w' ⟨rfl, rfl⟩)
      go_ret
      exact ⟨ret_int hv.out.symm, rfl⟩
    · have g : (a != 0) = true := by simpa using hz
      have g' : (a == 0) = false := by simpa using hz
      have hv : Hid (opv 5 a b = tr (b != 0)) := by simp [Hid, opv, g]
      go_enter Tryz.func208, Tryz.ntmps208
      go_wp2_with (go_at_call 144; refine (toInt_any _ _).mono ?_; rintro e w' ⟨rfl, rfl⟩)
      go_ret
      exact ⟨ret_int (by rw [hv.out]), rfl⟩
  have g5 : (k == 5) = false := by simpa using h5
  by_cases h6 : k = 6
  · subst h6
    clear h3 h4 h5 g3 g4 g5
    by_cases hz : a = 0
    · subst hz
      have hv : Hid (opv 6 0 b = tr (b != 0)) := by simp [Hid, opv]
      go_enter Tryz.func208, Tryz.ntmps208
      go_wp2_with (go_at_call 144; refine (toInt_any _ _).mono ?_; rintro e w' ⟨rfl, rfl⟩)
      go_ret
      exact ⟨ret_int (by rw [hv.out]), rfl⟩
    · have g : (a != 0) = true := by simpa using hz
      have g' : (a == 0) = false := by simpa using hz
      have hv : Hid (opv 6 a b = tr true) := by simp [Hid, opv, g]
      go_enter Tryz.func208, Tryz.ntmps208
      go_wp2_with (go_at_call 144; refine (toInt_any _ _).mono ?_; rintro e w' ⟨rfl, rfl⟩)
      go_ret
      exact ⟨ret_int hv.out.symm, rfl⟩
  have g6 : (k == 6) = false := by simpa using h6
  by_cases h7 : k = 7
  · subst h7
    clear h3 h4 h5 h6 g3 g4 g5 g6
    have hv : Hid (opv 7 a b = tr (decide (a < b))) := by simp [Hid, opv]
    go_enter Tryz.func208, Tryz.ntmps208
    go_wp2_with (go_at_call 144; refine (toInt_any _ _).mono ?_; rintro e w' ⟨rfl, rfl⟩)
    go_ret
    exact ⟨ret_int hv.out.symm, rfl⟩
  have g7 : (k == 7) = false := by simpa using h7
  have hv : Hid (opv k a b = tr (a == b)) := by simp [Hid, opv, h3, h4, h5, h6, h7]
  clear h3 h4 h5 h6 h7
  go_enter Tryz.func208, Tryz.ntmps208
  go_wp2_with (go_at_call 144; refine (toInt_any _ _).mono ?_; rintro e w' ⟨rfl, rfl⟩)
  go_ret
  exact ⟨ret_int hv.out.symm, rfl⟩
end Go.Proofs.YtknphikoikdcjaaGreat


/- Which values are valid; spec.eval and spec.EvalCondition. -/
namespace Go.Proofs.YtknphikoikdcjaaGreat
open Go.RowKit

theorem validValuesS_any (lo hi n c : Nat) (A : Option Addr) (vs : List Int) (w : World) (hr : Rd w lo hi 1 A n (ivs vs)) (hn : n ≤ 9223372036854775807) :
    Calls Tryz.prog 83 #[.slice A n c] w fun e w' => e = .returned (.bool (vVals vs)) ∧ w = w' := by
  have HL := Lib.hid hr.len1
  by_cases h4 : n = 4
  · have hv : Hid (vVals vs = allR vs (-9999) 9999) := by simp [Hid, vVals, allR, HL.out, h4]
    have h4' : ((n : Int) == 4) = true := by simp; omega
    clear h4
    go_enter Tryz.func83, Tryz.ntmps83
    go_wp2_with (fail)
    (with_reducible refine (allIn_any lo hi n c A vs _ _ w hr hn).mono ?_)
    rintro e w' ⟨rfl, rfl⟩
    go_wp2
    go_ret
    exact ⟨ret_bool hv.out.symm, rfl⟩
  · have hv : Hid (vVals vs = false) := by simp [Hid, vVals, HL.out, h4]
    have h4' : ((n : Int) == 4) = false := by simp; omega
    clear h4
    go_enter Tryz.func83, Tryz.ntmps83
    go_wp2
    go_ret
    exact ⟨ret_bool hv.out.symm, rfl⟩

set_option maxHeartbeats 400000 in
theorem validValuesI_any (lo hi n c : Nat) (A : Option Addr) (vs : List Int) (w : World) (hr : Rd w lo hi 1 A n (ivs vs)) (hn : n ≤ 9223372036854775807) :
    Calls Tryz.prog 87 #[.slice A n c] w fun e w' => e = .returned (.bool (vVals vs)) ∧ w = w' := by
  have HL := Lib.hid hr.len1
  by_cases h4 : n = 4
  · have hv : Hid (vVals vs = allR vs (-9999) 9999) := by simp [Hid, vVals, allR, HL.out, h4]
    have h4' : ((n : Int) != 4) = false := by simp; omega
    have hn4 : n ≤ 4 := by omega
    clear h4
    go_enter Tryz.func87, Tryz.ntmps87
    go_wp2
    go_loop [10] (fun iv => ∃ (k : Nat), k ≤ n ∧ iv = .int .i64 k ∧ Hid (allR vs (-9999) 9999 = allR (vs.drop k) (-9999) 9999))
       (fun iv => n - (intOf iv).toNat)
    case atStart => exact ⟨0, by omega, rfl, rfl⟩
    case round =>
      obtain ⟨k, hk, rfl, hS⟩ := hrel
      by_cases hlt : k < n
      · obtain ⟨b, off, x, rfl, _, _, hg, hc0⟩ := hr.one hlt
        by_cases hx : inR x (-9999) 9999 = true
        · have HS := Lib.hid (hS.out.trans (all_hit (f := fun x => inR x (-9999) 9999) hg hx))
          clear hg
          go_wp2_with (go_at_call 150; refine (validValue_any _ _).mono ?_; rintro e w' ⟨rfl, rfl⟩)
          go_round
          case rel => exact ⟨k + 1, by omega, by go_num, HS⟩
          case measure => simp [intOf]; omega
        · have hx' : inR x (-9999) 9999 = false := by simpa using hx
          have HS := Lib.hid (hS.out.trans (all_miss (f := fun x => inR x (-9999) 9999) hg hx'))
          clear hg hx
          go_wp2_with (go_at_call 150; refine (validValue_any _ _).mono ?_; rintro e w' ⟨rfl, rfl⟩)
          go_ret
          exact ⟨ret_bool (by rw [hv.out, HS.out]), rfl⟩
      · obtain rfl : k = n := by omega
        go_wp2
        go_ret
        exact ⟨ret_bool (by rw [hv.out, hS.out, List.drop_of_length_le (by rw [HL.out]; omega)]; rfl), rfl⟩
  · have hv : Hid (vVals vs = false) := by simp [Hid, vVals, HL.out, h4]
    have h4' : ((n : Int) != 4) = true := by simp; omega
    clear h4
    go_enter Tryz.func87, Tryz.ntmps87
    go_wp2
    go_ret
    exact ⟨ret_bool hv.out.symm, rfl⟩
end Go.Proofs.YtknphikoikdcjaaGreat

