/- Merged: EvalLeaf, EvalVals. -/
import Derived.Test.YtknphikoikdcjaaBase
import Derived.Test.YtknphikoikdcjaaCondS
import Derived.Test.YtknphikoikdcjaaSmallS
import Derived.Test.YtknphikoikdcjaaCondI
import Derived.Lib.MinMax
/- The small functions of the evaluation, the specification's and the program's. -/
set_option linter.unusedSimpArgs false
set_option linter.unusedVariables false
namespace Go.Proofs.Ytknphikoikdcjaa
open Go.RowKit

end Go.Proofs.Ytknphikoikdcjaa


/- Which values are valid; spec.eval and spec.EvalCondition. -/
namespace Go.Proofs.Ytknphikoikdcjaa
open Go.RowKit

theorem validValuesS_any (lo hi n c : Nat) (A : Option Addr) (vs : List Int) (w : World) (hr : Rd w lo hi 1 A n (ivs vs)) (hn : n ≤ 9223372036854775807) :
    Calls Try.prog 41 #[.slice A n c] w fun e w' => e = .returned (.bool (vVals vs)) ∧ w = w' := by
  have HL := Lib.hid hr.len1
  by_cases h4 : n = 4
  · have hv : Hid (vVals vs = allR vs (-9999) 9999) := by simp [Hid, vVals, allR, HL.out, h4]
    have h4' : ((n : Int) == 4) = true := by simp; omega
    clear h4
    go_enter Try.func41, Try.ntmps41
    go_wp2_with (fail)
    (with_reducible refine (allIn_any lo hi n c A vs _ _ w hr hn).mono ?_)
    rintro e w' ⟨rfl, rfl⟩
    go_wp2
    go_ret
    exact ⟨ret_bool hv.out.symm, rfl⟩
  · have hv : Hid (vVals vs = false) := by simp [Hid, vVals, HL.out, h4]
    have h4' : ((n : Int) == 4) = false := by simp; omega
    clear h4
    go_enter Try.func41, Try.ntmps41
    go_wp2
    go_ret
    exact ⟨ret_bool hv.out.symm, rfl⟩

set_option maxHeartbeats 400000 in
theorem validValuesI_any (lo hi n c : Nat) (A : Option Addr) (vs : List Int) (w : World) (hr : Rd w lo hi 1 A n (ivs vs)) (hn : n ≤ 9223372036854775807) :
    Calls Try.prog 51 #[.slice A n c] w fun e w' => e = .returned (.bool (vVals vs)) ∧ w = w' := by
  have HL := Lib.hid hr.len1
  by_cases h4 : n = 4
  · have hv : Hid (vVals vs = allR vs (-9999) 9999) := by simp [Hid, vVals, allR, HL.out, h4]
    have h4' : ((n : Int) != 4) = false := by simp; omega
    have hn4 : n ≤ 4 := by omega
    clear h4
    go_enter Try.func51, Try.ntmps51
    go_wp2
    go_loop [10] (fun iv => ∃ (k : Nat), k ≤ n ∧ iv = .int .i64 k ∧ Hid (allR vs (-9999) 9999 = allR (vs.drop k) (-9999) 9999))
       (fun iv => n - (intOf iv).toNat)
    case atStart => exact ⟨0, by omega, rfl, rfl⟩
    case round =>
      obtain ⟨k, hk, rfl, hS⟩ := hrel
      by_cases hlt : k < n
      · obtain ⟨b, off, x, rfl, _, _, hg, hc0⟩ := hr.one hlt
        by_cases hx : inR x (-9999) 9999 = true
        · have HS := Lib.hid (hS.out.trans (all_hit (f := fun x => inR x (-9999) 9999) hg hx))
          clear hg
          go_wp2_with (go_at_call 63; refine (validValue_any _ _).mono ?_; rintro e w' ⟨rfl, rfl⟩)
          go_round
          case rel => exact ⟨k + 1, by omega, by go_num, HS⟩
          case measure => simp [intOf]; omega
        · have hx' : inR x (-9999) 9999 = false := by simpa using hx
          have HS := Lib.hid (hS.out.trans (all_miss (f := fun x => inR x (-9999) 9999) hg hx'))
          clear hg hx
          go_wp2_with (go_at_call 63; refine (validValue_any _ _).mono ?_; rintro e w' ⟨rfl, rfl⟩)
          go_ret
          exact ⟨ret_bool (by rw [hv.out, HS.out]), rfl⟩
      · obtain rfl : k = n := by omega
        go_wp2
        go_ret
        exact ⟨ret_bool (by rw [hv.out, hS.out, List.drop_of_length_le (by rw [HL.out]; omega)]; rfl), rfl⟩
  · have hv : Hid (vVals vs = false) := by simp [Hid, vVals, HL.out, h4]
    have h4' : ((n : Int) != 4) = true := by simp; omega
    clear h4
    go_enter Try.func51, Try.ntmps51
    go_wp2
    go_ret
    exact ⟨ret_bool hv.out.symm, rfl⟩
end Go.Proofs.Ytknphikoikdcjaa

