/- impl.validFlow. -/
import Derived.Test.YthlcbdjjegageaaProcLeafI
import Derived.Test.YthlcbdjjegageaaCondParts
namespace Go.Proofs.Ythlcbdjjegageaa
open Go.RowKit

set_option maxHeartbeats 800000 in
theorem validFlowI_any (lo hi nn cn : Nat) (An : Option Addr) (ns : List (Int × Int)) (x y : Int) (lo' hi' m c' : Nat) (A' : Option Addr) (ps : List (Int × Int)) (w : World) (hrn : Rd w lo hi 2 An nn (pvs ns)) (hB : hi ≤ w.heap.size) (_hnn : nn ≤ 1048576)
    (hrp : Rd w lo' hi' 2 A' m (pvs ps)) (hB' : hi' ≤ w.heap.size) (hm : m ≤ 1048576) :
    Calls Try.prog 51 #[.slice An nn cn, .agg #[.int .i64 x, .int .i64 y, .slice A' m c']] w fun e w' => e = .returned (.bool (vFlow ns (x, y, ps))) ∧ Below w.heap.size w w' := by
  have hL := hrn.len2
  have hM := hrp.len2
  by_cases h1 : inR x 0 ((nn : Int) - 1) = true
  · by_cases h2 : inR y 0 ((nn : Int) - 1) = true
    · rcases Nat.eq_zero_or_pos m with rfl | hmp
      · have hp : ps = [] := List.eq_nil_of_length_eq_zero hM
        have hv : vFlow ns (x, y, ps) = true := by simp [vFlow, hL, h1, h2, hp]
        rw [hv]; clear hv hp hL hM
        go_enter Try.func51, Try.ntmps51
        go_wp2_with (go_at_call 81; refine (isNode_any _ _ _ _ _).mono ?_; rintro e w' ⟨rfl, rfl⟩)
        go_ret
        exact ⟨rfl, up_alloc (Below.refl _ _) _⟩
      · have hx := inR_iff.1 h1
        obtain ⟨hx0, hx1⟩ := hx
        obtain ⟨k, rfl⟩ := Int.eq_ofNat_of_zero_le hx0
        have hk : k < nn := by omega
        obtain ⟨b, off, kd, vl, rfl, hbB, _, hg, hc0, hc1⟩ := hrn.pair hk
        have hbw : b < w.heap.size := by omega
        have hm0 : ((m : Int) == 0) = false := by simp; omega
        have hk4 : (k : Int) < (nn : Int) := by omega
        have hpe : ps.isEmpty = false := by
          cases ps with
          | nil => simp at hM; omega
          | cons _ _ => rfl
        by_cases h5 : kd = 5
        · subst h5
          have hv : vFlow ns ((k : Int), y, ps) = vCond ps := by simp [vFlow, hL, h1, h2, hpe, hg]
          rw [hv]; clear hv hpe hg hL hM hx1 hk hmp hc1
          have hrq := hrp.keep (up_alloc (Below.refl _ w) (.cells #[.int .i64 (k : Int), .int .i64 y, .slice A' m c'] 40)) hB'
          have HRQ := Lib.hid hrq
          clear hrq
          go_enter Try.func51, Try.ntmps51
          go_wp2_with (go_at_call 81; refine (isNode_any _ _ _ _ _).mono ?_; rintro e w' ⟨rfl, rfl⟩)
          (with_reducible refine (ValidConditionI_any _ _ m c' A' ps _ HRQ.out (by simp; omega) hm).mono ?_)
          rintro e w2 ⟨rfl, hb2⟩
          have HB := Lib.hid (up (up_alloc (Below.refl _ _) _) hb2)
          clear hb2
          go_wp2
          go_ret
          exact ⟨rfl, HB.out⟩
        · have hv : vFlow ns ((k : Int), y, ps) = false := by simp [vFlow, hL, hpe, hg, h5]
          have h5' : (kd == 5) = false := by simpa using h5
          rw [hv]; clear hv hpe hg hL hM hx1 hk hmp hc1 h5
          go_enter Try.func51, Try.ntmps51
          go_wp2_with (go_at_call 81; refine (isNode_any _ _ _ _ _).mono ?_; rintro e w' ⟨rfl, rfl⟩)
          go_ret
          exact ⟨rfl, up_alloc (Below.refl _ _) _⟩
    · have h2' : inR y 0 ((nn : Int) - 1) = false := by simpa using h2
      have hv : vFlow ns (x, y, ps) = false := by simp [vFlow, hL, h2']
      rw [hv]; clear hv hL hM h2
      go_enter Try.func51, Try.ntmps51
      go_wp2_with (go_at_call 81; refine (isNode_any _ _ _ _ _).mono ?_; rintro e w' ⟨rfl, rfl⟩)
      go_ret
      exact ⟨rfl, up_alloc (Below.refl _ _) _⟩
  · have h1' : inR x 0 ((nn : Int) - 1) = false := by simpa using h1
    have hv : vFlow ns (x, y, ps) = false := by simp [vFlow, hL, h1']
    rw [hv]; clear hv hL hM h1
    go_enter Try.func51, Try.ntmps51
    go_wp2_with (go_at_call 81; refine (isNode_any _ _ _ _ _).mono ?_; rintro e w' ⟨rfl, rfl⟩)
    go_ret
    exact ⟨rfl, up_alloc (Below.refl _ _) _⟩
end Go.Proofs.Ythlcbdjjegageaa
