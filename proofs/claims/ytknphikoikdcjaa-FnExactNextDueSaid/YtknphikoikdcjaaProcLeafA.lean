/- Merged: ProcLeafI, ProcFlowI. -/
import Derived.Test.YtknphikoikdcjaaCondI
import Derived.Test.YtknphikoikdcjaaBase
/- impl's leaves on nodes: fitsValue, fitsKind, isNode. -/
set_option linter.unusedSimpArgs false
set_option linter.unusedVariables false
namespace Go.Proofs.Ytknphikoikdcjaa
open Go.RowKit

theorem isNode_any (A : Option Addr) (n c : Nat) (x : Int) (w : World) :
    Calls Try.prog 83 #[.slice A n c, .int .i64 x] w fun e w' => e = .returned (.bool (inR x 0 ((n : Int) - 1))) ∧ w = w' := by
  by_cases h0 : 0 ≤ x
  · by_cases h1 : x < n
    · have hh : inR x 0 ((n : Int) - 1) = true := inR_iff.2 ⟨h0, by omega⟩
      rw [hh]; clear hh
      go_enter Try.func83, Try.ntmps83
      go_wp2
      go_ret
      exact ⟨rfl, rfl⟩
    · have hh : inR x 0 ((n : Int) - 1) = false := by simp [inR]; omega
      rw [hh]; clear hh
      go_enter Try.func83, Try.ntmps83
      go_wp2
      go_ret
      exact ⟨rfl, rfl⟩
  · have hh : inR x 0 ((n : Int) - 1) = false := by simp [inR]; omega
    rw [hh]; clear hh
    go_enter Try.func83, Try.ntmps83
    go_wp2
    go_ret
    exact ⟨rfl, rfl⟩

theorem fitsKind_any (x i o : Int) (w : World) :
    Calls Try.prog 82 #[.int .i64 x, .int .i64 i, .int .i64 o] w fun e w' => e = .returned (.bool (vKind x i o)) ∧ w = w' := by
  by_cases h0 : x = 0
  · subst h0
    by_cases hp : i = 0
    · by_cases hq : o = 1
      · have hr : vKind 0 i o = true := by simp [vKind, hp, hq]
        rw [hr]; clear hr
        have p : (i == 0) = true := by simpa using hp
        have q : (o == 1) = true := by simpa using hq
        clear hp hq
        go_enter Try.func82, Try.ntmps82
        go_wp2
        go_ret
        exact ⟨rfl, rfl⟩
      · have hr : vKind 0 i o = false := by simp [vKind, hp, hq]
        rw [hr]; clear hr
        have p : (i == 0) = true := by simpa using hp
        have q : (o == 1) = false := by simpa using hq
        clear hp hq
        go_enter Try.func82, Try.ntmps82
        go_wp2
        go_ret
        exact ⟨rfl, rfl⟩
    · have hr : vKind 0 i o = false := by simp [vKind, hp]
      rw [hr]; clear hr
      have p : (i == 0) = false := by simpa using hp
      clear hp
      go_enter Try.func82, Try.ntmps82
      go_wp2
      go_ret
      exact ⟨rfl, rfl⟩
  by_cases h1 : x = 1
  · subst h1
    by_cases hp : i = 1
    · by_cases hq : o = 0
      · have hr : vKind 1 i o = true := by simp [vKind, hp, hq]
        rw [hr]; clear hr
        have p : (i == 1) = true := by simpa using hp
        have q : (o == 0) = true := by simpa using hq
        clear hp hq
        go_enter Try.func82, Try.ntmps82
        go_wp2
        go_ret
        exact ⟨rfl, rfl⟩
      · have hr : vKind 1 i o = false := by simp [vKind, hp, hq]
        rw [hr]; clear hr
        have p : (i == 1) = true := by simpa using hp
        have q : (o == 0) = false := by simpa using hq
        clear hp hq
        go_enter Try.func82, Try.ntmps82
        go_wp2
        go_ret
        exact ⟨rfl, rfl⟩
    · have hr : vKind 1 i o = false := by simp [vKind, hp]
      rw [hr]; clear hr
      have p : (i == 1) = false := by simpa using hp
      clear hp
      go_enter Try.func82, Try.ntmps82
      go_wp2
      go_ret
      exact ⟨rfl, rfl⟩
  by_cases h2 : x = 2
  · subst h2
    by_cases hp : i = 1
    · by_cases hq : o = 1
      · have hr : vKind 2 i o = true := by simp [vKind, hp, hq]
        rw [hr]; clear hr
        have p : (i == 1) = true := by simpa using hp
        have q : (o == 1) = true := by simpa using hq
        clear hp hq
        go_enter Try.func82, Try.ntmps82
        go_wp2
        go_ret
        exact ⟨rfl, rfl⟩
      · have hr : vKind 2 i o = false := by simp [vKind, hp, hq]
        rw [hr]; clear hr
        have p : (i == 1) = true := by simpa using hp
        have q : (o == 1) = false := by simpa using hq
        clear hp hq
        go_enter Try.func82, Try.ntmps82
        go_wp2
        go_ret
        exact ⟨rfl, rfl⟩
    · have hr : vKind 2 i o = false := by simp [vKind, hp]
      rw [hr]; clear hr
      have p : (i == 1) = false := by simpa using hp
      clear hp
      go_enter Try.func82, Try.ntmps82
      go_wp2
      go_ret
      exact ⟨rfl, rfl⟩
  by_cases h3 : x = 3
  · subst h3
    by_cases hp : i = 1
    · by_cases hq : o = 1
      · have hr : vKind 3 i o = true := by simp [vKind, hp, hq]
        rw [hr]; clear hr
        have p : (i == 1) = true := by simpa using hp
        have q : (o == 1) = true := by simpa using hq
        clear hp hq
        go_enter Try.func82, Try.ntmps82
        go_wp2
        go_ret
        exact ⟨rfl, rfl⟩
      · have hr : vKind 3 i o = false := by simp [vKind, hp, hq]
        rw [hr]; clear hr
        have p : (i == 1) = true := by simpa using hp
        have q : (o == 1) = false := by simpa using hq
        clear hp hq
        go_enter Try.func82, Try.ntmps82
        go_wp2
        go_ret
        exact ⟨rfl, rfl⟩
    · have hr : vKind 3 i o = false := by simp [vKind, hp]
      rw [hr]; clear hr
      have p : (i == 1) = false := by simpa using hp
      clear hp
      go_enter Try.func82, Try.ntmps82
      go_wp2
      go_ret
      exact ⟨rfl, rfl⟩
  by_cases h4 : x = 4
  · subst h4
    by_cases hp : i = 1
    · by_cases hq : o = 1
      · have hr : vKind 4 i o = true := by simp [vKind, hp, hq]
        rw [hr]; clear hr
        have p : (i == 1) = true := by simpa using hp
        have q : (o == 1) = true := by simpa using hq
        clear hp hq
        go_enter Try.func82, Try.ntmps82
        go_wp2
        go_ret
        exact ⟨rfl, rfl⟩
      · have hr : vKind 4 i o = false := by simp [vKind, hp, hq]
        rw [hr]; clear hr
        have p : (i == 1) = true := by simpa using hp
        have q : (o == 1) = false := by simpa using hq
        clear hp hq
        go_enter Try.func82, Try.ntmps82
        go_wp2
        go_ret
        exact ⟨rfl, rfl⟩
    · have hr : vKind 4 i o = false := by simp [vKind, hp]
      rw [hr]; clear hr
      have p : (i == 1) = false := by simpa using hp
      clear hp
      go_enter Try.func82, Try.ntmps82
      go_wp2
      go_ret
      exact ⟨rfl, rfl⟩
  by_cases h5 : x = 5
  · subst h5
    by_cases hp : i = 1
    · by_cases hq : 2 ≤ o
      · have hr : vKind 5 i o = true := by simp [vKind, hp, hq]
        rw [hr]; clear hr
        have p : (i == 1) = true := by simpa using hp
        have q : decide (2 ≤ o) = true := by simpa using hq
        clear hp hq
        go_enter Try.func82, Try.ntmps82
        go_wp2
        go_ret
        exact ⟨rfl, rfl⟩
      · have hr : vKind 5 i o = false := by simp [vKind, hp, hq]
        rw [hr]; clear hr
        have p : (i == 1) = true := by simpa using hp
        have q : decide (2 ≤ o) = false := by simpa using hq
        clear hp hq
        go_enter Try.func82, Try.ntmps82
        go_wp2
        go_ret
        exact ⟨rfl, rfl⟩
    · have hr : vKind 5 i o = false := by simp [vKind, hp]
      rw [hr]; clear hr
      have p : (i == 1) = false := by simpa using hp
      clear hp
      go_enter Try.func82, Try.ntmps82
      go_wp2
      go_ret
      exact ⟨rfl, rfl⟩
  by_cases h6 : x = 6
  · subst h6
    by_cases hp : i = 1
    · by_cases hq : 2 ≤ o
      · have hr : vKind 6 i o = true := by simp [vKind, hp, hq]
        rw [hr]; clear hr
        have p : (i == 1) = true := by simpa using hp
        have q : decide (2 ≤ o) = true := by simpa using hq
        clear hp hq
        go_enter Try.func82, Try.ntmps82
        go_wp2
        go_ret
        exact ⟨rfl, rfl⟩
      · have hr : vKind 6 i o = false := by simp [vKind, hp, hq]
        rw [hr]; clear hr
        have p : (i == 1) = true := by simpa using hp
        have q : decide (2 ≤ o) = false := by simpa using hq
        clear hp hq
        go_enter Try.func82, Try.ntmps82
        go_wp2
        go_ret
        exact ⟨rfl, rfl⟩
    · have hr : vKind 6 i o = false := by simp [vKind, hp]
      rw [hr]; clear hr
      have p : (i == 1) = false := by simpa using hp
      clear hp
      go_enter Try.func82, Try.ntmps82
      go_wp2
      go_ret
      exact ⟨rfl, rfl⟩
  by_cases h7 : x = 7
  · subst h7
    by_cases hp : 2 ≤ i
    · by_cases hq : o = 1
      · have hr : vKind 7 i o = true := by simp [vKind, hp, hq]
        rw [hr]; clear hr
        have p : decide (2 ≤ i) = true := by simpa using hp
        have q : (o == 1) = true := by simpa using hq
        clear hp hq
        go_enter Try.func82, Try.ntmps82
        go_wp2
        go_ret
        exact ⟨rfl, rfl⟩
      · have hr : vKind 7 i o = false := by simp [vKind, hp, hq]
        rw [hr]; clear hr
        have p : decide (2 ≤ i) = true := by simpa using hp
        have q : (o == 1) = false := by simpa using hq
        clear hp hq
        go_enter Try.func82, Try.ntmps82
        go_wp2
        go_ret
        exact ⟨rfl, rfl⟩
    · have hr : vKind 7 i o = false := by simp [vKind, hp]
      rw [hr]; clear hr
      have p : decide (2 ≤ i) = false := by simpa using hp
      clear hp
      go_enter Try.func82, Try.ntmps82
      go_wp2
      go_ret
      exact ⟨rfl, rfl⟩
  by_cases h8 : x = 8
  · subst h8
    by_cases hp : 2 ≤ i
    · by_cases hq : o = 1
      · have hr : vKind 8 i o = true := by simp [vKind, hp, hq]
        rw [hr]; clear hr
        have p : decide (2 ≤ i) = true := by simpa using hp
        have q : (o == 1) = true := by simpa using hq
        clear hp hq
        go_enter Try.func82, Try.ntmps82
        go_wp2
        go_ret
        exact ⟨rfl, rfl⟩
      · have hr : vKind 8 i o = false := by simp [vKind, hp, hq]
        rw [hr]; clear hr
        have p : decide (2 ≤ i) = true := by simpa using hp
        have q : (o == 1) = false := by simpa using hq
        clear hp hq
        go_enter Try.func82, Try.ntmps82
        go_wp2
        go_ret
        exact ⟨rfl, rfl⟩
    · have hr : vKind 8 i o = false := by simp [vKind, hp]
      rw [hr]; clear hr
      have p : decide (2 ≤ i) = false := by simpa using hp
      clear hp
      go_enter Try.func82, Try.ntmps82
      go_wp2
      go_ret
      exact ⟨rfl, rfl⟩
  have hr : vKind x i o = false := by simp [vKind, h0, h1, h2, h3, h4, h5, h6, h7, h8]
  rw [hr]; clear hr
  have g0 : (x == 0) = false := by simpa using h0
  have g1 : (x == 1) = false := by simpa using h1
  have g2 : (x == 2) = false := by simpa using h2
  have g3 : (x == 3) = false := by simpa using h3
  have g4 : (x == 4) = false := by simpa using h4
  have g5 : (x == 5) = false := by simpa using h5
  have g6 : (x == 6) = false := by simpa using h6
  have g7 : (x == 7) = false := by simpa using h7
  have g8 : (x == 8) = false := by simpa using h8
  clear h0 h1 h2 h3 h4 h5 h6 h7 h8
  go_enter Try.func82, Try.ntmps82
  go_wp2
  go_ret
  exact ⟨rfl, rfl⟩

theorem fitsValue_any (x y : Int) (w : World) :
    Calls Try.prog 81 #[.agg #[.int .i64 x, .int .i64 y]] w fun e w' => e = .returned (.bool (vVal x y)) ∧ Below w.heap.size w w' := by
  by_cases h3 : x = 3
  · subst h3
    by_cases hp : 1 ≤ y
    · have hp1 : decide (1 ≤ y) = true := by simpa using hp
      by_cases hq : y ≤ 100
      · have hr : vVal 3 y = true := by simp [vVal, inR, hp, hq]
        rw [hr]; clear hr
        go_enter Try.func81, Try.ntmps81
        go_wp2
        go_ret
        exact ⟨rfl, up_alloc (Below.refl _ _) _⟩
      · have hr : vVal 3 y = false := by simp [vVal, inR]; omega
        rw [hr]; clear hr
        go_enter Try.func81, Try.ntmps81
        go_wp2
        go_ret
        exact ⟨rfl, up_alloc (Below.refl _ _) _⟩
    · have hr : vVal 3 y = false := by simp [vVal, inR]; omega
      rw [hr]; clear hr
      go_enter Try.func81, Try.ntmps81
      go_wp2
      go_ret
      exact ⟨rfl, up_alloc (Below.refl _ _) _⟩
  by_cases h4 : x = 4
  · subst h4
    by_cases hp : 0 ≤ y
    · have hp1 : decide (0 ≤ y) = true := by simpa using hp
      by_cases hq : y ≤ 9
      · have hr : vVal 4 y = true := by simp [vVal, inR, hp, hq]
        rw [hr]; clear hr
        go_enter Try.func81, Try.ntmps81
        go_wp2
        go_ret
        exact ⟨rfl, up_alloc (Below.refl _ _) _⟩
      · have hr : vVal 4 y = false := by simp [vVal, inR]; omega
        rw [hr]; clear hr
        go_enter Try.func81, Try.ntmps81
        go_wp2
        go_ret
        exact ⟨rfl, up_alloc (Below.refl _ _) _⟩
    · have hr : vVal 4 y = false := by simp [vVal, inR]; omega
      rw [hr]; clear hr
      go_enter Try.func81, Try.ntmps81
      go_wp2
      go_ret
      exact ⟨rfl, up_alloc (Below.refl _ _) _⟩
  have g3 : (x == 3) = false := by simpa using h3
  have g4 : (x == 4) = false := by simpa using h4
  have hr : vVal x y = (y == 0) := by simp [vVal, h3, h4]; rfl
  rw [hr]; clear hr
  clear h3 h4
  go_enter Try.func81, Try.ntmps81
  go_wp2
  go_ret
  exact ⟨rfl, up_alloc (Below.refl _ _) _⟩
end Go.Proofs.Ytknphikoikdcjaa


/- impl.validFlow. -/
namespace Go.Proofs.Ytknphikoikdcjaa
open Go.RowKit

set_option maxHeartbeats 800000 in
theorem validFlowI_any (lo hi nn cn : Nat) (An : Option Addr) (ns : List (Int × Int)) (x y : Int) (lo' hi' m c' : Nat) (A' : Option Addr) (ps : List (Int × Int)) (w : World) (hrn : Rd w lo hi 2 An nn (pvs ns)) (hB : hi ≤ w.heap.size) (_hnn : nn ≤ 1048576)
    (hrp : Rd w lo' hi' 2 A' m (pvs ps)) (hB' : hi' ≤ w.heap.size) (hm : m ≤ 1048576) :
    Calls Try.prog 80 #[.slice An nn cn, .agg #[.int .i64 x, .int .i64 y, .slice A' m c']] w fun e w' => e = .returned (.bool (vFlow ns (x, y, ps))) ∧ Below w.heap.size w w' := by
  have hL := hrn.len2
  have hM := hrp.len2
  by_cases h1 : inR x 0 ((nn : Int) - 1) = true
  · by_cases h2 : inR y 0 ((nn : Int) - 1) = true
    · rcases Nat.eq_zero_or_pos m with rfl | hmp
      · have hp : ps = [] := List.eq_nil_of_length_eq_zero hM
        have hv : vFlow ns (x, y, ps) = true := by simp [vFlow, hL, h1, h2, hp]
        rw [hv]; clear hv hp hL hM
        go_enter Try.func80, Try.ntmps80
        go_wp2_with (go_at_call 83; refine (isNode_any _ _ _ _ _).mono ?_; rintro e w' ⟨rfl, rfl⟩)
        go_ret
        exact ⟨rfl, up_alloc (Below.refl _ _) _⟩
      · have hx := inR_iff.1 h1
        obtain ⟨hx0, hx1⟩ := hx
        obtain ⟨k, rfl⟩ := Int.eq_ofNat_of_zero_le hx0
        have hk : k < nn := by omega
        obtain ⟨b, off, kd, vl, rfl, hbB, _, hg, hc0, hc1⟩ := hrn.pair hk
        have hbw : b < w.heap.size := by omega
        have hm0 : ((m : Int) == 0) = false := by simp; omega
        have hk4 : (k : Int) < (nn : Int) := by omega
        have hpe : ps.isEmpty = false := by
          cases ps with
          | nil => simp at hM; omega
          | cons _ _ => rfl
        by_cases h5 : kd = 5
        · subst h5
          have hv : vFlow ns ((k : Int), y, ps) = vCond ps := by simp [vFlow, hL, h1, h2, hpe, hg]
          rw [hv]; clear hv hpe hg hL hM hx1 hk hmp hc1
          have hrq := hrp.keep (up_alloc (Below.refl _ w) (.cells #[.int .i64 (k : Int), .int .i64 y, .slice A' m c'] 83)) hB'
          have HRQ := Lib.hid hrq
          clear hrq
          go_enter Try.func80, Try.ntmps80
          go_wp2_with (go_at_call 83; refine (isNode_any _ _ _ _ _).mono ?_; rintro e w' ⟨rfl, rfl⟩)
          (with_reducible refine (ValidConditionI_any _ _ m c' A' ps _ HRQ.out (by simp; omega) hm).mono ?_)
          rintro e w2 ⟨rfl, hb2⟩
          have HB := Lib.hid (up (up_alloc (Below.refl _ _) _) hb2)
          clear hb2
          go_wp2
          go_ret
          exact ⟨rfl, HB.out⟩
        · have hv : vFlow ns ((k : Int), y, ps) = false := by simp [vFlow, hL, hpe, hg, h5]
          have h5' : (kd == 5) = false := by simpa using h5
          rw [hv]; clear hv hpe hg hL hM hx1 hk hmp hc1 h5
          go_enter Try.func80, Try.ntmps80
          go_wp2_with (go_at_call 83; refine (isNode_any _ _ _ _ _).mono ?_; rintro e w' ⟨rfl, rfl⟩)
          go_ret
          exact ⟨rfl, up_alloc (Below.refl _ _) _⟩
    · have h2' : inR y 0 ((nn : Int) - 1) = false := by simpa using h2
      have hv : vFlow ns (x, y, ps) = false := by simp [vFlow, hL, h2']
      rw [hv]; clear hv hL hM h2
      go_enter Try.func80, Try.ntmps80
      go_wp2_with (go_at_call 83; refine (isNode_any _ _ _ _ _).mono ?_; rintro e w' ⟨rfl, rfl⟩)
      go_ret
      exact ⟨rfl, up_alloc (Below.refl _ _) _⟩
  · have h1' : inR x 0 ((nn : Int) - 1) = false := by simpa using h1
    have hv : vFlow ns (x, y, ps) = false := by simp [vFlow, hL, h1']
    rw [hv]; clear hv hL hM h1
    go_enter Try.func80, Try.ntmps80
    go_wp2_with (go_at_call 83; refine (isNode_any _ _ _ _ _).mono ?_; rintro e w' ⟨rfl, rfl⟩)
    go_ret
    exact ⟨rfl, up_alloc (Below.refl _ _) _⟩
end Go.Proofs.Ytknphikoikdcjaa

