/- Merged: ProcLeafA, ProcMapsI, ProcValidI. -/
import Derived.Test.YtknphikoikdcjaaGreatCondI
import Derived.Test.YtknphikoikdcjaaGreatBase
import Derived.Test.YtknphikoikdcjaaGreatProcSpecA
import Derived.Deep.RegionHeld3
import Derived.Deep.AppendLies
import Derived.Deep.DrawnRows
import Derived.Deep.RegionLaw
/- Merged: ProcLeafI, ProcFlowI. -/
/- impl's leaves on nodes: fitsValue, fitsKind, isNode. -/
set_option linter.unusedSimpArgs false
set_option linter.unusedVariables false
namespace Go.Proofs.YtknphikoikdcjaaGreat
open Go.RowKit

theorem isNode_any (A : Option Addr) (n c : Nat) (x : Int) (w : World) :
    Calls Tryz.prog 179 #[.slice A n c, .int .i64 x] w fun e w' => e = .returned (.bool (inR x 0 ((n : Int) - 1))) ∧ w = w' := by
  by_cases h0 : 0 ≤ x
  · by_cases h1 : x < n
    · have hh : inR x 0 ((n : Int) - 1) = true := inR_iff.2 ⟨h0, by omega⟩
      rw [hh]; clear hh
      go_enter Tryz.func179, Tryz.ntmps179
      go_wp2
      go_ret
      exact ⟨rfl, rfl⟩
    · have hh : inR x 0 ((n : Int) - 1) = false := by simp [inR]; omega
      rw [hh]; clear hh
      go_enter Tryz.func179, Tryz.ntmps179
      go_wp2
      go_ret
      exact ⟨rfl, rfl⟩
  · have hh : inR x 0 ((n : Int) - 1) = false := by simp [inR]; omega
    rw [hh]; clear hh
    go_enter Tryz.func179, Tryz.ntmps179
    go_wp2
    go_ret
    exact ⟨rfl, rfl⟩

theorem fitsKind_any (x i o : Int) (w : World) :
    Calls Tryz.prog 176 #[.int .i64 x, .int .i64 i, .int .i64 o] w fun e w' => e = .returned (.bool (vKind x i o)) ∧ w = w' := by
  by_cases h0 : x = 0
  · subst h0
    by_cases hp : i = 0
    · by_cases hq : o = 1
      · have hr : vKind 0 i o = true := by simp [vKind, hp, hq]
        rw [hr]; clear hr
        have p : (i == 0) = true := by simpa using hp
        have q : (o == 1) = true := by simpa using hq
        clear hp hq
        go_enter Tryz.func176, Tryz.ntmps176
        go_wp2
        go_ret
        exact ⟨rfl, rfl⟩
      · have hr : vKind 0 i o = false := by simp [vKind, hp, hq]
        rw [hr]; clear hr
        have p : (i == 0) = true := by simpa using hp
        have q : (o == 1) = false := by simpa using hq
        clear hp hq
        go_enter Tryz.func176, Tryz.ntmps176
        go_wp2
        go_ret
        exact ⟨rfl, rfl⟩
    · have hr : vKind 0 i o = false := by simp [vKind, hp]
      rw [hr]; clear hr
      have p : (i == 0) = false := by simpa using hp
      clear hp
      go_enter Tryz.func176, Tryz.ntmps176
      go_wp2
      go_ret
      exact ⟨rfl, rfl⟩
  by_cases h1 : x = 1
  · subst h1
    by_cases hp : i = 1
    · by_cases hq : o = 0
      · have hr : vKind 1 i o = true := by simp [vKind, hp, hq]
        rw [hr]; clear hr
        have p : (i == 1) = true := by simpa using hp
        have q : (o == 0) = true := by simpa using hq
        clear hp hq
        go_enter Tryz.func176, Tryz.ntmps176
        go_wp2
        go_ret
        exact ⟨rfl, rfl⟩
      · have hr : vKind 1 i o = false := by simp [vKind, hp, hq]
        rw [hr]; clear hr
        have p : (i == 1) = true := by simpa using hp
        have q : (o == 0) = false := by simpa using hq
        clear hp hq
        go_enter Tryz.func176, Tryz.ntmps176
        go_wp2
        go_ret
        exact ⟨rfl, rfl⟩
    · have hr : vKind 1 i o = false := by simp [vKind, hp]
      rw [hr]; clear hr
      have p : (i == 1) = false := by simpa using hp
      clear hp
      go_enter Tryz.func176, Tryz.ntmps176
      go_wp2
      go_ret
      exact ⟨rfl, rfl⟩
  by_cases h2 : x = 2
  · subst h2
    by_cases hp : i = 1
    · by_cases hq : o = 1
      · have hr : vKind 2 i o = true := by simp [vKind, hp, hq]
        rw [hr]; clear hr
        have p : (i == 1) = true := by simpa using hp
        have q : (o == 1) = true := by simpa using hq
        clear hp hq
        go_enter Tryz.func176, Tryz.ntmps176
        go_wp2
        go_ret
        exact ⟨rfl, rfl⟩
      · have hr : vKind 2 i o = false := by simp [vKind, hp, hq]
        rw [hr]; clear hr
        have p : (i == 1) = true := by simpa using hp
        have q : (o == 1) = false := by simpa using hq
        clear hp hq
        go_enter Tryz.func176, Tryz.ntmps176
        go_wp2
        go_ret
        exact ⟨rfl, rfl⟩
    · have hr : vKind 2 i o = false := by simp [vKind, hp]
      rw [hr]; clear hr
      have p : (i == 1) = false := by simpa using hp
      clear hp
      go_enter Tryz.func176, Tryz.ntmps176
      go_wp2
      go_ret
      exact ⟨rfl, rfl⟩
  by_cases h3 : x = 3
  · subst h3
    by_cases hp : i = 1
    · by_cases hq : o = 1
      · have hr : vKind 3 i o = true := by simp [vKind, hp, hq]
        rw [hr]; clear hr
        have p : (i == 1) = true := by simpa using hp
        have q : (o == 1) = true := by simpa using hq
        clear hp hq
        go_enter Tryz.func176, Tryz.ntmps176
        go_wp2
        go_ret
        exact ⟨rfl, rfl⟩
      · have hr : vKind 3 i o = false := by simp [vKind, hp, hq]
        rw [hr]; clear hr
        have p : (i == 1) = true := by simpa using hp
        have q : (o == 1) = false := by simpa using hq
        clear hp hq
        go_enter Tryz.func176, Tryz.ntmps176
        go_wp2
        go_ret
        exact ⟨rfl, rfl⟩
    · have hr : vKind 3 i o = false := by simp [vKind, hp]
      rw [hr]; clear hr
      have p : (i == 1) = false := by simpa using hp
      clear hp
      go_enter Tryz.func176, Tryz.ntmps176
      go_wp2
      go_ret
      exact ⟨rfl, rfl⟩
  by_cases h4 : x = 4
  · subst h4
    by_cases hp : i = 1
    · by_cases hq : o = 1
      · have hr : vKind 4 i o = true := by simp [vKind, hp, hq]
        rw [hr]; clear hr
        have p : (i == 1) = true := by simpa using hp
        have q : (o == 1) = true := by simpa using hq
        clear hp hq
        go_enter Tryz.func176, Tryz.ntmps176
        go_wp2
        go_ret
        exact ⟨rfl, rfl⟩
      · have hr : vKind 4 i o = false := by simp [vKind, hp, hq]
        rw [hr]; clear hr
        have p : (i == 1) = true := by simpa using hp
        have q : (o == 1) = false := by simpa using hq
        clear hp hq
        go_enter Tryz.func176, Tryz.ntmps176
        go_wp2
        go_ret
        exact ⟨rfl, rfl⟩
    · have hr : vKind 4 i o = false := by simp [vKind, hp]
      rw [hr]; clear hr
      have p : (i == 1) = false := by simpa using hp
      clear hp
      go_enter Tryz.func176, Tryz.ntmps176
      go_wp2
      go_ret
      exact ⟨rfl, rfl⟩
  by_cases h5 : x = 5
  · subst h5
    by_cases hp : i = 1
    · by_cases hq : 2 ≤ o
      · have hr : vKind 5 i o = true := by simp [vKind, hp, hq]
        rw [hr]; clear hr
        have p : (i == 1) = true := by simpa using hp
        have q : decide (2 ≤ o) = true := by simpa using hq
        clear hp hq
        go_enter Tryz.func176, Tryz.ntmps176
        go_wp2
        go_ret
        exact ⟨rfl, rfl⟩
      · have hr : vKind 5 i o = false := by simp [vKind, hp, hq]
        rw [hr]; clear hr
        have p : (i == 1) = true := by simpa using hp
        have q : decide (2 ≤ o) = false := by simpa using hq
        clear hp hq
        go_enter Tryz.func176, Tryz.ntmps176
        go_wp2
        go_ret
        exact ⟨rfl, rfl⟩
    · have hr : vKind 5 i o = false := by simp [vKind, hp]
      rw [hr]; clear hr
      have p : (i == 1) = false := by simpa using hp
      clear hp
      go_enter Tryz.func176, Tryz.ntmps176
      go_wp2
      go_ret
      exact ⟨rfl, rfl⟩
  by_cases h6 : x = 6
  · subst h6
    by_cases hp : i = 1
    · by_cases hq : 2 ≤ o
      · have hr : vKind 6 i o = true := by simp [vKind, hp, hq]
        rw [hr]; clear hr
        have p : (i == 1) = true := by simpa using hp
        have q : decide (2 ≤ o) = true := by simpa using hq
        clear hp hq
        go_enter Tryz.func176, Tryz.ntmps176
        go_wp2
        go_ret
        exact ⟨rfl, rfl⟩
      · have hr : vKind 6 i o = false := by simp [vKind, hp, hq]
        rw [hr]; clear hr
        have p : (i == 1) = true := by simpa using hp
        have q : decide (2 ≤ o) = false := by simpa using hq
        clear hp hq
        go_enter Tryz.func176, Tryz.ntmps176
        go_wp2
        go_ret
        exact ⟨rfl, rfl⟩
    · have hr : vKind 6 i o = false := by simp [vKind, hp]
      rw [hr]; clear hr
      have p : (i == 1) = false := by simpa using hp
      clear hp
      go_enter Tryz.func176, Tryz.ntmps176
      go_wp2
      go_ret
      exact ⟨rfl, rfl⟩
  by_cases h7 : x = 7
  · subst h7
    by_cases hp : 2 ≤ i
    · by_cases hq : o = 1
      · have hr : vKind 7 i o = true := by simp [vKind, hp, hq]
        rw [hr]; clear hr
        have p : decide (2 ≤ i) = true := by simpa using hp
        have q : (o == 1) = true := by simpa using hq
        clear hp hq
        go_enter Tryz.func176, Tryz.ntmps176
        go_wp2
        go_ret
        exact ⟨rfl, rfl⟩
      · have hr : vKind 7 i o = false := by simp [vKind, hp, hq]
        rw [hr]; clear hr
        have p : decide (2 ≤ i) = true := by simpa using hp
        have q : (o == 1) = false := by simpa using hq
        clear hp hq
        go_enter Tryz.func176, Tryz.ntmps176
        go_wp2
        go_ret
        exact ⟨rfl, rfl⟩
    · have hr : vKind 7 i o = false := by simp [vKind, hp]
      rw [hr]; clear hr
      have p : decide (2 ≤ i) = false := by simpa using hp
      clear hp
      go_enter Tryz.func176, Tryz.ntmps176
      go_wp2
      go_ret
      exact ⟨rfl, rfl⟩
  by_cases h8 : x = 8
  · subst h8
    by_cases hp : 2 ≤ i
    · by_cases hq : o = 1
      · have hr : vKind 8 i o = true := by simp [vKind, hp, hq]
        rw [hr]; clear hr
        have p : decide (2 ≤ i) = true := by simpa using hp
        have q : (o == 1) = true := by simpa using hq
        clear hp hq
        go_enter Tryz.func176, Tryz.ntmps176
        go_wp2
        go_ret
        exact ⟨rfl, rfl⟩
      · have hr : vKind 8 i o = false := by simp [vKind, hp, hq]
        rw [hr]; clear hr
        have p : decide (2 ≤ i) = true := by simpa using hp
        have q : (o == 1) = false := by simpa using hq
        clear hp hq
        go_enter Tryz.func176, Tryz.ntmps176
        go_wp2
        go_ret
        exact ⟨rfl, rfl⟩
    · have hr : vKind 8 i o = false := by simp [vKind, hp]
      rw [hr]; clear hr
      have p : decide (2 ≤ i) = false := by simpa using hp
      clear hp
      go_enter Tryz.func176, Tryz.ntmps176
      go_wp2
      go_ret
      exact ⟨rfl, rfl⟩
  have hr : vKind x i o = false := by simp [vKind, h0, h1, h2, h3, h4, h5, h6, h7, h8]
  rw [hr]; clear hr
  have g0 : (x == 0) = false := by simpa using h0
  have g1 : (x == 1) = false := by simpa using h1
  have g2 : (x == 2) = false := by simpa using h2
  have g3 : (x == 3) = false := by simpa using h3
  have g4 : (x == 4) = false := by simpa using h4
  have g5 : (x == 5) = false := by simpa using h5
  have g6 : (x == 6) = false := by simpa using h6
  have g7 : (x == 7) = false := by simpa using h7
  have g8 : (x == 8) = false := by simpa using h8
  clear h0 h1 h2 h3 h4 h5 h6 h7 h8
  go_enter Tryz.func176, Tryz.ntmps176
  go_wp2
  go_ret
  exact ⟨rfl, rfl⟩

theorem fitsValue_any (x y : Int) (w : World) :
    Calls Tryz.prog 175 #[.agg #[.int .i64 x, .int .i64 y]] w fun e w' => e = .returned (.bool (vVal x y)) ∧ Below w.heap.size w w' := by
  by_cases h3 : x = 3
  · subst h3
    by_cases hp : 1 ≤ y
    · have hp1 : decide (1 ≤ y) = true := by simpa using hp
      by_cases hq : y ≤ 100
      · have hr : vVal 3 y = true := by simp [vVal, inR, hp, hq]
        rw [hr]; clear hr
        go_enter Tryz.func175, Tryz.ntmps175
        go_wp2
        go_ret
        exact ⟨rfl, up_alloc (Below.refl _ _) _⟩
      · have hr : vVal 3 y = false := by simp [vVal, inR]; omega
        rw [hr]; clear hr
        go_enter Tryz.func175, Tryz.ntmps175
        go_wp2
        go_ret
        exact ⟨rfl, up_alloc (Below.refl _ _) _⟩
    · have hr : vVal 3 y = false := by simp [vVal, inR]; omega
      rw [hr]; clear hr
      go_enter Tryz.func175, Tryz.ntmps175
      go_wp2
      go_ret
      exact ⟨rfl, up_alloc (Below.refl _ _) _⟩
  by_cases h4 : x = 4
  · subst h4
    by_cases hp : 0 ≤ y
    · have hp1 : decide (0 ≤ y) = true := by simpa using hp
      by_cases hq : y ≤ 9
      · have hr : vVal 4 y = true := by simp [vVal, inR, hp, hq]
        rw [hr]; clear hr
        go_enter Tryz.func175, Tryz.ntmps175
        go_wp2
        go_ret
        exact ⟨rfl, up_alloc (Below.refl _ _) _⟩
      · have hr : vVal 4 y = false := by simp [vVal, inR]; omega
        rw [hr]; clear hr
        go_enter Tryz.func175, Tryz.ntmps175
        go_wp2
        go_ret
        exact ⟨rfl, up_alloc (Below.refl _ _) _⟩
    · have hr : vVal 4 y = false := by simp [vVal, inR]; omega
      rw [hr]; clear hr
      go_enter Tryz.func175, Tryz.ntmps175
      go_wp2
      go_ret
      exact ⟨rfl, up_alloc (Below.refl _ _) _⟩
  have g3 : (x == 3) = false := by simpa using h3
  have g4 : (x == 4) = false := by simpa using h4
  have hr : vVal x y = (y == 0) := by simp [vVal, h3, h4]; rfl
  rw [hr]; clear hr
  clear h3 h4
  go_enter Tryz.func175, Tryz.ntmps175
  go_wp2
  go_ret
  exact ⟨rfl, up_alloc (Below.refl _ _) _⟩
end Go.Proofs.YtknphikoikdcjaaGreat


/- impl.validFlow. -/
namespace Go.Proofs.YtknphikoikdcjaaGreat
open Go.RowKit

set_option maxHeartbeats 800000 in
theorem validFlowI_any (lo hi nn cn : Nat) (An : Option Addr) (ns : List (Int × Int)) (x y : Int) (lo' hi' m c' : Nat) (A' : Option Addr) (ps : List (Int × Int)) (w : World) (hrn : Rd w lo hi 2 An nn (pvs ns)) (hB : hi ≤ w.heap.size) (_hnn : nn ≤ 1048576)
    (hrp : Rd w lo' hi' 2 A' m (pvs ps)) (hB' : hi' ≤ w.heap.size) (hm : m ≤ 1048576) :
    Calls Tryz.prog 174 #[.slice An nn cn, .agg #[.int .i64 x, .int .i64 y, .slice A' m c']] w fun e w' => e = .returned (.bool (vFlow ns (x, y, ps))) ∧ Below w.heap.size w w' := by
  have hL := hrn.len2
  have hM := hrp.len2
  by_cases h1 : inR x 0 ((nn : Int) - 1) = true
  · by_cases h2 : inR y 0 ((nn : Int) - 1) = true
    · rcases Nat.eq_zero_or_pos m with rfl | hmp
      · have hp : ps = [] := List.eq_nil_of_length_eq_zero hM
        have hv : vFlow ns (x, y, ps) = true := by simp [vFlow, hL, h1, h2, hp]
        rw [hv]; clear hv hp hL hM
        go_enter Tryz.func174, Tryz.ntmps174
        go_wp2_with (go_at_call 179; refine (isNode_any _ _ _ _ _).mono ?_; rintro e w' ⟨rfl, rfl⟩)
        go_ret
        exact ⟨rfl, up_alloc (Below.refl _ _) _⟩
      · have hx := inR_iff.1 h1
        obtain ⟨hx0, hx1⟩ := hx
        obtain ⟨k, rfl⟩ := Int.eq_ofNat_of_zero_le hx0
        have hk : k < nn := by omega
        obtain ⟨b, off, kd, vl, rfl, hbB, _, hg, hc0, hc1⟩ := hrn.pair hk
        have hbw : b < w.heap.size := by omega
        have hm0 : ((m : Int) == 0) = false := by simp; omega
        have hk4 : (k : Int) < (nn : Int) := by omega
        have hpe : ps.isEmpty = false := by
          cases ps with
          | nil => simp at hM; omega
          | cons _ _ => rfl
        by_cases h5 : kd = 5
        · subst h5
          have hv : vFlow ns ((k : Int), y, ps) = vCond ps := by simp [vFlow, hL, h1, h2, hpe, hg]
          rw [hv]; clear hv hpe hg hL hM hx1 hk hmp hc1
          have hrq := hrp.keep (up_alloc (Below.refl _ w) (.cells #[.int .i64 (k : Int), .int .i64 y, .slice A' m c'] 167)) hB'
          have HRQ := Lib.hid hrq
          clear hrq
          go_enter Tryz.func174, Tryz.ntmps174
          go_wp2_with (go_at_call 179; refine (isNode_any _ _ _ _ _).mono ?_; rintro e w' ⟨rfl, rfl⟩)
          (with_reducible refine (ValidConditionI_any _ _ m c' A' ps _ HRQ.out (by simp; omega) hm).mono ?_)
          rintro e w2 ⟨rfl, hb2⟩
          have HB := Lib.hid (up (up_alloc (Below.refl _ _) _) hb2)
          clear hb2
          go_wp2
          go_ret
          exact ⟨rfl, HB.out⟩
        · have hv : vFlow ns ((k : Int), y, ps) = false := by simp [vFlow, hL, hpe, hg, h5]
          have h5' : (kd == 5) = false := by simpa using h5
          rw [hv]; clear hv hpe hg hL hM hx1 hk hmp hc1 h5
          go_enter Tryz.func174, Tryz.ntmps174
          go_wp2_with (go_at_call 179; refine (isNode_any _ _ _ _ _).mono ?_; rintro e w' ⟨rfl, rfl⟩)
          go_ret
          exact ⟨rfl, up_alloc (Below.refl _ _) _⟩
    · have h2' : inR y 0 ((nn : Int) - 1) = false := by simpa using h2
      have hv : vFlow ns (x, y, ps) = false := by simp [vFlow, hL, h2']
      rw [hv]; clear hv hL hM h2
      go_enter Tryz.func174, Tryz.ntmps174
      go_wp2_with (go_at_call 179; refine (isNode_any _ _ _ _ _).mono ?_; rintro e w' ⟨rfl, rfl⟩)
      go_ret
      exact ⟨rfl, up_alloc (Below.refl _ _) _⟩
  · have h1' : inR x 0 ((nn : Int) - 1) = false := by simpa using h1
    have hv : vFlow ns (x, y, ps) = false := by simp [vFlow, hL, h1']
    rw [hv]; clear hv hL hM h1
    go_enter Tryz.func174, Tryz.ntmps174
    go_wp2_with (go_at_call 179; refine (isNode_any _ _ _ _ _).mono ?_; rintro e w' ⟨rfl, rfl⟩)
    go_ret
    exact ⟨rfl, up_alloc (Below.refl _ _) _⟩
end Go.Proofs.YtknphikoikdcjaaGreat



/- impl.mapFlows: the flows out of and into each node. -/
namespace Go.Proofs.YtknphikoikdcjaaGreat
open Go.RowKit
attribute [local go_sem ↓] Go.wp_at_zero Go.wp_at_succ

theorem keyedInt : Maps.Keyed Tryz.prog 3 := Maps.int_keyed Tryz.underlying3
theorem zeroInts (w : World) : (zeroValue 26).run Tryz.prog w = .ok (.slice none 0 0) w := by kernel_rfl

/-- The flows below k with that end, told by the direction. -/
def flDir (fs : List Flw) (k : Nat) : Bool → Int → List Int := fun d z => flUp fs d z k
theorem flDir_step {fs : List Flw} {k : Nat} {x y : Int} {ps : List (Int × Int)} (hg : fs[k]? = some (x, y, ps)) (d : Bool) (z : Int) : updG (updG (flDir fs k) true x k) false y k d z = flDir fs (k + 1) d z := by
  cases d
  · by_cases hz : z = y
    · subst hz
      simp only [updG, and_self, if_true, flDir]
      rw [flUp_yes (out := false) (node := z) hg (by rfl), if_neg (by simp)]
    · simp only [updG, flDir]
      rw [if_neg (by simp [hz]), if_neg (by simp), flUp_no (out := false) hg (fun e => hz e.symm)]
  · by_cases hz : z = x
    · subst hz
      simp only [updG, flDir]
      rw [if_neg (by simp), if_pos (by simp), flUp_yes (out := true) (node := z) hg (by rfl)]
    · simp only [updG, flDir]
      rw [if_neg (by simp), if_neg (by simp [hz]), flUp_no (out := true) hg (fun e => hz e.symm)]

/-- What mapFlows leaves. -/
def Mapped (fs : List Flw) (w : World) (e : Ending) (w' : World) : Prop :=
  ∃ bo bi, e = .returned (.agg #[.map (some bo), .map (some bi)]) ∧ RowMap Tryz.prog 3 w' w.heap.size w'.heap.size bo (fun z => flOf fs true z) ∧ RowMap Tryz.prog 3 w' w.heap.size w'.heap.size bi (fun z => flOf fs false z) ∧ Below w.heap.size w w'

set_option maxRecDepth 100000 in
set_option maxHeartbeats 3200000 in
theorem mapFlows_any (lo hi n c : Nat) (A : Option Addr) (fs : List Flw) (w : World) (hr : Fls w lo hi A n fs) (hB : hi ≤ w.heap.size) (hn : n ≤ 14) (hin : ∀ f ∈ fs, in64 f.1 ∧ in64 f.2.1) :
    Calls Tryz.prog 149 #[.slice A n c] w (Mapped fs w) := by
  have HL := Lib.hid hr.1
  obtain ⟨i0, hi0, hz0, hz1, hz2⟩ := info_parts infoInt
  have hmm := @run_makeMap Tryz.prog
  go_enter Tryz.func149, Tryz.ntmps149
  go_wp2
  clear hmm
  go_loopw [11] (fun iv wr => ∃ (k : Nat) (sel : Bool → Int → Option Value), k ≤ n ∧ iv = .int .i64 k ∧ Below w.heap.size w wr ∧ Blk wr (w.heap.size + 1 + 1 + 1) 102 #[.map (some (w.heap.size + 1)), .map (some (w.heap.size + 1 + 1))] ∧ Blk wr w.heap.size 102 #[.map none, .map none] ∧
       IMap Tryz.prog 3 wr (w.heap.size + 1) k (sel true) ∧ IMap Tryz.prog 3 wr (w.heap.size + 1 + 1) k (sel false) ∧ Rows wr (w.heap.size + 1 + 1 + 1 + 1) 3 sel (flDir fs k))
     (fun iv _ => n - (intOf iv).toNat)
  case atStart =>
    refine ⟨0, fun _ _ => none, by omega, rfl, up_alloc (up_alloc (up_alloc (up_alloc (Below.refl _ _) _) _) _) _, ?_, ?_, ?_, ?_, ?_⟩
    · simpa using Blk.new (((w.alloc (.cells #[.map none, .map none] 102)).alloc (.map #[] 0)).alloc (.map #[] 0)) 102 #[.map (some (w.heap.size + 1)), .map (some (w.heap.size + 1 + 1))]
    · exact (((Blk.new w 102 #[.map none, .map none]).alloc _).alloc _).alloc _
    · have h1 := ((IMap.made Tryz.prog 3 (w.alloc (.cells #[.map none, .map none] 102))).alloc (.map #[] 0)).alloc (.cells #[.map (some (w.heap.size + 1)), .map (some (w.heap.size + 1 + 1))] 102)
      simpa using h1
    · have h1 := (IMap.made Tryz.prog 3 ((w.alloc (.cells #[.map none, .map none] 102)).alloc (.map #[] 0))).alloc (.cells #[.map (some (w.heap.size + 1)), .map (some (w.heap.size + 1 + 1))] 102)
      simpa using h1
    · exact (Rows.start _ _ _).congr fun d z => by simp [flDir, flUp]
  case round =>
    obtain ⟨k, sel, hk, rfl, hbl, hblk, hres, hmo, hmi, hrows⟩ := hrel
    by_cases hkn : k < n
    · obtain ⟨b, off, x, y, ps, A', m, c', rfl, hbB, _, hg, hx, hy, hz, _, _⟩ := (hr.keep hbl hB).at hkn
      have hd0 : wr.cell? ⟨w.heap.size + 1 + 1 + 1, 0, none⟩ = some (.map (some (w.heap.size + 1))) := hblk.cell 0
      have hd1 : wr.cell? ⟨w.heap.size + 1 + 1 + 1, 1, none⟩ = some (.map (some (w.heap.size + 1 + 1))) := hblk.cell 1
      have Hg := Lib.hid hg
      have HR := Lib.hid hrows
      have HMO := Lib.hid hmo
      have HMI := Lib.hid hmi
      have HRES0 := Lib.hid (hres.alloc (.cells #[.int .i64 x, .int .i64 y, .slice A' m c'] 167))
      clear hg hrows hmo hmi hres
      go_wp2
      obtain ⟨hx64, hy64⟩ := hin _ (List.mem_of_getElem? Hg.out)
      have hf0 := Blk.new wr 167 #[.int .i64 x, .int .i64 y, .slice A' m c']
      have hbl0 := up_alloc hbl (.cells #[.int .i64 x, .int .i64 y, .slice A' m c'] 167)
      have hblk0 := hblk.alloc (.cells #[.int .i64 x, .int .i64 y, .slice A' m c'] 167)
      have HMO0 := Lib.hid (HMO.out.alloc (.cells #[.int .i64 x, .int .i64 y, .slice A' m c'] 167))
      have HMI0 := Lib.hid (HMI.out.alloc (.cells #[.int .i64 x, .int .i64 y, .slice A' m c'] 167))
      have HR0 := Lib.hid (HR.out.kept (World.grownBy_alloc wr (.cells #[.int .i64 x, .int .i64 y, .slice A' m c'] 167) none) (fun j e => by cases e))
      have hsz0 : (wr.alloc (.cells #[.int .i64 x, .int .i64 y, .slice A' m c'] 167)).heap.size = wr.heap.size + 1 := by simp
      have hlt3 := hblk.lt
      have HFF : Hid (∀ d z g, (rowAt (sel d z)).ownBlock = some g → g ≠ wr.heap.size) := fun d z g hg => by have := ((HR.out.1 d z).lt g hg).2; omega
      have HVL := Lib.hid (fun (d : Bool) (z : Int) (g : Nat) (hg : (rowAt (sel d z)).ownBlock = some g) => (HR.out.1 d z).lt g hg)
      clear HMO HMI HR hblk hd0 hd1 hx hy hz hbl
      generalize hF : wr.heap.size = F at *
      generalize hw0 : wr.alloc (.cells #[.int .i64 x, .int .i64 y, .slice A' m c'] 167) = w0 at *
      clear hw0 hF
      have HSZ := Lib.hid hsz0
      have hszl : F + 1 ≤ w0.heap.size := by omega
      clear hsz0
      -- the flow's out
      have hv := HR0.out.1 true x
      have hul := flUp_le fs true x k
      have hlk : ∀ w1 : World, w1.heap[w.heap.size + 1]? = w0.heap[w.heap.size + 1]? → (Instr.lookup 100 (.map (some (w.heap.size + 1))) (.int .i64 x) false).run Tryz.prog w1 = .ok (rowAt (sel true x)) w1 :=
        fun w1 he => HMO0.out.look keyedInt Tryz.underlying3 Tryz.underlying100 (zeroInts _) hx64 he
      have hl1 := hlk w0.drew rfl
      have hl2 := hlk ((w0.alloc (.cells #[.int .i64 (k : Int)] 3)).drew) (Below.heap_alloc w0 _ _ (by show w.heap.size + 1 < w0.heap.size; omega))
      clear hlk
      have hc0 : w0.cell? ⟨w.heap.size + 1 + 1 + 1, 0, none⟩ = some (.map (some (w.heap.size + 1))) := hblk0.cell 0
      have hc1 : w0.cell? ⟨F, 0, none⟩ = some (.int .i64 x) := hf0.cell 0
      have hk0 : ((w0.alloc (.cells #[.int .i64 (k : Int)] 3)).drew).cell? ⟨w.heap.size + 1 + 1 + 1, 0, none⟩ = some (.map (some (w.heap.size + 1))) := (hblk0.alloc _).drew.cell 0
      have hk1 : ((w0.alloc (.cells #[.int .i64 (k : Int)] 3)).drew).cell? ⟨F, 0, none⟩ = some (.int .i64 x) := (hf0.alloc _).drew.cell 0
      have hvl := HVL.out true x
      have HMOa := Lib.hid (IMap.same (w1 := (w0.alloc (.cells #[.int .i64 (k : Int)] 3)).drew) (HMO0.out.alloc (.cells #[.int .i64 (k : Int)] 3)) rfl)
      have HVA := Lib.hid ((hv.alloc (.cells #[.int .i64 (k : Int)] 3)).drew)
      generalize hvv : rowAt (sel true x) = v at *
      have HV := Lib.hid hvv
      have HXS := Lib.hid hv.1
      clear hvv hv
      go_region_held3 (fun w' => w'.cell? ⟨w.heap.size + 1 + 1 + 1, 0, none⟩ = some (.map (some (w.heap.size + 1))) ∧ w'.cell? ⟨F, 0, none⟩ = some (.int .i64 x))
        (first
          | exact ⟨hc0, hc1⟩
          | exact ⟨hk0, hk1⟩
          | exact ⟨(hgrow.cell_far _ (by simp <;> omega) hne0).trans hk0, (hgrow.cell_far _ (by simp <;> omega) hne1).trans hk1⟩
          | exact ⟨(hgrow2.cell_far _ (by have := hgrow.size; simp at this ⊢; omega) (by simp <;> omega)).trans ((hgrow.cell_far _ (by simp <;> omega) hne0).trans hk0), (hgrow2.cell_far _ (by have := hgrow.size; simp at this ⊢; omega) (by simp <;> omega)).trans ((hgrow.cell_far _ (by simp <;> omega) hne1).trans hk1)⟩)
        ((refine step_append_lies _ (by rfl) _ _ _ (by rfl) (w.heap.size + 1 + 1 + 1 + 1) 3 i0 _ 1 8 Tryz.underlying26 hi0 hz0 hz1 hz2 rfl (by omega) v (flUp fs true x k).length (ivs (flUp fs true x k)) (by rfl) HVA.out
            ⟨w0.heap.size, 0, none⟩ 1 1 [.int .i64 (k : Int)] (by rfl) (by rfl) (World.news_of_block (cs := #[.int .i64 (k : Int)]) (t := 3) (fr := (0, 0)) (heap_alloc_new w0 _)) (by simp [Value.oneCell'])
            (by omega) (by unfold maxLen; omega) (by omega) (by simp <;> omega) (w0.heap.size + 1) (by simp) ?_
          intro g cap w1 hown1 hgrow hat hlt
          have hne0 : some (w.heap.size + 1 + 1 + 1) ≠ v.ownBlock := fun e => by have := (hvl _ e.symm).1; omega
          have hne1 : some F ≠ v.ownBlock := fun e => by have := (hvl _ e.symm).2; omega
          obtain ⟨w2, hrun2, hmap2, hgrow2⟩ := (HMOa.out.kept hgrow (fun e => by have := (hvl _ e.symm).1; omega)).put keyedInt Tryz.underlying3 Tryz.underlying100 (by unfold maxLen; omega) hx64 (.slice (some ⟨g, 0, none⟩) ((flUp fs true x k).length + 1) cap)))
      all_goals
        obtain ⟨hbl2, hblk2, hf2, hmi2, hrows2, hF2, hs2, hk2⟩ := map_step (z := x) (d := true) hbl0 hblk0 hf0 HMI0.out HR0.out HFF.out (by rw [HV.out]; exact hgrow) hown1 (by rw [HV.out]; exact hat.imp Eq.symm fun h => ⟨g, rfl, by omega⟩) hgrow2 (by omega) (by omega) (by omega) (by omega) (by omega) (by omega) (by omega)
        have HMO2 := Lib.hid (hmap2.congr (updSel_at sel true x (.slice (some ⟨g, 0, none⟩) ((flUp fs true x k).length + 1) cap)))
        have HMI2 := Lib.hid (hmi2.congr (updSel_other sel true false x (.slice (some ⟨g, 0, none⟩) ((flUp fs true x k).length + 1) cap) (by simp)))
        have HR2 := Lib.hid hrows2
        have HF2 := Lib.hid hF2
        have hsz2 : F + 1 ≤ w2.heap.size := by omega
        have HRES2 : Hid (Blk w2 w.heap.size 102 #[.map none, .map none]) := (hk2 w.heap.size (by omega) (by omega) (by omega)).trans HRES0.out
        clear hk2 HRES0
        clear hrun2 hmap2 hgrow2 hgrow hown1 hat hlt hne0 hne1 hbl0 hblk0 hf0 HMI0 HMO0 HR0 HFF HVL hmi2 hrows2 hF2 hs2 hl1 hl2 hc0 hc1 hk0 hk1 hvl HMOa HVA HXS HSZ hszl
        go_wp2
        -- the flow's in
        have hblk0 := hblk2
        have hf0 := hf2
        have hlt4 := hblk0.lt
        have hv0 := HR2.out.1 false y
        have he0 : updG (flDir fs k) true x k false y = flUp fs false y k := by simp [updG, flDir]
        rw [he0] at hv0
        have HE0 := Lib.hid he0
        clear he0
        have hul2 := flUp_le fs false y k
        have hvl : ∀ j, (rowAt (updSel sel true x (.slice (some ⟨g, 0, none⟩) ((flUp fs true x k).length + 1) cap) false y)).ownBlock = some j → w.heap.size + 1 + 1 + 1 + 1 ≤ j ∧ j ≠ F := fun j hj => ⟨(hv0.lt j hj).1, HF2.out false y j hj⟩
        generalize hS2 : updSel sel true x (.slice (some ⟨g, 0, none⟩) ((flUp fs true x k).length + 1) cap) = sel2 at *
        clear hS2
        have hlk : ∀ w1 : World, w1.heap[w.heap.size + 1 + 1]? = w2.heap[w.heap.size + 1 + 1]? → (Instr.lookup 100 (.map (some (w.heap.size + 1 + 1))) (.int .i64 y) false).run Tryz.prog w1 = .ok (rowAt (sel2 false y)) w1 :=
          fun w1 he => HMI2.out.look keyedInt Tryz.underlying3 Tryz.underlying100 (zeroInts _) hy64 he
        have hl1 := hlk w2.drew rfl
        have hl2 := hlk ((w2.alloc (.cells #[.int .i64 (k : Int)] 3)).drew) (Below.heap_alloc w2 _ _ (by show w.heap.size + 1 + 1 < w2.heap.size; omega))
        clear hlk
        have hc0 : w2.cell? ⟨w.heap.size + 1 + 1 + 1, 1, none⟩ = some (.map (some (w.heap.size + 1 + 1))) := hblk0.cell 1
        have hc1 : w2.cell? ⟨F, 1, none⟩ = some (.int .i64 y) := hf0.cell 1
        have hk0 : ((w2.alloc (.cells #[.int .i64 (k : Int)] 3)).drew).cell? ⟨w.heap.size + 1 + 1 + 1, 1, none⟩ = some (.map (some (w.heap.size + 1 + 1))) := (hblk0.alloc _).drew.cell 1
        have hk1 : ((w2.alloc (.cells #[.int .i64 (k : Int)] 3)).drew).cell? ⟨F, 1, none⟩ = some (.int .i64 y) := (hf0.alloc _).drew.cell 1
        have HMIa := Lib.hid (IMap.same (w1 := (w2.alloc (.cells #[.int .i64 (k : Int)] 3)).drew) (HMI2.out.alloc (.cells #[.int .i64 (k : Int)] 3)) rfl)
        have HVA := Lib.hid ((hv0.alloc (.cells #[.int .i64 (k : Int)] 3)).drew)
        generalize hvv : rowAt (sel2 false y) = v2 at *
        have HV2 := Lib.hid hvv
        clear hvv hv0
        go_region_held3 (fun w' => w'.cell? ⟨w.heap.size + 1 + 1 + 1, 1, none⟩ = some (.map (some (w.heap.size + 1 + 1))) ∧ w'.cell? ⟨F, 1, none⟩ = some (.int .i64 y))
          (first
            | exact ⟨hc0, hc1⟩
            | exact ⟨hk0, hk1⟩
            | exact ⟨(hgrow.cell_far _ (by simp <;> omega) hne0).trans hk0, (hgrow.cell_far _ (by simp <;> omega) hne1).trans hk1⟩
            | exact ⟨(hgrow2.cell_far _ (by have := hgrow.size; simp at this ⊢; omega) (by simp <;> omega)).trans ((hgrow.cell_far _ (by simp <;> omega) hne0).trans hk0), (hgrow2.cell_far _ (by have := hgrow.size; simp at this ⊢; omega) (by simp <;> omega)).trans ((hgrow.cell_far _ (by simp <;> omega) hne1).trans hk1)⟩)
          ((refine step_append_lies _ (by rfl) _ _ _ (by rfl) (w.heap.size + 1 + 1 + 1 + 1) 3 i0 _ 1 8 Tryz.underlying26 hi0 hz0 hz1 hz2 rfl (by omega) v2 (flUp fs false y k).length (ivs (flUp fs false y k)) (by rfl) HVA.out
              ⟨w2.heap.size, 0, none⟩ 1 1 [.int .i64 (k : Int)] (by rfl) (by rfl) (World.news_of_block (cs := #[.int .i64 (k : Int)]) (t := 3) (fr := (0, 0)) (heap_alloc_new w2 _)) (by simp [Value.oneCell'])
              (by omega) (by unfold maxLen; omega) (by omega) (by simp <;> omega) (w2.heap.size + 1) (by simp) ?_
            intro g2 cap2 w3 hown1 hgrow hat hlt
            have hne0 : some (w.heap.size + 1 + 1 + 1) ≠ v2.ownBlock := fun e => by have := (hvl _ e.symm).1; omega
            have hne1 : some F ≠ v2.ownBlock := fun e => by have := (hvl _ e.symm).2; omega
            obtain ⟨w4, hrun2, hmap2, hgrow2⟩ := (HMIa.out.kept hgrow (fun e => by have := (hvl _ e.symm).1; omega)).put keyedInt Tryz.underlying3 Tryz.underlying100 (by unfold maxLen; omega) hy64 (.slice (some ⟨g2, 0, none⟩) ((flUp fs false y k).length + 1) cap2)))
        all_goals
          obtain ⟨hbl4, hblk4, hf4, hmo4, hrows4, hF4, hs4, hk4⟩ := map_step (z := y) (d := false) hbl2 hblk0 hf0 HMO2.out HR2.out HF2.out (by rw [HV2.out]; exact hgrow) (by rw [HE0.out]; exact hown1) (by rw [HV2.out]; exact hat.imp Eq.symm fun h => ⟨g2, rfl, by omega⟩) hgrow2 (by omega) (by omega) (by omega) (by omega) (by omega) (by omega) (by omega)
          have HMI4 := Lib.hid (hmap2.congr (updSel_at sel2 false y (.slice (some ⟨g2, 0, none⟩) ((flUp fs false y k).length + 1) cap2)))
          have HMO4 := Lib.hid (hmo4.congr (updSel_other sel2 false true y (.slice (some ⟨g2, 0, none⟩) ((flUp fs false y k).length + 1) cap2) (by simp)))
          have HR4 := Lib.hid (hrows4.congr (flDir_step Hg.out))
          have HK4 := Lib.hid hblk4
          have HRES4 : Hid (Blk w4 w.heap.size 102 #[.map none, .map none]) := (hk4 w.heap.size (by omega) (by omega) (by omega)).trans HRES2.out
          clear hk4
          clear hrun2 hmap2 hgrow2 hgrow hown1 hat hlt hne0 hne1 hmo4 hrows4 hF4 hs4 hl1 hl2 hc0 hc1 hk0 hk1 hvl HMIa HVA hblk0 hf0 hblk2 hf2 hbl2 hblk4 hf4
          go_wp2
          go_roundw
          case rel => exact ⟨k + 1, _, by omega, by go_num, hbl4, HK4.out, HRES4.out, HMO4.out, HMI4.out, HR4.out⟩
          case measure => simp [intOf]; omega
    · obtain rfl : k = n := by omega
      have HRW := Lib.hid hrows
      have HMO := Lib.hid hmo
      have HMI := Lib.hid hmi
      have hd : wr.cell? ⟨w.heap.size + 1 + 1 + 1, 0, none⟩ = some (.map (some (w.heap.size + 1))) := hblk.cell 0
      have hd1 : wr.cell? ⟨w.heap.size + 1 + 1 + 1, 1, none⟩ = some (.map (some (w.heap.size + 1 + 1))) := hblk.cell 1
      have hr0 : wr.cell? ⟨w.heap.size, 0, none⟩ = some (.map none) := hres.cell 0
      have hr1 : wr.cell? ⟨w.heap.size, 1, none⟩ = some (.map none) := hres.cell 1
      have hfr0 := hres.soft 0
      have hfr1 := hres.soft 1
      clear hrows hmo hmi
      have hB2 := (hres.put 0 (.map (some (w.heap.size + 1)))).put 1 (.map (some (w.heap.size + 1 + 1)))
      have hb0 : ((wr.setCell ⟨w.heap.size, 0, none⟩ (.map (some (w.heap.size + 1)))).setCell ⟨w.heap.size, 1, none⟩ (.map (some (w.heap.size + 1 + 1)))).cell? ⟨w.heap.size, 0, none⟩ = some (.map (some (w.heap.size + 1))) := by simpa using hB2.cell 0
      have hb1 : ((wr.setCell ⟨w.heap.size, 0, none⟩ (.map (some (w.heap.size + 1)))).setCell ⟨w.heap.size, 1, none⟩ (.map (some (w.heap.size + 1 + 1)))).cell? ⟨w.heap.size, 1, none⟩ = some (.map (some (w.heap.size + 1 + 1))) := by simpa using hB2.cell 1
      have hgs := (grown_set wr ⟨w.heap.size, 0, none⟩ (.map (some (w.heap.size + 1)))).trans (grown_set (wr.setCell ⟨w.heap.size, 0, none⟩ (.map (some (w.heap.size + 1)))) ⟨w.heap.size, 1, none⟩ (.map (some (w.heap.size + 1 + 1))))
      have HG := Lib.hid hgs
      clear hB2 hgs
      go_wp2
      refine bodyPost_ret (v := .agg #[.map (some (w.heap.size + 1)), .map (some (w.heap.size + 1 + 1))]) (by simp [results, Tryz.results149, go_sem, hb0, hb1]) rfl ⟨_, _, rfl, ?_, ?_, (hbl.setCell (by show _ ≤ w.heap.size; omega) _).setCell (by show _ ≤ w.heap.size; omega) _⟩
      · have hR := HRW.out.kept HG.out (fun j e => by injection e with e; omega)
        have he : flDir fs k = fun d z => flOf fs d z := by funext d z; simp [flDir, flOf, HL.out]
        rw [he] at hR
        exact RowMap.of_rows (d := true) hR (HMO.out.kept HG.out (by simp)) (by omega) (by omega)
      · have hR := HRW.out.kept HG.out (fun j e => by injection e with e; omega)
        have he : flDir fs k = fun d z => flOf fs d z := by funext d z; simp [flDir, flOf, HL.out]
        rw [he] at hR
        exact RowMap.of_rows (d := false) hR (HMI.out.kept HG.out (by simp; omega)) (by omega) (by omega)
end Go.Proofs.YtknphikoikdcjaaGreat


/- impl.ValidProcess. -/
namespace Go.Proofs.YtknphikoikdcjaaGreat
open Go.RowKit

theorem inside_in64 {fs : List Flw} {N : Nat} (h : Inside fs N) (hN : N ≤ 1048576) : ∀ f ∈ fs, in64 f.1 ∧ in64 f.2.1 := fun f hf => by
  have := h f hf
  unfold in64
  omega
theorem all_inside {ns : List (Int × Int)} {fs : List Flw} (h : fs.all (vFlow ns) = true) : Inside fs ns.length := by
  intro f hf
  have h1 := List.all_eq_true.1 h f hf
  simp only [vFlow, Bool.and_eq_true] at h1
  have a := inR_iff.1 h1.1.1
  have b := inR_iff.1 h1.1.2
  omega

set_option maxRecDepth 100000 in
set_option maxHeartbeats 3200000 in
theorem ValidProcessI_any (lo hi nn cn : Nat) (An : Option Addr) (ns : List (Int × Int)) (lo' hi' n c : Nat) (A : Option Addr) (fs : List Flw) (w : World) (hrn : Rd w lo hi 2 An nn (pvs ns)) (hB : hi ≤ w.heap.size) (hnn : nn ≤ 1048576)
    (hr : Fls w lo' hi' A n fs) (hB' : hi' ≤ w.heap.size) (hn : n ≤ 1048576) :
    Calls Tryz.prog 148 #[.agg #[.slice An nn cn, .slice A n c]] w fun e w' => e = .returned (.bool (vProc ns fs)) ∧ Below w.heap.size w w' := by
  have HL := Lib.hid hrn.len2
  have HF := Lib.hid hr.1
  have hblk1 := Blk.new w 40 #[.slice An nn cn, .slice A n c]
  have hb1 := up_alloc (Below.refl _ w) (.cells #[.slice An nn cn, .slice A n c] 40)
  by_cases h2 : (nn : Int) < 2
  · have hv : Hid (vProc ns fs = false) := by simp [Hid, vProc, HL.out, inR]; omega
    go_enter Tryz.func148, Tryz.ntmps148
    go_wp2
    go_ret
    exact ⟨ret_bool hv.out.symm, hb1⟩
  by_cases h10 : (10 : Int) < nn
  · have hv : Hid (vProc ns fs = false) := by simp [Hid, vProc, HL.out, inR]; omega
    go_enter Tryz.func148, Tryz.ntmps148
    go_wp2
    go_ret
    exact ⟨ret_bool hv.out.symm, hb1⟩
  by_cases h14 : (14 : Int) < n
  · have hv : Hid (vProc ns fs = false) := by simp [Hid, vProc, HF.out]; omega
    go_enter Tryz.func148, Tryz.ntmps148
    go_wp2
    go_ret
    exact ⟨ret_bool hv.out.symm, hb1⟩
  have hv : Hid (vProc ns fs = (fs.all (vFlow ns) && vNodesR fs ns 0 && decide (nStarts ns = 1))) := by
    have h1 : inR (nn : Int) 2 10 = true := inR_iff.2 (by omega)
    simp [Hid, vProc, HF.out, HL.out, h1, show n ≤ 14 by omega]
  go_enter Tryz.func148, Tryz.ntmps148
  go_wp2
  go_loopw [28] (fun iv wr => ∃ (k : Nat), k ≤ n ∧ iv = .int .i64 k ∧ Hid (fs.all (vFlow ns) = (fs.drop k).all (vFlow ns)) ∧ Blk wr w.heap.size 40 #[.slice An nn cn, .slice A n c] ∧ Below w.heap.size w wr)
     (fun iv _ => n - (intOf iv).toNat)
  case atStart => exact ⟨0, by omega, rfl, rfl, hblk1, hb1⟩
  case round =>
    clear hblk1 hb1
    obtain ⟨k, hk, rfl, hS, hblk, hbl⟩ := hrel
    have hsz := hblk.lt
    have hd0 : wr.cell? ⟨w.heap.size, 0, none⟩ = some (.slice An nn cn) := hblk.cell 0
    have hd1 : wr.cell? ⟨w.heap.size, 1, none⟩ = some (.slice A n c) := hblk.cell 1
    by_cases hkn : k < n
    · obtain ⟨b, off, x, y, ps, A', m, c', hA, hbB, _, hg, hx, hy, hz, hrp, hm⟩ := (hr.keep hbl hB').at hkn
      subst hA
      have hba := up_alloc hbl (.cells #[.int .i64 x, .int .i64 y, .slice A' m c'] 167)
      have hKa := hblk.alloc (.cells #[.int .i64 x, .int .i64 y, .slice A' m c'] 167)
      have hrpa := hrp.keep (up_alloc (Below.refl _ wr) (.cells #[.int .i64 x, .int .i64 y, .slice A' m c'] 167)) (Nat.le_trans hB' hbl.size)
      have hsza : (wr.alloc (.cells #[.int .i64 x, .int .i64 y, .slice A' m c'] 167)).heap.size = wr.heap.size + 1 := by simp
      have HRP := Lib.hid hrpa
      have Hg := Lib.hid hg
      have HSA := Lib.hid hsza
      clear hrp hrpa hg hsza
      go_wp2_with (fail)
      (with_reducible refine (validFlowI_any lo hi nn cn An ns x y lo' hi' m c' A' ps _ (hrn.keep hba hB) (Nat.le_trans hB hba.size) hnn HRP.out (Nat.le_trans hB' hba.size) hm).mono ?_)
      rintro e w2 ⟨rfl, hb2⟩
      have HB := Lib.hid (up hba hb2)
      have HK := Lib.hid (hKa.below hb2 (Nat.lt_of_lt_of_le hsz (by rw [HSA.out]; omega)))
      clear hb2 hba hKa hblk hbl
      by_cases hf : vFlow ns (x, y, ps) = true
      · have HS := Lib.hid (hS.out.trans (flw_hit Hg.out hf))
        rw [hf]
        clear hf hS
        go_wp2
        go_roundw
        case rel => exact ⟨k + 1, by omega, by go_num, HS, HK.out, HB.out⟩
        case measure => simp [intOf]; omega
      · have hf' : vFlow ns (x, y, ps) = false := by simpa using hf
        have HS : Hid (vProc ns fs = false) := by rw [Hid, hv.out, hS.out, flw_miss Hg.out hf']; rfl
        rw [hf']
        clear hf hf' hS
        go_wp2
        go_ret
        exact ⟨ret_bool HS.out.symm, HB.out⟩
    · obtain rfl : k = n := by omega
      have hS0 : fs.all (vFlow ns) = true := by
        rw [hS.out, List.drop_of_length_le (by rw [HF.out]; omega)]; rfl
      have hin := all_inside hS0
      have HIN := Lib.hid hin
      have hv2 : Hid (vProc ns fs = (vNodesR fs ns 0 && decide (nStarts ns = 1))) := by
        rw [Hid, hv.out, hS0]; rfl
      have HI64 := Lib.hid (inside_in64 hin (by rw [HL.out]; exact hnn))
      have HRN := Lib.hid (hrn.keep hbl hB)
      clear hS hv hS0 hin
      go_wp2_with (fail)
      (with_reducible refine (mapFlows_any lo' hi' k c A fs wr (hr.keep hbl hB') (Nat.le_trans hB' hbl.size) (by omega) HI64.out).mono ?_)
      rintro e w1 ⟨bo, bi, rfl, hmo, hmi, hb1⟩
      have hbl1 := up hbl hb1
      have hblk1 := hblk.below hb1 hsz
      have hsz1 := hb1.size
      have hm1 := Blk.new w1 102 #[.map (some bo), .map (some bi)]
      have hbl2 := up_alloc hbl1 (.cells #[.map (some bo), .map (some bi)] 102)
      have hblk2 := hblk1.alloc (.cells #[.map (some bo), .map (some bi)] 102)
      have hmo2 := hmo.keep (up_alloc (Below.refl _ w1) (.cells #[.map (some bo), .map (some bi)] 102)) (Nat.le_refl _)
      have hmi2 := hmi.keep (up_alloc (Below.refl _ w1) (.cells #[.map (some bo), .map (some bi)] 102)) (Nat.le_refl _)
      have HRN1 := Lib.hid (HRN.out.keep hb1 (Nat.le_trans hB hbl.size))
      clear hb1 hbl1 hblk1 hmo hmi HRN hd0 hd1 hblk hbl
      have hd0 : (w1.alloc (.cells #[.map (some bo), .map (some bi)] 102)).cell? ⟨w.heap.size, 0, none⟩ = some (.slice An nn cn) := hblk2.cell 0
      have hd0' : w1.cell? ⟨w.heap.size, 0, none⟩ = some (.slice An nn cn) := by
        have := (up_alloc (Below.refl _ w1) (.cells #[.map (some bo), .map (some bi)] 102)).cell (p := ⟨w.heap.size, 0, none⟩) (by show w.heap.size < w1.heap.size; omega)
        rw [← this]; exact hd0
      have HM1 := Lib.hid hm1
      have HK2 := Lib.hid hblk2
      have HB2 := Lib.hid hbl2
      have HMO := Lib.hid (hmo2.wide (Nat.zero_le _) (Nat.le_refl _))
      have HMI := Lib.hid (hmi2.wide (Nat.zero_le _) (Nat.le_refl _))
      have HRN2 := Lib.hid (HRN1.out.keep (up_alloc (Below.refl _ w1) (.cells #[.map (some bo), .map (some bi)] 102)) (Nat.le_trans hB (Nat.le_trans (by omega) hsz1)))
      clear hm1 hbl2 hblk2 hmo2 hmi2
      have hwlt : w.heap.size < w1.heap.size := Nat.lt_of_lt_of_le hsz hsz1
      have hhi : hi ≤ w1.heap.size := by omega
      go_wp2
      generalize hH : w1.heap.size = H1 at *
      generalize hw0 : w1.alloc (.cells #[.map (some bo), .map (some bi)] 102) = w0 at *
      clear hw0 hd0' HRN1 hH hsz1 HI64
      go_loopw [6, 44] (fun sv iv wr => ∃ (j s : Nat), j ≤ nn ∧ iv = .int .i64 j ∧ sv = .int .i64 s ∧ s ≤ j ∧ Hid (vNodesR fs ns 0 = vNodesR fs (ns.drop j) j) ∧ Hid (nStarts ns = s + nStarts (ns.drop j)) ∧ Blk wr w.heap.size 40 #[.slice An nn cn, .slice A k c] ∧
           Blk wr H1 102 #[.map (some bo), .map (some bi)] ∧ Rd wr lo hi 2 An nn (pvs ns) ∧ RowMap Tryz.prog 3 wr 0 H1 bo (fun z => flOf fs true z) ∧ RowMap Tryz.prog 3 wr 0 H1 bi (fun z => flOf fs false z) ∧ Below w.heap.size w wr)
         (fun _ iv _ => nn - (intOf iv).toNat)
      case atStart => exact ⟨0, 0, by omega, rfl, rfl, Nat.le_refl _, rfl, by simp [Hid], HK2.out, HM1.out, HRN2.out, HMO.out, HMI.out, HB2.out⟩
      case round =>
        clear HK2 HM1 HRN2 HMO HMI HB2 hd0
        obtain ⟨j, s, hj, rfl, rfl, hsj, hN, hT, hblk, hmb, hrd, hmo, hmi, hbl⟩ := hrel
        have hszp := hblk.lt
        have hszm := hmb.lt
        have hd0 : wr.cell? ⟨w.heap.size, 0, none⟩ = some (.slice An nn cn) := hblk.cell 0
        by_cases hjn : j < nn
        · obtain ⟨b, off, kd, vl, hA, hbB, _, hg, hc0, hc1⟩ := hrd.pair hjn
          subst hA
          have hka := Blk.new wr 137 #[.int .i64 kd, .int .i64 vl]
          have hba := up_alloc hbl (.cells #[.int .i64 kd, .int .i64 vl] 137)
          have hbw := up_alloc (Below.refl _ wr) (.cells #[.int .i64 kd, .int .i64 vl] 137)
          have Hg := Lib.hid hg
          clear hg
          go_wp2_with (fail)
          (with_reducible refine (fitsValue_any kd vl _).mono ?_)
          rintro e w3 ⟨rfl, hb3⟩
          have hbr := up hbw hb3
          have hbl3 := up hba hb3
          have hblk3 := hblk.below hbr hszp
          have hmb3 := hmb.below hbr hszm
          have hrd3 := hrd.keep hbr (by omega)
          have hmo3 := hmo.keep hbr (by omega)
          have hmi3 := hmi.keep hbr (by omega)
          have hka3 := hka.below hb3 hka.lt
          have HSZ3 : Hid (wr.heap.size + 1 ≤ w3.heap.size) := by
            have := hb3.size
            simpa [Hid] using this
          have hd3 : w3.cell? ⟨w.heap.size, 0, none⟩ = some (.slice (some ⟨b, off, none⟩) nn cn) := hblk3.cell 0
          have hm30 : w3.cell? ⟨H1, 0, none⟩ = some (.map (some bo)) := hmb3.cell 0
          have hm31 : w3.cell? ⟨H1, 1, none⟩ = some (.map (some bi)) := hmb3.cell 1
          have hn30 : w3.cell? ⟨wr.heap.size, 0, none⟩ = some (.int .i64 kd) := hka3.cell 0
          have HBW := Lib.hid hbl3
          have HBK := Lib.hid hblk3
          have HMB := Lib.hid hmb3
          have HRD := Lib.hid hrd3
          have HMO3 := Lib.hid hmo3
          have HMI3 := Lib.hid hmi3
          have hj64 : in64 (j : Int) := by unfold in64; omega
          obtain ⟨Ao, co, hlo, hco, _, _⟩ := hmo3.look keyedInt Tryz.underlying3 Tryz.underlying100 zeroInts hj64
          obtain ⟨Ai, ci, hli, hci, _, _⟩ := hmi3.look keyedInt Tryz.underlying3 Tryz.underlying100 zeroInts hj64
          clear hb3 hbr hbl3 hblk3 hmb3 hrd3 hmo3 hmi3 hka3 hka hba hbw hblk hmb hrd hmo hmi hbl hd0 hc0 hc1
          by_cases hvv : vVal kd vl = true
          · rw [hvv]
            by_cases hvk : vKind kd (flOf fs false j).length (flOf fs true j).length = true
            · have hnode : vNode kd vl (flOf fs false j).length (flOf fs true j).length = true := by simp [vNode, hvv, hvk]
              have HN := Lib.hid (hN.out.trans (node_hit Hg.out hnode))
              have HVK := Lib.hid hvk
              clear hvv hvk hN hnode
              by_cases h0 : kd = 0
              · subst h0
                have HT : Hid (nStarts ns = (s + 1) + nStarts (ns.drop (j + 1))) := by rw [Hid, hT.out, start_hit Hg.out]; omega
                clear hT
                go_wp2_with (go_at_call 176; refine (fitsKind_any _ _ _ _).mono ?_; rw [HVK.out]; rintro e w' ⟨rfl, rfl⟩)
                go_roundw
                case rel => exact ⟨j + 1, s + 1, by omega, by go_num, by go_num, by omega, HN, HT, HBK.out, HMB.out, HRD.out, HMO3.out, HMI3.out, HBW.out⟩
                case measure => simp [intOf]; omega
              · have HT : Hid (nStarts ns = s + nStarts (ns.drop (j + 1))) := by rw [Hid, hT.out, start_miss Hg.out h0]
                have h0' : (kd == 0) = false := by simpa using h0
                clear hT h0
                go_wp2_with (go_at_call 176; refine (fitsKind_any _ _ _ _).mono ?_; rw [HVK.out]; rintro e w' ⟨rfl, rfl⟩)
                go_roundw
                case rel => exact ⟨j + 1, s, by omega, by go_num, by go_num, by omega, HN, HT, HBK.out, HMB.out, HRD.out, HMO3.out, HMI3.out, HBW.out⟩
                case measure => simp [intOf]; omega
            · have hvk' : vKind kd (flOf fs false j).length (flOf fs true j).length = false := by simpa using hvk
              have hnode : vNode kd vl (flOf fs false j).length (flOf fs true j).length = false := by simp [vNode, hvk']
              have HS : Hid (vProc ns fs = false) := by rw [Hid, hv2.out, hN.out, node_miss Hg.out hnode]; rfl
              have HVK := Lib.hid hvk'
              clear hvv hvk hvk' hN hT hnode
              go_wp2_with (go_at_call 176; refine (fitsKind_any _ _ _ _).mono ?_; rw [HVK.out]; rintro e w' ⟨rfl, rfl⟩)
              go_ret
              exact ⟨ret_bool HS.out.symm, HBW.out⟩
          · have hvv' : vVal kd vl = false := by simpa using hvv
            have hnode : vNode kd vl (flOf fs false j).length (flOf fs true j).length = false := by simp [vNode, hvv']
            have HS : Hid (vProc ns fs = false) := by rw [Hid, hv2.out, hN.out, node_miss Hg.out hnode]; rfl
            rw [hvv']
            clear hvv hvv' hN hT hnode
            go_wp2
            go_ret
            exact ⟨ret_bool HS.out.symm, HBW.out⟩
        · obtain rfl : j = nn := by omega
          have HS : Hid (vProc ns fs = ((s : Int) == 1)) := by
            rw [Hid, hv2.out, hN.out, hT.out, List.drop_of_length_le (by rw [HL.out]; omega)]
            simp [vNodesR, nStarts]
            by_cases hs1 : s = 1
            · subst hs1; rfl
            · have : ((s : Int) == 1) = false := by simp; omega
              rw [this]; exact decide_eq_false hs1
          have HB := Lib.hid hbl
          clear hN hT hblk hbl hmb hrd hmo hmi
          go_wp2
          go_ret
          exact ⟨ret_bool HS.out.symm, HB.out⟩
end Go.Proofs.YtknphikoikdcjaaGreat

