/- Post offices of the program: addresses, what is valid. -/
import Derived.Test.YtgnffodnimafoaaPostMath
import Derived.Test.YtgnffodnimafoaaKRows
import Derived.BigQuiet
import Derived.Deep.RegionHeld3
set_option linter.unusedSimpArgs false
set_option linter.unusedVariables false
namespace Go.Proofs.Ytgnffodnimafoaa
open Go.RowKit

set_option maxHeartbeats 800000 in
theorem adValid_any (x y : Int) (w : World) :
    Calls Try.prog 53 #[mk2 (x, y)] w fun e w' => e = .returned (.bool (inR x 0 9 && inR y 0 99)) ∧ Below w.heap.size w w' := by
  unfold mk2
  by_cases h1 : 0 ≤ x
  · have g1 : decide (0 ≤ x) = true := decide_eq_true h1
    by_cases h2 : x ≤ 9
    · have g2 : decide (x ≤ 9) = true := decide_eq_true h2
      by_cases h3 : 0 ≤ y
      · have g3 : decide (0 ≤ y) = true := decide_eq_true h3
        by_cases h4 : y ≤ 99
        · have g4 : decide (y ≤ 99) = true := decide_eq_true h4
          have HX := Lib.hid (show (inR x 0 9 && inR y 0 99) = true by simp [inR, h1, h2, h3, h4])
          clear h1 h2 h3 h4
          go_enter Try.func53, Try.ntmps53
          go_wp2
          try (go_quiet (fail); go_wp2)
          go_ret
          exact ⟨ret_bool HX.out.symm, by first | exact up_alloc (Below.refl _ _) _ | exact up_drewN (up_alloc (Below.refl _ _) _) _⟩
        · have g4 : decide (y ≤ 99) = false := decide_eq_false h4
          have HX := Lib.hid (show (inR x 0 9 && inR y 0 99) = false by simp [inR, h1, h2, h3, h4])
          clear h1 h2 h3 h4
          go_enter Try.func53, Try.ntmps53
          go_wp2
          try (go_quiet (fail); go_wp2)
          go_ret
          exact ⟨ret_bool HX.out.symm, by first | exact up_alloc (Below.refl _ _) _ | exact up_drewN (up_alloc (Below.refl _ _) _) _⟩
      · have g3 : decide (0 ≤ y) = false := decide_eq_false h3
        have HX := Lib.hid (show (inR x 0 9 && inR y 0 99) = false by simp [inR, h1, h2, h3])
        clear h1 h2 h3
        go_enter Try.func53, Try.ntmps53
        go_wp2
        try (go_quiet (fail); go_wp2)
        go_ret
        exact ⟨ret_bool HX.out.symm, by first | exact up_alloc (Below.refl _ _) _ | exact up_drewN (up_alloc (Below.refl _ _) _) _⟩
    · have g2 : decide (x ≤ 9) = false := decide_eq_false h2
      have HX := Lib.hid (show (inR x 0 9 && inR y 0 99) = false by simp [inR, h1, h2])
      clear h1 h2
      go_enter Try.func53, Try.ntmps53
      go_wp2
      try (go_quiet (fail); go_wp2)
      go_ret
      exact ⟨ret_bool HX.out.symm, by first | exact up_alloc (Below.refl _ _) _ | exact up_drewN (up_alloc (Below.refl _ _) _) _⟩
  · have g1 : decide (0 ≤ x) = false := decide_eq_false h1
    have HX := Lib.hid (show (inR x 0 9 && inR y 0 99) = false by simp [inR, h1])
    clear h1
    go_enter Try.func53, Try.ntmps53
    go_wp2
    try (go_quiet (fail); go_wp2)
    go_ret
    exact ⟨ret_bool HX.out.symm, by first | exact up_alloc (Below.refl _ _) _ | exact up_drewN (up_alloc (Below.refl _ _) _) _⟩
theorem subAd_any (x y z : Int) (w : World) :
    Calls Try.prog 44 #[.agg #[.int .i64 x, .int .i64 y, .int .i64 z]] w fun e w' => e = .returned (mk2 (adS (x, y, z))) ∧ Below w.heap.size w w' := by
  go_enter Try.func44, Try.ntmps44
  go_wp2
  exact bodyPost_ret (v := .agg #[.int .i64 y, .int .i64 z]) (by simp [results, Try.results44, go_sem]) rfl ⟨rfl, by repeat (first | exact Below.refl _ _ | refine up_alloc ?_ _)⟩
theorem letAd_any (x y z : Int) (w : World) :
    Calls Try.prog 39 #[.agg #[.int .i64 x, .int .i64 y, .int .i64 z]] w fun e w' => e = .returned (mk2 (adL (x, y, z))) ∧ Below w.heap.size w w' := by
  go_enter Try.func39, Try.ntmps39
  go_wp2
  exact bodyPost_ret (v := .agg #[.int .i64 x, .int .i64 y]) (by simp [results, Try.results39, go_sem]) rfl ⟨rfl, by repeat (first | exact Below.refl _ _ | refine up_alloc ?_ _)⟩
set_option maxRecDepth 100000 in
set_option maxHeartbeats 800000 in
theorem vSubI_any (x y z : Int) (w : World) :
    Calls Try.prog 43 #[.agg #[.int .i64 x, .int .i64 y, .int .i64 z]] w fun e w' => e = .returned (.bool (vSub (x, y, z))) ∧ Below w.heap.size w w' := by
  have hb0 := up_alloc (Below.refl _ w) (.cells #[.int .i64 x, .int .i64 y, .int .i64 z] 42)
  have hx := Blk.new w 42 #[.int .i64 x, .int .i64 y, .int .i64 z]
  have HX0 := Lib.hid hx
  have hlt := hx.lt
  clear hx
  go_enter Try.func43, Try.ntmps43
  go_wp2_with (fail)
  (with_reducible refine (subAd_any x y z _).mono ?_)
  rintro e w1 ⟨rfl, hb1⟩
  have hb01 := up hb0 hb1
  have hx1 := HX0.out.below hb1 hlt
  have hlt1 := hx1.lt
  clear hb1 hb0 HX0
  go_wp2_with (fail)
  refine (adValid_any y z _).mono ?_
  rintro e w2 ⟨rfl, hb2⟩
  have HB2 := Lib.hid (up hb01 hb2)
  have hx2 := hx1.below hb2 hlt1
  have hc : w2.cell? ⟨w.heap.size, 0, none⟩ = some (.int .i64 x) := hx2.cell 0
  clear hb2 hb01 hx1 hx2
  cases ha : (inR y 0 9 && inR z 0 99) with
  | false =>
    have HX := Lib.hid (show vSub (x, y, z) = false by
      rw [Bool.eq_false_iff]
      intro h
      simp only [vSub, Bool.and_eq_true] at h
      rw [Bool.and_eq_false_iff] at ha
      rcases ha with ha | ha <;> simp [ha] at h)
    clear ha
    go_wp2
    try (go_quiet (fail); go_wp2)
    go_ret
    exact ⟨ret_bool HX.out.symm, by first | exact HB2.out | exact up_drewN HB2.out _⟩
  | true =>
  have HA := Lib.hid ha
  clear ha
  by_cases h1 : 0 ≤ x
  · have g1 : decide (0 ≤ x) = true := decide_eq_true h1
    by_cases h2 : x ≤ 9
    · have g2 : decide (x ≤ 9) = true := decide_eq_true h2
      have HX := Lib.hid (show vSub (x, y, z) = true by
        have h := HA.out
        rw [Bool.and_eq_true] at h
        simp only [vSub, h.1, h.2, inR_iff.2 ⟨h1, h2⟩, Bool.and_self])
      clear h1 h2
      go_wp2
      try (go_quiet (fail); go_wp2)
      go_ret
      exact ⟨ret_bool HX.out.symm, by first | exact HB2.out | exact up_drewN HB2.out _⟩
    · have g2 : decide (x ≤ 9) = false := decide_eq_false h2
      have HX := Lib.hid (show vSub (x, y, z) = false by simp [vSub, inR, h2])
      clear h1 h2
      go_wp2
      try (go_quiet (fail); go_wp2)
      go_ret
      exact ⟨ret_bool HX.out.symm, by first | exact HB2.out | exact up_drewN HB2.out _⟩
  · have g1 : decide (0 ≤ x) = false := decide_eq_false h1
    have HX := Lib.hid (show vSub (x, y, z) = false by simp [vSub, inR, h1])
    clear h1
    go_wp2
    try (go_quiet (fail); go_wp2)
    go_ret
    exact ⟨ret_bool HX.out.symm, by first | exact HB2.out | exact up_drewN HB2.out _⟩
set_option maxRecDepth 100000 in
set_option maxHeartbeats 800000 in
theorem vLetI_any (x y z : Int) (w : World) :
    Calls Try.prog 37 #[.agg #[.int .i64 x, .int .i64 y, .int .i64 z]] w fun e w' => e = .returned (.bool (vLet (x, y, z))) ∧ Below w.heap.size w w' := by
  have hb0 := up_alloc (Below.refl _ w) (.cells #[.int .i64 x, .int .i64 y, .int .i64 z] 33)
  have hx := Blk.new w 33 #[.int .i64 x, .int .i64 y, .int .i64 z]
  have HX0 := Lib.hid hx
  have hlt := hx.lt
  clear hx
  go_enter Try.func37, Try.ntmps37
  go_wp2_with (fail)
  (with_reducible refine (letAd_any x y z _).mono ?_)
  rintro e w1 ⟨rfl, hb1⟩
  have hb01 := up hb0 hb1
  have hx1 := HX0.out.below hb1 hlt
  have hlt1 := hx1.lt
  clear hb1 hb0 HX0
  go_wp2_with (fail)
  refine (adValid_any x y _).mono ?_
  rintro e w2 ⟨rfl, hb2⟩
  have HB2 := Lib.hid (up hb01 hb2)
  have hx2 := hx1.below hb2 hlt1
  have hc : w2.cell? ⟨w.heap.size, 2, none⟩ = some (.int .i64 z) := hx2.cell 2
  clear hb2 hb01 hx1 hx2
  cases ha : (inR x 0 9 && inR y 0 99) with
  | false =>
    have HX := Lib.hid (show vLet (x, y, z) = false by
      rw [Bool.eq_false_iff]
      intro h
      simp only [vLet, Bool.and_eq_true] at h
      rw [Bool.and_eq_false_iff] at ha
      rcases ha with ha | ha <;> simp [ha] at h)
    clear ha
    go_wp2
    try (go_quiet (fail); go_wp2)
    go_ret
    exact ⟨ret_bool HX.out.symm, by first | exact HB2.out | exact up_drewN HB2.out _⟩
  | true =>
  have HA := Lib.hid ha
  clear ha
  by_cases h1 : 0 ≤ z
  · have g1 : decide (0 ≤ z) = true := decide_eq_true h1
    by_cases h2 : z ≤ 9999
    · have g2 : decide (z ≤ 9999) = true := decide_eq_true h2
      have HX := Lib.hid (show vLet (x, y, z) = true by
        have h := HA.out
        rw [Bool.and_eq_true] at h
        simp only [vLet, h.1, h.2, inR_iff.2 ⟨h1, h2⟩, Bool.and_self])
      clear h1 h2
      go_wp2
      try (go_quiet (fail); go_wp2)
      go_ret
      exact ⟨ret_bool HX.out.symm, by first | exact HB2.out | exact up_drewN HB2.out _⟩
    · have g2 : decide (z ≤ 9999) = false := decide_eq_false h2
      have HX := Lib.hid (show vLet (x, y, z) = false by simp [vLet, inR, h2])
      clear h1 h2
      go_wp2
      try (go_quiet (fail); go_wp2)
      go_ret
      exact ⟨ret_bool HX.out.symm, by first | exact HB2.out | exact up_drewN HB2.out _⟩
  · have g1 : decide (0 ≤ z) = false := decide_eq_false h1
    have HX := Lib.hid (show vLet (x, y, z) = false by simp [vLet, inR, h1])
    clear h1
    go_wp2
    try (go_quiet (fail); go_wp2)
    go_ret
    exact ⟨ret_bool HX.out.symm, by first | exact HB2.out | exact up_drewN HB2.out _⟩
end Go.Proofs.Ytgnffodnimafoaa
