/- What is valid in worklists and clients: the program's small functions; slices.Contains on ints. (Written by gen/work_small.py.) -/
import Derived.Test.YtipoakimjhfhfabWorkMath
import Derived.Test.YtipoakimjhfhfabLawLists
import Derived.BigQuiet
import Derived.Deep.RegionHeld3
set_option linter.unusedSimpArgs false
set_option linter.unusedVariables false
namespace Go.Proofs.Ytipoakimjhfhfab
open Go.RowKit

set_option maxRecDepth 100000 in
set_option maxHeartbeats 1600000 in
theorem itemValid_any (x y z : Int) (w : World) :
    Calls Try.prog 121 #[.agg #[.int .i64 x, .int .i64 y, .int .i64 z]] w fun e w' => e = .returned (.bool (okItem (x, y, z))) ∧ Below w.heap.size w w' := by
  by_cases h0 : 1 ≤ x
  · have g0 : decide (1 ≤ x) = true := decide_eq_true h0
    by_cases h1 : x ≤ 999
    · have g1 : decide (x ≤ 999) = true := decide_eq_true h1
      by_cases h2 : 0 ≤ y
      · have g2 : decide (0 ≤ y) = true := decide_eq_true h2
        by_cases h3 : y ≤ 5
        · have g3 : decide (y ≤ 5) = true := decide_eq_true h3
          by_cases h4 : 0 ≤ z
          · have g4 : decide (0 ≤ z) = true := decide_eq_true h4
            by_cases h5 : z ≤ 9
            · have g5 : decide (z ≤ 9) = true := decide_eq_true h5
              have HX := Lib.hid (show (okItem (x, y, z)) = true by simp [okItem, inR, h0, h1, h2, h3, h4, h5])
              clear h0 h1 h2 h3 h4 h5
              go_enter Try.func121, Try.ntmps121
              go_wp2
              try (go_quiet (fail); go_wp2)
              go_ret
              exact ⟨ret_bool HX.out.symm, by repeat (first | exact Below.refl _ _ | refine up_drewN ?_ _ | refine up_drew ?_ | refine up_alloc ?_ _)⟩
            · have g5 : decide (z ≤ 9) = false := decide_eq_false h5
              have HX := Lib.hid (show (okItem (x, y, z)) = false by simp [okItem, inR, h0, h1, h2, h3, h4, h5])
              clear h0 h1 h2 h3 h4 h5
              go_enter Try.func121, Try.ntmps121
              go_wp2
              try (go_quiet (fail); go_wp2)
              go_ret
              exact ⟨ret_bool HX.out.symm, by repeat (first | exact Below.refl _ _ | refine up_drewN ?_ _ | refine up_drew ?_ | refine up_alloc ?_ _)⟩
          · have g4 : decide (0 ≤ z) = false := decide_eq_false h4
            have HX := Lib.hid (show (okItem (x, y, z)) = false by simp [okItem, inR, h0, h1, h2, h3, h4])
            clear h0 h1 h2 h3 h4
            go_enter Try.func121, Try.ntmps121
            go_wp2
            try (go_quiet (fail); go_wp2)
            go_ret
            exact ⟨ret_bool HX.out.symm, by repeat (first | exact Below.refl _ _ | refine up_drewN ?_ _ | refine up_drew ?_ | refine up_alloc ?_ _)⟩
        · have g3 : decide (y ≤ 5) = false := decide_eq_false h3
          have HX := Lib.hid (show (okItem (x, y, z)) = false by simp [okItem, inR, h0, h1, h2, h3])
          clear h0 h1 h2 h3
          go_enter Try.func121, Try.ntmps121
          go_wp2
          try (go_quiet (fail); go_wp2)
          go_ret
          exact ⟨ret_bool HX.out.symm, by repeat (first | exact Below.refl _ _ | refine up_drewN ?_ _ | refine up_drew ?_ | refine up_alloc ?_ _)⟩
      · have g2 : decide (0 ≤ y) = false := decide_eq_false h2
        have HX := Lib.hid (show (okItem (x, y, z)) = false by simp [okItem, inR, h0, h1, h2])
        clear h0 h1 h2
        go_enter Try.func121, Try.ntmps121
        go_wp2
        try (go_quiet (fail); go_wp2)
        go_ret
        exact ⟨ret_bool HX.out.symm, by repeat (first | exact Below.refl _ _ | refine up_drewN ?_ _ | refine up_drew ?_ | refine up_alloc ?_ _)⟩
    · have g1 : decide (x ≤ 999) = false := decide_eq_false h1
      have HX := Lib.hid (show (okItem (x, y, z)) = false by simp [okItem, inR, h0, h1])
      clear h0 h1
      go_enter Try.func121, Try.ntmps121
      go_wp2
      try (go_quiet (fail); go_wp2)
      go_ret
      exact ⟨ret_bool HX.out.symm, by repeat (first | exact Below.refl _ _ | refine up_drewN ?_ _ | refine up_drew ?_ | refine up_alloc ?_ _)⟩
  · have g0 : decide (1 ≤ x) = false := decide_eq_false h0
    have HX := Lib.hid (show (okItem (x, y, z)) = false by simp [okItem, inR, h0])
    clear h0
    go_enter Try.func121, Try.ntmps121
    go_wp2
    try (go_quiet (fail); go_wp2)
    go_ret
    exact ⟨ret_bool HX.out.symm, by repeat (first | exact Below.refl _ _ | refine up_drewN ?_ _ | refine up_drew ?_ | refine up_alloc ?_ _)⟩
set_option maxRecDepth 100000 in
set_option maxHeartbeats 1600000 in
theorem isOwner_any (x : Int) (w : World) :
    Calls Try.prog 56 #[.int .i64 x] w fun e w' => e = .returned (.bool (inR x 1 9)) ∧ Below w.heap.size w w' := by
  by_cases h0 : 1 ≤ x
  · have g0 : decide (1 ≤ x) = true := decide_eq_true h0
    by_cases h1 : x ≤ 9
    · have g1 : decide (x ≤ 9) = true := decide_eq_true h1
      have HX := Lib.hid (show (inR x 1 9) = true by simp [inR, h0, h1])
      clear h0 h1
      go_enter Try.func56, Try.ntmps56
      go_wp2
      try (go_quiet (fail); go_wp2)
      go_ret
      exact ⟨ret_bool HX.out.symm, by repeat (first | exact Below.refl _ _ | refine up_drewN ?_ _ | refine up_drew ?_ | refine up_alloc ?_ _)⟩
    · have g1 : decide (x ≤ 9) = false := decide_eq_false h1
      have HX := Lib.hid (show (inR x 1 9) = false by simp [inR, h0, h1])
      clear h0 h1
      go_enter Try.func56, Try.ntmps56
      go_wp2
      try (go_quiet (fail); go_wp2)
      go_ret
      exact ⟨ret_bool HX.out.symm, by repeat (first | exact Below.refl _ _ | refine up_drewN ?_ _ | refine up_drew ?_ | refine up_alloc ?_ _)⟩
  · have g0 : decide (1 ≤ x) = false := decide_eq_false h0
    have HX := Lib.hid (show (inR x 1 9) = false by simp [inR, h0])
    clear h0
    go_enter Try.func56, Try.ntmps56
    go_wp2
    try (go_quiet (fail); go_wp2)
    go_ret
    exact ⟨ret_bool HX.out.symm, by repeat (first | exact Below.refl _ _ | refine up_drewN ?_ _ | refine up_drew ?_ | refine up_alloc ?_ _)⟩
set_option maxRecDepth 100000 in
set_option maxHeartbeats 1600000 in
theorem isClient_any (x : Int) (w : World) :
    Calls Try.prog 76 #[.int .i64 x] w fun e w' => e = .returned (.bool (inR x 0 9)) ∧ Below w.heap.size w w' := by
  by_cases h0 : 0 ≤ x
  · have g0 : decide (0 ≤ x) = true := decide_eq_true h0
    by_cases h1 : x ≤ 9
    · have g1 : decide (x ≤ 9) = true := decide_eq_true h1
      have HX := Lib.hid (show (inR x 0 9) = true by simp [inR, h0, h1])
      clear h0 h1
      go_enter Try.func76, Try.ntmps76
      go_wp2
      try (go_quiet (fail); go_wp2)
      go_ret
      exact ⟨ret_bool HX.out.symm, by repeat (first | exact Below.refl _ _ | refine up_drewN ?_ _ | refine up_drew ?_ | refine up_alloc ?_ _)⟩
    · have g1 : decide (x ≤ 9) = false := decide_eq_false h1
      have HX := Lib.hid (show (inR x 0 9) = false by simp [inR, h0, h1])
      clear h0 h1
      go_enter Try.func76, Try.ntmps76
      go_wp2
      try (go_quiet (fail); go_wp2)
      go_ret
      exact ⟨ret_bool HX.out.symm, by repeat (first | exact Below.refl _ _ | refine up_drewN ?_ _ | refine up_drew ?_ | refine up_alloc ?_ _)⟩
  · have g0 : decide (0 ≤ x) = false := decide_eq_false h0
    have HX := Lib.hid (show (inR x 0 9) = false by simp [inR, h0])
    clear h0
    go_enter Try.func76, Try.ntmps76
    go_wp2
    try (go_quiet (fail); go_wp2)
    go_ret
    exact ⟨ret_bool HX.out.symm, by repeat (first | exact Below.refl _ _ | refine up_drewN ?_ _ | refine up_drew ?_ | refine up_alloc ?_ _)⟩
set_option maxRecDepth 100000 in
set_option maxHeartbeats 1600000 in
theorem isTime_any (x : Int) (w : World) :
    Calls Try.prog 65 #[.int .i64 x] w fun e w' => e = .returned (.bool (inR x 0 9999)) ∧ Below w.heap.size w w' := by
  by_cases h0 : 0 ≤ x
  · have g0 : decide (0 ≤ x) = true := decide_eq_true h0
    by_cases h1 : x ≤ 9999
    · have g1 : decide (x ≤ 9999) = true := decide_eq_true h1
      have HX := Lib.hid (show (inR x 0 9999) = true by simp [inR, h0, h1])
      clear h0 h1
      go_enter Try.func65, Try.ntmps65
      go_wp2
      try (go_quiet (fail); go_wp2)
      go_ret
      exact ⟨ret_bool HX.out.symm, by repeat (first | exact Below.refl _ _ | refine up_drewN ?_ _ | refine up_drew ?_ | refine up_alloc ?_ _)⟩
    · have g1 : decide (x ≤ 9999) = false := decide_eq_false h1
      have HX := Lib.hid (show (inR x 0 9999) = false by simp [inR, h0, h1])
      clear h0 h1
      go_enter Try.func65, Try.ntmps65
      go_wp2
      try (go_quiet (fail); go_wp2)
      go_ret
      exact ⟨ret_bool HX.out.symm, by repeat (first | exact Below.refl _ _ | refine up_drewN ?_ _ | refine up_drew ?_ | refine up_alloc ?_ _)⟩
  · have g0 : decide (0 ≤ x) = false := decide_eq_false h0
    have HX := Lib.hid (show (inR x 0 9999) = false by simp [inR, h0])
    clear h0
    go_enter Try.func65, Try.ntmps65
    go_wp2
    try (go_quiet (fail); go_wp2)
    go_ret
    exact ⟨ret_bool HX.out.symm, by repeat (first | exact Below.refl _ _ | refine up_drewN ?_ _ | refine up_drew ?_ | refine up_alloc ?_ _)⟩
theorem numItem_any (x y z : Int) (w : World) :
    Calls Try.prog 122 #[.agg #[.int .i64 x, .int .i64 y, .int .i64 z]] w fun e w' => e = .returned (.int .i64 x) ∧ Below w.heap.size w w' := by
  go_enter Try.func122, Try.ntmps122
  go_wp2
  go_ret
  exact ⟨rfl, by repeat (first | exact Below.refl _ _ | refine up_alloc ?_ _)⟩
theorem numClient_any (x y z t : Int) (w : World) :
    Calls Try.prog 124 #[.agg #[.int .i64 x, .int .i64 y, .int .i64 z, .int .i64 t]] w fun e w' => e = .returned (.int .i64 x) ∧ Below w.heap.size w w' := by
  go_enter Try.func124, Try.ntmps124
  go_wp2
  go_ret
  exact ⟨rfl, by repeat (first | exact Below.refl _ _ | refine up_alloc ?_ _)⟩
/-- Where a number stands first, -1 for nowhere. -/
def idxI (xs : List Int) (m : Int) : Int := match xs.findIdx? (· == m) with | some k => k | none => -1
set_option maxHeartbeats 400000 in
theorem indexI_any (lo hi n c : Nat) (A : Option Addr) (xs : List Int) (m : Int) (w : World) (hr : Rd w lo hi 1 A n (ivs xs)) (hn : n ≤ 1048576) :
    Calls Try.prog 73 #[.slice A n c, .int .i64 m] w fun e w' => (∃ z : Int, e = .returned (.int .i64 z) ∧ (0 ≤ z ↔ inL xs m = true) ∧ -1 ≤ z ∧ z ≤ 1048576) ∧ w = w' := by
  have HL := Lib.hid hr.len1
  go_enter Try.func73, Try.ntmps73
  go_wp2
  go_loop [8] (fun iv => ∃ (k : Nat), k ≤ n ∧ iv = .int .i64 k ∧ Hid (inL xs m = inL (xs.drop k) m))
     (fun iv => n - (intOf iv).toNat)
  case atStart => exact ⟨0, by omega, rfl, rfl⟩
  case round =>
    obtain ⟨k, hk, rfl, hS⟩ := hrel
    by_cases hlt : k < n
    · obtain ⟨b, off, x, rfl, _, _, hg, hc0⟩ := hr.one hlt
      have Hg := Lib.hid hg; clear hg
      by_cases he : x = m
      · subst he
        go_wp2
        go_ret
        exact ⟨⟨_, rfl, by rw [hS.out, inL_hit Hg.out]; simp, by omega, by omega⟩, rfl⟩
      · have he1 : (x == m) = false := by simpa using he
        have HS := Lib.hid (hS.out.trans (inL_miss Hg.out he))
        clear he
        go_wp2
        go_round
        case rel => exact ⟨k + 1, by omega, by go_num, HS⟩
        case measure => simp [intOf]; omega
    · obtain rfl : k = n := by omega
      go_wp2
      go_ret
      exact ⟨⟨_, rfl, by rw [hS.out, List.drop_of_length_le (by rw [HL.out]; omega)]; simp [inL], by omega, by omega⟩, rfl⟩
theorem containsI_any (lo hi n c : Nat) (A : Option Addr) (xs : List Int) (m : Int) (w : World) (hr : Rd w lo hi 1 A n (ivs xs)) (hn : n ≤ 1048576) :
    Calls Try.prog 57 #[.slice A n c, .int .i64 m] w fun e w' => e = .returned (.bool (inL xs m)) ∧ w = w' := by
  go_enter Try.func57, Try.ntmps57
  go_wp2_with (fail)
  (with_reducible refine (indexI_any lo hi n c A xs m _ hr hn).mono ?_)
  rintro e w1 ⟨⟨z, rfl, hz, _, _⟩, rfl⟩
  cases hv : inL xs m with
  | true =>
    have hz0 : 0 ≤ z := hz.2 hv
    have HV := Lib.hid hv
    clear hz hv
    go_wp2
    go_ret
    exact ⟨ret_bool (by first | exact HV.out.symm | (rw [HV.out]; simpa using hz0)), rfl⟩
  | false =>
    have hz0 : ¬ 0 ≤ z := fun h => by rw [hz.1 h] at hv; cases hv
    have HV := Lib.hid hv
    clear hz hv
    go_wp2
    go_ret
    exact ⟨ret_bool (by first | exact HV.out.symm | (rw [HV.out]; simpa using hz0)), rfl⟩
end Go.Proofs.Ytipoakimjhfhfab
