/- The reference's validLog, whose world does nothing but draw. (Out of LogS1.) -/
import Derived.Test.YtfpiejcfhdnjiaaLogS1
set_option linter.unusedSimpArgs false
set_option linter.unusedVariables false
namespace Go.Proofs.Ytfpiejcfhdnjiaa
open Go.RowKit

theorem dr_below {w wr : World} (h : ∃ m, wr = w.drewN m) : Below w.heap.size w wr := by
  obtain ⟨m, rfl⟩ := h
  exact up_drewN (Below.refl _ w) m
theorem dr_drew {w wr : World} (h : ∃ m, wr = w.drewN m) (n : Nat) : ∃ m, wr.drewN n = w.drewN m := by
  obtain ⟨m, rfl⟩ := h
  exact ⟨m + n, World.drewN_drewN _ _ _⟩
set_option maxRecDepth 100000 in
set_option maxHeartbeats 1600000 in
theorem validLogS_q (lo hi n c : Nat) (A : Option Addr) (ps : List En) (w : World) (hr : Rd w lo hi 2 A n (pvs ps)) (hB : hi ≤ w.heap.size) (hn : n ≤ 1048576) :
    Calls Try.prog 44 #[.slice A n c] w fun e w' => e = .returned (.bool (vLog ps)) ∧ ∃ m, w' = w.drewN m := by
  have HL := Lib.hid hr.len2
  go_enter Try.func44, Try.ntmps44
  go_wp2
  go_loopw [3] (fun iv wr => ∃ (k : Nat), k ≤ n ∧ iv = .int .i64 k ∧ Hid (rise ps = riseFrom (aheadT ps k) (ps.drop k)) ∧ Hid (∃ m, wr = w.drewN m))
     (fun iv _ => n - (intOf iv).toNat)
  case atStart => exact ⟨0, by omega, rfl, rfl, 0, rfl⟩
  case round =>
    obtain ⟨k, hk, rfl, hS, HD⟩ := hrel
    have HB := Lib.hid (dr_below HD.out)
    by_cases hlt : k < n
    · obtain ⟨b, off, x, y, hA, hbB, _, hg, hc0, hc1⟩ := (hr.keep HB.out hB).pair hlt
      subst hA
      have hkn : (k : Int) < (n : Int) := by omega
      have hk0 : (0 : Int) ≤ (k : Int) := by omega
      have HG := Lib.hid hg
      clear hg
      have HR1 := Lib.hid (hr.keep HB.out hB)
      cases h0 : inR x 1 9 with
      | false =>
        have HX := Lib.hid (show vLog ps = false by rw [vLog, hS.out, rise_bad HG.out (.inl (by simp [okEn, h0]))]; rfl)
        go_wp2
        go_quiet ((go_at_call 45; exact Calls.quiet_of_same ((inRange_any _ _ _ _).mono fun _ _ h => ⟨h.1, h.2.symm⟩)))
        go_wp2
        go_ret
        exact ⟨ret_bool HX.out.symm, dr_drew HD.out _⟩
      | true =>
      cases h1 : inR y 0 99 with
      | false =>
        have HX := Lib.hid (show vLog ps = false by rw [vLog, hS.out, rise_bad HG.out (.inl (by simp [okEn, h0, h1]))]; rfl)
        go_wp2
        go_quiet ((go_at_call 45; exact Calls.quiet_of_same ((inRange_any _ _ _ _).mono fun _ _ h => ⟨h.1, h.2.symm⟩)))
        go_wp2
        go_ret
        exact ⟨ret_bool HX.out.symm, dr_drew HD.out _⟩
      | true =>
      have HV := Lib.hid (show okEn (x, y) = true by simp [okEn, h0, h1])
      rcases Nat.eq_zero_or_pos k with hz | hz
      · have HS := Lib.hid (hS.out.trans (rise_step HG.out HV.out (fun y h => by subst hz; cases h)))
        have hgt : decide (0 < k) = false := decide_eq_false (by omega)
        clear hz
        go_wp2
        go_quiet ((go_at_call 45; exact Calls.quiet_of_same ((inRange_any _ _ _ _).mono fun _ _ h => ⟨h.1, h.2.symm⟩)))
        go_wp2
        go_roundw
        case rel => exact ⟨k + 1, by omega, by go_num, HS, dr_drew HD.out _⟩
        case measure => simp [intOf]; omega
      · obtain ⟨j, rfl⟩ : ∃ j, k = j + 1 := ⟨k - 1, by omega⟩
        obtain ⟨b', off', x', y', hA', _, _, hg', p0, p1⟩ := HR1.out.pair (k := j) (by omega)
        injection hA' with hA'; injection hA' with h1' h2'
        subst h1'; subst h2'
        have HG' := Lib.hid (aheadT_get hg')
        clear hg'
        have hj1 : ((j + 1 : Nat) : Int) - 1 = (j : Int) := by omega
        have hgt : decide ((0 : Int) < ((j + 1 : Nat) : Int)) = true := decide_eq_true (by omega)
        by_cases hle : x < x'
        · have HX := Lib.hid (show vLog ps = false by rw [vLog, hS.out, rise_bad HG.out (.inr ⟨x', HG'.out, hle⟩)]; rfl)
          have hlx : decide (x < x') = true := decide_eq_true hle
          go_wp2
          go_quiet ((go_at_call 45; exact Calls.quiet_of_same ((inRange_any _ _ _ _).mono fun _ _ h => ⟨h.1, h.2.symm⟩)))
          go_wp2
          go_ret
          exact ⟨ret_bool HX.out.symm, dr_drew HD.out _⟩
        · have HS := Lib.hid (hS.out.trans (rise_step HG.out HV.out (fun y h => by rw [HG'.out] at h; injection h with h; subst h; show x' ≤ x; omega)))
          have hlx : decide (x < x') = false := decide_eq_false hle
          go_wp2
          go_quiet ((go_at_call 45; exact Calls.quiet_of_same ((inRange_any _ _ _ _).mono fun _ _ h => ⟨h.1, h.2.symm⟩)))
          go_wp2
          go_roundw
          case rel => exact ⟨j + 1 + 1, by omega, by go_num, HS, dr_drew HD.out _⟩
          case measure => simp [intOf]; omega
    · obtain rfl : n = k := by omega
      have HX := Lib.hid (show rise ps = true by rw [hS.out, List.drop_of_length_le (by rw [HL.out]; omega)]; rfl)
      by_cases hm : n ≤ 16
      · have HX2 := Lib.hid (show vLog ps = true by rw [vLog, HX.out, HL.out, decide_eq_true hm]; rfl)
        go_wp2
        go_ret
        exact ⟨ret_bool (by rw [HX2.out]; exact decide_eq_true (by omega)), HD.out⟩
      · have HX2 := Lib.hid (show vLog ps = false by rw [vLog, HX.out, HL.out, decide_eq_false hm]; rfl)
        go_wp2
        go_ret
        exact ⟨ret_bool (by rw [HX2.out]; exact decide_eq_false (by omega)), HD.out⟩
end Go.Proofs.Ytfpiejcfhdnjiaa
