/- The reference's logs: validLog, termAt, copyLog, ValidLog, NewerLog, CommonPart. -/
import Derived.Test.YtfpiejcfhdnjiaaLogMath
import Derived.Test.YtfpiejcfhdnjiaaCondS
import Derived.Test.YtfpiejcfhdnjiaaExInt
import Derived.BigQuiet
set_option linter.unusedSimpArgs false
set_option linter.unusedVariables false
namespace Go.Proofs.Ytfpiejcfhdnjiaa
open Go.RowKit

set_option maxRecDepth 100000 in
set_option maxHeartbeats 1600000 in
theorem validLogS_any (lo hi n c : Nat) (A : Option Addr) (ps : List En) (w : World) (hr : Rd w lo hi 2 A n (pvs ps)) (hB : hi ≤ w.heap.size) (hn : n ≤ 1048576) :
    Calls Try.prog 44 #[.slice A n c] w fun e w' => e = .returned (.bool (vLog ps)) ∧ Below w.heap.size w w' := by
  have HL := Lib.hid hr.len2
  go_enter Try.func44, Try.ntmps44
  go_wp2
  go_loopw [3] (fun iv wr => ∃ (k : Nat), k ≤ n ∧ iv = .int .i64 k ∧ Hid (rise ps = riseFrom (aheadT ps k) (ps.drop k)) ∧ Hid (Below w.heap.size w wr))
     (fun iv _ => n - (intOf iv).toNat)
  case atStart => exact ⟨0, by omega, rfl, rfl, Below.refl _ _⟩
  case round =>
    obtain ⟨k, hk, rfl, hS, HB⟩ := hrel
    by_cases hlt : k < n
    · obtain ⟨b, off, x, y, hA, hbB, _, hg, hc0, hc1⟩ := (hr.keep HB.out hB).pair hlt
      subst hA
      have hkn : (k : Int) < (n : Int) := by omega
      have hk0 : (0 : Int) ≤ (k : Int) := by omega
      have HG := Lib.hid hg
      clear hg
      have HR1 := Lib.hid (hr.keep HB.out hB)
      cases h0 : inR x 1 9 with
      | false =>
        have HX := Lib.hid (show vLog ps = false by rw [vLog, hS.out, rise_bad HG.out (.inl (by simp [okEn, h0]))]; rfl)
        go_wp2
        go_quiet ((go_at_call 45; exact Calls.quiet_of_same ((inRange_any _ _ _ _).mono fun _ _ h => ⟨h.1, h.2.symm⟩)))
        go_wp2
        go_ret
        exact ⟨ret_bool HX.out.symm, up_drewN HB.out _⟩
      | true =>
      cases h1 : inR y 0 99 with
      | false =>
        have HX := Lib.hid (show vLog ps = false by rw [vLog, hS.out, rise_bad HG.out (.inl (by simp [okEn, h0, h1]))]; rfl)
        go_wp2
        go_quiet ((go_at_call 45; exact Calls.quiet_of_same ((inRange_any _ _ _ _).mono fun _ _ h => ⟨h.1, h.2.symm⟩)))
        go_wp2
        go_ret
        exact ⟨ret_bool HX.out.symm, up_drewN HB.out _⟩
      | true =>
      have HV := Lib.hid (show okEn (x, y) = true by simp [okEn, h0, h1])
      rcases Nat.eq_zero_or_pos k with hz | hz
      · have HS := Lib.hid (hS.out.trans (rise_step HG.out HV.out (fun y h => by subst hz; cases h)))
        have hgt : decide (0 < k) = false := decide_eq_false (by omega)
        clear hz
        go_wp2
        go_quiet ((go_at_call 45; exact Calls.quiet_of_same ((inRange_any _ _ _ _).mono fun _ _ h => ⟨h.1, h.2.symm⟩)))
        go_wp2
        go_roundw
        case rel => exact ⟨k + 1, by omega, by go_num, HS, up_drewN HB.out _⟩
        case measure => simp [intOf]; omega
      · obtain ⟨j, rfl⟩ : ∃ j, k = j + 1 := ⟨k - 1, by omega⟩
        obtain ⟨b', off', x', y', hA', _, _, hg', p0, p1⟩ := HR1.out.pair (k := j) (by omega)
        injection hA' with hA'; injection hA' with h1' h2'
        subst h1'; subst h2'
        have HG' := Lib.hid (aheadT_get hg')
        clear hg'
        have hj1 : ((j + 1 : Nat) : Int) - 1 = (j : Int) := by omega
        have hgt : decide ((0 : Int) < ((j + 1 : Nat) : Int)) = true := decide_eq_true (by omega)
        by_cases hle : x < x'
        · have HX := Lib.hid (show vLog ps = false by rw [vLog, hS.out, rise_bad HG.out (.inr ⟨x', HG'.out, hle⟩)]; rfl)
          have hlx : decide (x < x') = true := decide_eq_true hle
          go_wp2
          go_quiet ((go_at_call 45; exact Calls.quiet_of_same ((inRange_any _ _ _ _).mono fun _ _ h => ⟨h.1, h.2.symm⟩)))
          go_wp2
          go_ret
          exact ⟨ret_bool HX.out.symm, up_drewN HB.out _⟩
        · have HS := Lib.hid (hS.out.trans (rise_step HG.out HV.out (fun y h => by rw [HG'.out] at h; injection h with h; subst h; show x' ≤ x; omega)))
          have hlx : decide (x < x') = false := decide_eq_false hle
          go_wp2
          go_quiet ((go_at_call 45; exact Calls.quiet_of_same ((inRange_any _ _ _ _).mono fun _ _ h => ⟨h.1, h.2.symm⟩)))
          go_wp2
          go_roundw
          case rel => exact ⟨j + 1 + 1, by omega, by go_num, HS, up_drewN HB.out _⟩
          case measure => simp [intOf]; omega
    · obtain rfl : n = k := by omega
      have HX := Lib.hid (show rise ps = true by rw [hS.out, List.drop_of_length_le (by rw [HL.out]; omega)]; rfl)
      by_cases hm : n ≤ 16
      · have HX2 := Lib.hid (show vLog ps = true by rw [vLog, HX.out, HL.out, decide_eq_true hm]; rfl)
        go_wp2
        go_ret
        exact ⟨ret_bool (by rw [HX2.out]; exact decide_eq_true (by omega)), HB.out⟩
      · have HX2 := Lib.hid (show vLog ps = false by rw [vLog, HX.out, HL.out, decide_eq_false hm]; rfl)
        go_wp2
        go_ret
        exact ⟨ret_bool (by rw [HX2.out]; exact decide_eq_false (by omega)), HB.out⟩
set_option maxHeartbeats 800000 in
theorem termAtS_any (lo hi n c : Nat) (A : Option Addr) (ps : List En) (k : Nat) (w : World) (hr : Rd w lo hi 2 A n (pvs ps)) (hk : k ≤ n) (hn : n ≤ 1048576) :
    Calls Try.prog 79 #[.slice A n c, .int .i64 (k : Int)] w fun e w' => e = .returned (.int .i64 (termOf ps k)) ∧ w = w' := by
  rcases Nat.eq_zero_or_pos k with rfl | hz
  · go_enter Try.func79, Try.ntmps79
    go_wp2
    go_ret
    exact ⟨rfl, rfl⟩
  · obtain ⟨j, rfl⟩ : ∃ j, k = j + 1 := ⟨k - 1, by omega⟩
    obtain ⟨b, off, x, y, hA, hbB, _, hg, hc0, hc1⟩ := hr.pair (k := j) (by omega)
    subst hA
    have HT := Lib.hid (termOf_get hg)
    clear hg
    have hj1 : IntKind.i64.wrap (((j + 1 : Nat) : Int) - 1) = (j : Int) := by rw [IntWalk.i64_in _ (by omega)]; omega
    have hj0 : (0 : Int) ≤ (j : Int) := by omega
    have hjn : (j : Int) < (n : Int) := by omega
    have hne : (((j + 1 : Nat) : Int) == 0) = false := by rw [beq_eq_false_iff_ne]; omega
    go_enter Try.func79, Try.ntmps79
    go_wp2
    go_ret
    exact ⟨by rw [HT.out]; rfl, rfl⟩
set_option maxRecDepth 100000 in
set_option maxHeartbeats 1600000 in
theorem NewerLogS_any (lo hi n c : Nat) (A : Option Addr) (ps : List En) (lo2 hi2 n2 c2 : Nat) (A2 : Option Addr) (qs : List En) (w : World) (hr : Rd w lo hi 2 A n (pvs ps)) (hB : hi ≤ w.heap.size) (hn : n ≤ 1048576) (hr2 : Rd w lo2 hi2 2 A2 n2 (pvs qs)) (hB2 : hi2 ≤ w.heap.size) (hn2 : n2 ≤ 1048576) :
    Calls Try.prog 73 #[.slice A n c, .slice A2 n2 c2] w fun e w' => e = .returned (.bool (newerOf ps qs)) ∧ Below w.heap.size w w' := by
  have HL := Lib.hid hr.len2
  have HL2 := Lib.hid hr2.len2
  have HR := Lib.hid hr
  have HR2 := Lib.hid hr2
  clear hr hr2
  go_enter Try.func73, Try.ntmps73
  go_wp2_with (fail)
  (with_reducible refine (validLogS_any lo hi n c A ps _ HR.out hB hn).mono ?_)
  rintro e w1 ⟨rfl, hb1⟩
  have HB1 := Lib.hid hb1
  have hs1 := hb1.size
  clear hb1
  cases hv : vLog ps with
  | false =>
    have HX := Lib.hid (show newerOf ps qs = false by simp [newerOf, hv])
    clear hv
    go_wp2
    go_ret
    exact ⟨by rw [HX.out]; rfl, HB1.out⟩
  | true =>
  have HV := Lib.hid hv
  clear hv
  go_wp2_with (fail)
  (with_reducible refine (validLogS_any lo2 hi2 n2 c2 A2 qs _ (HR2.out.keep HB1.out hB2) (by omega) hn2).mono ?_)
  rintro e w2 ⟨rfl, hb2⟩
  have HB2 := Lib.hid (up HB1.out hb2)
  have hs2 := hb2.size
  clear hb2
  cases hv : vLog qs with
  | false =>
    have HX := Lib.hid (show newerOf ps qs = false by simp [newerOf, hv])
    clear hv
    go_wp2
    go_ret
    exact ⟨by rw [HX.out]; rfl, HB2.out⟩
  | true =>
  have HX := Lib.hid (show newerOf ps qs = (decide (termOf qs n2 < termOf ps n) || (termOf ps n == termOf qs n2 && decide (n2 ≤ n))) by simp [newerOf, lastTerm, hv, HV.out, HL.out, HL2.out])
  clear hv
  go_wp2_with (fail)
  (with_reducible refine (termAtS_any lo hi n c A ps n _ (HR.out.keep HB2.out hB) (Nat.le_refl _) hn).mono ?_)
  rintro e w3 ⟨rfl, rfl⟩
  go_wp2_with (fail)
  (with_reducible refine (termAtS_any lo2 hi2 n2 c2 A2 qs n2 _ (HR2.out.keep HB2.out hB2) (Nat.le_refl _) hn2).mono ?_)
  rintro e w3 ⟨rfl, rfl⟩
  generalize termOf ps n = x at *
  generalize termOf qs n2 = y at *
  by_cases h1 : y < x
  · have h1d : decide (y < x) = true := decide_eq_true h1
    have HY := Lib.hid (show newerOf ps qs = true by rw [HX.out, h1d]; rfl)
    go_wp2
    go_ret
    exact ⟨by rw [HY.out]; rfl, HB2.out⟩
  have h1d : decide (y < x) = false := decide_eq_false h1
  by_cases h2 : x = y
  case neg =>
    have h2d : (x == y) = false := by simpa using h2
    have HY := Lib.hid (show newerOf ps qs = false by rw [HX.out, h1d, h2d]; rfl)
    clear h2
    go_wp2
    go_ret
    exact ⟨by rw [HY.out]; rfl, HB2.out⟩
  have h2d : (x == y) = true := by simpa using h2
  by_cases h3 : n2 ≤ n
  · have HY := Lib.hid (show newerOf ps qs = true by rw [HX.out, h2d, decide_eq_true h3]; simp)
    have h3d : decide ((n2 : Int) ≤ (n : Int)) = true := decide_eq_true (by omega)
    clear h2
    go_wp2
    go_ret
    exact ⟨by rw [HY.out]; first | done | rfl | skip, HB2.out⟩
  · have HY := Lib.hid (show newerOf ps qs = false by rw [HX.out, h1d, h2d, decide_eq_false h3]; rfl)
    have h3d : decide ((n2 : Int) ≤ (n : Int)) = false := decide_eq_false (by omega)
    clear h2
    go_wp2
    go_ret
    exact ⟨by rw [HY.out]; first | done | rfl | skip, HB2.out⟩
end Go.Proofs.Ytfpiejcfhdnjiaa
