/- The program's logs: NewerLog, firstSame, CommonPart. -/
import Derived.Test.YtfpiejcfhdnjiaaLogI
set_option linter.unusedSimpArgs false
set_option linter.unusedVariables false
namespace Go.Proofs.Ytfpiejcfhdnjiaa
open Go.RowKit

set_option maxRecDepth 100000 in
set_option maxHeartbeats 1600000 in
theorem NewerLogI_any (lo hi n c : Nat) (A : Option Addr) (ps : List En) (lo2 hi2 n2 c2 : Nat) (A2 : Option Addr) (qs : List En) (w : World) (hr : Rd w lo hi 2 A n (pvs ps)) (hB : hi ≤ w.heap.size) (hn : n ≤ 1048576) (hcap : n ≤ c) (hr2 : Rd w lo2 hi2 2 A2 n2 (pvs qs)) (hB2 : hi2 ≤ w.heap.size) (hn2 : n2 ≤ 1048576) (hcap2 : n2 ≤ c2) :
    Calls Try.prog 75 #[.slice A n c, .slice A2 n2 c2] w fun e w' => e = .returned (.bool (newerOf ps qs)) ∧ Below w.heap.size w w' := by
  have HL := Lib.hid hr.len2
  have HL2 := Lib.hid hr2.len2
  have HR := Lib.hid hr
  have HR2 := Lib.hid hr2
  clear hr hr2
  go_enter Try.func75, Try.ntmps75
  go_wp2_with (fail)
  (with_reducible refine (ValidLogI_any lo hi n c A ps _ HR.out hB hn hcap).mono ?_)
  rintro e w1 ⟨rfl, hb1⟩
  have HB1 := Lib.hid hb1
  have hs1 := hb1.size
  clear hb1
  cases hv : vLog ps with
  | false =>
    have HX := Lib.hid (show newerOf ps qs = false by simp [newerOf, hv])
    clear hv
    go_wp2
    go_ret
    exact ⟨by rw [HX.out]; rfl, HB1.out⟩
  | true =>
  have HV := Lib.hid hv
  clear hv
  go_wp2_with (fail)
  (with_reducible refine (ValidLogI_any lo2 hi2 n2 c2 A2 qs _ (HR2.out.keep HB1.out hB2) (by omega) hn2 hcap2).mono ?_)
  rintro e w2 ⟨rfl, hb2⟩
  have HB2 := Lib.hid (up HB1.out hb2)
  have hs2 := hb2.size
  clear hb2
  cases hv : vLog qs with
  | false =>
    have HX := Lib.hid (show newerOf ps qs = false by simp [newerOf, hv])
    clear hv
    go_wp2
    go_ret
    exact ⟨by rw [HX.out]; rfl, HB2.out⟩
  | true =>
  have HX := Lib.hid (show newerOf ps qs = (decide (termOf qs n2 < termOf ps n) || (termOf ps n == termOf qs n2 && decide (n2 ≤ n))) by simp [newerOf, lastTerm, hv, HV.out, HL.out, HL2.out])
  clear hv
  have HC1 := Lib.hid (fun wx (hb : Below w.heap.size w wx) => lastTermI_any lo hi n c A ps wx (HR.out.keep hb hB) hn)
  have HC2 := Lib.hid (fun wx (hb : Below w.heap.size w wx) => lastTermI_any lo2 hi2 n2 c2 A2 qs wx (HR2.out.keep hb hB2) hn2)
  generalize termOf ps n = x at *
  generalize termOf qs n2 = y at *
  go_wp2_with (fail)
  (with_reducible refine (HC1.out _ HB2.out).mono ?_)
  rintro e w3 ⟨rfl, rfl⟩
  go_wp2_with (fail)
  (with_reducible refine (HC2.out _ HB2.out).mono ?_)
  rintro e w3 ⟨rfl, rfl⟩
  by_cases h2 : x = y
  · have h2d : (x == y) = true := by simpa using h2
    by_cases h3 : n2 ≤ n
    · have HY := Lib.hid (show newerOf ps qs = true by rw [HX.out, h2d, decide_eq_true h3]; simp)
      have h3d : decide ((n2 : Int) ≤ (n : Int)) = true := decide_eq_true (by omega)
      clear h2
      go_wp2
      go_ret
      exact ⟨by rw [HY.out]; first | done | rfl | skip, HB2.out⟩
    · have HY := Lib.hid (show newerOf ps qs = false by rw [HX.out, decide_eq_false h3, decide_eq_false (by omega)]; simp)
      have h3d : decide ((n2 : Int) ≤ (n : Int)) = false := decide_eq_false (by omega)
      clear h2
      go_wp2
      go_ret
      exact ⟨by rw [HY.out]; first | done | rfl | skip, HB2.out⟩
  have h2d : (x == y) = false := by simpa using h2
  have HY := Lib.hid (show newerOf ps qs = decide (y < x) by rw [HX.out, h2d]; simp)
  clear h2
  go_wp2_with (fail)
  (with_reducible refine (HC1.out _ HB2.out).mono ?_)
  rintro e w3 ⟨rfl, rfl⟩
  go_wp2_with (fail)
  (with_reducible refine (HC2.out _ HB2.out).mono ?_)
  rintro e w3 ⟨rfl, rfl⟩
  go_wp2
  go_ret
  exact ⟨by rw [HY.out]; rfl, HB2.out⟩
end Go.Proofs.Ytfpiejcfhdnjiaa
