/- The program's logs: NewerLog, firstSame, CommonPart. -/
import Derived.Test.YtobjcifoaejonaaLogI
set_option linter.unusedSimpArgs false
set_option linter.unusedVariables false
namespace Go.Proofs.Ytobjcifoaejonaa
open Go.RowKit

set_option maxRecDepth 100000 in
set_option maxHeartbeats 1600000 in
theorem NewerLogI_any (lo hi n c : Nat) (A : Option Addr) (ps : List En) (lo2 hi2 n2 c2 : Nat) (A2 : Option Addr) (qs : List En) (w : World) (hr : Rd w lo hi 2 A n (pvs ps)) (hB : hi ≤ w.heap.size) (hn : n ≤ 1048576) (hcap : n ≤ c) (hr2 : Rd w lo2 hi2 2 A2 n2 (pvs qs)) (hB2 : hi2 ≤ w.heap.size) (hn2 : n2 ≤ 1048576) (hcap2 : n2 ≤ c2) :
    Calls Try.prog 25 #[.slice A n c, .slice A2 n2 c2] w fun e w' => e = .returned (.bool (newerOf ps qs)) ∧ Below w.heap.size w w' := by
  have HL := Lib.hid hr.len2
  have HL2 := Lib.hid hr2.len2
  have HR := Lib.hid hr
  have HR2 := Lib.hid hr2
  clear hr hr2
  go_enter Try.func25, Try.ntmps25
  go_wp2_with (fail)
  (with_reducible refine (ValidLogI_any lo hi n c A ps _ HR.out hB hn hcap).mono ?_)
  rintro e w1 ⟨rfl, hb1⟩
  have HB1 := Lib.hid hb1
  have hs1 := hb1.size
  clear hb1
  cases hv : vLog ps with
  | false =>
    have HX := Lib.hid (show newerOf ps qs = false by simp [newerOf, hv])
    clear hv
    go_wp2
    go_ret
    exact ⟨by rw [HX.out]; rfl, HB1.out⟩
  | true =>
  have HV := Lib.hid hv
  clear hv
  go_wp2_with (fail)
  (with_reducible refine (ValidLogI_any lo2 hi2 n2 c2 A2 qs _ (HR2.out.keep HB1.out hB2) (by omega) hn2 hcap2).mono ?_)
  rintro e w2 ⟨rfl, hb2⟩
  have HB2 := Lib.hid (up HB1.out hb2)
  have hs2 := hb2.size
  clear hb2
  cases hv : vLog qs with
  | false =>
    have HX := Lib.hid (show newerOf ps qs = false by simp [newerOf, hv])
    clear hv
    go_wp2
    go_ret
    exact ⟨by rw [HX.out]; rfl, HB2.out⟩
  | true =>
  have HX := Lib.hid (show newerOf ps qs = (decide (termOf qs n2 < termOf ps n) || (termOf ps n == termOf qs n2 && decide (n2 ≤ n))) by simp [newerOf, lastTerm, hv, HV.out, HL.out, HL2.out])
  clear hv
  have HC1 := Lib.hid (fun wx (hb : Below w.heap.size w wx) => lastTermI_any lo hi n c A ps wx (HR.out.keep hb hB) hn)
  have HC2 := Lib.hid (fun wx (hb : Below w.heap.size w wx) => lastTermI_any lo2 hi2 n2 c2 A2 qs wx (HR2.out.keep hb hB2) hn2)
  generalize termOf ps n = x at *
  generalize termOf qs n2 = y at *
  go_wp2_with (fail)
  (with_reducible refine (HC1.out _ HB2.out).mono ?_)
  rintro e w3 ⟨rfl, rfl⟩
  go_wp2_with (fail)
  (with_reducible refine (HC2.out _ HB2.out).mono ?_)
  rintro e w3 ⟨rfl, rfl⟩
  by_cases h2 : x = y
  · have h2d : (x == y) = true := by simpa using h2
    by_cases h3 : n2 ≤ n
    · have HY := Lib.hid (show newerOf ps qs = true by rw [HX.out, h2d, decide_eq_true h3]; simp)
      have h3d : decide ((n2 : Int) ≤ (n : Int)) = true := decide_eq_true (by omega)
      clear h2
      go_wp2
      go_ret
      exact ⟨by rw [HY.out]; first | done | rfl | skip, HB2.out⟩
    · have HY := Lib.hid (show newerOf ps qs = false by rw [HX.out, decide_eq_false h3, decide_eq_false (by omega)]; simp)
      have h3d : decide ((n2 : Int) ≤ (n : Int)) = false := decide_eq_false (by omega)
      clear h2
      go_wp2
      go_ret
      exact ⟨by rw [HY.out]; first | done | rfl | skip, HB2.out⟩
  have h2d : (x == y) = false := by simpa using h2
  have HY := Lib.hid (show newerOf ps qs = decide (y < x) by rw [HX.out, h2d]; simp)
  clear h2
  go_wp2_with (fail)
  (with_reducible refine (HC1.out _ HB2.out).mono ?_)
  rintro e w3 ⟨rfl, rfl⟩
  go_wp2_with (fail)
  (with_reducible refine (HC2.out _ HB2.out).mono ?_)
  rintro e w3 ⟨rfl, rfl⟩
  go_wp2
  go_ret
  exact ⟨by rw [HY.out]; rfl, HB2.out⟩
set_option maxHeartbeats 800000 in
theorem sameEntry_any (x y u v : Int) (w : World) :
    Calls Try.prog 62 #[.agg #[.int .i64 x, .int .i64 y], .agg #[.int .i64 u, .int .i64 v]] w fun e w' => e = .returned (.bool (decide ((x, y) = (u, v)))) ∧ Below w.heap.size w w' := by
  have hb := up_alloc (up_alloc (Below.refl _ w) (.cells #[.int .i64 x, .int .i64 y] 64)) (.cells #[.int .i64 u, .int .i64 v] 64)
  by_cases h1 : x = u
  · subst h1
    by_cases h2 : y = v
    · subst h2
      go_enter Try.func62, Try.ntmps62
      go_wp2
      go_ret
      exact ⟨by simp, hb⟩
    · have d2 : (y == v) = false := by simpa using h2
      go_enter Try.func62, Try.ntmps62
      go_wp2
      go_ret
      exact ⟨by simp [h2], hb⟩
  · have d1 : (x == u) = false := by simpa using h1
    go_enter Try.func62, Try.ntmps62
    go_wp2
    go_ret
    exact ⟨by simp [h1], hb⟩
theorem call_sameEntry (args : Array Value) (w : World) : (callFunc 62 args).run Try.prog w = .ok (.enter 62 args) w := by kernel_rfl
set_option maxRecDepth 100000 in
set_option maxHeartbeats 1600000 in
theorem firstSame_any (lo hi n c lo2 hi2 n2 c2 : Nat) (A A2 : Option Addr) (ps qs : List En) (w : World) (hr : Rd w lo hi 2 A n (pvs ps)) (hB : hi ≤ w.heap.size) (hn : n ≤ 1048576) (hr2 : Rd w lo2 hi2 2 A2 n2 (pvs qs)) (hB2 : hi2 ≤ w.heap.size) (hn2 : n2 ≤ 1048576) :
    Calls Try.prog 59 #[.slice A n c, .slice A2 n2 c2, .func (.func 62) #[] #[]] w fun e w' => e = .returned (.int .i64 (comLen ps qs)) ∧ Below w.heap.size w w' := by
  have HL := Lib.hid hr.len2
  have HL2 := Lib.hid hr2.len2
  have HR := Lib.hid hr
  have HR2 := Lib.hid hr2
  have eg := call_sameEntry
  clear hr hr2
  go_enter Try.func59, Try.ntmps59
  go_wp2
  go_loopw [7] (fun iv wr => ∃ (k : Nat), k ≤ n ∧ k ≤ n2 ∧ iv = .int .i64 k ∧ Hid (ps.take k = qs.take k) ∧ Hid (Below w.heap.size w wr))
     (fun iv _ => n - (intOf iv).toNat)
  case atStart => exact ⟨0, by omega, by omega, rfl, rfl, Below.refl _ _⟩
  case round =>
    obtain ⟨k, hk, hk2, rfl, HT, HB⟩ := hrel
    by_cases hlt : k < n ∧ k < n2
    case neg =>
      have HY := Lib.hid (show comLen ps qs = k from comLen_all HT.out (by rw [HL.out, HL2.out]; omega) (by rw [HL.out]; omega) (by rw [HL2.out]; omega))
      have hd : decide ((k : Int) < min (n : Int) (n2 : Int)) = false := decide_eq_false (by omega)
      go_wp2
      go_quiet (fail)
      go_wp2
      go_ret
      exact ⟨by rw [HY.out]; rfl, up_drewN HB.out _⟩
    obtain ⟨h1, h2⟩ := hlt
    have hd : decide ((k : Int) < min (n : Int) (n2 : Int)) = true := decide_eq_true (by omega)
    obtain ⟨b, off, x, y, hA, hbB, _, hg, hc0, hc1⟩ := (HR.out.keep HB.out hB).pair h1
    subst hA
    obtain ⟨b', off', x', y', hA', hbB', _, hg', hd0, hd1⟩ := (HR2.out.keep HB.out hB2).pair h2
    subst hA'
    have hk0 : (0 : Int) ≤ (k : Int) := by omega
    have hkn : (k : Int) < (n : Int) := by omega
    have hkn2 : (k : Int) < (n2 : Int) := by omega
    have hsz := HB.out.size
    have HG := Lib.hid (And.intro hg hg')
    clear hg hg'
    have HS := Lib.hid (show ∀ wx, Below wr.heap.size wr wx → wx.cell? ⟨b, off + k * 2, none⟩ = some (.int .i64 x) ∧ wx.cell? ⟨b, off + k * 2 + 1, none⟩ = some (.int .i64 y) ∧ wx.cell? ⟨b', off' + k * 2, none⟩ = some (.int .i64 x') ∧ wx.cell? ⟨b', off' + k * 2 + 1, none⟩ = some (.int .i64 y') from fun wx hb =>
      ⟨(hb.cell (by show b < wr.heap.size; omega)).trans hc0, (hb.cell (by show b < wr.heap.size; omega)).trans hc1, (hb.cell (by show b' < wr.heap.size; omega)).trans hd0, (hb.cell (by show b' < wr.heap.size; omega)).trans hd1⟩)
    have HC := Lib.hid (sameEntry_any x y x' y' wr.drew)
    go_wp2
    by_cases he : (x, y) = (x', y')
    · have HT2 := Lib.hid (show ps.take (k + 1) = qs.take (k + 1) by rw [take_snoc HG.out.1, take_snoc HG.out.2, HT.out, he])
      rw [decide_eq_true he] at HC
      clear he
      go_region_held3 (fun wx => wx.cell? ⟨b, off + k * 2, none⟩ = some (.int .i64 x) ∧ wx.cell? ⟨b, off + k * 2 + 1, none⟩ = some (.int .i64 y) ∧ wx.cell? ⟨b', off' + k * 2, none⟩ = some (.int .i64 x') ∧ wx.cell? ⟨b', off' + k * 2 + 1, none⟩ = some (.int .i64 y'))
        (first | exact HS.out _ (Below.refl _ _) | exact HS.out _ (up_drew (Below.refl _ _)) | exact HS.out _ HB6.out)
        ((go_at_call 62; (with_reducible refine HC.out.mono ?_); rintro e w6 ⟨rfl, hb6⟩; have HB6 := Lib.hid (up (up_drew (Below.refl _ wr)) hb6); clear hb6))
      all_goals
        go_wp2
        go_roundw
        case rel => exact ⟨k + 1, by omega, by omega, by go_num, HT2, up HB.out HB6.out⟩
        case measure => simp [intOf]; omega
    · have HY := Lib.hid (show comLen ps qs = k from comLen_step HT.out HG.out.1 HG.out.2 he)
      rw [decide_eq_false he] at HC
      clear he
      go_region_held3 (fun wx => wx.cell? ⟨b, off + k * 2, none⟩ = some (.int .i64 x) ∧ wx.cell? ⟨b, off + k * 2 + 1, none⟩ = some (.int .i64 y) ∧ wx.cell? ⟨b', off' + k * 2, none⟩ = some (.int .i64 x') ∧ wx.cell? ⟨b', off' + k * 2 + 1, none⟩ = some (.int .i64 y'))
        (first | exact HS.out _ (Below.refl _ _) | exact HS.out _ (up_drew (Below.refl _ _)) | exact HS.out _ HB6.out)
        ((go_at_call 62; (with_reducible refine HC.out.mono ?_); rintro e w6 ⟨rfl, hb6⟩; have HB6 := Lib.hid (up (up_drew (Below.refl _ wr)) hb6); clear hb6))
      all_goals
        go_wp2
        go_ret
        exact ⟨by rw [HY.out]; rfl, up HB.out HB6.out⟩
set_option maxRecDepth 100000 in
set_option maxHeartbeats 1600000 in
theorem CommonPartI_any (lo hi n c : Nat) (A : Option Addr) (ps : List En) (lo2 hi2 n2 c2 : Nat) (A2 : Option Addr) (qs : List En) (w : World) (hr : Rd w lo hi 2 A n (pvs ps)) (hB : hi ≤ w.heap.size) (hn : n ≤ 1048576) (hcap : n ≤ c) (hr2 : Rd w lo2 hi2 2 A2 n2 (pvs qs)) (hB2 : hi2 ≤ w.heap.size) (hn2 : n2 ≤ 1048576) (hcap2 : n2 ≤ c2) :
    Calls Try.prog 27 #[.slice A n c, .slice A2 n2 c2] w fun e w' => e = .returned (.int .i64 (commonOf ps qs)) ∧ Below w.heap.size w w' := by
  have HL := Lib.hid hr.len2
  have HL2 := Lib.hid hr2.len2
  have HR := Lib.hid hr
  have HR2 := Lib.hid hr2
  clear hr hr2
  go_enter Try.func27, Try.ntmps27
  go_wp2_with (fail)
  (with_reducible refine (ValidLogI_any lo hi n c A ps _ HR.out hB hn hcap).mono ?_)
  rintro e w1 ⟨rfl, hb1⟩
  have HB1 := Lib.hid hb1
  have hs1 := hb1.size
  clear hb1
  cases hv : vLog ps with
  | false =>
    have HX := Lib.hid (show commonOf ps qs = -1 by simp [commonOf, hv])
    clear hv
    go_wp2
    go_ret
    exact ⟨by rw [HX.out]; rfl, HB1.out⟩
  | true =>
  have HV := Lib.hid hv
  clear hv
  go_wp2_with (fail)
  (with_reducible refine (ValidLogI_any lo2 hi2 n2 c2 A2 qs _ (HR2.out.keep HB1.out hB2) (by omega) hn2 hcap2).mono ?_)
  rintro e w2 ⟨rfl, hb2⟩
  have HB2 := Lib.hid (up HB1.out hb2)
  have hs2 := hb2.size
  clear hb2
  cases hv : vLog qs with
  | false =>
    have HX := Lib.hid (show commonOf ps qs = -1 by simp [commonOf, hv])
    clear hv
    go_wp2
    go_ret
    exact ⟨by rw [HX.out]; rfl, HB2.out⟩
  | true =>
  have HX := Lib.hid (show commonOf ps qs = (comLen ps qs : Int) by simp [commonOf, hv, HV.out])
  clear hv
  go_wp2_with (fail)
  (with_reducible refine (firstSame_any lo hi n c lo2 hi2 n2 c2 A A2 ps qs _ (HR.out.keep HB2.out hB) (by omega) hn (HR2.out.keep HB2.out hB2) (by omega) hn2).mono ?_)
  rintro e w3 ⟨rfl, hb3⟩
  have HB3 := Lib.hid (up HB2.out hb3)
  clear hb3
  generalize comLen ps qs = q at *
  go_wp2
  go_ret
  exact ⟨by rw [HX.out]; rfl, HB3.out⟩
end Go.Proofs.Ytobjcifoaejonaa
