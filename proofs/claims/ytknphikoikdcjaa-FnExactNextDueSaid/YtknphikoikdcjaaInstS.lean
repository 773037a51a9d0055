/- The reference's instances: waiting, automatic, timersAt, sooner. -/
import Derived.Test.YtknphikoikdcjaaInstMath
import Derived.Test.YtknphikoikdcjaaTokReadyS
import Derived.BigQuiet
import Derived.Deep.QuietTactic
set_option linter.unusedSimpArgs false
set_option linter.unusedVariables false
namespace Go.Proofs.Ytknphikoikdcjaa
open Go.RowKit

theorem head_of {l : List Int} {q : Int} (h : l[0]? = some q) : l.headD 0 = q := by
  cases l with
  | nil => simp at h
  | cons a l => simpa using h
set_option maxRecDepth 100000 in
set_option maxHeartbeats 800000 in
theorem waitingS_any (vn : Value) (lo1 hi1 lf cf : Nat) (Af : Option Addr) (fs : List Flw) (lo' hi' n' c' : Nat) (A' : Option Addr) (ms : List Int) (k : Nat) (w : World)
    (hr : Fls w lo1 hi1 Af lf fs) (hB1 : hi1 ≤ w.heap.size) (hn : lf ≤ 1048576) (hv : Rd w lo' hi' 1 A' n' (ivs ms)) (hB' : hi' ≤ w.heap.size) (hml : ms.length = fs.length) (hne : 0 < (flOf fs false (k : Int)).length) :
    Calls Try.prog 44 #[.agg #[vn, .slice Af lf cf], .slice A' n' c', .int .i64 (k : Int)] w fun e w' => e = .returned (.int .i64 (waitAt fs ms (k : Int))) ∧ Below w.heap.size w w' := by
  have hb1 := up_alloc (Below.refl _ w) (.cells #[vn, .slice Af lf cf] 36)
  have hbk := Blk.new w 36 #[vn, .slice Af lf cf]
  have k0 := hbk.cell 0
  have k1 := hbk.cell 1
  simp only [List.getElem?_toArray, List.getElem?_cons_zero, List.getElem?_cons_succ] at k0 k1
  have hz0 : (flOf fs false (k : Int))[0]? = some ((flOf fs false (k : Int))[0]) := List.getElem?_eq_getElem hne
  obtain ⟨q, f, hq, hf, _⟩ := flOf_mem.1 (List.getElem_mem hne)
  rw [hq] at hz0
  have hqm : q < ms.length := by have := (List.getElem?_eq_some_iff.1 hf).1; omega
  have hl := hv.len1
  have HFO := Lib.hid (flowsOf_any lo1 hi1 lf cf Af vn fs (k : Int) false _ (hr.keep hb1 hB1) (by have := hb1.size; omega) hn)
  have HB := Lib.hid hb1
  have HX : Hid (waitAt fs ms (k : Int) = ms.getD q 0) := by
    show waitAt fs ms (k : Int) = _
    unfold waitAt
    rw [head_of hz0, Int.toNat_natCast]
  generalize flOf fs false (k : Int) = ids at *
  clear hf hq hbk hb1
  go_enter Try.func44, Try.ntmps44
  go_wp2_with (fail)
  (with_reducible refine HFO.out.mono ?_)
  clear HFO k0 k1
  rintro e w1 ⟨Ai, ci, rfl, _, hri, _, hb2⟩
  have HB2 := Lib.hid (up HB.out hb2)
  obtain ⟨b, off, z, rfl, _, _, hg, hc0⟩ := hri.one hne
  rw [hz0] at hg; injection hg with hg; subst hg
  obtain ⟨bm, off3, mq, rfl, _, _, hgm, hcm⟩ := (hv.keep HB2.out hB').one (show q < n' by omega)
  rw [Nat.add_zero] at hc0
  have hmq : ms.getD q 0 = mq := by rw [List.getD_eq_getElem?_getD, hgm]; rfl
  have HX2 := Lib.hid (HX.out.trans hmq)
  have hq1 : (q : Int) < (n' : Int) := by omega
  have hq0 : (0 : Int) ≤ (q : Int) := by omega
  have hn0 : (0 : Int) < (ids.length : Int) := by omega
  clear hgm hmq hz0 hri hb2 HX HB hr hv
  go_wp2
  go_ret
  exact ⟨ret_int HX2.out.symm, HB2.out⟩
theorem automatic_any (x : Int) (w : World) : Calls Try.prog 45 #[.int .i64 x] w fun e w' => e = .returned (.bool (autoB x)) ∧ w = w' := by
  unfold autoB
  by_cases h : x = 1
  · have h1 : (x == 1) = true := by simpa using h
    have h2 : decide (x = 1) = true := decide_eq_true h
    go_enter Try.func45, Try.ntmps45
    go_wp2
    go_ret
    exact ⟨ret_bool (by rw [h2]; rfl), rfl⟩
  · have h1 : (x == 1) = false := by simpa using h
    have h2 : decide (x = 1) = false := decide_eq_false h
    go_enter Try.func45, Try.ntmps45
    go_wp2
    go_ret
    exact ⟨ret_bool (by rw [h2]; rfl), rfl⟩
theorem tAt_take {ts : List Tm} {k : Nat} {t : Tm} (h : ts[k]? = some t) (node : Int) : tAt (ts.take (k + 1)) node = tAt (ts.take k) node + (if t.1 = node then 1 else 0) := by
  rw [take_snoc h]
  unfold tAt
  rw [List.countP_append]
  by_cases e : t.1 = node <;> simp [e]
theorem tAt_le (ts : List Tm) (node : Int) : tAt ts node ≤ ts.length := List.countP_le_length
set_option maxRecDepth 100000 in
set_option maxHeartbeats 800000 in
theorem timersAt_any (lo hi n c : Nat) (A : Option Addr) (ts : List Tm) (node : Int) (w : World) (hr : Rd w lo hi 2 A n (pvs ts)) (hn : n ≤ 1048576) :
    Calls Try.prog 43 #[.slice A n c, .int .i64 node] w fun e w' => e = .returned (.int .i64 (tAt ts node : Int)) ∧ w = w' := by
  have HL := Lib.hid hr.len2
  go_enter Try.func43, Try.ntmps43
  go_wp2
  go_loop [5, 6] (fun nv iv => ∃ (k : Nat), k ≤ n ∧ iv = .int .i64 k ∧ nv = .int .i64 (tAt (ts.take k) node : Int))
     (fun _ iv => n - (intOf iv).toNat)
  case atStart => exact ⟨0, by omega, rfl, by simp [tAt]⟩
  case round =>
    obtain ⟨k, hk, rfl, rfl⟩ := hrel
    by_cases hlt : k < n
    · obtain ⟨b, off, x, y, rfl, _, _, hg, hc0, hc1⟩ := hr.pair hlt
      have hkn : (k : Int) < (n : Int) := by omega
      have hk0 : (0 : Int) ≤ (k : Int) := by omega
      have HT := Lib.hid (tAt_take hg node)
      have hle := tAt_le (ts.take k) node
      have hle2 := List.length_take_le k ts
      have hbd : (tAt (ts.take k) node : Int) ≤ 1048576 := by omega
      have hb0 : (0 : Int) ≤ (tAt (ts.take k) node : Int) := by omega
      clear hg hle hle2
      by_cases e : x = node
      · have hx : (x == node) = true := by simpa using e
        have HT2 := Lib.hid (show tAt (ts.take (k + 1)) node = tAt (ts.take k) node + 1 by rw [HT.out, if_pos e])
        clear HT e
        have htr1 : tr true = 1 := rfl
        have htr0 : tr false = 0 := rfl
        generalize tAt (ts.take k) node = m at *
        go_wp2_with (go_at_call 39; refine (toInt_any _ _).mono ?_; rintro e w' ⟨rfl, rfl⟩)
        go_round
        case rel => exact ⟨k + 1, by omega, by go_num, by rw [HT2.out]; go_num⟩
        case measure => simp [intOf]; omega
      · have hx : (x == node) = false := by simpa using e
        have HT2 := Lib.hid (show tAt (ts.take (k + 1)) node = tAt (ts.take k) node by rw [HT.out, if_neg e]; rfl)
        clear HT e
        have htr1 : tr true = 1 := rfl
        have htr0 : tr false = 0 := rfl
        generalize tAt (ts.take k) node = m at *
        go_wp2_with (go_at_call 39; refine (toInt_any _ _).mono ?_; rintro e w' ⟨rfl, rfl⟩)
        go_round
        case rel => exact ⟨k + 1, by omega, by go_num, by rw [HT2.out]⟩
        case measure => simp [intOf]; omega
    · obtain rfl : k = n := by omega
      have hal : ts.take k = ts := List.take_of_length_le (by have := HL.out; omega)
      rw [hal]
      go_wp2
      go_ret
      exact ⟨rfl, rfl⟩
set_option maxHeartbeats 800000 in
theorem sooner_any (x y u v : Int) (w : World) :
    Calls Try.prog 42 #[.agg #[.int .i64 x, .int .i64 y], .agg #[.int .i64 u, .int .i64 v]] w fun e w' => e = .returned (.bool (tlt (x, y) (u, v))) ∧ Below w.heap.size w w' := by
  have hb1 := up_alloc (up_alloc (Below.refl _ w) (.cells #[.int .i64 x, .int .i64 y] 74)) (.cells #[.int .i64 u, .int .i64 v] 74)
  have hp1 := (Blk.new w 74 #[.int .i64 x, .int .i64 y]).alloc (.cells #[.int .i64 u, .int .i64 v] 74)
  have hq1 : Blk ((w.alloc (.cells #[.int .i64 x, .int .i64 y] 74)).alloc (.cells #[.int .i64 u, .int .i64 v] 74)) (w.heap.size + 1) 74 #[.int .i64 u, .int .i64 v] := by
    simpa using Blk.new (w.alloc (.cells #[.int .i64 x, .int .i64 y] 74)) 74 #[.int .i64 u, .int .i64 v]
  have k0 := hp1.cell 0
  have k1 := hp1.cell 1
  have q0 := hq1.cell 0
  have q1 := hq1.cell 1
  simp only [List.getElem?_toArray, List.getElem?_cons_zero, List.getElem?_cons_succ] at k0 k1 q0 q1
  have HB := Lib.hid hb1
  clear hb1 hp1 hq1
  have HX := Lib.hid (show tlt (x, y) (u, v) = (decide (y < v) || (decide (y = v) && decide (x < u))) from rfl)
  by_cases h1 : y < v
  · have h1' : decide (y < v) = true := decide_eq_true h1
    go_enter Try.func42, Try.ntmps42
    go_wp2
    go_ret
    exact ⟨ret_bool (by rw [HX.out, h1']; rfl), HB.out⟩
  · have h1' : decide (y < v) = false := decide_eq_false h1
    by_cases h2 : y = v
    · have h2' : (y == v) = true := by simpa using h2
      have h3 : decide (y = v) = true := decide_eq_true h2
      have HX2 := Lib.hid (show tlt (x, y) (u, v) = decide (x < u) by rw [HX.out, h1', h3]; rfl)
      clear h2 h3 HX h1
      go_enter Try.func42, Try.ntmps42
      go_wp2
      go_ret
      exact ⟨ret_bool HX2.out.symm, HB.out⟩
    · have h2' : (y == v) = false := by simpa using h2
      have h3 : decide (y = v) = false := decide_eq_false h2
      have HX2 := Lib.hid (show tlt (x, y) (u, v) = false by rw [HX.out, h1', h3]; rfl)
      clear h2 h3 HX h1
      go_enter Try.func42, Try.ntmps42
      go_wp2
      go_ret
      exact ⟨ret_bool HX2.out.symm, HB.out⟩
end Go.Proofs.Ytknphikoikdcjaa
