/- Merged: ExTimer, ExInst, ExInstM, ExInstR. -/
import Derived.Test.YtknphikoikdcjaaGreatExPart
import Derived.Test.YtknphikoikdcjaaGreatRows
import Derived.Test.YtknphikoikdcjaaGreatBase
import Derived.Test.YtknphikoikdcjaaGreatExInt
import Derived.Test.YtknphikoikdcjaaGreatInstMathA
import Derived.Test.YtknphikoikdcjaaGreatExWithin
import Derived.BigQuiet
import Derived.Deep.QuietTactic
import Derived.Deep.RegionHeld3
import Derived.StillTailTactics
import Derived.WalkLawsBesides
/- The exact laws' helpers on slices of impl.Timer: sizes, copies, comparisons. (Written by gen/extimer.py.) -/
set_option linter.unusedSimpArgs false
set_option linter.unusedVariables false
namespace Go.Proofs.YtknphikoikdcjaaGreat
open Go.RowKit

theorem infoTimer : (Tryz.prog.info? 96).map (fun i => (i.zero, i.size, i.bytes)) = some (some (.agg #[.int .i64 0, .int .i64 0]), 2, 16) := by kernel_rfl

theorem szTimerS_no (n c : Nat) (A : Option Addr) (left : Int) (w : World) (hn : n ≤ 9223372036854775807) (hl : 0 ≤ left) (hl2 : left ≤ 1048576) (h : left < n) :
    Calls Tryz.prog 58 #[.slice A n c, .int .i64 left] w fun e w' => e = .returned (.int .i64 (-1)) ∧ w = w' := by
  go_enter Tryz.func58, Tryz.ntmps58
  go_wp2
  go_ret
  exact ⟨rfl, rfl⟩
theorem szTimerS_yes (n c : Nat) (A : Option Addr) (left : Int) (w : World) (hl : 0 ≤ left) (hl2 : left ≤ 1048576) (h : n ≤ left) :
    Calls Tryz.prog 58 #[.slice A n c, .int .i64 left] w fun e w' => e = .returned (.int .i64 (left - n)) ∧ w = w' := by
  go_enter Tryz.func58, Tryz.ntmps58
  go_wp2
  go_ret
  exact ⟨rfl, rfl⟩

theorem toTimer_any (x y : Int) (w : World) :
    Calls Tryz.prog 121 #[.agg #[.int .i64 x, .int .i64 y]] w fun e w' => e = .returned (.agg #[.int .i64 x, .int .i64 y]) ∧ Below w.heap.size w w' := by
  go_enter Tryz.func121, Tryz.ntmps121
  go_wp2
  exact bodyPost_ret (v := .agg #[.int .i64 x, .int .i64 y]) (by simp [results, Tryz.results121, go_sem]) rfl ⟨rfl, by repeat (first | exact Below.refl _ _ | refine up_alloc ?_ _)⟩

theorem eqTimer_any (x y x' y' : Int) (w : World) :
    Calls Tryz.prog 138 #[.agg #[.int .i64 x, .int .i64 y], .agg #[.int .i64 x', .int .i64 y']] w fun e w' => e = .returned (.bool (eqP x y x' y')) ∧ Below w.heap.size w w' := by
  unfold eqP
  by_cases h : x = x'
  · subst h
    by_cases h' : y = y'
    · subst h'
      go_enter Tryz.func138, Tryz.ntmps138
      go_wp2
      go_ret
      exact ⟨by simp, up_alloc (up_alloc (Below.refl _ _) _) _⟩
    · have g : (y == y') = false := by simpa using h'
      have g' : (y != y') = true := by simpa using h'
      go_enter Tryz.func138, Tryz.ntmps138
      go_wp2
      go_ret
      exact ⟨by simp [h'], up_alloc (up_alloc (Below.refl _ _) _) _⟩
  · have g : (x == x') = false := by simpa using h
    have g' : (x != x') = true := by simpa using h
    go_enter Tryz.func138, Tryz.ntmps138
    go_wp2
    go_ret
    exact ⟨by simp [h], up_alloc (up_alloc (Below.refl _ _) _) _⟩

set_option maxHeartbeats 400000 in
theorem eqTimerS_any (lo hi n c lo' hi' n' c' : Nat) (A A' : Option Addr) (ps qs : List (Int × Int)) (w : World) (hr : Rd w lo hi 2 A n (pvs ps)) (hB : hi ≤ w.heap.size) (hn : n ≤ 1048576)
    (hr' : Rd w lo' hi' 2 A' n' (pvs qs)) (hB' : hi' ≤ w.heap.size) (hn' : n' ≤ 1048576) :
    Calls Tryz.prog 75 #[.slice A n c, .slice A' n' c'] w fun e w' => e = .returned (.bool (ps == qs)) ∧ Below w.heap.size w w' := by
  have HL := Lib.hid hr.len2
  have HL' := Lib.hid hr'.len2
  by_cases hnn : n = n'
  · subst hnn
    go_enter Tryz.func75, Tryz.ntmps75
    go_wp2
    go_loopw [5] (fun iv wr => ∃ (k : Nat), k ≤ n ∧ iv = .int .i64 k ∧ Hid ((ps == qs) = (ps.drop k == qs.drop k)) ∧ Below w.heap.size w wr)
       (fun iv _ => n - (intOf iv).toNat)
    case atStart => exact ⟨0, by omega, rfl, rfl, Below.refl _ _⟩
    case round =>
      obtain ⟨k, hk, rfl, hS, hbl⟩ := hrel
      by_cases hlt : k < n
      · obtain ⟨b, off, x, y, rfl, hbB, _, hg, hc0, hc1⟩ := (hr.keep hbl hB).pair hlt
        obtain ⟨b', off', x', y', rfl, hbB', _, hg', hc0', hc1'⟩ := (hr'.keep hbl hB').pair hlt
        have Hg := Lib.hid hg; clear hg
        have Hg' := Lib.hid hg'; clear hg'
        have hkn : (k : Int) < (n : Int) := by omega
        have hsz := hbl.size
        go_wp2
        go_region_held3 (fun w' => w'.cell? ⟨b, off + k * 2, none⟩ = some (.int .i64 x) ∧ w'.cell? ⟨b, off + k * 2 + 1, none⟩ = some (.int .i64 y) ∧ w'.cell? ⟨b', off' + k * 2, none⟩ = some (.int .i64 x') ∧ w'.cell? ⟨b', off' + k * 2 + 1, none⟩ = some (.int .i64 y')) (first | exact ⟨hc0, hc1, hc0', hc1'⟩ | exact ⟨(hb1.cell (by show b < wr.heap.size; omega)).trans hc0, (hb1.cell (by show b < wr.heap.size; omega)).trans hc1, (hb1.cell (by show b' < wr.heap.size; omega)).trans hc0', (hb1.cell (by show b' < wr.heap.size; omega)).trans hc1'⟩)
          ((go_at_call 138; refine (eqTimer_any _ _ _ _ _).mono ?_; rintro e w1 ⟨rfl, hb1⟩))
        by_cases he : eqP x y x' y' = true
        · have He := Lib.hid (eqP_iff.1 he)
          rw [he]; clear he
          go_wp2
          go_roundw
          case rel =>
            refine ⟨k + 1, by omega, by go_num, ?_, up (up_drew hbl) hb1⟩
            obtain ⟨rfl, rfl⟩ := He.out
            rw [Hid, hS.out, drop_cons2 Hg.out, drop_cons2 Hg'.out]
            simp
          case measure => simp [intOf]; omega
        · have He := Lib.hid he
          have he' : eqP x y x' y' = false := by simpa using he
          rw [he']; clear he he'
          go_wp2
          go_ret
          refine ⟨ret_bool ?_, up (up_drew hbl) hb1⟩
          rw [hS.out, drop_cons2 Hg.out, drop_cons2 Hg'.out]
          symm
          rw [beq_eq_false_iff_ne]
          intro h
          injection h with h _
          injection h with h1 h2
          exact He.out (eqP_iff.2 ⟨h1, h2⟩)
      · obtain rfl : k = n := by omega
        go_wp2
        go_ret
        refine ⟨ret_bool ?_, hbl⟩
        rw [hS.out, List.drop_of_length_le (by rw [HL.out]; omega), List.drop_of_length_le (by rw [HL'.out]; omega)]
        rfl
  · have hne : ((n : Int) != (n' : Int)) = true := by rw [bne_iff_ne]; omega
    go_enter Tryz.func75, Tryz.ntmps75
    go_wp2
    go_ret
    refine ⟨ret_bool ?_, Below.refl _ _⟩
    symm
    rw [beq_eq_false_iff_ne]
    intro h
    exact hnn (by rw [← HL.out, ← HL'.out, h])

set_option maxRecDepth 100000 in
set_option maxHeartbeats 400000 in
theorem toTimerS_any (lo hi n c : Nat) (A : Option Addr) (ps : List (Int × Int)) (w : World) (hr : Rd w lo hi 2 A n (pvs ps)) (hB : hi ≤ w.heap.size) (hn : n ≤ 1048576) :
    Calls Tryz.prog 67 #[.slice A n c] w (Fresh (pvs ps) 2 n w) := by
  have HL := Lib.hid hr.len2
  obtain ⟨i0, hi0, hz0, hz1, hz2⟩ := info_parts infoTimer
  obtain ⟨wm, hmk, hown, hgr⟩ := run_make_full (P := Tryz.prog) w w.heap.size 32 96 i0 _ 2 Tryz.underlying32 hi0 hz0 hz1 .i64 .i64 n (by rw [hz2]; omega) (by unfold maxLen; omega) (Nat.le_refl _)
  have hbm : Below w.heap.size w wm := (Below.refl _ _).grown hgr (Nat.le_refl _) (by simp)
  generalize hzs : (madeCells (Value.agg #[.int .i64 0, .int .i64 0]).cells (n * 2)).toList = zs at hown
  have hzl : Hid (zs.length = n * 2) := by rw [Hid, ← hzs]; simp [size_madeCells]
  clear hzs hgr hi0 hz0 hz1 hz2
  go_enter Tryz.func67, Tryz.ntmps67
  go_wp2
  clear hmk
  go_loopw [4] (fun iv wr => ∃ (k : Nat), k ≤ n ∧ iv = .int .i64 k ∧ wr.ownsRow w.heap.size 96 2 (.slice (some ⟨w.heap.size, 0, none⟩) n n) n (pvs (ps.take k) ++ zs.drop (k * 2)) ∧ Below w.heap.size w wr)
     (fun iv _ => n - (intOf iv).toNat)
  case atStart => exact ⟨0, by omega, rfl, by simpa [pvs] using hown, hbm⟩
  case round =>
    clear hown hbm
    obtain ⟨k, hk, rfl, hown, hbl⟩ := hrel
    by_cases hlt : k < n
    · obtain ⟨b, off, x, y, rfl, hbB, _, hg, hc0, hc1⟩ := (hr.keep hbl hB).pair hlt
      have Hg := Lib.hid hg; clear hg
      have hkn : (k : Int) < (n : Int) := by omega
      have hsz := hbl.size
      go_wp2_with (fail)
      refine (toTimer_any _ _ _).mono ?_
      rintro e w1 ⟨rfl, hb1⟩
      have hown1 := own_keep hown hb1
      have hbl1 := up hbl hb1
      have hlen : (pvs (ps.take k) ++ zs.drop (k * 2)).length = n * 2 := hown.1
      have hd0 := hown1.cellAt (k * 2) (by omega)
      have hd1 := hown1.cellAt (k * 2 + 1) (by omega)
      rw [List.getElem?_eq_getElem (by rw [hlen]; omega)] at hd0 hd1
      generalize hq0 : (pvs (ps.take k) ++ zs.drop (k * 2))[k * 2]'(by rw [hlen]; omega) = q0 at hd0
      generalize hq1 : (pvs (ps.take k) ++ zs.drop (k * 2))[k * 2 + 1]'(by rw [hlen]; omega) = q1 at hd1
      have hf0 := hown1.frozenAt (k * 2)
      have hf1 := hown1.frozenAt (k * 2 + 1)
      have hst := ((hown1.stored (k * 2) (.int .i64 x)).1.stored (k * 2 + 1) (.int .i64 y)).1
      rw [mix_step ps zs n k x y HL.out hzl.out hlt Hg.out] at hst
      have Hst := Lib.hid hst
      clear hq0 hq1 hst hlen hown hown1 hb1
      go_wp2
      go_roundw
      case rel => exact ⟨k + 1, by omega, by go_num, Hst.out, (hbl1.setCell (by show _ ≤ w.heap.size; omega) _).setCell (by show _ ≤ w.heap.size; omega) _⟩
      case measure => simp [intOf]; omega
    · obtain rfl : k = n := by omega
      have Ho := Lib.hid hown; clear hown
      go_wp2
      go_ret
      have ho := Ho.out
      rw [List.take_of_length_le (by rw [HL.out]; omega), List.drop_of_length_le (by rw [hzl.out]; omega), List.append_nil] at ho
      exact ⟨_, _, rfl, Nat.le_refl _, Rd.of_own ho, Soft.of_own ho, hbl⟩
end Go.Proofs.YtknphikoikdcjaaGreat


/- The exact laws' helpers on instances: sizes, copies, comparisons. (Written by gen/exinst.py.) -/
namespace Go.Proofs.YtknphikoikdcjaaGreat
open Go.RowKit

theorem Blk.newAt {w : World} {t : TypeId} {cs : Array Value} {g : Nat} (h : w.heap.size = g) : Blk (w.alloc (.cells cs t)) g t cs := h ▸ Blk.new w t cs
theorem szIntS_no (n c : Nat) (A : Option Addr) (left : Int) (w : World) (hn : n ≤ 9223372036854775807) (hl : 0 ≤ left) (hl2 : left ≤ 1048576) (h : left < n) :
    Calls Tryz.prog 57 #[.slice A n c, .int .i64 left] w fun e w' => e = .returned (.int .i64 (-1)) ∧ w = w' := by
  go_enter Tryz.func57, Tryz.ntmps57
  go_wp2
  go_ret
  exact ⟨rfl, rfl⟩
theorem szIntS_yes (n c : Nat) (A : Option Addr) (left : Int) (w : World) (hl : 0 ≤ left) (hl2 : left ≤ 1048576) (h : n ≤ left) :
    Calls Tryz.prog 57 #[.slice A n c, .int .i64 left] w fun e w' => e = .returned (.int .i64 (left - n)) ∧ w = w' := by
  go_enter Tryz.func57, Tryz.ntmps57
  go_wp2
  go_ret
  exact ⟨rfl, rfl⟩
set_option maxHeartbeats 1600000 in
theorem szInstance_any (nm cm nv cv nt ct : Nat) (Am Av At : Option Addr) (cl : Int) (left : Int) (w : World) (hnm : nm ≤ 9223372036854775807) (hnv : nv ≤ 9223372036854775807) (hnt : nt ≤ 9223372036854775807) (hl : 0 ≤ left) (hl2 : left ≤ 1048576) :
    Calls Tryz.prog 13 #[.agg #[.slice Am nm cm, .slice Av nv cv, .int .i64 cl, .slice At nt ct], .int .i64 left] w fun e w' => Below w.heap.size w w' ∧ (e = .returned (.int .i64 (-1)) ∨ ∃ r : Int, e = .returned (.int .i64 r) ∧ 0 ≤ r ∧ r ≤ left ∧ nm ≤ 1048576 ∧ nv ≤ 1048576 ∧ nt ≤ 1048576) := by
  have hb1 := up_alloc (Below.refl _ w) (.cells #[.slice Am nm cm, .slice Av nv cv, .int .i64 cl, .slice At nt ct] 29)
  by_cases h1 : left < nm
  · go_enter Tryz.func13, Tryz.ntmps13
    go_wp2_with (fail)
    (with_reducible refine (szIntS_no nm cm Am left _ hnm hl hl2 h1).mono ?_)
    rintro e w' ⟨rfl, rfl⟩
    go_wp2
    go_ret
    exact ⟨hb1, .inl rfl⟩
  by_cases h2 : left - nm < nv
  · have hp1 : decide (left - (nm : Int) < 0) = false := decide_eq_false (by omega)
    go_enter Tryz.func13, Tryz.ntmps13
    go_wp2_with (fail)
    (with_reducible refine (szIntS_yes nm cm Am left _ hl hl2 (by omega)).mono ?_)
    rintro e w' ⟨rfl, rfl⟩
    go_wp2_with (fail)
    (with_reducible refine (szIntS_no nv cv Av (left - nm) _ hnv (by omega) (by omega) h2).mono ?_)
    rintro e w' ⟨rfl, rfl⟩
    go_wp2
    go_ret
    exact ⟨hb1, .inl rfl⟩
  by_cases h3 : left - nm - nv < nt
  · have hp1 : decide (left - (nm : Int) < 0) = false := decide_eq_false (by omega)
    have hp2 : decide (left - (nm : Int) - (nv : Int) < 0) = false := decide_eq_false (by omega)
    go_enter Tryz.func13, Tryz.ntmps13
    go_wp2_with (fail)
    (with_reducible refine (szIntS_yes nm cm Am left _ hl hl2 (by omega)).mono ?_)
    rintro e w' ⟨rfl, rfl⟩
    go_wp2_with (fail)
    (with_reducible refine (szIntS_yes nv cv Av (left - nm) _ (by omega) (by omega) (by omega)).mono ?_)
    rintro e w' ⟨rfl, rfl⟩
    go_wp2_with (fail)
    (with_reducible refine (szTimerS_no nt ct At (left - nm - nv) _ hnt (by omega) (by omega) h3).mono ?_)
    rintro e w' ⟨rfl, rfl⟩
    go_wp2
    go_ret
    exact ⟨hb1, .inl rfl⟩
  have hp1 : decide (left - (nm : Int) < 0) = false := decide_eq_false (by omega)
  have hp2 : decide (left - (nm : Int) - (nv : Int) < 0) = false := decide_eq_false (by omega)
  have hp3 : decide (left - (nm : Int) - (nv : Int) - (nt : Int) < 0) = false := decide_eq_false (by omega)
  go_enter Tryz.func13, Tryz.ntmps13
  go_wp2_with (fail)
  (with_reducible refine (szIntS_yes nm cm Am left _ hl hl2 (by omega)).mono ?_)
  rintro e w' ⟨rfl, rfl⟩
  go_wp2_with (fail)
  (with_reducible refine (szIntS_yes nv cv Av (left - nm) _ (by omega) (by omega) (by omega)).mono ?_)
  rintro e w' ⟨rfl, rfl⟩
  go_wp2_with (fail)
  (with_reducible refine (szTimerS_yes nt ct At (left - nm - nv) _ (by omega) (by omega) (by omega)).mono ?_)
  rintro e w' ⟨rfl, rfl⟩
  go_wp2
  go_ret
  exact ⟨hb1, .inr ⟨_, rfl, by omega, by omega, by omega, by omega, by omega⟩⟩
/-- An instance, copied: three rows, one behind another. -/
def ToInst (ms vs : List Int) (cl : Int) (ts : List (Int × Int)) (nm nv nt : Nat) (w : World) (e : Ending) (w' : World) : Prop :=
  ∃ (A1 : Option Addr) (c1 : Nat) (A2 : Option Addr) (c2 : Nat) (A3 : Option Addr) (c3 m1 m2 : Nat), e = .returned (.agg #[.slice A1 nm c1, .slice A2 nv c2, .int .i64 cl, .slice A3 nt c3]) ∧ (nm ≤ c1 ∧ nv ≤ c2 ∧ nt ≤ c3) ∧ (w.heap.size ≤ m1 ∧ m1 ≤ m2 ∧ m2 ≤ w'.heap.size) ∧
    (Rd w' w.heap.size m1 1 A1 nm (ivs ms) ∧ Soft w' 1 A1 nm) ∧ (Rd w' m1 m2 1 A2 nv (ivs vs) ∧ Soft w' 1 A2 nv) ∧ (Rd w' m2 w'.heap.size 2 A3 nt (pvs ts) ∧ Soft w' 2 A3 nt) ∧ Below w.heap.size w w'
set_option maxRecDepth 100000 in
set_option maxHeartbeats 3200000 in
theorem toInstance_any (nm cm nv cv nt ct : Nat) (Am Av At : Option Addr) (cl : Int) (lom him lov hiv lot hit : Nat) (ms vs : List Int) (ts : List (Int × Int)) (w : World) (hm : Rd w lom him 1 Am nm (ivs ms)) (hBm : him ≤ w.heap.size) (hnm : nm ≤ 1048576) (hv : Rd w lov hiv 1 Av nv (ivs vs)) (hBv : hiv ≤ w.heap.size) (hnv : nv ≤ 1048576) (ht : Rd w lot hit 2 At nt (pvs ts)) (hBt : hit ≤ w.heap.size) (hnt : nt ≤ 1048576) :
    Calls Tryz.prog 17 #[.agg #[.slice Am nm cm, .slice Av nv cv, .int .i64 cl, .slice At nt ct]] w (ToInst ms vs cl ts nm nv nt w) := by
  have hb0 := up_alloc (up_alloc (up_alloc (Below.refl _ w) (.cells #[.slice Am nm cm, .slice Av nv cv, .int .i64 cl, .slice At nt ct] 29)) (.cells #[.slice none 0 0, .slice none 0 0, .int .i64 0, .slice none 0 0] 34)) (.cells #[.slice none 0 0, .slice none 0 0, .int .i64 0, .slice none 0 0] 34)
  have HX0 := Lib.hid (((Blk.new w 29 #[.slice Am nm cm, .slice Av nv cv, .int .i64 cl, .slice At nt ct]).alloc (.cells #[.slice none 0 0, .slice none 0 0, .int .i64 0, .slice none 0 0] 34)).alloc (.cells #[.slice none 0 0, .slice none 0 0, .int .i64 0, .slice none 0 0] 34))
  have HQ0 := Lib.hid (show Blk (((w.alloc (.cells #[.slice Am nm cm, .slice Av nv cv, .int .i64 cl, .slice At nt ct] 29)).alloc (.cells #[.slice none 0 0, .slice none 0 0, .int .i64 0, .slice none 0 0] 34)).alloc (.cells #[.slice none 0 0, .slice none 0 0, .int .i64 0, .slice none 0 0] 34)) (w.heap.size + 1) 34 #[.slice none 0 0, .slice none 0 0, .int .i64 0, .slice none 0 0] from (Blk.newAt (by simp)).alloc _)
  have HO0 := Lib.hid (show Blk (((w.alloc (.cells #[.slice Am nm cm, .slice Av nv cv, .int .i64 cl, .slice At nt ct] 29)).alloc (.cells #[.slice none 0 0, .slice none 0 0, .int .i64 0, .slice none 0 0] 34)).alloc (.cells #[.slice none 0 0, .slice none 0 0, .int .i64 0, .slice none 0 0] 34)) (w.heap.size + 1 + 1) 34 #[.slice none 0 0, .slice none 0 0, .int .i64 0, .slice none 0 0] from Blk.newAt (by simp))
  have HB0 := Lib.hid hb0
  have hz0 : (((w.alloc (.cells #[.slice Am nm cm, .slice Av nv cv, .int .i64 cl, .slice At nt ct] 29)).alloc (.cells #[.slice none 0 0, .slice none 0 0, .int .i64 0, .slice none 0 0] 34)).alloc (.cells #[.slice none 0 0, .slice none 0 0, .int .i64 0, .slice none 0 0] 34)).heap.size = w.heap.size + 1 + 1 + 1 := by simp
  clear hb0
  go_enter Tryz.func17, Tryz.ntmps17
  go_wp2_with (fail)
  generalize (((w.alloc (.cells #[.slice Am nm cm, .slice Av nv cv, .int .i64 cl, .slice At nt ct] 29)).alloc (.cells #[.slice none 0 0, .slice none 0 0, .int .i64 0, .slice none 0 0] 34)).alloc (.cells #[.slice none 0 0, .slice none 0 0, .int .i64 0, .slice none 0 0] 34)) = w0 at *
  (with_reducible refine (toIntS_any lom him nm cm Am ms w0 (hm.keep HB0.out hBm) (by omega) hnm).mono ?_)
  rintro e w1 ⟨A1, c1, rfl, hk1, hr1, hf1, hb1⟩
  have hz1 := hb1.size
  have HX1 := Lib.hid (HX0.out.below hb1 (by omega))
  have HQ1 := Lib.hid (HQ0.out.below hb1 (by omega))
  have HO1 := Lib.hid (HO0.out.below hb1 (by omega))
  have HB1 := Lib.hid (up HB0.out hb1)
  have o0 := HO1.out.cell 0
  have o1 := HO1.out.cell 1
  have o2 := HO1.out.cell 2
  have o3 := HO1.out.cell 3
  have fo0 := HO1.out.soft 0
  have fo1 := HO1.out.soft 1
  have fo2 := HO1.out.soft 2
  have fo3 := HO1.out.soft 3
  have xo0 := HX1.out.cell 0
  have xo1 := HX1.out.cell 1
  have xo2 := HX1.out.cell 2
  have xo3 := HX1.out.cell 3
  go_wp2_with (fail)
  clear o0 o1 o2 o3 fo0 fo1 fo2 fo3 xo0 xo1 xo2 xo3
  have HX2 := Lib.hid (HX1.out.far (p := ⟨w.heap.size + 1 + 1, 0, none⟩) (by show w.heap.size ≠ w.heap.size + 1 + 1; omega) (.slice A1 nm c1))
  have HQ2 := Lib.hid (HQ1.out.far (p := ⟨w.heap.size + 1 + 1, 0, none⟩) (by show w.heap.size + 1 ≠ w.heap.size + 1 + 1; omega) (.slice A1 nm c1))
  have HO2 := Lib.hid (HO1.out.put 0 (.slice A1 nm c1))
  have HB2 := Lib.hid (HB1.out.setCell (p := ⟨w.heap.size + 1 + 1, 0, none⟩) (by show w.heap.size ≤ w.heap.size + 1 + 1; omega) (.slice A1 nm c1))
  have HR1B := Lib.hid (hr1.setCell (p := ⟨w.heap.size + 1 + 1, 0, none⟩) (.inl (by show w.heap.size + 1 + 1 < w0.heap.size; omega)) (.slice A1 nm c1))
  have HF1B := Lib.hid (hf1.store ⟨w.heap.size + 1 + 1, 0, none⟩ (.slice A1 nm c1))
  have hz2 : (w1.setCell ⟨w.heap.size + 1 + 1, 0, none⟩ (.slice A1 nm c1)).heap.size = w1.heap.size := by simp
  clear HX0 HQ0 HO0 HB0 HX1 HQ1 HO1 HB1 hr1 hf1 hb1
  generalize (w1.setCell ⟨w.heap.size + 1 + 1, 0, none⟩ (.slice A1 nm c1)) = w2 at *
  simp at HO2
  (with_reducible refine (toIntS_any lov hiv nv cv Av vs w2 (hv.keep HB2.out hBv) (by omega) hnv).mono ?_)
  rintro e w3 ⟨A2, c2, rfl, hk2, hr2, hf2, hb3⟩
  have hz3 := hb3.size
  have HX3 := Lib.hid (HX2.out.below hb3 (by omega))
  have HQ3 := Lib.hid (HQ2.out.below hb3 (by omega))
  have HO3 := Lib.hid (HO2.out.below hb3 (by omega))
  have HB3 := Lib.hid (up HB2.out hb3)
  have HR1C := Lib.hid (HR1B.out.keep hb3 (by omega))
  have HF1C := Lib.hid (HF1B.out.kept HR1B.out hb3 (by omega))
  have o0 := HO3.out.cell 0
  have o1 := HO3.out.cell 1
  have o2 := HO3.out.cell 2
  have o3 := HO3.out.cell 3
  have fo0 := HO3.out.soft 0
  have fo1 := HO3.out.soft 1
  have fo2 := HO3.out.soft 2
  have fo3 := HO3.out.soft 3
  have xo0 := HX3.out.cell 0
  have xo1 := HX3.out.cell 1
  have xo2 := HX3.out.cell 2
  have xo3 := HX3.out.cell 3
  go_wp2_with (fail)
  clear o0 o1 o2 o3 fo0 fo1 fo2 fo3 xo0 xo1 xo2 xo3
  have HX4 := Lib.hid ((HX3.out.far (p := ⟨w.heap.size + 1 + 1, 1, none⟩) (by show w.heap.size ≠ w.heap.size + 1 + 1; omega) (.slice A2 nv c2)).far (p := ⟨w.heap.size + 1 + 1, 2, none⟩) (by show w.heap.size ≠ w.heap.size + 1 + 1; omega) (.int .i64 cl))
  have HQ4 := Lib.hid ((HQ3.out.far (p := ⟨w.heap.size + 1 + 1, 1, none⟩) (by show w.heap.size + 1 ≠ w.heap.size + 1 + 1; omega) (.slice A2 nv c2)).far (p := ⟨w.heap.size + 1 + 1, 2, none⟩) (by show w.heap.size + 1 ≠ w.heap.size + 1 + 1; omega) (.int .i64 cl))
  have HO4 := Lib.hid ((HO3.out.put 1 (.slice A2 nv c2)).put 2 (.int .i64 cl))
  have HB4 := Lib.hid ((HB3.out.setCell (p := ⟨w.heap.size + 1 + 1, 1, none⟩) (by show w.heap.size ≤ w.heap.size + 1 + 1; omega) (.slice A2 nv c2)).setCell (p := ⟨w.heap.size + 1 + 1, 2, none⟩) (by show w.heap.size ≤ w.heap.size + 1 + 1; omega) (.int .i64 cl))
  have HR1D := Lib.hid ((HR1C.out.setCell (p := ⟨w.heap.size + 1 + 1, 1, none⟩) (.inl (by show w.heap.size + 1 + 1 < w0.heap.size; omega)) (.slice A2 nv c2)).setCell (p := ⟨w.heap.size + 1 + 1, 2, none⟩) (.inl (by show w.heap.size + 1 + 1 < w0.heap.size; omega)) (.int .i64 cl))
  have HF1D := Lib.hid ((HF1C.out.store ⟨w.heap.size + 1 + 1, 1, none⟩ (.slice A2 nv c2)).store ⟨w.heap.size + 1 + 1, 2, none⟩ (.int .i64 cl))
  have HR2D := Lib.hid ((hr2.setCell (p := ⟨w.heap.size + 1 + 1, 1, none⟩) (.inl (by show w.heap.size + 1 + 1 < w2.heap.size; omega)) (.slice A2 nv c2)).setCell (p := ⟨w.heap.size + 1 + 1, 2, none⟩) (.inl (by show w.heap.size + 1 + 1 < w2.heap.size; omega)) (.int .i64 cl))
  have HF2D := Lib.hid ((hf2.store ⟨w.heap.size + 1 + 1, 1, none⟩ (.slice A2 nv c2)).store ⟨w.heap.size + 1 + 1, 2, none⟩ (.int .i64 cl))
  have hz4 : ((w3.setCell ⟨w.heap.size + 1 + 1, 1, none⟩ (.slice A2 nv c2)).setCell ⟨w.heap.size + 1 + 1, 2, none⟩ (.int .i64 cl)).heap.size = w3.heap.size := by simp
  clear HX2 HQ2 HO2 HB2 HX3 HQ3 HO3 HB3 hr2 hf2 hb3 HR1B HF1B HR1C HF1C
  generalize ((w3.setCell ⟨w.heap.size + 1 + 1, 1, none⟩ (.slice A2 nv c2)).setCell ⟨w.heap.size + 1 + 1, 2, none⟩ (.int .i64 cl)) = w4 at *
  simp at HO4
  (with_reducible refine (toTimerS_any lot hit nt ct At ts w4 (ht.keep HB4.out hBt) (by omega) hnt).mono ?_)
  rintro e w5 ⟨A3, c3, rfl, hk3, hr3, hf3, hb5⟩
  have hz5 := hb5.size
  have HX5 := Lib.hid (HX4.out.below hb5 (by omega))
  have HQ5 := Lib.hid (HQ4.out.below hb5 (by omega))
  have HO5 := Lib.hid (HO4.out.below hb5 (by omega))
  have HB5 := Lib.hid (up HB4.out hb5)
  have HR1E := Lib.hid (HR1D.out.keep hb5 (by omega))
  have HF1E := Lib.hid (HF1D.out.kept HR1D.out hb5 (by omega))
  have HR2E := Lib.hid (HR2D.out.keep hb5 (by omega))
  have HF2E := Lib.hid (HF2D.out.kept HR2D.out hb5 (by omega))
  have o0 := HO5.out.cell 0
  have o1 := HO5.out.cell 1
  have o2 := HO5.out.cell 2
  have o3 := HO5.out.cell 3
  have fo0 := HO5.out.soft 0
  have fo1 := HO5.out.soft 1
  have fo2 := HO5.out.soft 2
  have fo3 := HO5.out.soft 3
  have xo0 := HX5.out.cell 0
  have xo1 := HX5.out.cell 1
  have xo2 := HX5.out.cell 2
  have xo3 := HX5.out.cell 3
  have q0 := HQ5.out.cell 0
  have q1 := HQ5.out.cell 1
  have q2 := HQ5.out.cell 2
  have q3 := HQ5.out.cell 3
  have g0 := HQ5.out.soft 0
  have g1 := HQ5.out.soft 1
  have g2 := HQ5.out.soft 2
  have g3 := HQ5.out.soft 3
  have hzz := (((((HQ5.out.far (p := ⟨w.heap.size + 1 + 1, 3, none⟩) (by show w.heap.size + 1 ≠ w.heap.size + 1 + 1; omega) (.slice A3 nt c3)).put 0 (.slice A1 nm c1)).put 1 (.slice A2 nv c2)).put 2 (.int .i64 cl)).put 3 (.slice A3 nt c3))
  have z0 := hzz.cell 0
  have z1 := hzz.cell 1
  have z2 := hzz.cell 2
  have z3 := hzz.cell 3
  simp at z0 z1 z2 z3
  have HR1Z := Lib.hid (((((HR1E.out.setCell (p := ⟨w.heap.size + 1 + 1, 3, none⟩) (.inl (by show w.heap.size + 1 + 1 < w0.heap.size; omega)) (.slice A3 nt c3)).setCell (p := ⟨w.heap.size + 1, 0, none⟩) (.inl (by show w.heap.size + 1 < w0.heap.size; omega)) (.slice A1 nm c1)).setCell (p := ⟨w.heap.size + 1, 1, none⟩) (.inl (by show w.heap.size + 1 < w0.heap.size; omega)) (.slice A2 nv c2)).setCell (p := ⟨w.heap.size + 1, 2, none⟩) (.inl (by show w.heap.size + 1 < w0.heap.size; omega)) (.int .i64 cl)).setCell (p := ⟨w.heap.size + 1, 3, none⟩) (.inl (by show w.heap.size + 1 < w0.heap.size; omega)) (.slice A3 nt c3))
  have HF1Z := Lib.hid (((((HF1E.out.store ⟨w.heap.size + 1 + 1, 3, none⟩ (.slice A3 nt c3)).store ⟨w.heap.size + 1, 0, none⟩ (.slice A1 nm c1)).store ⟨w.heap.size + 1, 1, none⟩ (.slice A2 nv c2)).store ⟨w.heap.size + 1, 2, none⟩ (.int .i64 cl)).store ⟨w.heap.size + 1, 3, none⟩ (.slice A3 nt c3))
  have HR2Z := Lib.hid (((((HR2E.out.setCell (p := ⟨w.heap.size + 1 + 1, 3, none⟩) (.inl (by show w.heap.size + 1 + 1 < w2.heap.size; omega)) (.slice A3 nt c3)).setCell (p := ⟨w.heap.size + 1, 0, none⟩) (.inl (by show w.heap.size + 1 < w2.heap.size; omega)) (.slice A1 nm c1)).setCell (p := ⟨w.heap.size + 1, 1, none⟩) (.inl (by show w.heap.size + 1 < w2.heap.size; omega)) (.slice A2 nv c2)).setCell (p := ⟨w.heap.size + 1, 2, none⟩) (.inl (by show w.heap.size + 1 < w2.heap.size; omega)) (.int .i64 cl)).setCell (p := ⟨w.heap.size + 1, 3, none⟩) (.inl (by show w.heap.size + 1 < w2.heap.size; omega)) (.slice A3 nt c3))
  have HF2Z := Lib.hid (((((HF2E.out.store ⟨w.heap.size + 1 + 1, 3, none⟩ (.slice A3 nt c3)).store ⟨w.heap.size + 1, 0, none⟩ (.slice A1 nm c1)).store ⟨w.heap.size + 1, 1, none⟩ (.slice A2 nv c2)).store ⟨w.heap.size + 1, 2, none⟩ (.int .i64 cl)).store ⟨w.heap.size + 1, 3, none⟩ (.slice A3 nt c3))
  have HR3Z := Lib.hid (((((hr3.setCell (p := ⟨w.heap.size + 1 + 1, 3, none⟩) (.inl (by show w.heap.size + 1 + 1 < w4.heap.size; omega)) (.slice A3 nt c3)).setCell (p := ⟨w.heap.size + 1, 0, none⟩) (.inl (by show w.heap.size + 1 < w4.heap.size; omega)) (.slice A1 nm c1)).setCell (p := ⟨w.heap.size + 1, 1, none⟩) (.inl (by show w.heap.size + 1 < w4.heap.size; omega)) (.slice A2 nv c2)).setCell (p := ⟨w.heap.size + 1, 2, none⟩) (.inl (by show w.heap.size + 1 < w4.heap.size; omega)) (.int .i64 cl)).setCell (p := ⟨w.heap.size + 1, 3, none⟩) (.inl (by show w.heap.size + 1 < w4.heap.size; omega)) (.slice A3 nt c3))
  have HF3Z := Lib.hid (((((hf3.store ⟨w.heap.size + 1 + 1, 3, none⟩ (.slice A3 nt c3)).store ⟨w.heap.size + 1, 0, none⟩ (.slice A1 nm c1)).store ⟨w.heap.size + 1, 1, none⟩ (.slice A2 nv c2)).store ⟨w.heap.size + 1, 2, none⟩ (.int .i64 cl)).store ⟨w.heap.size + 1, 3, none⟩ (.slice A3 nt c3))
  have HBZ := Lib.hid (((((HB5.out.setCell (p := ⟨w.heap.size + 1 + 1, 3, none⟩) (by show w.heap.size ≤ w.heap.size + 1 + 1; omega) (.slice A3 nt c3)).setCell (p := ⟨w.heap.size + 1, 0, none⟩) (by show w.heap.size ≤ w.heap.size + 1; omega) (.slice A1 nm c1)).setCell (p := ⟨w.heap.size + 1, 1, none⟩) (by show w.heap.size ≤ w.heap.size + 1; omega) (.slice A2 nv c2)).setCell (p := ⟨w.heap.size + 1, 2, none⟩) (by show w.heap.size ≤ w.heap.size + 1; omega) (.int .i64 cl)).setCell (p := ⟨w.heap.size + 1, 3, none⟩) (by show w.heap.size ≤ w.heap.size + 1; omega) (.slice A3 nt c3))
  clear hzz hr3 hf3 hb5 HX4 HQ4 HO4 HB4 HX5 HQ5 HO5 HB5 HR1D HF1D HR2D HF2D HR1E HF1E HR2E HF2E
  go_wp2
  exact bodyPost_ret (v := .agg #[.slice A1 nm c1, .slice A2 nv c2, .int .i64 cl, .slice A3 nt c3]) (by simp [results, Tryz.results17, go_sem, z0, z1, z2, z3]) rfl ⟨A1, c1, A2, c2, A3, c3, w2.heap.size, w4.heap.size, rfl, ⟨hk1, hk2, hk3⟩, ⟨by omega, by omega, by simp; omega⟩, ⟨HR1Z.out.wide (by omega) (by omega), HF1Z.out⟩, ⟨HR2Z.out.wide (by omega) (by omega), HF2Z.out⟩, ⟨HR3Z.out.wide (by omega) (by simp), HF3Z.out⟩, HBZ.out⟩
set_option maxHeartbeats 1600000 in
theorem eqInstance_same (nm nv nt cm cv ct cm' cv' ct' : Nat) (Am Av At Am' Av' At' : Option Addr) (cl : Int) (lom him lov hiv lot hit lom' him' lov' hiv' lot' hit' : Nat) (ms vs : List Int) (ts : List (Int × Int)) (w : World)
    (hm : Rd w lom him 1 Am nm (ivs ms)) (hBm : him ≤ w.heap.size) (hnm : nm ≤ 1048576) (hv : Rd w lov hiv 1 Av nv (ivs vs)) (hBv : hiv ≤ w.heap.size) (hnv : nv ≤ 1048576) (ht : Rd w lot hit 2 At nt (pvs ts)) (hBt : hit ≤ w.heap.size) (hnt : nt ≤ 1048576)
    (hm' : Rd w lom' him' 1 Am' nm (ivs ms)) (hBm' : him' ≤ w.heap.size) (hv' : Rd w lov' hiv' 1 Av' nv (ivs vs)) (hBv' : hiv' ≤ w.heap.size) (ht' : Rd w lot' hit' 2 At' nt (pvs ts)) (hBt' : hit' ≤ w.heap.size) :
    Calls Tryz.prog 19 #[.agg #[.slice Am nm cm, .slice Av nv cv, .int .i64 cl, .slice At nt ct], .agg #[.slice Am' nm cm', .slice Av' nv cv', .int .i64 cl, .slice At' nt ct']] w fun e w' => e = .returned (.bool true) ∧ Below w.heap.size w w' := by
  have hb0 := up_alloc (up_alloc (Below.refl _ w) (.cells #[.slice Am nm cm, .slice Av nv cv, .int .i64 cl, .slice At nt ct] 34)) (.cells #[.slice Am' nm cm', .slice Av' nv cv', .int .i64 cl, .slice At' nt ct'] 34)
  have HA := Lib.hid ((Blk.new w 34 #[.slice Am nm cm, .slice Av nv cv, .int .i64 cl, .slice At nt ct]).alloc (.cells #[.slice Am' nm cm', .slice Av' nv cv', .int .i64 cl, .slice At' nt ct'] 34))
  have HC := Lib.hid (show Blk ((w.alloc (.cells #[.slice Am nm cm, .slice Av nv cv, .int .i64 cl, .slice At nt ct] 34)).alloc (.cells #[.slice Am' nm cm', .slice Av' nv cv', .int .i64 cl, .slice At' nt ct'] 34)) (w.heap.size + 1) 34 #[.slice Am' nm cm', .slice Av' nv cv', .int .i64 cl, .slice At' nt ct'] from Blk.newAt (by simp))
  have HB0 := Lib.hid hb0
  have hz0 : ((w.alloc (.cells #[.slice Am nm cm, .slice Av nv cv, .int .i64 cl, .slice At nt ct] 34)).alloc (.cells #[.slice Am' nm cm', .slice Av' nv cv', .int .i64 cl, .slice At' nt ct'] 34)).heap.size = w.heap.size + 1 + 1 := by simp
  have hcl : (cl != cl) = false := by simp
  clear hb0
  go_enter Tryz.func19, Tryz.ntmps19
  go_wp2_with (fail)
  generalize (w.alloc (.cells #[.slice Am nm cm, .slice Av nv cv, .int .i64 cl, .slice At nt ct] 34)).alloc (.cells #[.slice Am' nm cm', .slice Av' nv cv', .int .i64 cl, .slice At' nt ct'] 34) = w0 at *
  (with_reducible refine (eqIntS_any _ _ nm cm _ _ nm cm' Am Am' ms ms w0 (hm.keep HB0.out hBm) (by omega) hnm (hm'.keep HB0.out hBm') (by omega) hnm).mono ?_)
  rintro e w1 ⟨rfl, hb1⟩
  rw [beq_self_eq_true]
  have hz1 := hb1.size
  have HB1 := Lib.hid (up HB0.out hb1)
  have HA1 := Lib.hid (HA.out.below hb1 (by omega))
  have HC1 := Lib.hid (HC.out.below hb1 (by omega))
  clear HA HC
  have a10 := HA1.out.cell 0
  have a11 := HA1.out.cell 1
  have a12 := HA1.out.cell 2
  have a13 := HA1.out.cell 3
  have c10 := HC1.out.cell 0
  have c11 := HC1.out.cell 1
  have c12 := HC1.out.cell 2
  have c13 := HC1.out.cell 3
  clear hb1
  go_wp2_with (fail)
  (with_reducible refine (eqIntS_any _ _ nv cv _ _ nv cv' Av Av' vs vs w1 (hv.keep HB1.out hBv) (by omega) hnv (hv'.keep HB1.out hBv') (by omega) hnv).mono ?_)
  rintro e w2 ⟨rfl, hb2⟩
  rw [beq_self_eq_true]
  have hz2 := hb2.size
  have HB2 := Lib.hid (up HB1.out hb2)
  clear a10 c10 a11 c11 a12 c12 a13 c13
  have HA2 := Lib.hid (HA1.out.below hb2 (by omega))
  have HC2 := Lib.hid (HC1.out.below hb2 (by omega))
  clear HA1 HC1
  have a20 := HA2.out.cell 0
  have a21 := HA2.out.cell 1
  have a22 := HA2.out.cell 2
  have a23 := HA2.out.cell 3
  have c20 := HC2.out.cell 0
  have c21 := HC2.out.cell 1
  have c22 := HC2.out.cell 2
  have c23 := HC2.out.cell 3
  clear hb2
  go_wp2_with (fail)
  (with_reducible refine (eqTimerS_any _ _ nt ct _ _ nt ct' At At' ts ts w2 (ht.keep HB2.out hBt) (by omega) hnt (ht'.keep HB2.out hBt') (by omega) hnt).mono ?_)
  rintro e w3 ⟨rfl, hb3⟩
  rw [beq_self_eq_true]
  have HB3 := Lib.hid (up HB2.out hb3)
  clear hb3
  go_wp2
  go_ret
  exact ⟨rfl, HB3.out⟩
end Go.Proofs.YtknphikoikdcjaaGreat


/- Marks of timers and of instances. (Written by gen/exinstm.py.) -/
namespace Go.Proofs.YtknphikoikdcjaaGreat
open Go.RowKit

set_option maxHeartbeats 800000 in
theorem markTimerS_any (lo hi n c : Nat) (A : Option Addr) (zs : List Value) (k0 : Int) (w : World) (hr : Rd w lo hi 2 A n zs) (hs : Soft w 2 A n) (hn : n ≤ 1048576) (hk0 : 0 ≤ k0) (hk1 : k0 ≤ 1000000000000000) :
    Calls Tryz.prog 80 #[.slice A n c, .int .i64 k0] w (Marked (pvs (seqP k0 n)) lo hi 2 A n (k0 + 2 * n) w) := by
  have HZ := Lib.hid hr.1
  go_enter Tryz.func80, Tryz.ntmps80
  go_wp2
  go_loopw [1, 5] (fun kv iv wr => ∃ (i : Nat), i ≤ n ∧ iv = .int .i64 i ∧ kv = .int .i64 (k0 + 2 * (i : Int)) ∧ Rd wr lo hi 2 A n (pvs (seqP k0 i) ++ zs.drop (i * 2)) ∧ Soft wr 2 A n ∧ In A n w wr)
     (fun _ iv _ => n - (intOf iv).toNat)
  case atStart => exact ⟨0, by omega, rfl, by simp, by simpa [seqP, pvs] using hr, hs, in_refl _ _ _⟩
  case round =>
    clear hr hs
    obtain ⟨i, hi_, rfl, rfl, hr, hs, hin⟩ := hrel
    by_cases hlt : i < n
    · have hl := hr.1
      obtain ⟨b, off, rfl, _, _⟩ := hr.form (by omega)
      obtain ⟨b', off', e, _, _, hcc⟩ := hr.2 (by omega)
      injection e with e; injection e with e1 e2
      subst e1; subst e2
      have hc0 := hcc (i * 2) _ (List.getElem?_eq_getElem (by omega))
      have hc1 := hcc (i * 2 + 1) _ (List.getElem?_eq_getElem (by omega))
      rw [← Nat.add_assoc] at hc1
      generalize (pvs (seqP k0 i) ++ zs.drop (i * 2))[i * 2]'(by omega) = z0 at hc0
      generalize (pvs (seqP k0 i) ++ zs.drop (i * 2))[i * 2 + 1]'(by omega) = z1 at hc1
      have hf0 := hs b off rfl (i * 2) (by omega)
      have hf1 := hs b off rfl (i * 2 + 1) (by omega)
      rw [← Nat.add_assoc] at hf1
      have hr2 := (hr.store (i * 2) (by omega) (.int .i64 (k0 + 2 * (i : Int)))).store (i * 2 + 1) (by omega) (.int .i64 (k0 + 2 * (i : Int) + 1))
      rw [mixP_step k0 zs n i HZ.out hlt, ← Nat.add_assoc] at hr2
      have HR := Lib.hid hr2
      have HS := Lib.hid ((hs.store ⟨b, off + i * 2, none⟩ (.int .i64 (k0 + 2 * (i : Int)))).store ⟨b, off + i * 2 + 1, none⟩ (.int .i64 (k0 + 2 * (i : Int) + 1)))
      have HI := Lib.hid (in_store (in_store hin (by omega) (off + i * 2) (.int .i64 (k0 + 2 * (i : Int)))) (by omega) (off + i * 2 + 1) (.int .i64 (k0 + 2 * (i : Int) + 1)))
      clear hr2 hr hs hin hcc hl
      go_wp2
      go_roundw
      case rel => exact ⟨i + 1, by omega, by go_num, by go_num, HR.out, HS.out, HI.out⟩
      case measure => simp [intOf]; omega
    · obtain rfl : i = n := by omega
      rw [List.drop_of_length_le (by rw [HZ.out]; omega), List.append_nil] at hr
      have HR := Lib.hid hr
      clear hr
      go_wp2
      go_ret
      exact ⟨rfl, HR.out, hs, hin⟩
set_option maxHeartbeats 800000 in
theorem heldTimerS_any (lo hi n c : Nat) (A : Option Addr) (k0 : Int) (w : World) (hr : Rd w lo hi 2 A n (pvs (seqP k0 n))) (hn : n ≤ 1048576) (hk0 : 0 ≤ k0) (hk1 : k0 ≤ 1000000000000000) :
    Calls Tryz.prog 81 #[.slice A n c, .int .i64 k0] w fun e w' => e = .returned (.int .i64 (k0 + 2 * n)) ∧ w = w' := by
  go_enter Tryz.func81, Tryz.ntmps81
  go_wp2
  go_loop [1, 5] (fun kv iv => ∃ (i : Nat), i ≤ n ∧ iv = .int .i64 i ∧ kv = .int .i64 (k0 + 2 * (i : Int)))
     (fun _ iv => n - (intOf iv).toNat)
  case atStart => exact ⟨0, by omega, rfl, by simp⟩
  case round =>
    obtain ⟨i, hi_, rfl, rfl⟩ := hrel
    by_cases hlt : i < n
    · obtain ⟨b, off, x, y, rfl, _, _, hg, hc0, hc1⟩ := hr.pair hlt
      rw [seqP_get hlt] at hg
      have hg2 := Option.some.inj hg
      injection hg2 with hx hy
      subst hx; subst hy
      clear hg
      go_wp2
      go_round
      case rel => exact ⟨i + 1, by omega, by go_num, by go_num⟩
      case measure => simp [intOf]; omega
    · obtain rfl : i = n := by omega
      go_wp2
      go_ret
      exact ⟨rfl, rfl⟩
theorem Within.widen {lo hi lo' hi' : Nat} {w w' : World} (h : Within lo hi w w') (h1 : lo' ≤ lo) (h2 : hi ≤ hi') : Within lo' hi' w w' := ⟨h.os, h.tape, h.output, h.size, fun i hi' ho => h.block i hi' (by omega)⟩
set_option maxHeartbeats 1600000 in
theorem markInstance_from (k0 : Int) (hk0 : 0 ≤ k0) (hk1 : k0 ≤ 9000000000000) (lo m1 m2 hi nm cm nv cv nt ct : Nat) (Am Av At : Option Addr) (cl : Int) (ms vs : List Int) (ts : List (Int × Int)) (w : World)
    (hm : Rd w lo m1 1 Am nm (ivs ms)) (hsm : Soft w 1 Am nm) (hnm : nm ≤ 1048576) (hv : Rd w m1 m2 1 Av nv (ivs vs)) (hsv : Soft w 1 Av nv) (hnv : nv ≤ 1048576) (ht : Rd w m2 hi 2 At nt (pvs ts)) (hst : Soft w 2 At nt) (hnt : nt ≤ 1048576)
    (h1 : lo ≤ m1) (h2 : m1 ≤ m2) (h3 : m2 ≤ hi) (hB : hi ≤ w.heap.size) :
    Calls Tryz.prog 24 #[.agg #[.slice Am nm cm, .slice Av nv cv, .int .i64 cl, .slice At nt ct], .int .i64 k0] w fun e w' => ∃ (r : Int) (w1 : World), e = .returned (.int .i64 r) ∧ 0 ≤ r ∧ r ≤ k0 + 5000000 ∧ Below w.heap.size w w1 ∧ Within lo hi w1 w' := by
  have hb1 := up_alloc (Below.refl _ w) (.cells #[.slice Am nm cm, .slice Av nv cv, .int .i64 cl, .slice At nt ct] 34)
  have HX := Lib.hid (Blk.new w 34 #[.slice Am nm cm, .slice Av nv cv, .int .i64 cl, .slice At nt ct])
  have HM := Lib.hid (hm.keep hb1 (by omega))
  have HSM := Lib.hid (hsm.kept hm hb1 (by omega))
  have HV := Lib.hid (hv.keep hb1 (by omega))
  have HSV := Lib.hid (hsv.kept hv hb1 (by omega))
  have HT := Lib.hid (ht.keep hb1 (by omega))
  have HST := Lib.hid (hst.kept ht hb1 (by omega))
  have HB := Lib.hid hb1
  have hz : (w.alloc (.cells #[.slice Am nm cm, .slice Av nv cv, .int .i64 cl, .slice At nt ct] 34)).heap.size = w.heap.size + 1 := by simp
  have x0 : (w.alloc (.cells #[.slice Am nm cm, .slice Av nv cv, .int .i64 cl, .slice At nt ct] 34)).cell? ⟨w.heap.size, 0, none⟩ = some (.slice Am nm cm) := HX.out.cell 0
  clear hm hsm hv hsv ht hst hb1
  go_enter Tryz.func24, Tryz.ntmps24
  go_wp2_with (fail)
  clear x0
  generalize w.alloc (.cells #[.slice Am nm cm, .slice Av nv cv, .int .i64 cl, .slice At nt ct] 34) = w1 at *
  (with_reducible refine (markIntS_any lo m1 nm cm Am (ivs ms) k0 w1 HM.out HSM.out hnm (by omega) (by omega)).mono ?_)
  rintro e w2 ⟨rfl, _, _, hin2⟩
  have hw2 := Within.grown (lo := lo) (hi := m1) hin2 (in_row HM.out)
  have HX2 := Lib.hid (HX.out.grown hin2 (fun e => by have := in_row HM.out _ e.symm; omega))
  have HV2 := Lib.hid (HV.out.within hw2 (by omega) (.inr (by omega)))
  have HSV2 := Lib.hid (HSV.out.within HV.out hw2 (by omega) (.inr (by omega)))
  have HT2 := Lib.hid (HT.out.within hw2 (by omega) (.inr (by omega)))
  have HST2 := Lib.hid (HST.out.within HT.out hw2 (by omega) (.inr (by omega)))
  have HW2 := Lib.hid (hw2.widen (lo' := lo) (hi' := hi) (Nat.le_refl _) (by omega))
  have hs2 := hw2.size
  have x1 : w2.cell? ⟨w.heap.size, 1, none⟩ = some (.slice Av nv cv) := HX2.out.cell 1
  clear hin2 hw2 HM HSM HV HSV HT HST HX
  go_wp2_with (fail)
  (with_reducible refine (markIntS_any m1 m2 nv cv Av (ivs vs) (k0 + (nm : Int)) w2 HV2.out HSV2.out hnv (by omega) (by omega)).mono ?_)
  rintro e w3 ⟨rfl, _, _, hin3⟩
  clear x1
  have hw3 := Within.grown (lo := m1) (hi := m2) hin3 (in_row HV2.out)
  have HX3 := Lib.hid (HX2.out.grown hin3 (fun e => by have := in_row HV2.out _ e.symm; omega))
  have HT3 := Lib.hid (HT2.out.within hw3 (by omega) (.inr (by omega)))
  have HST3 := Lib.hid (HST2.out.within HT2.out hw3 (by omega) (.inr (by omega)))
  have HW3 := Lib.hid (HW2.out.trans (hw3.widen (lo' := lo) (hi' := hi) (by omega) (by omega)))
  have hs3 := hw3.size
  have x3 : w3.cell? ⟨w.heap.size, 3, none⟩ = some (.slice At nt ct) := HX3.out.cell 3
  clear hin3 hw3 HV2 HSV2 HT2 HST2 HX2 HW2
  go_wp2_with (fail)
  (with_reducible refine (markTimerS_any m2 hi nt ct At (pvs ts) (k0 + (nm : Int) + (nv : Int)) w3 HT3.out HST3.out hnt (by omega) (by omega)).mono ?_)
  rintro e w4 ⟨rfl, _, _, hin4⟩
  clear x3
  have HW4 := Lib.hid (HW3.out.trans ((Within.grown (lo := m2) (hi := hi) hin4 (in_row HT3.out)).widen (lo' := lo) (hi' := hi) (by omega) (Nat.le_refl _)))
  clear hin4
  go_wp2
  go_ret
  exact ⟨_, w1, rfl, by omega, by omega, HB.out, HW4.out⟩
end Go.Proofs.YtknphikoikdcjaaGreat


/- Marks in a result: written and read again. (Written by gen/exinstr.py.) -/
namespace Go.Proofs.YtknphikoikdcjaaGreat
open Go.RowKit

set_option maxHeartbeats 1600000 in
theorem markInstance_res (k0 : Int) (hk0 : 0 ≤ k0) (hk1 : k0 ≤ 100000000) (lo m1 m2 hi nm cm nv cv nt ct : Nat) (Am Av At : Option Addr) (cl : Int) (zm zv zt : List Value) (w : World)
    (ht : Rd w lo m1 2 At nt zt) (hst : Soft w 2 At nt) (hnt : nt ≤ 1048576) (hm : Rd w m1 m2 1 Am nm zm) (hsm : Soft w 1 Am nm) (hnm : nm ≤ 1048576) (hv : Rd w m2 hi 1 Av nv zv) (hsv : Soft w 1 Av nv) (hnv : nv ≤ 1048576)
    (h1 : lo ≤ m1) (h2 : m1 ≤ m2) (h3 : m2 ≤ hi) (hB : hi ≤ w.heap.size) :
    Calls Tryz.prog 24 #[.agg #[.slice Am nm cm, .slice Av nv cv, .int .i64 cl, .slice At nt ct], .int .i64 k0] w fun e w' => e = .returned (.int .i64 (k0 + (nm : Int) + (nv : Int) + 2 * (nt : Int))) ∧ (Rd w' m1 m2 1 Am nm (ivs (seqI k0 nm)) ∧ Rd w' m2 hi 1 Av nv (ivs (seqI (k0 + (nm : Int)) nv)) ∧ Rd w' lo m1 2 At nt (pvs (seqP (k0 + (nm : Int) + (nv : Int)) nt))) ∧ ∃ w1, Below w.heap.size w w1 ∧ Within lo hi w1 w' := by
  have hb1 := up_alloc (Below.refl _ w) (.cells #[.slice Am nm cm, .slice Av nv cv, .int .i64 cl, .slice At nt ct] 34)
  have HX := Lib.hid (Blk.new w 34 #[.slice Am nm cm, .slice Av nv cv, .int .i64 cl, .slice At nt ct])
  have HM := Lib.hid (hm.keep hb1 (by omega))
  have HSM := Lib.hid (hsm.kept hm hb1 (by omega))
  have HV := Lib.hid (hv.keep hb1 (by omega))
  have HSV := Lib.hid (hsv.kept hv hb1 (by omega))
  have HT := Lib.hid (ht.keep hb1 (by omega))
  have HST := Lib.hid (hst.kept ht hb1 (by omega))
  have HB := Lib.hid hb1
  have hz : (w.alloc (.cells #[.slice Am nm cm, .slice Av nv cv, .int .i64 cl, .slice At nt ct] 34)).heap.size = w.heap.size + 1 := by simp
  have x0 : (w.alloc (.cells #[.slice Am nm cm, .slice Av nv cv, .int .i64 cl, .slice At nt ct] 34)).cell? ⟨w.heap.size, 0, none⟩ = some (.slice Am nm cm) := HX.out.cell 0
  clear hm hsm hv hsv ht hst hb1
  go_enter Tryz.func24, Tryz.ntmps24
  go_wp2_with (fail)
  clear x0
  generalize (w.alloc (.cells #[.slice Am nm cm, .slice Av nv cv, .int .i64 cl, .slice At nt ct] 34)) = w1 at *
  (with_reducible refine (markIntS_any m1 m2 nm cm Am zm k0 w1 HM.out HSM.out hnm (by omega) (by omega)).mono ?_)
  rintro e w2 ⟨rfl, hq2, _, hin2⟩
  have hw2 := Within.grown (lo := m1) (hi := m2) hin2 (in_row HM.out)
  have HX2 := Lib.hid (HX.out.grown hin2 (fun e => by have := in_row HM.out _ e.symm; omega))
  have HV2 := Lib.hid (HV.out.within hw2 (by omega) (.inr (by omega)))
  have HSV2 := Lib.hid (HSV.out.within HV.out hw2 (by omega) (.inr (by omega)))
  have HT2 := Lib.hid (HT.out.within hw2 (by omega) (.inl (by omega)))
  have HST2 := Lib.hid (HST.out.within HT.out hw2 (by omega) (.inl (by omega)))
  have HW2 := Lib.hid (hw2.widen (lo' := lo) (hi' := hi) (by omega) (by omega))
  have HQ2 := Lib.hid hq2
  have hs2 := hw2.size
  have x1 : w2.cell? ⟨w.heap.size, 1, none⟩ = some (.slice Av nv cv) := HX2.out.cell 1
  clear hin2 hw2 HM HSM HV HSV HT HST HX hq2
  go_wp2_with (fail)
  (with_reducible refine (markIntS_any m2 hi nv cv Av zv (k0 + (nm : Int)) w2 HV2.out HSV2.out hnv (by omega) (by omega)).mono ?_)
  rintro e w3 ⟨rfl, hq3, _, hin3⟩
  clear x1
  have hw3 := Within.grown (lo := m2) (hi := hi) hin3 (in_row HV2.out)
  have HX3 := Lib.hid (HX2.out.grown hin3 (fun e => by have := in_row HV2.out _ e.symm; omega))
  have HT3 := Lib.hid (HT2.out.within hw3 (by omega) (.inl (by omega)))
  have HST3 := Lib.hid (HST2.out.within HT2.out hw3 (by omega) (.inl (by omega)))
  have HQ2b := Lib.hid (HQ2.out.within hw3 (by omega) (.inl (by omega)))
  have HQ3 := Lib.hid hq3
  have HW3 := Lib.hid (HW2.out.trans (hw3.widen (lo' := lo) (hi' := hi) (by omega) (by omega)))
  have hs3 := hw3.size
  have x3 : w3.cell? ⟨w.heap.size, 3, none⟩ = some (.slice At nt ct) := HX3.out.cell 3
  clear hin3 hw3 HV2 HSV2 HT2 HST2 HX2 HW2 HQ2 hq3
  go_wp2_with (fail)
  (with_reducible refine (markTimerS_any lo m1 nt ct At zt (k0 + (nm : Int) + (nv : Int)) w3 HT3.out HST3.out hnt (by omega) (by omega)).mono ?_)
  rintro e w4 ⟨rfl, hq4, _, hin4⟩
  clear x3
  have hw4 := Within.grown (lo := lo) (hi := m1) hin4 (in_row HT3.out)
  have HQ2c := Lib.hid (HQ2b.out.within hw4 (by omega) (.inr (by omega)))
  have HQ3c := Lib.hid (HQ3.out.within hw4 (by omega) (.inr (by omega)))
  have HQ4 := Lib.hid hq4
  have HW4 := Lib.hid (HW3.out.trans (hw4.widen (lo' := lo) (hi' := hi) (by omega) (by omega)))
  clear hin4 hw4 hq4
  go_wp2
  go_ret
  exact ⟨rfl, ⟨HQ2c.out, HQ3c.out, HQ4.out⟩, w1, HB.out, HW4.out⟩
set_option maxHeartbeats 1600000 in
theorem heldInstance_res (k0 : Int) (hk0 : 0 ≤ k0) (hk1 : k0 ≤ 100000000) (lo m1 m2 hi nm cm nv cv nt ct : Nat) (Am Av At : Option Addr) (cl : Int) (w : World)
    (hm : Rd w m1 m2 1 Am nm (ivs (seqI k0 nm))) (hnm : nm ≤ 1048576) (hv : Rd w m2 hi 1 Av nv (ivs (seqI (k0 + (nm : Int)) nv))) (hnv : nv ≤ 1048576) (ht : Rd w lo m1 2 At nt (pvs (seqP (k0 + (nm : Int) + (nv : Int)) nt))) (hnt : nt ≤ 1048576)
    (hB : hi ≤ w.heap.size) (h1 : m1 ≤ m2) (h2 : m2 ≤ hi) :
    Calls Tryz.prog 25 #[.agg #[.slice Am nm cm, .slice Av nv cv, .int .i64 cl, .slice At nt ct], .int .i64 k0] w fun e w' => e = .returned (.int .i64 (k0 + (nm : Int) + (nv : Int) + 2 * (nt : Int))) ∧ Below w.heap.size w w' := by
  have hb1 := up_alloc (Below.refl _ w) (.cells #[.slice Am nm cm, .slice Av nv cv, .int .i64 cl, .slice At nt ct] 34)
  have HX := Lib.hid (Blk.new w 34 #[.slice Am nm cm, .slice Av nv cv, .int .i64 cl, .slice At nt ct])
  have HM := Lib.hid (hm.keep hb1 (by omega))
  have HV := Lib.hid (hv.keep hb1 (by omega))
  have HT := Lib.hid (ht.keep hb1 (by omega))
  have HB := Lib.hid hb1
  have x0 : (w.alloc (.cells #[.slice Am nm cm, .slice Av nv cv, .int .i64 cl, .slice At nt ct] 34)).cell? ⟨w.heap.size, 0, none⟩ = some (.slice Am nm cm) := HX.out.cell 0
  have x1 : (w.alloc (.cells #[.slice Am nm cm, .slice Av nv cv, .int .i64 cl, .slice At nt ct] 34)).cell? ⟨w.heap.size, 1, none⟩ = some (.slice Av nv cv) := HX.out.cell 1
  have x3 : (w.alloc (.cells #[.slice Am nm cm, .slice Av nv cv, .int .i64 cl, .slice At nt ct] 34)).cell? ⟨w.heap.size, 3, none⟩ = some (.slice At nt ct) := HX.out.cell 3
  have g1 : decide (k0 + (nm : Int) < 0) = false := decide_eq_false (by omega)
  have g2 : decide (k0 + (nm : Int) + (nv : Int) < 0) = false := decide_eq_false (by omega)
  have g3 : decide (k0 + (nm : Int) + (nv : Int) + 2 * (nt : Int) < 0) = false := decide_eq_false (by omega)
  clear hm hv ht hb1
  go_enter Tryz.func25, Tryz.ntmps25
  go_wp2_with (fail)
  generalize (w.alloc (.cells #[.slice Am nm cm, .slice Av nv cv, .int .i64 cl, .slice At nt ct] 34)) = w1 at *
  (with_reducible refine (heldIntS_any m1 m2 nm cm Am k0 w1 HM.out hnm (by omega) (by omega)).mono ?_)
  rintro e w' ⟨rfl, rfl⟩
  go_wp2_with (fail)
  (with_reducible refine (heldIntS_any m2 hi nv cv Av (k0 + (nm : Int)) w1 HV.out hnv (by omega) (by omega)).mono ?_)
  rintro e w' ⟨rfl, rfl⟩
  go_wp2_with (fail)
  (with_reducible refine (heldTimerS_any lo m1 nt ct At (k0 + (nm : Int) + (nv : Int)) w1 HT.out hnt (by omega) (by omega)).mono ?_)
  rintro e w' ⟨rfl, rfl⟩
  go_wp2
  go_ret
  exact ⟨rfl, HB.out⟩
end Go.Proofs.YtknphikoikdcjaaGreat

