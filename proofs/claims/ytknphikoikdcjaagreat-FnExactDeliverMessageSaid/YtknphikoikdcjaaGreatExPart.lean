/- The exact laws' helpers on parts: sizes, copies, comparisons. -/
import Derived.Test.YtknphikoikdcjaaGreatRows
import Derived.Test.YtknphikoikdcjaaGreatBase
import Derived.BigQuiet
import Derived.Deep.QuietTactic
import Derived.Deep.RegionHeld3
import Derived.StillTailTactics
import Derived.WalkLawsBesides
set_option linter.unusedSimpArgs false
set_option linter.unusedVariables false
namespace Go.Proofs.YtknphikoikdcjaaGreat
open Go.RowKit

theorem infoPart : (Tryz.prog.info? 213).map (fun i => (i.zero, i.size, i.bytes)) = some (some (.agg #[.int .i64 0, .int .i64 0]), 2, 16) := by kernel_rfl

theorem szPartS_no (n c : Nat) (A : Option Addr) (left : Int) (w : World) (hn : n ≤ 9223372036854775807) (hl : 0 ≤ left) (hl2 : left ≤ 1048576) (h : left < n) :
    Calls Tryz.prog 160 #[.slice A n c, .int .i64 left] w fun e w' => e = .returned (.int .i64 (-1)) ∧ w = w' := by
  go_enter Tryz.func160, Tryz.ntmps160
  go_wp2
  go_ret
  exact ⟨rfl, rfl⟩
theorem szPartS_yes (n c : Nat) (A : Option Addr) (left : Int) (w : World) (hl : 0 ≤ left) (hl2 : left ≤ 1048576) (h : n ≤ left) :
    Calls Tryz.prog 160 #[.slice A n c, .int .i64 left] w fun e w' => e = .returned (.int .i64 (left - n)) ∧ w = w' := by
  go_enter Tryz.func160, Tryz.ntmps160
  go_wp2
  go_ret
  exact ⟨rfl, rfl⟩

theorem toPart_any (x y : Int) (w : World) :
    Calls Tryz.prog 182 #[.agg #[.int .i64 x, .int .i64 y]] w fun e w' => e = .returned (.agg #[.int .i64 x, .int .i64 y]) ∧ Below w.heap.size w w' := by
  go_enter Tryz.func182, Tryz.ntmps182
  go_wp2
  exact bodyPost_ret (v := .agg #[.int .i64 x, .int .i64 y]) (by simp [results, Tryz.results182, go_sem]) rfl ⟨rfl, by repeat (first | exact Below.refl _ _ | refine up_alloc ?_ _)⟩

def eqP (x y x' y' : Int) : Bool := x == x' && y == y'
theorem eqP_iff {x y x' y' : Int} : eqP x y x' y' = true ↔ x = x' ∧ y = y' := by simp [eqP]
theorem eqPart_any (x y x' y' : Int) (w : World) :
    Calls Tryz.prog 194 #[.agg #[.int .i64 x, .int .i64 y], .agg #[.int .i64 x', .int .i64 y']] w fun e w' => e = .returned (.bool (eqP x y x' y')) ∧ Below w.heap.size w w' := by
  unfold eqP
  by_cases h : x = x'
  · subst h
    by_cases h' : y = y'
    · subst h'
      go_enter Tryz.func194, Tryz.ntmps194
      go_wp2
      go_ret
      exact ⟨by simp, up_alloc (up_alloc (Below.refl _ _) _) _⟩
    · have g : (y == y') = false := by simpa using h'
      have g' : (y != y') = true := by simpa using h'
      go_enter Tryz.func194, Tryz.ntmps194
      go_wp2
      go_ret
      exact ⟨by simp [h'], up_alloc (up_alloc (Below.refl _ _) _) _⟩
  · have g : (x == x') = false := by simpa using h
    have g' : (x != x') = true := by simpa using h
    go_enter Tryz.func194, Tryz.ntmps194
    go_wp2
    go_ret
    exact ⟨by simp [h], up_alloc (up_alloc (Below.refl _ _) _) _⟩

set_option maxHeartbeats 400000 in
theorem eqPartS_any (lo hi n c lo' hi' n' c' : Nat) (A A' : Option Addr) (ps qs : List (Int × Int)) (w : World) (hr : Rd w lo hi 2 A n (pvs ps)) (hB : hi ≤ w.heap.size) (hn : n ≤ 1048576)
    (hr' : Rd w lo' hi' 2 A' n' (pvs qs)) (hB' : hi' ≤ w.heap.size) (hn' : n' ≤ 1048576) :
    Calls Tryz.prog 170 #[.slice A n c, .slice A' n' c'] w fun e w' => e = .returned (.bool (ps == qs)) ∧ Below w.heap.size w w' := by
  have HL := Lib.hid hr.len2
  have HL' := Lib.hid hr'.len2
  by_cases hnn : n = n'
  · subst hnn
    go_enter Tryz.func170, Tryz.ntmps170
    go_wp2
    go_loopw [5] (fun iv wr => ∃ (k : Nat), k ≤ n ∧ iv = .int .i64 k ∧ Hid ((ps == qs) = (ps.drop k == qs.drop k)) ∧ Below w.heap.size w wr)
       (fun iv _ => n - (intOf iv).toNat)
    case atStart => exact ⟨0, by omega, rfl, rfl, Below.refl _ _⟩
    case round =>
      obtain ⟨k, hk, rfl, hS, hbl⟩ := hrel
      by_cases hlt : k < n
      · obtain ⟨b, off, x, y, rfl, hbB, _, hg, hc0, hc1⟩ := (hr.keep hbl hB).pair hlt
        obtain ⟨b', off', x', y', rfl, hbB', _, hg', hc0', hc1'⟩ := (hr'.keep hbl hB').pair hlt
        have Hg := Lib.hid hg; clear hg
        have Hg' := Lib.hid hg'; clear hg'
        have hkn : (k : Int) < (n : Int) := by omega
        have hsz := hbl.size
        go_wp2
        go_region_held3 (fun w' => w'.cell? ⟨b, off + k * 2, none⟩ = some (.int .i64 x) ∧ w'.cell? ⟨b, off + k * 2 + 1, none⟩ = some (.int .i64 y) ∧ w'.cell? ⟨b', off' + k * 2, none⟩ = some (.int .i64 x') ∧ w'.cell? ⟨b', off' + k * 2 + 1, none⟩ = some (.int .i64 y')) (first | exact ⟨hc0, hc1, hc0', hc1'⟩ | exact ⟨(hb1.cell (by show b < wr.heap.size; omega)).trans hc0, (hb1.cell (by show b < wr.heap.size; omega)).trans hc1, (hb1.cell (by show b' < wr.heap.size; omega)).trans hc0', (hb1.cell (by show b' < wr.heap.size; omega)).trans hc1'⟩)
          ((go_at_call 194; refine (eqPart_any _ _ _ _ _).mono ?_; rintro e w1 ⟨rfl, hb1⟩))
        by_cases he : eqP x y x' y' = true
        · have He := Lib.hid (eqP_iff.1 he)
          rw [he]; clear he
          go_wp2
          go_roundw
          case rel =>
            refine ⟨k + 1, by omega, by go_num, ?_, up (up_drew hbl) hb1⟩
            obtain ⟨rfl, rfl⟩ := He.out
            rw [Hid, hS.out, drop_cons2 Hg.out, drop_cons2 Hg'.out]
            simp
          case measure => simp [intOf]; omega
        · have He := Lib.hid he
          have he' : eqP x y x' y' = false := by simpa using he
          rw [he']; clear he he'
          go_wp2
          go_ret
          refine ⟨ret_bool ?_, up (up_drew hbl) hb1⟩
          rw [hS.out, drop_cons2 Hg.out, drop_cons2 Hg'.out]
          symm
          rw [beq_eq_false_iff_ne]
          intro h
          injection h with h _
          injection h with h1 h2
          exact He.out (eqP_iff.2 ⟨h1, h2⟩)
      · obtain rfl : k = n := by omega
        go_wp2
        go_ret
        refine ⟨ret_bool ?_, hbl⟩
        rw [hS.out, List.drop_of_length_le (by rw [HL.out]; omega), List.drop_of_length_le (by rw [HL'.out]; omega)]
        rfl
  · have hne : ((n : Int) != (n' : Int)) = true := by rw [bne_iff_ne]; omega
    go_enter Tryz.func170, Tryz.ntmps170
    go_wp2
    go_ret
    refine ⟨ret_bool ?_, Below.refl _ _⟩
    symm
    rw [beq_eq_false_iff_ne]
    intro h
    exact hnn (by rw [← HL.out, ← HL'.out, h])

theorem mix_step (ps : List (Int × Int)) (zs : List Value) (n k : Nat) (x y : Int) (hp : ps.length = n) (hz : zs.length = n * 2) (hk : k < n) (hg : ps[k]? = some (x, y)) :
    ((pvs (ps.take k) ++ zs.drop (k * 2)).set (k * 2) (.int .i64 x)).set (k * 2 + 1) (.int .i64 y) = pvs (ps.take (k + 1)) ++ zs.drop ((k + 1) * 2) := by
  have h1 : (pvs (ps.take k)).length = k * 2 := by rw [pvs_length, List.length_take]; omega
  rw [List.drop_eq_getElem_cons (show k * 2 < zs.length by omega), List.drop_eq_getElem_cons (show k * 2 + 1 < zs.length by omega)]
  obtain ⟨hk', e⟩ := List.getElem?_eq_some_iff.1 hg
  rw [List.take_succ_eq_append_getElem hk', e, pvs_append]
  rw [List.set_append_right _ _ (by omega), h1, Nat.sub_self, List.set_cons_zero, List.set_append_right _ _ (by omega), h1, show k * 2 + 1 - k * 2 = 1 by omega, List.set_cons_succ, List.set_cons_zero]
  simp [pvs, pv, show (k + 1) * 2 = k * 2 + 1 + 1 by omega]

set_option maxRecDepth 100000 in
set_option maxHeartbeats 400000 in
theorem toPartS_any (lo hi n c : Nat) (A : Option Addr) (ps : List (Int × Int)) (w : World) (hr : Rd w lo hi 2 A n (pvs ps)) (hB : hi ≤ w.heap.size) (hn : n ≤ 1048576) :
    Calls Tryz.prog 161 #[.slice A n c] w (Fresh (pvs ps) 2 n w) := by
  have HL := Lib.hid hr.len2
  obtain ⟨i0, hi0, hz0, hz1, hz2⟩ := info_parts infoPart
  obtain ⟨wm, hmk, hown, hgr⟩ := run_make_full (P := Tryz.prog) w w.heap.size 165 213 i0 _ 2 Tryz.underlying165 hi0 hz0 hz1 .i64 .i64 n (by rw [hz2]; omega) (by unfold maxLen; omega) (Nat.le_refl _)
  have hbm : Below w.heap.size w wm := (Below.refl _ _).grown hgr (Nat.le_refl _) (by simp)
  generalize hzs : (madeCells (Value.agg #[.int .i64 0, .int .i64 0]).cells (n * 2)).toList = zs at hown
  have hzl : Hid (zs.length = n * 2) := by rw [Hid, ← hzs]; simp [size_madeCells]
  clear hzs hgr hi0 hz0 hz1 hz2
  go_enter Tryz.func161, Tryz.ntmps161
  go_wp2
  clear hmk
  go_loopw [4] (fun iv wr => ∃ (k : Nat), k ≤ n ∧ iv = .int .i64 k ∧ wr.ownsRow w.heap.size 213 2 (.slice (some ⟨w.heap.size, 0, none⟩) n n) n (pvs (ps.take k) ++ zs.drop (k * 2)) ∧ Below w.heap.size w wr)
     (fun iv _ => n - (intOf iv).toNat)
  case atStart => exact ⟨0, by omega, rfl, by simpa [pvs] using hown, hbm⟩
  case round =>
    clear hown hbm
    obtain ⟨k, hk, rfl, hown, hbl⟩ := hrel
    by_cases hlt : k < n
    · obtain ⟨b, off, x, y, rfl, hbB, _, hg, hc0, hc1⟩ := (hr.keep hbl hB).pair hlt
      have Hg := Lib.hid hg; clear hg
      have hkn : (k : Int) < (n : Int) := by omega
      have hsz := hbl.size
      go_wp2_with (fail)
      refine (toPart_any _ _ _).mono ?_
      rintro e w1 ⟨rfl, hb1⟩
      have hown1 := own_keep hown hb1
      have hbl1 := up hbl hb1
      have hlen : (pvs (ps.take k) ++ zs.drop (k * 2)).length = n * 2 := hown.1
      have hd0 := hown1.cellAt (k * 2) (by omega)
      have hd1 := hown1.cellAt (k * 2 + 1) (by omega)
      rw [List.getElem?_eq_getElem (by rw [hlen]; omega)] at hd0 hd1
      generalize hq0 : (pvs (ps.take k) ++ zs.drop (k * 2))[k * 2]'(by rw [hlen]; omega) = q0 at hd0
      generalize hq1 : (pvs (ps.take k) ++ zs.drop (k * 2))[k * 2 + 1]'(by rw [hlen]; omega) = q1 at hd1
      have hf0 := hown1.frozenAt (k * 2)
      have hf1 := hown1.frozenAt (k * 2 + 1)
      have hst := ((hown1.stored (k * 2) (.int .i64 x)).1.stored (k * 2 + 1) (.int .i64 y)).1
      rw [mix_step ps zs n k x y HL.out hzl.out hlt Hg.out] at hst
      have Hst := Lib.hid hst
      clear hq0 hq1 hst hlen hown hown1 hb1
      go_wp2
      go_roundw
      case rel => exact ⟨k + 1, by omega, by go_num, Hst.out, (hbl1.setCell (by show _ ≤ w.heap.size; omega) _).setCell (by show _ ≤ w.heap.size; omega) _⟩
      case measure => simp [intOf]; omega
    · obtain rfl : k = n := by omega
      have Ho := Lib.hid hown; clear hown
      go_wp2
      go_ret
      have ho := Ho.out
      rw [List.take_of_length_le (by rw [HL.out]; omega), List.drop_of_length_le (by rw [hzl.out]; omega), List.append_nil] at ho
      exact ⟨_, _, rfl, Nat.le_refl _, Rd.of_own ho, Soft.of_own ho, hbl⟩
end Go.Proofs.YtknphikoikdcjaaGreat
