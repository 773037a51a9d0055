/- The exact laws' helpers on slices of impl.Client: sizes, copies, comparisons, marks. (Written by gen/rec4.py.) -/
import Derived.Test.YthmblolinkkbkaaQuadMem
import Derived.Test.YthmblolinkkbkaaExInt
import Derived.BigQuiet
import Derived.Deep.QuietTactic
import Derived.Deep.RegionHeld3
import Derived.StillTailTactics
import Derived.WalkLawsBesides
set_option linter.unusedSimpArgs false
set_option linter.unusedVariables false
namespace Go.Proofs.Ythmblolinkkbkaa
open Go.RowKit

theorem infoClient : (Try.prog.info? 61).map (fun i => (i.zero, i.size, i.bytes)) = some (some (.agg #[.int .i64 0, .int .i64 0, .int .i64 0, .int .i64 0]), 4, 32) := by kernel_rfl

theorem szClientS_no (n c : Nat) (A : Option Addr) (left : Int) (w : World) (hn : n ≤ 9223372036854775807) (hl : 0 ≤ left) (hl2 : left ≤ 1048576) (h : left < n) :
    Calls Try.prog 14 #[.slice A n c, .int .i64 left] w fun e w' => e = .returned (.int .i64 (-1)) ∧ w = w' := by
  go_enter Try.func14, Try.ntmps14
  go_wp2
  go_ret
  exact ⟨rfl, rfl⟩
theorem szClientS_yes (n c : Nat) (A : Option Addr) (left : Int) (w : World) (hl : 0 ≤ left) (hl2 : left ≤ 1048576) (h : n ≤ left) :
    Calls Try.prog 14 #[.slice A n c, .int .i64 left] w fun e w' => e = .returned (.int .i64 (left - n)) ∧ w = w' := by
  go_enter Try.func14, Try.ntmps14
  go_wp2
  go_ret
  exact ⟨rfl, rfl⟩

theorem toClient_any (x y z t : Int) (w : World) :
    Calls Try.prog 51 #[.agg #[.int .i64 x, .int .i64 y, .int .i64 z, .int .i64 t]] w fun e w' => e = .returned (.agg #[.int .i64 x, .int .i64 y, .int .i64 z, .int .i64 t]) ∧ Below w.heap.size w w' := by
  go_enter Try.func51, Try.ntmps51
  go_wp2
  exact bodyPost_ret (v := .agg #[.int .i64 x, .int .i64 y, .int .i64 z, .int .i64 t]) (by simp [results, Try.results51, go_sem]) rfl ⟨rfl, by repeat (first | exact Below.refl _ _ | refine up_alloc ?_ _)⟩

theorem eqClient_any (x y z t x' y' z' t' : Int) (w : World) :
    Calls Try.prog 53 #[.agg #[.int .i64 x, .int .i64 y, .int .i64 z, .int .i64 t], .agg #[.int .i64 x', .int .i64 y', .int .i64 z', .int .i64 t']] w fun e w' => e = .returned (.bool (eqQ x y z t x' y' z' t')) ∧ Below w.heap.size w w' := by
  unfold eqQ
  by_cases h0 : x = x'
  · subst h0
    by_cases h1 : y = y'
    · subst h1
      by_cases h2 : z = z'
      · subst h2
        by_cases h3 : t = t'
        · subst h3
          go_enter Try.func53, Try.ntmps53
          go_wp2
          go_ret
          exact ⟨by simp, up_alloc (up_alloc (Below.refl _ _) _) _⟩
        · have g : (t == t') = false := by simpa using h3
          have g' : (t != t') = true := by simpa using h3
          go_enter Try.func53, Try.ntmps53
          go_wp2
          go_ret
          exact ⟨by simp [h3], up_alloc (up_alloc (Below.refl _ _) _) _⟩
      · have g : (z == z') = false := by simpa using h2
        have g' : (z != z') = true := by simpa using h2
        go_enter Try.func53, Try.ntmps53
        go_wp2
        go_ret
        exact ⟨by simp [h2], up_alloc (up_alloc (Below.refl _ _) _) _⟩
    · have g : (y == y') = false := by simpa using h1
      have g' : (y != y') = true := by simpa using h1
      go_enter Try.func53, Try.ntmps53
      go_wp2
      go_ret
      exact ⟨by simp [h1], up_alloc (up_alloc (Below.refl _ _) _) _⟩
  · have g : (x == x') = false := by simpa using h0
    have g' : (x != x') = true := by simpa using h0
    go_enter Try.func53, Try.ntmps53
    go_wp2
    go_ret
    exact ⟨by simp [h0], up_alloc (up_alloc (Below.refl _ _) _) _⟩

set_option maxHeartbeats 800000 in
theorem eqClientS_any (lo hi n c lo' hi' n' c' : Nat) (A A' : Option Addr) (ps qs : List Qd) (w : World) (hr : Rd w lo hi 4 A n (qvs ps)) (hB : hi ≤ w.heap.size) (hn : n ≤ 1048576)
    (hr' : Rd w lo' hi' 4 A' n' (qvs qs)) (hB' : hi' ≤ w.heap.size) (hn' : n' ≤ 1048576) :
    Calls Try.prog 18 #[.slice A n c, .slice A' n' c'] w fun e w' => e = .returned (.bool (ps == qs)) ∧ Below w.heap.size w w' := by
  have HL := Lib.hid hr.len4
  have HL' := Lib.hid hr'.len4
  by_cases hnn : n = n'
  · subst hnn
    go_enter Try.func18, Try.ntmps18
    go_wp2
    go_loopw [5] (fun iv wr => ∃ (k : Nat), k ≤ n ∧ iv = .int .i64 k ∧ Hid ((ps == qs) = (ps.drop k == qs.drop k)) ∧ Below w.heap.size w wr)
       (fun iv _ => n - (intOf iv).toNat)
    case atStart => exact ⟨0, by omega, rfl, rfl, Below.refl _ _⟩
    case round =>
      obtain ⟨k, hk, rfl, hS, hbl⟩ := hrel
      by_cases hlt : k < n
      · obtain ⟨b, off, x, y, z, t, rfl, hbB, _, hg, hc0, hc1, hc2, hc3⟩ := (hr.keep hbl hB).quad hlt
        obtain ⟨b', off', x', y', z', t', rfl, hbB', _, hg', hc0', hc1', hc2', hc3'⟩ := (hr'.keep hbl hB').quad hlt
        have Hg := Lib.hid hg; clear hg
        have Hg' := Lib.hid hg'; clear hg'
        have hkn : (k : Int) < (n : Int) := by omega
        have hsz := hbl.size
        have hbw : b < wr.heap.size := by omega
        have hbw' : b' < wr.heap.size := by omega
        go_wp2
        go_region_held3 (fun w' => w'.cell? ⟨b, off + k * 4, none⟩ = some (.int .i64 x) ∧ w'.cell? ⟨b, off + k * 4 + 1, none⟩ = some (.int .i64 y) ∧ w'.cell? ⟨b, off + k * 4 + 2, none⟩ = some (.int .i64 z) ∧ w'.cell? ⟨b, off + k * 4 + 3, none⟩ = some (.int .i64 t) ∧ w'.cell? ⟨b', off' + k * 4, none⟩ = some (.int .i64 x') ∧ w'.cell? ⟨b', off' + k * 4 + 1, none⟩ = some (.int .i64 y') ∧ w'.cell? ⟨b', off' + k * 4 + 2, none⟩ = some (.int .i64 z') ∧ w'.cell? ⟨b', off' + k * 4 + 3, none⟩ = some (.int .i64 t'))
          (first | exact ⟨hc0, hc1, hc2, hc3, hc0', hc1', hc2', hc3'⟩ | exact ⟨(hb1.cell (by show b < wr.heap.size; omega)).trans hc0, (hb1.cell (by show b < wr.heap.size; omega)).trans hc1, (hb1.cell (by show b < wr.heap.size; omega)).trans hc2, (hb1.cell (by show b < wr.heap.size; omega)).trans hc3, (hb1.cell (by show b' < wr.heap.size; omega)).trans hc0', (hb1.cell (by show b' < wr.heap.size; omega)).trans hc1', (hb1.cell (by show b' < wr.heap.size; omega)).trans hc2', (hb1.cell (by show b' < wr.heap.size; omega)).trans hc3'⟩)
          ((go_at_call 53; refine (eqClient_any _ _ _ _ _ _ _ _ _).mono ?_; rintro e w1 ⟨rfl, hb1⟩))
        by_cases he : eqQ x y z t x' y' z' t' = true
        · have He := Lib.hid (eqQ_iff.1 he)
          rw [he]; clear he
          go_wp2
          go_roundw
          case rel =>
            refine ⟨k + 1, by omega, by go_num, ?_, up (up_drew hbl) hb1⟩
            obtain ⟨rfl, rfl, rfl, rfl⟩ := He.out
            rw [Hid, hS.out, drop_cons2 Hg.out, drop_cons2 Hg'.out]
            simp
          case measure => simp [intOf]; omega
        · have He := Lib.hid he
          have he' : eqQ x y z t x' y' z' t' = false := by simpa using he
          rw [he']; clear he he'
          go_wp2
          go_ret
          refine ⟨ret_bool ?_, up (up_drew hbl) hb1⟩
          rw [hS.out, drop_cons2 Hg.out, drop_cons2 Hg'.out]
          symm
          rw [beq_eq_false_iff_ne]
          intro h
          injection h with h _
          injection h with h1 h2
          injection h2 with h2 h3
          injection h3 with h3 h4
          exact He.out (eqQ_iff.2 ⟨h1, h2, h3, h4⟩)
      · obtain rfl : k = n := by omega
        go_wp2
        go_ret
        refine ⟨ret_bool ?_, hbl⟩
        rw [hS.out, List.drop_of_length_le (by rw [HL.out]; omega), List.drop_of_length_le (by rw [HL'.out]; omega)]
        rfl
  · have hne : ((n : Int) != (n' : Int)) = true := by rw [bne_iff_ne]; omega
    go_enter Try.func18, Try.ntmps18
    go_wp2
    go_ret
    refine ⟨ret_bool ?_, Below.refl _ _⟩
    symm
    rw [beq_eq_false_iff_ne]
    intro h
    exact hnn (by rw [← HL.out, ← HL'.out, h])

set_option maxRecDepth 100000 in
set_option maxHeartbeats 800000 in
theorem toClientS_any (lo hi n c : Nat) (A : Option Addr) (ps : List Qd) (w : World) (hr : Rd w lo hi 4 A n (qvs ps)) (hB : hi ≤ w.heap.size) (hn : n ≤ 1048576) :
    Calls Try.prog 16 #[.slice A n c] w (Fresh (qvs ps) 4 n w) := by
  have HL := Lib.hid hr.len4
  obtain ⟨i0, hi0, hz0, hz1, hz2⟩ := info_parts infoClient
  obtain ⟨wm, hmk, hown, hgr⟩ := run_make_full (P := Try.prog) w w.heap.size 25 61 i0 _ 4 Try.underlying25 hi0 hz0 hz1 .i64 .i64 n (by rw [hz2]; omega) (by unfold maxLen; omega) (Nat.le_refl _)
  have hbm : Below w.heap.size w wm := (Below.refl _ _).grown hgr (Nat.le_refl _) (by simp)
  generalize hzs : (madeCells (Value.agg #[.int .i64 0, .int .i64 0, .int .i64 0, .int .i64 0]).cells (n * 4)).toList = zs at hown
  have hzl : Hid (zs.length = n * 4) := by rw [Hid, ← hzs]; simp [size_madeCells]
  clear hzs hgr hi0 hz0 hz1 hz2
  go_enter Try.func16, Try.ntmps16
  go_wp2
  clear hmk
  go_loopw [4] (fun iv wr => ∃ (k : Nat), k ≤ n ∧ iv = .int .i64 k ∧ wr.ownsRow w.heap.size 61 4 (.slice (some ⟨w.heap.size, 0, none⟩) n n) n (qvs (ps.take k) ++ zs.drop (k * 4)) ∧ Below w.heap.size w wr)
     (fun iv _ => n - (intOf iv).toNat)
  case atStart => exact ⟨0, by omega, rfl, by simpa [qvs] using hown, hbm⟩
  case round =>
    clear hown hbm
    obtain ⟨k, hk, rfl, hown, hbl⟩ := hrel
    by_cases hlt : k < n
    · obtain ⟨b, off, x, y, z, t, rfl, hbB, _, hg, hc0, hc1, hc2, hc3⟩ := (hr.keep hbl hB).quad hlt
      have Hg := Lib.hid hg; clear hg
      have hkn : (k : Int) < (n : Int) := by omega
      have hsz := hbl.size
      go_wp2_with (fail)
      refine (toClient_any _ _ _ _ _).mono ?_
      rintro e w1 ⟨rfl, hb1⟩
      have hown1 := own_keep hown hb1
      have hbl1 := up hbl hb1
      have hlen : (qvs (ps.take k) ++ zs.drop (k * 4)).length = n * 4 := hown.1
      have hd0 := hown1.cellAt (k * 4) (by omega)
      have hd1 := hown1.cellAt (k * 4 + 1) (by omega)
      have hd2 := hown1.cellAt (k * 4 + 2) (by omega)
      have hd3 := hown1.cellAt (k * 4 + 3) (by omega)
      rw [List.getElem?_eq_getElem (by rw [hlen]; omega)] at hd0 hd1 hd2 hd3
      generalize hq0 : (qvs (ps.take k) ++ zs.drop (k * 4))[k * 4]'(by rw [hlen]; omega) = q0 at hd0
      generalize hq1 : (qvs (ps.take k) ++ zs.drop (k * 4))[k * 4 + 1]'(by rw [hlen]; omega) = q1 at hd1
      generalize hq2 : (qvs (ps.take k) ++ zs.drop (k * 4))[k * 4 + 2]'(by rw [hlen]; omega) = q2 at hd2
      generalize hq3 : (qvs (ps.take k) ++ zs.drop (k * 4))[k * 4 + 3]'(by rw [hlen]; omega) = q3 at hd3
      have hf0 := hown1.frozenAt (k * 4)
      have hf1 := hown1.frozenAt (k * 4 + 1)
      have hf2 := hown1.frozenAt (k * 4 + 2)
      have hf3 := hown1.frozenAt (k * 4 + 3)
      have hst := ((((hown1.stored (k * 4) (.int .i64 x)).1.stored (k * 4 + 1) (.int .i64 y)).1.stored (k * 4 + 2) (.int .i64 z)).1.stored (k * 4 + 3) (.int .i64 t)).1
      rw [mixQ_step ps zs n k x y z t HL.out hzl.out hlt Hg.out] at hst
      have Hst := Lib.hid hst
      clear hq0 hq1 hq2 hq3 hst hlen hown hown1 hb1
      go_wp2
      go_roundw
      case rel => exact ⟨k + 1, by omega, by go_num, Hst.out, (((hbl1.setCell (by show _ ≤ w.heap.size; omega) _).setCell (by show _ ≤ w.heap.size; omega) _).setCell (by show _ ≤ w.heap.size; omega) _).setCell (by show _ ≤ w.heap.size; omega) _⟩
      case measure => simp [intOf]; omega
    · obtain rfl : k = n := by omega
      have Ho := Lib.hid hown; clear hown
      go_wp2
      go_ret
      have ho := Ho.out
      rw [List.take_of_length_le (by rw [HL.out]; omega), List.drop_of_length_le (by rw [hzl.out]; omega), List.append_nil] at ho
      exact ⟨_, _, rfl, Nat.le_refl _, Rd.of_own ho, Soft.of_own ho, hbl⟩
set_option maxHeartbeats 800000 in
theorem markClientS_any (lo hi n c : Nat) (A : Option Addr) (zs : List Value) (k0 : Int) (w : World) (hr : Rd w lo hi 4 A n zs) (hs : Soft w 4 A n) (hn : n ≤ 1048576) (hk0 : 0 ≤ k0) (hk1 : k0 ≤ 1000000000000000) :
    Calls Try.prog 23 #[.slice A n c, .int .i64 k0] w (Marked (qvs (seqQ k0 n)) lo hi 4 A n (k0 + 4 * n) w) := by
  have HZ := Lib.hid hr.1
  go_enter Try.func23, Try.ntmps23
  go_wp2
  go_loopw [1, 5] (fun kv iv wr => ∃ (i : Nat), i ≤ n ∧ iv = .int .i64 i ∧ kv = .int .i64 (k0 + 4 * (i : Int)) ∧ Rd wr lo hi 4 A n (qvs (seqQ k0 i) ++ zs.drop (i * 4)) ∧ Soft wr 4 A n ∧ In A n w wr)
     (fun _ iv _ => n - (intOf iv).toNat)
  case atStart => exact ⟨0, by omega, rfl, by simp, by simpa [seqQ, qvs] using hr, hs, in_refl _ _ _⟩
  case round =>
    clear hr hs
    obtain ⟨i, hi_, rfl, rfl, hr, hs, hin⟩ := hrel
    by_cases hlt : i < n
    · have hl := hr.1
      obtain ⟨b, off, rfl, _, _⟩ := hr.form (by omega)
      obtain ⟨b', off', e, _, _, hcc⟩ := hr.2 (by omega)
      injection e with e; injection e with e1 e2
      subst e1; subst e2
      have hc0 := hcc (i * 4) _ (List.getElem?_eq_getElem (by omega))
      have hc1 := hcc (i * 4 + 1) _ (List.getElem?_eq_getElem (by omega))
      have hc2 := hcc (i * 4 + 2) _ (List.getElem?_eq_getElem (by omega))
      have hc3 := hcc (i * 4 + 3) _ (List.getElem?_eq_getElem (by omega))
      rw [← Nat.add_assoc] at hc1 hc2 hc3
      generalize (qvs (seqQ k0 i) ++ zs.drop (i * 4))[i * 4]'(by omega) = z0 at hc0
      generalize (qvs (seqQ k0 i) ++ zs.drop (i * 4))[i * 4 + 1]'(by omega) = z1 at hc1
      generalize (qvs (seqQ k0 i) ++ zs.drop (i * 4))[i * 4 + 2]'(by omega) = z2 at hc2
      generalize (qvs (seqQ k0 i) ++ zs.drop (i * 4))[i * 4 + 3]'(by omega) = z3 at hc3
      have hf0 := hs b off rfl (i * 4) (by omega)
      have hf1 := hs b off rfl (i * 4 + 1) (by omega)
      have hf2 := hs b off rfl (i * 4 + 2) (by omega)
      have hf3 := hs b off rfl (i * 4 + 3) (by omega)
      rw [← Nat.add_assoc] at hf1 hf2 hf3
      have hr2 := (((hr.store (i * 4) (by omega) (.int .i64 (k0 + 4 * (i : Int)))).store (i * 4 + 1) (by omega) (.int .i64 (k0 + 4 * (i : Int) + 1))).store (i * 4 + 2) (by omega) (.int .i64 (k0 + 4 * (i : Int) + 1 + 1))).store (i * 4 + 3) (by omega) (.int .i64 (k0 + 4 * (i : Int) + 1 + 1 + 1))
      rw [mixQm_step k0 zs n i HZ.out hlt, ← Nat.add_assoc, ← Nat.add_assoc, ← Nat.add_assoc] at hr2
      have HR := Lib.hid hr2
      have HS := Lib.hid ((((hs.store ⟨b, off + i * 4, none⟩ (.int .i64 (k0 + 4 * (i : Int)))).store ⟨b, off + i * 4 + 1, none⟩ (.int .i64 (k0 + 4 * (i : Int) + 1))).store ⟨b, off + i * 4 + 2, none⟩ (.int .i64 (k0 + 4 * (i : Int) + 1 + 1))).store ⟨b, off + i * 4 + 3, none⟩ (.int .i64 (k0 + 4 * (i : Int) + 1 + 1 + 1)))
      have HI := Lib.hid (in_store (in_store (in_store (in_store hin (by omega) (off + i * 4) (.int .i64 (k0 + 4 * (i : Int)))) (by omega) (off + i * 4 + 1) (.int .i64 (k0 + 4 * (i : Int) + 1))) (by omega) (off + i * 4 + 2) (.int .i64 (k0 + 4 * (i : Int) + 1 + 1))) (by omega) (off + i * 4 + 3) (.int .i64 (k0 + 4 * (i : Int) + 1 + 1 + 1)))
      clear hr2 hr hs hin hcc hl
      go_wp2
      go_roundw
      case rel => exact ⟨i + 1, by omega, by go_num, by go_num, HR.out, HS.out, HI.out⟩
      case measure => simp [intOf]; omega
    · obtain rfl : i = n := by omega
      rw [List.drop_of_length_le (by rw [HZ.out]; omega), List.append_nil] at hr
      have HR := Lib.hid hr
      clear hr
      go_wp2
      go_ret
      exact ⟨rfl, HR.out, hs, hin⟩
set_option maxHeartbeats 800000 in
theorem heldClientS_any (lo hi n c : Nat) (A : Option Addr) (k0 : Int) (w : World) (hr : Rd w lo hi 4 A n (qvs (seqQ k0 n))) (hn : n ≤ 1048576) (hk0 : 0 ≤ k0) (hk1 : k0 ≤ 1000000000000000) :
    Calls Try.prog 24 #[.slice A n c, .int .i64 k0] w fun e w' => e = .returned (.int .i64 (k0 + 4 * n)) ∧ w = w' := by
  go_enter Try.func24, Try.ntmps24
  go_wp2
  go_loop [1, 5] (fun kv iv => ∃ (i : Nat), i ≤ n ∧ iv = .int .i64 i ∧ kv = .int .i64 (k0 + 4 * (i : Int)))
     (fun _ iv => n - (intOf iv).toNat)
  case atStart => exact ⟨0, by omega, rfl, by simp⟩
  case round =>
    obtain ⟨i, hi_, rfl, rfl⟩ := hrel
    by_cases hlt : i < n
    · obtain ⟨b, off, x, y, z, t, rfl, _, _, hg, hc0, hc1, hc2, hc3⟩ := hr.quad hlt
      rw [seqQ_get hlt] at hg
      have hg2 := Option.some.inj hg
      injection hg2 with hx hy
      injection hy with hy hz
      injection hz with hz ht
      subst hx; subst hy; subst hz; subst ht
      clear hg
      go_wp2
      go_round
      case rel => exact ⟨i + 1, by omega, by go_num, by go_num⟩
      case measure => simp [intOf]; omega
    · obtain rfl : i = n := by omega
      go_wp2
      go_ret
      exact ⟨rfl, rfl⟩
end Go.Proofs.Ythmblolinkkbkaa
