/- The exact laws' helpers on voters: sizes, copies, comparisons, marks. (Written by gen/exvoter.py.) -/
import Derived.Test.YthodkjflnjocbaaExEntry
import Derived.Test.YthodkjflnjocbaaExInt
import Derived.Test.YthodkjflnjocbaaExWithin
import Derived.Test.YthodkjflnjocbaaLogMath
import Derived.Test.YthodkjflnjocbaaDelRun
set_option linter.unusedSimpArgs false
set_option linter.unusedVariables false
namespace Go.Proofs.Ythodkjflnjocbaa
open Go.RowKit

set_option maxHeartbeats 800000 in
theorem markEntryS_any (lo hi n c : Nat) (A : Option Addr) (zs : List Value) (k0 : Int) (w : World) (hr : Rd w lo hi 2 A n zs) (hs : Soft w 2 A n) (hn : n ≤ 1048576) (hk0 : 0 ≤ k0) (hk1 : k0 ≤ 1000000000000000) :
    Calls Try.prog 39 #[.slice A n c, .int .i64 k0] w (Marked (pvs (seqP k0 n)) lo hi 2 A n (k0 + 2 * n) w) := by
  have HZ := Lib.hid hr.1
  go_enter Try.func39, Try.ntmps39
  go_wp2
  go_loopw [1, 5] (fun kv iv wr => ∃ (i : Nat), i ≤ n ∧ iv = .int .i64 i ∧ kv = .int .i64 (k0 + 2 * (i : Int)) ∧ Rd wr lo hi 2 A n (pvs (seqP k0 i) ++ zs.drop (i * 2)) ∧ Soft wr 2 A n ∧ In A n w wr)
     (fun _ iv _ => n - (intOf iv).toNat)
  case atStart => exact ⟨0, by omega, rfl, by simp, by simpa [seqP, pvs] using hr, hs, in_refl _ _ _⟩
  case round =>
    clear hr hs
    obtain ⟨i, hi_, rfl, rfl, hr, hs, hin⟩ := hrel
    by_cases hlt : i < n
    · have hl := hr.1
      obtain ⟨b, off, rfl, _, _⟩ := hr.form (by omega)
      obtain ⟨b', off', e, _, _, hcc⟩ := hr.2 (by omega)
      injection e with e; injection e with e1 e2
      subst e1; subst e2
      have hc0 := hcc (i * 2) _ (List.getElem?_eq_getElem (by omega))
      have hc1 := hcc (i * 2 + 1) _ (List.getElem?_eq_getElem (by omega))
      rw [← Nat.add_assoc] at hc1
      generalize (pvs (seqP k0 i) ++ zs.drop (i * 2))[i * 2]'(by omega) = z0 at hc0
      generalize (pvs (seqP k0 i) ++ zs.drop (i * 2))[i * 2 + 1]'(by omega) = z1 at hc1
      have hf0 := hs b off rfl (i * 2) (by omega)
      have hf1 := hs b off rfl (i * 2 + 1) (by omega)
      rw [← Nat.add_assoc] at hf1
      have hr2 := (hr.store (i * 2) (by omega) (.int .i64 (k0 + 2 * (i : Int)))).store (i * 2 + 1) (by omega) (.int .i64 (k0 + 2 * (i : Int) + 1))
      rw [mixP_step k0 zs n i HZ.out hlt, ← Nat.add_assoc] at hr2
      have HR := Lib.hid hr2
      have HS := Lib.hid ((hs.store ⟨b, off + i * 2, none⟩ (.int .i64 (k0 + 2 * (i : Int)))).store ⟨b, off + i * 2 + 1, none⟩ (.int .i64 (k0 + 2 * (i : Int) + 1)))
      have HI := Lib.hid (in_store (in_store hin (by omega) (off + i * 2) (.int .i64 (k0 + 2 * (i : Int)))) (by omega) (off + i * 2 + 1) (.int .i64 (k0 + 2 * (i : Int) + 1)))
      clear hr2 hr hs hin hcc hl
      go_wp2
      go_roundw
      case rel => exact ⟨i + 1, by omega, by go_num, by go_num, HR.out, HS.out, HI.out⟩
      case measure => simp [intOf]; omega
    · obtain rfl : i = n := by omega
      rw [List.drop_of_length_le (by rw [HZ.out]; omega), List.append_nil] at hr
      have HR := Lib.hid hr
      clear hr
      go_wp2
      go_ret
      exact ⟨rfl, HR.out, hs, hin⟩
set_option maxHeartbeats 800000 in
theorem heldEntryS_any (lo hi n c : Nat) (A : Option Addr) (k0 : Int) (w : World) (hr : Rd w lo hi 2 A n (pvs (seqP k0 n))) (hn : n ≤ 1048576) (hk0 : 0 ≤ k0) (hk1 : k0 ≤ 1000000000000000) :
    Calls Try.prog 50 #[.slice A n c, .int .i64 k0] w fun e w' => e = .returned (.int .i64 (k0 + 2 * n)) ∧ w = w' := by
  go_enter Try.func50, Try.ntmps50
  go_wp2
  go_loop [1, 5] (fun kv iv => ∃ (i : Nat), i ≤ n ∧ iv = .int .i64 i ∧ kv = .int .i64 (k0 + 2 * (i : Int)))
     (fun _ iv => n - (intOf iv).toNat)
  case atStart => exact ⟨0, by omega, rfl, by simp⟩
  case round =>
    obtain ⟨i, hi_, rfl, rfl⟩ := hrel
    by_cases hlt : i < n
    · obtain ⟨b, off, x, y, rfl, _, _, hg, hc0, hc1⟩ := hr.pair hlt
      rw [seqP_get hlt] at hg
      have hg2 := Option.some.inj hg
      injection hg2 with hx hy
      subst hx; subst hy
      clear hg
      go_wp2
      go_round
      case rel => exact ⟨i + 1, by omega, by go_num, by go_num⟩
      case measure => simp [intOf]; omega
    · obtain rfl : i = n := by omega
      go_wp2
      go_ret
      exact ⟨rfl, rfl⟩
theorem szVoter_no (t v : Int) (n c : Nat) (A : Option Addr) (left : Int) (w : World) (hn : n ≤ 9223372036854775807) (hl : 0 ≤ left) (hl2 : left ≤ 1048576) (h : left < n) :
    Calls Try.prog 63 #[.agg #[.int .i64 t, .int .i64 v, .slice A n c], .int .i64 left] w fun e w' => e = .returned (.int .i64 (-1)) ∧ Below w.heap.size w w' := by
  have hb1 := up_alloc (Below.refl _ w) (.cells #[.int .i64 t, .int .i64 v, .slice A n c] 88)
  go_enter Try.func63, Try.ntmps63
  go_wp2_with (fail)
  (with_reducible refine (szEntryS_no n c A left _ hn hl hl2 h).mono ?_)
  rintro e w' ⟨rfl, rfl⟩
  go_wp2
  go_ret
  exact ⟨rfl, hb1⟩
theorem szVoter_yes (t v : Int) (n c : Nat) (A : Option Addr) (left : Int) (w : World) (hl : 0 ≤ left) (hl2 : left ≤ 1048576) (h : n ≤ left) :
    Calls Try.prog 63 #[.agg #[.int .i64 t, .int .i64 v, .slice A n c], .int .i64 left] w fun e w' => e = .returned (.int .i64 (left - n)) ∧ Below w.heap.size w w' := by
  have hb1 := up_alloc (Below.refl _ w) (.cells #[.int .i64 t, .int .i64 v, .slice A n c] 88)
  have hpos : decide (left - (n : Int) < 0) = false := decide_eq_false (by omega)
  go_enter Try.func63, Try.ntmps63
  go_wp2_with (fail)
  (with_reducible refine (szEntryS_yes n c A left _ hl hl2 h).mono ?_)
  rintro e w' ⟨rfl, rfl⟩
  go_wp2
  go_ret
  exact ⟨rfl, hb1⟩
/-- A voter, copied. -/
def ToVt (t v : Int) (ls : List En) (n : Nat) (w : World) (e : Ending) (w' : World) : Prop :=
  ∃ A c, e = .returned (.agg #[.int .i64 t, .int .i64 v, .slice A n c]) ∧ n ≤ c ∧ Rd w' w.heap.size w'.heap.size 2 A n (pvs ls) ∧ Soft w' 2 A n ∧ Below w.heap.size w w'
set_option maxRecDepth 100000 in
set_option maxHeartbeats 1600000 in
theorem toVoter_any (t v : Int) (lo hi n c : Nat) (A : Option Addr) (ls : List En) (w : World) (hr : Rd w lo hi 2 A n (pvs ls)) (hB : hi ≤ w.heap.size) (hn : n ≤ 1048576) :
    Calls Try.prog 66 #[.agg #[.int .i64 t, .int .i64 v, .slice A n c]] w (ToVt t v ls n w) := by
  have hb0 := up_alloc (up_alloc (up_alloc (Below.refl _ w) (.cells #[.int .i64 t, .int .i64 v, .slice A n c] 88)) (.cells #[.int .i64 0, .int .i64 0, .slice none 0 0] 91)) (.cells #[.int .i64 t, .int .i64 v, .slice none 0 0] 91)
  have hx0 := ((Blk.new w 88 #[.int .i64 t, .int .i64 v, .slice A n c]).alloc (.cells #[.int .i64 0, .int .i64 0, .slice none 0 0] 91)).alloc (.cells #[.int .i64 t, .int .i64 v, .slice none 0 0] 91)
  have hq0 : Blk (((w.alloc (.cells #[.int .i64 t, .int .i64 v, .slice A n c] 88)).alloc (.cells #[.int .i64 0, .int .i64 0, .slice none 0 0] 91)).alloc (.cells #[.int .i64 t, .int .i64 v, .slice none 0 0] 91)) (w.heap.size + 1) 91 #[.int .i64 0, .int .i64 0, .slice none 0 0] := (Blk.new2 (by simp)).alloc _
  have hs0 : Blk (((w.alloc (.cells #[.int .i64 t, .int .i64 v, .slice A n c] 88)).alloc (.cells #[.int .i64 0, .int .i64 0, .slice none 0 0] 91)).alloc (.cells #[.int .i64 t, .int .i64 v, .slice none 0 0] 91)) (w.heap.size + 1 + 1) 91 #[.int .i64 t, .int .i64 v, .slice none 0 0] := Blk.new2 (by simp)
  have HR := Lib.hid (hr.keep hb0 hB)
  have HB0 := Lib.hid hb0
  have HX0 := Lib.hid hx0
  have HQ0 := Lib.hid hq0
  have HS0 := Lib.hid hs0
  have hz0 : (((w.alloc (.cells #[.int .i64 t, .int .i64 v, .slice A n c] 88)).alloc (.cells #[.int .i64 0, .int .i64 0, .slice none 0 0] 91)).alloc (.cells #[.int .i64 t, .int .i64 v, .slice none 0 0] 91)).heap.size = w.heap.size + 1 + 1 + 1 := by simp
  clear hr hb0 hx0 hq0 hs0
  go_enter Try.func66, Try.ntmps66
  go_wp2_with (fail)
  generalize (((w.alloc (.cells #[.int .i64 t, .int .i64 v, .slice A n c] 88)).alloc (.cells #[.int .i64 0, .int .i64 0, .slice none 0 0] 91)).alloc (.cells #[.int .i64 t, .int .i64 v, .slice none 0 0] 91)) = w0 at *
  (with_reducible refine (toEntryS_any lo hi n c A ls w0 HR.out (by omega) hn).mono ?_)
  rintro e w1 ⟨A1, c1, rfl, hk1, hr1, hf1, hb1⟩
  have hz1 := hb1.size
  have HQ1 := Lib.hid (HQ0.out.below hb1 (by omega))
  have HS1 := Lib.hid (HS0.out.below hb1 (by omega))
  have HBB := Lib.hid (up HB0.out hb1)
  have HR1 := Lib.hid hr1
  have HF1 := Lib.hid hf1
  have s0 := HS1.out.cell 0
  have s1 := HS1.out.cell 1
  have s2 := HS1.out.cell 2
  have f2 := HS1.out.soft 2
  have q0 := HQ1.out.cell 0
  have q1 := HQ1.out.cell 1
  have q2 := HQ1.out.cell 2
  have g0 := HQ1.out.soft 0
  have g1 := HQ1.out.soft 1
  have g2 := HQ1.out.soft 2
  have hlt : w.heap.size + 1 + 1 < w0.heap.size := by omega
  have hzz := (((HQ1.out.far (p := ⟨w.heap.size + 1 + 1, 2, none⟩) (by show w.heap.size + 1 ≠ w.heap.size + 1 + 1; omega) (.slice A1 n c1)).put 0 (.int .i64 t)).put 1 (.int .i64 v)).put 2 (.slice A1 n c1)
  have z0 := hzz.cell 0
  have z1 := hzz.cell 1
  have z2 := hzz.cell 2
  simp at z0 z1 z2
  have HRD := Lib.hid ((((HR1.out.setCell (p := ⟨w.heap.size + 1 + 1, 2, none⟩) (.inl (by show w.heap.size + 1 + 1 < _; omega)) (.slice A1 n c1)).setCell (p := ⟨w.heap.size + 1, 0, none⟩) (.inl (by show w.heap.size + 1 < _; omega)) (.int .i64 t)).setCell (p := ⟨w.heap.size + 1, 1, none⟩) (.inl (by show w.heap.size + 1 < _; omega)) (.int .i64 v)).setCell (p := ⟨w.heap.size + 1, 2, none⟩) (.inl (by show w.heap.size + 1 < _; omega)) (.slice A1 n c1))
  have HSF := Lib.hid ((((HF1.out.store ⟨w.heap.size + 1 + 1, 2, none⟩ (.slice A1 n c1)).store ⟨w.heap.size + 1, 0, none⟩ (.int .i64 t)).store ⟨w.heap.size + 1, 1, none⟩ (.int .i64 v)).store ⟨w.heap.size + 1, 2, none⟩ (.slice A1 n c1))
  have HBZ := Lib.hid ((((HBB.out.setCell (p := ⟨w.heap.size + 1 + 1, 2, none⟩) (by show w.heap.size ≤ w.heap.size + 1 + 1; omega) (.slice A1 n c1)).setCell (p := ⟨w.heap.size + 1, 0, none⟩) (by show w.heap.size ≤ w.heap.size + 1; omega) (.int .i64 t)).setCell (p := ⟨w.heap.size + 1, 1, none⟩) (by show w.heap.size ≤ w.heap.size + 1; omega) (.int .i64 v)).setCell (p := ⟨w.heap.size + 1, 2, none⟩) (by show w.heap.size ≤ w.heap.size + 1; omega) (.slice A1 n c1))
  clear hzz hr1 hf1 hb1 HX0 HQ0 HS0 HB0 HR HBB HR1 HF1
  go_wp2
  exact bodyPost_ret (v := .agg #[.int .i64 t, .int .i64 v, .slice A1 n c1]) (by simp [results, Try.results66, go_sem, z0, z1, z2]) rfl ⟨A1, c1, rfl, hk1, by have := HRD.out; exact this.wide (by omega) (by simp [World.setCell]), HSF.out, HBZ.out⟩
set_option maxHeartbeats 800000 in
theorem eqVoter_same (x y : Int) (lo hi n c lo' hi' c' : Nat) (A A' : Option Addr) (ps : List En) (w : World) (hr : Rd w lo hi 2 A n (pvs ps)) (hB : hi ≤ w.heap.size) (hn : n ≤ 1048576) (hr' : Rd w lo' hi' 2 A' n (pvs ps)) (hB' : hi' ≤ w.heap.size) :
    Calls Try.prog 70 #[.agg #[.int .i64 x, .int .i64 y, .slice A n c], .agg #[.int .i64 x, .int .i64 y, .slice A' n c']] w fun e w' => e = .returned (.bool true) ∧ Below w.heap.size w w' := by
  have hb0 := up_alloc (up_alloc (Below.refl _ w) (.cells #[.int .i64 x, .int .i64 y, .slice A n c] 91)) (.cells #[.int .i64 x, .int .i64 y, .slice A' n c'] 91)
  have HB0 := Lib.hid hb0
  have HR := Lib.hid (hr.keep hb0 hB)
  have HR' := Lib.hid (hr'.keep hb0 hB')
  have hz0 := hb0.size
  have hxx : (x != x) = false := by simp
  have hyy : (y != y) = false := by simp
  clear hr hr' hb0
  go_enter Try.func70, Try.ntmps70
  go_wp2_with (fail)
  (with_reducible refine (eqEntryS_any _ _ n c _ _ n c' A A' ps ps _ HR.out (by omega) hn HR'.out (by omega) hn).mono ?_)
  rintro e w1 ⟨rfl, hb1⟩
  rw [beq_self_eq_true]
  have HB1 := Lib.hid (up HB0.out hb1)
  clear hb1
  go_wp2
  go_ret
  exact ⟨rfl, HB1.out⟩
end Go.Proofs.Ythodkjflnjocbaa
