/- The exact laws' helpers on snapshots: sizes, copies, comparisons, marks. (Written by gen/exsnap.py.) -/
import Derived.Test.YthodkjflnjocbaaExVoter
import Derived.Test.YthodkjflnjocbaaSnapMath
set_option linter.unusedSimpArgs false
set_option linter.unusedVariables false
namespace Go.Proofs.Ythodkjflnjocbaa
open Go.RowKit

theorem szSnap_no (N T S : Int) (n c : Nat) (A : Option Addr) (left : Int) (w : World) (hn : n ≤ 9223372036854775807) (hl : 0 ≤ left) (hl2 : left ≤ 1048576) (h : left < n) :
    Calls Try.prog 13 #[.agg #[.int .i64 N, .int .i64 T, .int .i64 S, .slice A n c], .int .i64 left] w fun e w' => e = .returned (.int .i64 (-1)) ∧ Below w.heap.size w w' := by
  have hb1 := up_alloc (Below.refl _ w) (.cells #[.int .i64 N, .int .i64 T, .int .i64 S, .slice A n c] 24)
  go_enter Try.func13, Try.ntmps13
  go_wp2_with (fail)
  (with_reducible refine (szEntryS_no n c A left _ hn hl hl2 h).mono ?_)
  rintro e w' ⟨rfl, rfl⟩
  go_wp2
  go_ret
  exact ⟨rfl, hb1⟩
theorem szSnap_yes (N T S : Int) (n c : Nat) (A : Option Addr) (left : Int) (w : World) (hl : 0 ≤ left) (hl2 : left ≤ 1048576) (h : n ≤ left) :
    Calls Try.prog 13 #[.agg #[.int .i64 N, .int .i64 T, .int .i64 S, .slice A n c], .int .i64 left] w fun e w' => e = .returned (.int .i64 (left - n)) ∧ Below w.heap.size w w' := by
  have hb1 := up_alloc (Below.refl _ w) (.cells #[.int .i64 N, .int .i64 T, .int .i64 S, .slice A n c] 24)
  have hpos : decide (left - (n : Int) < 0) = false := decide_eq_false (by omega)
  go_enter Try.func13, Try.ntmps13
  go_wp2_with (fail)
  (with_reducible refine (szEntryS_yes n c A left _ hl hl2 h).mono ?_)
  rintro e w' ⟨rfl, rfl⟩
  go_wp2
  go_ret
  exact ⟨rfl, hb1⟩
/-- A snapshot, copied. -/
def ToSn (N T S : Int) (ls : List En) (n : Nat) (w : World) (e : Ending) (w' : World) : Prop :=
  ∃ A c, e = .returned (.agg #[.int .i64 N, .int .i64 T, .int .i64 S, .slice A n c]) ∧ n ≤ c ∧ Rd w' w.heap.size w'.heap.size 2 A n (pvs ls) ∧ Soft w' 2 A n ∧ Below w.heap.size w w'
set_option maxRecDepth 100000 in
set_option maxHeartbeats 1600000 in
theorem toSnap_any (N T S : Int) (lo hi n c : Nat) (A : Option Addr) (ls : List En) (w : World) (hr : Rd w lo hi 2 A n (pvs ls)) (hB : hi ≤ w.heap.size) (hn : n ≤ 1048576) :
    Calls Try.prog 15 #[.agg #[.int .i64 N, .int .i64 T, .int .i64 S, .slice A n c]] w (ToSn N T S ls n w) := by
  have hb0 := up_alloc (up_alloc (up_alloc (Below.refl _ w) (.cells #[.int .i64 N, .int .i64 T, .int .i64 S, .slice A n c] 24)) (.cells #[.int .i64 0, .int .i64 0, .int .i64 0, .slice none 0 0] 29)) (.cells #[.int .i64 N, .int .i64 T, .int .i64 S, .slice none 0 0] 29)
  have hx0 := ((Blk.new w 24 #[.int .i64 N, .int .i64 T, .int .i64 S, .slice A n c]).alloc (.cells #[.int .i64 0, .int .i64 0, .int .i64 0, .slice none 0 0] 29)).alloc (.cells #[.int .i64 N, .int .i64 T, .int .i64 S, .slice none 0 0] 29)
  have hq0 : Blk (((w.alloc (.cells #[.int .i64 N, .int .i64 T, .int .i64 S, .slice A n c] 24)).alloc (.cells #[.int .i64 0, .int .i64 0, .int .i64 0, .slice none 0 0] 29)).alloc (.cells #[.int .i64 N, .int .i64 T, .int .i64 S, .slice none 0 0] 29)) (w.heap.size + 1) 29 #[.int .i64 0, .int .i64 0, .int .i64 0, .slice none 0 0] := (Blk.new2 (by simp)).alloc _
  have hs0 : Blk (((w.alloc (.cells #[.int .i64 N, .int .i64 T, .int .i64 S, .slice A n c] 24)).alloc (.cells #[.int .i64 0, .int .i64 0, .int .i64 0, .slice none 0 0] 29)).alloc (.cells #[.int .i64 N, .int .i64 T, .int .i64 S, .slice none 0 0] 29)) (w.heap.size + 1 + 1) 29 #[.int .i64 N, .int .i64 T, .int .i64 S, .slice none 0 0] := Blk.new2 (by simp)
  have HR := Lib.hid (hr.keep hb0 hB)
  have HB0 := Lib.hid hb0
  have HX0 := Lib.hid hx0
  have HQ0 := Lib.hid hq0
  have HS0 := Lib.hid hs0
  have hz0 : (((w.alloc (.cells #[.int .i64 N, .int .i64 T, .int .i64 S, .slice A n c] 24)).alloc (.cells #[.int .i64 0, .int .i64 0, .int .i64 0, .slice none 0 0] 29)).alloc (.cells #[.int .i64 N, .int .i64 T, .int .i64 S, .slice none 0 0] 29)).heap.size = w.heap.size + 1 + 1 + 1 := by simp
  clear hr hb0 hx0 hq0 hs0
  go_enter Try.func15, Try.ntmps15
  go_wp2_with (fail)
  generalize (((w.alloc (.cells #[.int .i64 N, .int .i64 T, .int .i64 S, .slice A n c] 24)).alloc (.cells #[.int .i64 0, .int .i64 0, .int .i64 0, .slice none 0 0] 29)).alloc (.cells #[.int .i64 N, .int .i64 T, .int .i64 S, .slice none 0 0] 29)) = w0 at *
  (with_reducible refine (toEntryS_any lo hi n c A ls w0 HR.out (by omega) hn).mono ?_)
  rintro e w1 ⟨A1, c1, rfl, hk1, hr1, hf1, hb1⟩
  have hz1 := hb1.size
  have HQ1 := Lib.hid (HQ0.out.below hb1 (by omega))
  have HS1 := Lib.hid (HS0.out.below hb1 (by omega))
  have HBB := Lib.hid (up HB0.out hb1)
  have HR1 := Lib.hid hr1
  have HF1 := Lib.hid hf1
  have s0 := HS1.out.cell 0
  have s1 := HS1.out.cell 1
  have s2 := HS1.out.cell 2
  have s3 := HS1.out.cell 3
  have f3 := HS1.out.soft 3
  have q0 := HQ1.out.cell 0
  have q1 := HQ1.out.cell 1
  have q2 := HQ1.out.cell 2
  have q3 := HQ1.out.cell 3
  have g0 := HQ1.out.soft 0
  have g1 := HQ1.out.soft 1
  have g2 := HQ1.out.soft 2
  have g3 := HQ1.out.soft 3
  have hlt : w.heap.size + 1 + 1 < w0.heap.size := by omega
  have hzz := ((((HQ1.out.far (p := ⟨w.heap.size + 1 + 1, 3, none⟩) (by show w.heap.size + 1 ≠ w.heap.size + 1 + 1; omega) (.slice A1 n c1)).put 0 (.int .i64 N)).put 1 (.int .i64 T)).put 2 (.int .i64 S)).put 3 (.slice A1 n c1)
  have z0 := hzz.cell 0
  have z1 := hzz.cell 1
  have z2 := hzz.cell 2
  have z3 := hzz.cell 3
  simp at z0 z1 z2 z3
  have HRD := Lib.hid (((((HR1.out.setCell (p := ⟨w.heap.size + 1 + 1, 3, none⟩) (.inl (by show w.heap.size + 1 + 1 < _; omega)) (.slice A1 n c1)).setCell (p := ⟨w.heap.size + 1, 0, none⟩) (.inl (by show w.heap.size + 1 < _; omega)) (.int .i64 N)).setCell (p := ⟨w.heap.size + 1, 1, none⟩) (.inl (by show w.heap.size + 1 < _; omega)) (.int .i64 T)).setCell (p := ⟨w.heap.size + 1, 2, none⟩) (.inl (by show w.heap.size + 1 < _; omega)) (.int .i64 S)).setCell (p := ⟨w.heap.size + 1, 3, none⟩) (.inl (by show w.heap.size + 1 < _; omega)) (.slice A1 n c1))
  have HSF := Lib.hid (((((HF1.out.store ⟨w.heap.size + 1 + 1, 3, none⟩ (.slice A1 n c1)).store ⟨w.heap.size + 1, 0, none⟩ (.int .i64 N)).store ⟨w.heap.size + 1, 1, none⟩ (.int .i64 T)).store ⟨w.heap.size + 1, 2, none⟩ (.int .i64 S)).store ⟨w.heap.size + 1, 3, none⟩ (.slice A1 n c1))
  have HBZ := Lib.hid (((((HBB.out.setCell (p := ⟨w.heap.size + 1 + 1, 3, none⟩) (by show w.heap.size ≤ w.heap.size + 1 + 1; omega) (.slice A1 n c1)).setCell (p := ⟨w.heap.size + 1, 0, none⟩) (by show w.heap.size ≤ w.heap.size + 1; omega) (.int .i64 N)).setCell (p := ⟨w.heap.size + 1, 1, none⟩) (by show w.heap.size ≤ w.heap.size + 1; omega) (.int .i64 T)).setCell (p := ⟨w.heap.size + 1, 2, none⟩) (by show w.heap.size ≤ w.heap.size + 1; omega) (.int .i64 S)).setCell (p := ⟨w.heap.size + 1, 3, none⟩) (by show w.heap.size ≤ w.heap.size + 1; omega) (.slice A1 n c1))
  clear hzz hr1 hf1 hb1 HX0 HQ0 HS0 HB0 HR HBB HR1 HF1
  go_wp2
  exact bodyPost_ret (v := .agg #[.int .i64 N, .int .i64 T, .int .i64 S, .slice A1 n c1]) (by simp [results, Try.results15, go_sem, z0, z1, z2, z3]) rfl ⟨A1, c1, rfl, hk1, by have := HRD.out; exact this.wide (by omega) (by simp [World.setCell]), HSF.out, HBZ.out⟩
set_option maxHeartbeats 800000 in
theorem eqSnap_same (x y z : Int) (lo hi n c lo' hi' c' : Nat) (A A' : Option Addr) (ps : List En) (w : World) (hr : Rd w lo hi 2 A n (pvs ps)) (hB : hi ≤ w.heap.size) (hn : n ≤ 1048576) (hr' : Rd w lo' hi' 2 A' n (pvs ps)) (hB' : hi' ≤ w.heap.size) :
    Calls Try.prog 17 #[.agg #[.int .i64 x, .int .i64 y, .int .i64 z, .slice A n c], .agg #[.int .i64 x, .int .i64 y, .int .i64 z, .slice A' n c']] w fun e w' => e = .returned (.bool true) ∧ Below w.heap.size w w' := by
  have hb0 := up_alloc (up_alloc (Below.refl _ w) (.cells #[.int .i64 x, .int .i64 y, .int .i64 z, .slice A n c] 29)) (.cells #[.int .i64 x, .int .i64 y, .int .i64 z, .slice A' n c'] 29)
  have HB0 := Lib.hid hb0
  have HR := Lib.hid (hr.keep hb0 hB)
  have HR' := Lib.hid (hr'.keep hb0 hB')
  have hz0 := hb0.size
  have hxx : (x != x) = false := by simp
  have hyy : (y != y) = false := by simp
  have hzz : (z != z) = false := by simp
  clear hr hr' hb0
  go_enter Try.func17, Try.ntmps17
  go_wp2_with (fail)
  (with_reducible refine (eqEntryS_any _ _ n c _ _ n c' A A' ps ps _ HR.out (by omega) hn HR'.out (by omega) hn).mono ?_)
  rintro e w1 ⟨rfl, hb1⟩
  rw [beq_self_eq_true]
  have HB1 := Lib.hid (up HB0.out hb1)
  clear hb1
  go_wp2
  go_ret
  exact ⟨rfl, HB1.out⟩
set_option maxHeartbeats 800000 in
theorem markSnap_any (N T S : Int) (lo hi n c : Nat) (A : Option Addr) (zs : List Value) (k0 : Int) (w : World) (hr : Rd w lo hi 2 A n zs) (hs : Soft w 2 A n) (hn : n ≤ 1048576) (hB : hi ≤ w.heap.size) (hk0 : 0 ≤ k0) (hk1 : k0 ≤ 100000000) :
    Calls Try.prog 22 #[.agg #[.int .i64 N, .int .i64 T, .int .i64 S, .slice A n c], .int .i64 k0] w fun e w' => e = .returned (.int .i64 (k0 + 2 * n)) ∧ Rd w' lo hi 2 A n (pvs (seqP k0 n)) ∧ ∃ w1, Below w.heap.size w w1 ∧ Within lo hi w1 w' := by
  have hb1 := up_alloc (Below.refl _ w) (.cells #[.int .i64 N, .int .i64 T, .int .i64 S, .slice A n c] 29)
  have HB1 := Lib.hid hb1
  have HR1 := Lib.hid (hr.keep hb1 hB)
  have HS1 := Lib.hid (hs.kept hr hb1 hB)
  clear hr hs hb1
  go_enter Try.func22, Try.ntmps22
  go_wp2_with (fail)
  (with_reducible refine (markEntryS_any lo hi n c A zs k0 _ HR1.out HS1.out hn hk0 (by omega)).mono ?_)
  rintro e w2 ⟨rfl, hr2, _, hin⟩
  have HW := Lib.hid (Within.grown (lo := lo) (hi := hi) hin (in_row HR1.out))
  have HR2 := Lib.hid hr2
  clear hin hr2
  go_wp2
  go_ret
  exact ⟨rfl, HR2.out, _, HB1.out, HW.out⟩
set_option maxHeartbeats 800000 in
theorem heldSnap_any (N T S : Int) (lo hi n c : Nat) (A : Option Addr) (k0 : Int) (w : World) (hr : Rd w lo hi 2 A n (pvs (seqP k0 n))) (hB : hi ≤ w.heap.size) (hn : n ≤ 1048576) (hk0 : 0 ≤ k0) (hk1 : k0 ≤ 100000000) :
    Calls Try.prog 23 #[.agg #[.int .i64 N, .int .i64 T, .int .i64 S, .slice A n c], .int .i64 k0] w fun e w' => e = .returned (.int .i64 (k0 + 2 * n)) ∧ Below w.heap.size w w' := by
  have hb1 := up_alloc (Below.refl _ w) (.cells #[.int .i64 N, .int .i64 T, .int .i64 S, .slice A n c] 29)
  have HB1 := Lib.hid hb1
  have HR1 := Lib.hid (hr.keep hb1 hB)
  have hge : ¬ (k0 + 2 * (n : Int) < 0) := by omega
  have hgd : decide (k0 + 2 * (n : Int) < 0) = false := decide_eq_false hge
  clear hr hb1
  go_enter Try.func23, Try.ntmps23
  go_wp2_with (fail)
  (with_reducible refine (heldEntryS_any lo hi n c A k0 _ HR1.out hn hk0 (by omega)).mono ?_)
  rintro e w2 ⟨rfl, rfl⟩
  go_wp2
  go_ret
  exact ⟨rfl, HB1.out⟩
end Go.Proofs.Ythodkjflnjocbaa
