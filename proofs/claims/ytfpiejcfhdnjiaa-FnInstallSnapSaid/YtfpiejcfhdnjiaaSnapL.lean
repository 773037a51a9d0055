/- The program's InstallSnap. (Written by gen/snapl.py.) -/
import Derived.Test.YtfpiejcfhdnjiaaSnapJ
set_option linter.unusedSimpArgs false
set_option linter.unusedVariables false
namespace Go.Proofs.Ytfpiejcfhdnjiaa
open Go.RowKit

theorem instOf_no {N T S : Int} {R : List En} {N' T' S' : Int} {R' : List En} (h : vSnap N T S R = false ∨ vSnap N' T' S' R' = false) : instOf N T S R N' T' S' R' = (0, 0, 0, []) := by
  unfold instOf
  rcases h with h | h <;> simp [h]
theorem instOf_old {N T S : Int} {R : List En} {N' T' S' : Int} {R' : List En} (h : vSnap N T S R = true) (h' : vSnap N' T' S' R' = true) (hle : N' ≤ N) : instOf N T S R N' T' S' R' = (N, T, S, R) := by
  simp [instOf, h, h', hle]
theorem instOf_new {N T S : Int} {R : List En} {N' T' S' : Int} {R' : List En} (h : vSnap N T S R = true) (h' : vSnap N' T' S' R' = true) (hlt : N < N') : instOf N T S R N' T' S' R' = (N', T', S', restB N R N' T') := by
  have : ¬ N' ≤ N := by omega
  simp [instOf, h, h', this]
set_option maxRecDepth 100000 in
set_option maxHeartbeats 3200000 in
theorem InstallSnapI_any (N T S : Int) (lo hi n c : Nat) (A : Option Addr) (ls : List En) (N2 T2 S2 : Int) (lo2 hi2 n2 c2 : Nat) (A2 : Option Addr) (ls2 : List En) (w : World) (hr : Rd w lo hi 2 A n (pvs ls)) (hB : hi ≤ w.heap.size) (hn : n ≤ 1048576) (hcap : n ≤ c) (hr2 : Rd w lo2 hi2 2 A2 n2 (pvs ls2)) (hB2 : hi2 ≤ w.heap.size) (hn2 : n2 ≤ 1048576) (hcap2 : n2 ≤ c2) :
    Calls Try.prog 15 #[.agg #[.int .i64 N, .int .i64 T, .int .i64 S, .slice A n c], .agg #[.int .i64 N2, .int .i64 T2, .int .i64 S2, .slice A2 n2 c2]] w (SnPost1 (instOf N T S ls N2 T2 S2 ls2) w) := by
  have HL := Lib.hid hr.len2
  have hb0 := up_alloc (up_alloc (up_alloc (Below.refl _ w) (.cells #[.int .i64 N, .int .i64 T, .int .i64 S, .slice A n c] 32)) (.cells #[.int .i64 N2, .int .i64 T2, .int .i64 S2, .slice A2 n2 c2] 32)) (.cells #[.int .i64 0, .int .i64 0, .int .i64 0, .slice none 0 0] 32)
  have hp0 := ((Blk.new w 32 #[.int .i64 N, .int .i64 T, .int .i64 S, .slice A n c]).alloc (.cells #[.int .i64 N2, .int .i64 T2, .int .i64 S2, .slice A2 n2 c2] 32)).alloc (.cells #[.int .i64 0, .int .i64 0, .int .i64 0, .slice none 0 0] 32)
  have ht0 : Blk (((w.alloc (.cells #[.int .i64 N, .int .i64 T, .int .i64 S, .slice A n c] 32)).alloc (.cells #[.int .i64 N2, .int .i64 T2, .int .i64 S2, .slice A2 n2 c2] 32)).alloc (.cells #[.int .i64 0, .int .i64 0, .int .i64 0, .slice none 0 0] 32)) (w.heap.size + 1) 32 #[.int .i64 N2, .int .i64 T2, .int .i64 S2, .slice A2 n2 c2] := (Blk.new2 (by simp)).alloc _
  have hq0 : Blk (((w.alloc (.cells #[.int .i64 N, .int .i64 T, .int .i64 S, .slice A n c] 32)).alloc (.cells #[.int .i64 N2, .int .i64 T2, .int .i64 S2, .slice A2 n2 c2] 32)).alloc (.cells #[.int .i64 0, .int .i64 0, .int .i64 0, .slice none 0 0] 32)) (w.heap.size + 1 + 1) 32 #[.int .i64 0, .int .i64 0, .int .i64 0, .slice none 0 0] := Blk.new2 (by simp)
  have HR0 := Lib.hid (hr.keep hb0 hB)
  have HU0 := Lib.hid (hr2.keep hb0 hB2)
  have HB0 := Lib.hid hb0
  have HP0 := Lib.hid hp0
  have HT0 := Lib.hid ht0
  have HQ0 := Lib.hid hq0
  have hz0 : (((w.alloc (.cells #[.int .i64 N, .int .i64 T, .int .i64 S, .slice A n c] 32)).alloc (.cells #[.int .i64 N2, .int .i64 T2, .int .i64 S2, .slice A2 n2 c2] 32)).alloc (.cells #[.int .i64 0, .int .i64 0, .int .i64 0, .slice none 0 0] 32)).heap.size = w.heap.size + 1 + 1 + 1 := by simp
  clear hr hr2 hb0 hp0 hq0 ht0
  go_enter Try.func15, Try.ntmps15
  go_wp2_with (fail)
  generalize (((w.alloc (.cells #[.int .i64 N, .int .i64 T, .int .i64 S, .slice A n c] 32)).alloc (.cells #[.int .i64 N2, .int .i64 T2, .int .i64 S2, .slice A2 n2 c2] 32)).alloc (.cells #[.int .i64 0, .int .i64 0, .int .i64 0, .slice none 0 0] 32)) = w0 at *
  (with_reducible refine (ValidSnapI_any N T S lo hi n c A ls _ HR0.out (by omega) hn hcap).mono ?_)
  rintro e w1 ⟨rfl, hb1⟩
  have HP1 := Lib.hid (HP0.out.below hb1 (by omega))
  have HT1 := Lib.hid (HT0.out.below hb1 (by omega))
  have HQ1 := Lib.hid (HQ0.out.below hb1 (by omega))
  have HR1 := Lib.hid (HR0.out.keep hb1 (by omega))
  have HU1 := Lib.hid (HU0.out.keep hb1 (by omega))
  have HB1 := Lib.hid (up HB0.out hb1)
  have hz1 := hb1.size
  clear hb1 HP0 HQ0 HR0 HB0 HT0 HU0
  cases h1 : vSnap N T S ls with
  | false =>
    have HX := Lib.hid (instOf_no (N := N) (T := T) (S := S) (R := ls) (N' := N2) (T' := T2) (S' := S2) (R' := ls2) (.inl h1))
    clear h1
    have hzz := (((HQ1.out.put 0 (.int .i64 0)).put 1 (.int .i64 0)).put 2 (.int .i64 0)).put 3 (.slice none 0 0)
    have z0 := hzz.cell 0
    have z1 := hzz.cell 1
    have z2 := hzz.cell 2
    have z3 := hzz.cell 3
    simp at z0 z1 z2 z3
    have q0 := HQ1.out.cell 0
    have q1 := HQ1.out.cell 1
    have q2 := HQ1.out.cell 2
    have q3 := HQ1.out.cell 3
    have f0 := HQ1.out.soft 0
    have f1 := HQ1.out.soft 1
    have f2 := HQ1.out.soft 2
    have f3 := HQ1.out.soft 3
    have HBZ := Lib.hid ((((HB1.out.setCell (p := ⟨w.heap.size + 1 + 1, 0, none⟩) (by show w.heap.size ≤ w.heap.size + 1 + 1; omega) (.int .i64 0)).setCell (p := ⟨w.heap.size + 1 + 1, 1, none⟩) (by show w.heap.size ≤ w.heap.size + 1 + 1; omega) (.int .i64 0)).setCell (p := ⟨w.heap.size + 1 + 1, 2, none⟩) (by show w.heap.size ≤ w.heap.size + 1 + 1; omega) (.int .i64 0)).setCell (p := ⟨w.heap.size + 1 + 1, 3, none⟩) (by show w.heap.size ≤ w.heap.size + 1 + 1; omega) (.slice none 0 0))
    clear hzz
    go_wp2
    exact bodyPost_ret (v := .agg #[.int .i64 0, .int .i64 0, .int .i64 0, .slice none 0 0]) (by simp [results, Try.results15, go_sem, z0, z1, z2, z3]) rfl (SnPost1.no HX.out HBZ.out)
  | true =>
  have hv := vSnap_iff.1 h1
  have hn16 : n ≤ 16 := by rw [← HL.out]; exact vSnap_len h1
  have HV := Lib.hid h1
  clear h1
  have s0 := HT1.out.cell 0
  have s1 := HT1.out.cell 1
  have s2 := HT1.out.cell 2
  have s3 := HT1.out.cell 3
  go_wp2_with (fail)
  clear s0 s1 s2 s3
  (with_reducible refine (ValidSnapI_any N2 T2 S2 lo2 hi2 n2 c2 A2 ls2 _ HU1.out (by omega) hn2 hcap2).mono ?_)
  rintro e w2 ⟨rfl, hb2⟩
  have HP2 := Lib.hid (HP1.out.below hb2 (by omega))
  have HT2 := Lib.hid (HT1.out.below hb2 (by omega))
  have HQ2 := Lib.hid (HQ1.out.below hb2 (by omega))
  have HR2 := Lib.hid (HR1.out.keep hb2 (by omega))
  have HB2 := Lib.hid (up HB1.out hb2)
  have hz2 := hb2.size
  clear hb2 HP1 HQ1 HR1 HB1 HT1 HU1
  cases h2 : vSnap N2 T2 S2 ls2 with
  | false =>
    have HX := Lib.hid (instOf_no (N := N) (T := T) (S := S) (R := ls) (N' := N2) (T' := T2) (S' := S2) (R' := ls2) (.inr h2))
    clear h2 hv
    have hzz := (((HQ2.out.put 0 (.int .i64 0)).put 1 (.int .i64 0)).put 2 (.int .i64 0)).put 3 (.slice none 0 0)
    have z0 := hzz.cell 0
    have z1 := hzz.cell 1
    have z2 := hzz.cell 2
    have z3 := hzz.cell 3
    simp at z0 z1 z2 z3
    have q0 := HQ2.out.cell 0
    have q1 := HQ2.out.cell 1
    have q2 := HQ2.out.cell 2
    have q3 := HQ2.out.cell 3
    have f0 := HQ2.out.soft 0
    have f1 := HQ2.out.soft 1
    have f2 := HQ2.out.soft 2
    have f3 := HQ2.out.soft 3
    have HBZ := Lib.hid ((((HB2.out.setCell (p := ⟨w.heap.size + 1 + 1, 0, none⟩) (by show w.heap.size ≤ w.heap.size + 1 + 1; omega) (.int .i64 0)).setCell (p := ⟨w.heap.size + 1 + 1, 1, none⟩) (by show w.heap.size ≤ w.heap.size + 1 + 1; omega) (.int .i64 0)).setCell (p := ⟨w.heap.size + 1 + 1, 2, none⟩) (by show w.heap.size ≤ w.heap.size + 1 + 1; omega) (.int .i64 0)).setCell (p := ⟨w.heap.size + 1 + 1, 3, none⟩) (by show w.heap.size ≤ w.heap.size + 1 + 1; omega) (.slice none 0 0))
    clear hzz
    go_wp2
    exact bodyPost_ret (v := .agg #[.int .i64 0, .int .i64 0, .int .i64 0, .slice none 0 0]) (by simp [results, Try.results15, go_sem, z0, z1, z2, z3]) rfl (SnPost1.no HX.out HBZ.out)
  | true =>
  have hv2 := vSnap_iff.1 h2
  have HV2 := Lib.hid h2
  clear h2
  have p0 := HP2.out.cell 0
  have p1 := HP2.out.cell 1
  have p2 := HP2.out.cell 2
  have p3 := HP2.out.cell 3
  -- next := own
  have HE3 := Lib.hid (Blk.new w2 32 #[.int .i64 N, .int .i64 T, .int .i64 S, .slice A n c])
  have hb3 := up_alloc (Below.refl _ w2) (.cells #[.int .i64 N, .int .i64 T, .int .i64 S, .slice A n c] 32)
  have HP3 := Lib.hid (HP2.out.below hb3 (by omega))
  have HT3 := Lib.hid (HT2.out.below hb3 (by omega))
  have HQ3 := Lib.hid (HQ2.out.below hb3 (by omega))
  have HR3 := Lib.hid (HR2.out.keep hb3 (by omega))
  have HB3 := Lib.hid (up HB2.out hb3)
  have hz3 : (w2.alloc (.cells #[.int .i64 N, .int .i64 T, .int .i64 S, .slice A n c] 32)).heap.size = w2.heap.size + 1 := by simp
  clear hb3 HP2 HQ2 HR2 HB2 HT2
  have r3 := HP3.out.cell 3
  go_wp2_with (fail)
  clear p0 p1 p2 p3 r3
  generalize w2.alloc (.cells #[.int .i64 N, .int .i64 T, .int .i64 S, .slice A n c] 32) = w3 at *
  obtain ⟨g, hgg⟩ : ∃ g, g = w2.heap.size := ⟨_, rfl⟩
  have hg1 : w2.heap.size ≤ g := by omega
  have hg2 : g + 1 = w3.heap.size := by omega
  rw [← hgg] at HE3 ⊢
  clear hgg
  (with_reducible refine (cloneEntry_any lo hi n c A ls _ HR3.out (by omega) hn).mono ?_)
  rintro e w4 ⟨A9, c9, rfl, ho4, hb4⟩
  have hz4 := hb4.size
  have HE4 := Lib.hid (HE3.out.below hb4 (by omega))
  have HP4 := Lib.hid (HP3.out.below hb4 (by omega))
  have HT4 := Lib.hid (HT3.out.below hb4 (by omega))
  have HQ4 := Lib.hid (HQ3.out.below hb4 (by omega))
  have HR4 := Lib.hid (HR3.out.keep hb4 (by omega))
  have HB4 := Lib.hid (up HB3.out hb4)
  have hne4 : ∀ k', (Value.slice A9 n c9).ownBlock = some k' → k' ≠ g ∧ k' ≠ w.heap.size + 1 + 1 := fun k' hk' => by have := ho4.lt k' hk'; omega
  have y3 := HE4.out.cell 3
  have g3 := HE4.out.soft 3
  clear HE3 HP3 HT3 HQ3 HR3 HB3 hb4
  have HE5 := Lib.hid (show Blk (w4.setCell ⟨g, 3, none⟩ (.slice A9 n c9)) g 32 #[.int .i64 N, .int .i64 T, .int .i64 S, .slice A9 n c9] from by simpa using HE4.out.put 3 (.slice A9 n c9))
  have HP5 := Lib.hid (HP4.out.far (p := ⟨g, 3, none⟩) (by show w.heap.size ≠ g; omega) (.slice A9 n c9))
  have HT5 := Lib.hid (HT4.out.far (p := ⟨g, 3, none⟩) (by show w.heap.size + 1 ≠ g; omega) (.slice A9 n c9))
  have HQ5 := Lib.hid (HQ4.out.far (p := ⟨g, 3, none⟩) (by show w.heap.size + 1 + 1 ≠ g; omega) (.slice A9 n c9))
  have hbs := (Below.refl (w2.heap.size) w4).setCell (p := ⟨g, 3, none⟩) hg1 (.slice A9 n c9)
  have HR5 := Lib.hid (HR4.out.keep hbs (by omega))
  have HO5 := Lib.hid (own_set (p := ⟨g, 3, none⟩) ho4 (.slice A9 n c9) (fun k' hk' => (hne4 k' hk').1))
  have HB5 := Lib.hid (HB4.out.setCell (p := ⟨g, 3, none⟩) (by show w.heap.size ≤ g; omega) (.slice A9 n c9))
  have hz5 := hbs.size
  clear hbs HE4 HP4 HT4 HQ4 HR4 HB4 ho4
  have a0 := HP5.out.cell 0
  have b0 := HT5.out.cell 0
  by_cases hlt : N < N2
  case neg =>
    have d1 : decide (N < N2) = false := decide_eq_false hlt
    have HX := Lib.hid (instOf_old HV.out HV2.out (show N2 ≤ N by omega))
    clear hv hv2
    have hne5 : ∀ k', (Value.slice A9 n c9).ownBlock = some k' → k' ≠ w.heap.size + 1 + 1 := fun k' hk' => (hne4 k' hk').2
    have hzz := (((HQ5.out.put 0 (.int .i64 N)).put 1 (.int .i64 T)).put 2 (.int .i64 S)).put 3 (.slice A9 n c9)
    have z0 := hzz.cell 0
    have z1 := hzz.cell 1
    have z2 := hzz.cell 2
    have z3 := hzz.cell 3
    simp at z0 z1 z2 z3
    have q0 := HQ5.out.cell 0
    have q1 := HQ5.out.cell 1
    have q2 := HQ5.out.cell 2
    have q3 := HQ5.out.cell 3
    have f0 := HQ5.out.soft 0
    have f1 := HQ5.out.soft 1
    have f2 := HQ5.out.soft 2
    have f3 := HQ5.out.soft 3
    have x0 := HE5.out.cell 0
    have x1 := HE5.out.cell 1
    have x2 := HE5.out.cell 2
    have x3 := HE5.out.cell 3
    have HBZ := Lib.hid ((((HB5.out.setCell (p := ⟨w.heap.size + 1 + 1, 0, none⟩) (by show w.heap.size ≤ w.heap.size + 1 + 1; omega) (.int .i64 N)).setCell (p := ⟨w.heap.size + 1 + 1, 1, none⟩) (by show w.heap.size ≤ w.heap.size + 1 + 1; omega) (.int .i64 T)).setCell (p := ⟨w.heap.size + 1 + 1, 2, none⟩) (by show w.heap.size ≤ w.heap.size + 1 + 1; omega) (.int .i64 S)).setCell (p := ⟨w.heap.size + 1 + 1, 3, none⟩) (by show w.heap.size ≤ w.heap.size + 1 + 1; omega) (.slice A9 n c9))
    have HOZ := Lib.hid (own_set (p := ⟨w.heap.size + 1 + 1, 3, none⟩) (own_set (p := ⟨w.heap.size + 1 + 1, 2, none⟩) (own_set (p := ⟨w.heap.size + 1 + 1, 1, none⟩) (own_set (p := ⟨w.heap.size + 1 + 1, 0, none⟩) HO5.out (.int .i64 N) hne5) (.int .i64 T) hne5) (.int .i64 S) hne5) (.slice A9 n c9) hne5)
    clear hzz
    go_wp2
    exact bodyPost_ret (v := .agg #[.int .i64 N, .int .i64 T, .int .i64 S, .slice A9 n c9]) (by simp [results, Try.results15, go_sem, z0, z1, z2, z3]) rfl (SnPost1.own HX.out HL.out HOZ.out (by omega) HBZ.out)
  have d1 : decide (N < N2) = true := decide_eq_true hlt
  have HX := Lib.hid (instOf_new HV.out HV2.out hlt)
  have hRB := restB_len N ls N2 T2
  have b1 := HT5.out.cell 1
  have b2 := HT5.out.cell 2
  have b3 := HT5.out.cell 3
  have t0 := HE5.out.cell 0
  have t1 := HE5.out.cell 1
  have t2 := HE5.out.cell 2
  have t3 := HE5.out.cell 3
  have u0 := HE5.out.soft 0
  have u1 := HE5.out.soft 1
  have u2 := HE5.out.soft 2
  have u3 := HE5.out.soft 3
  have HE6 := Lib.hid (show Blk (((((w4.setCell ⟨g, 3, none⟩ (.slice A9 n c9)).setCell ⟨g, 0, none⟩ (.int .i64 N2)).setCell ⟨g, 1, none⟩ (.int .i64 T2)).setCell ⟨g, 2, none⟩ (.int .i64 S2)).setCell ⟨g, 3, none⟩ (.slice A2 n2 c2)) g 32 #[.int .i64 N2, .int .i64 T2, .int .i64 S2, .slice A2 n2 c2] from by simpa using (((HE5.out.put 0 (.int .i64 N2)).put 1 (.int .i64 T2)).put 2 (.int .i64 S2)).put 3 (.slice A2 n2 c2))
  have hbs := ((((Below.refl (w2.heap.size) (w4.setCell ⟨g, 3, none⟩ (.slice A9 n c9))).setCell (p := ⟨g, 0, none⟩) hg1 (.int .i64 N2)).setCell (p := ⟨g, 1, none⟩) hg1 (.int .i64 T2)).setCell (p := ⟨g, 2, none⟩) hg1 (.int .i64 S2)).setCell (p := ⟨g, 3, none⟩) hg1 (.slice A2 n2 c2)
  have HP6 := Lib.hid (HP5.out.below hbs (by omega))
  have HT6 := Lib.hid (HT5.out.below hbs (by omega))
  have HQ6 := Lib.hid (HQ5.out.below hbs (by omega))
  have HR6 := Lib.hid (HR5.out.keep hbs (by omega))
  have HB6 := Lib.hid (show Below w.heap.size w (((((w4.setCell ⟨g, 3, none⟩ (.slice A9 n c9)).setCell ⟨g, 0, none⟩ (.int .i64 N2)).setCell ⟨g, 1, none⟩ (.int .i64 T2)).setCell ⟨g, 2, none⟩ (.int .i64 S2)).setCell ⟨g, 3, none⟩ (.slice A2 n2 c2)) from (((HB5.out.setCell (p := ⟨g, 0, none⟩) (by show w.heap.size ≤ g; omega) (.int .i64 N2)).setCell (p := ⟨g, 1, none⟩) (by show w.heap.size ≤ g; omega) (.int .i64 T2)).setCell (p := ⟨g, 2, none⟩) (by show w.heap.size ≤ g; omega) (.int .i64 S2)).setCell (p := ⟨g, 3, none⟩) (by show w.heap.size ≤ g; omega) (.slice A2 n2 c2))
  have hz6 := hbs.size
  clear hbs
  have c0 := HP6.out.cell 0
  have c1 := HP6.out.cell 1
  have c2' := HP6.out.cell 2
  have c3 := HP6.out.cell 3
  have d0 := HT6.out.cell 0
  have d1' := HT6.out.cell 1
  go_wp2_with (fail)
  clear y3 g3 a0 b0 b1 b2 b3 t0 t1 t2 t3 u0 u1 u2 u3 c0 c1 c2' c3 d0 d1' HP5 HT5 HQ5 HR5 HB5 HE5
  generalize (((((w4.setCell ⟨g, 3, none⟩ (.slice A9 n c9)).setCell ⟨g, 0, none⟩ (.int .i64 N2)).setCell ⟨g, 1, none⟩ (.int .i64 T2)).setCell ⟨g, 2, none⟩ (.int .i64 S2)).setCell ⟨g, 3, none⟩ (.slice A2 n2 c2)) = w6 at *
  (with_reducible refine (restBehind_any N T S lo hi n c A ls N2 T2 _ HR6.out (by omega) hn16 hcap hv.1 hv2.1.2 hlt).mono ?_)
  rintro e w7 ⟨A7, n7, c7, rfl, hm7, ho7, hb7⟩
  have HE7 := Lib.hid (HE6.out.below hb7 HE6.out.lt)
  have HQ7 := Lib.hid (HQ6.out.below hb7 HQ6.out.lt)
  have HB7 := Lib.hid (up HB6.out hb7)
  have hgl := HE6.out.lt
  have hql := HQ6.out.lt
  have hne7 : ∀ k', (Value.slice A7 n7 c7).ownBlock = some k' → k' ≠ g ∧ k' ≠ w.heap.size + 1 + 1 := fun k' hk' => by have := ho7.lt k' hk'; omega
  have y3 := HE7.out.cell 3
  have g3 := HE7.out.soft 3
  clear HE6 HQ6 HP6 HT6 HR6 HB6 hb7
  have HE8 := Lib.hid (show Blk (w7.setCell ⟨g, 3, none⟩ (.slice A7 n7 c7)) g 32 #[.int .i64 N2, .int .i64 T2, .int .i64 S2, .slice A7 n7 c7] from by simpa using HE7.out.put 3 (.slice A7 n7 c7))
  have HQ8 := Lib.hid (HQ7.out.far (p := ⟨g, 3, none⟩) (by show w.heap.size + 1 + 1 ≠ g; omega) (.slice A7 n7 c7))
  have HO8 := Lib.hid (own_set (p := ⟨g, 3, none⟩) ho7 (.slice A7 n7 c7) (fun k' hk' => (hne7 k' hk').1))
  have HB8 := Lib.hid (HB7.out.setCell (p := ⟨g, 3, none⟩) (by show w.heap.size ≤ g; omega) (.slice A7 n7 c7))
  clear ho7 HE7 HQ7 HB7
  have hne8 : ∀ k', (Value.slice A7 n7 c7).ownBlock = some k' → k' ≠ w.heap.size + 1 + 1 := fun k' hk' => (hne7 k' hk').2
  have hzz := (((HQ8.out.put 0 (.int .i64 N2)).put 1 (.int .i64 T2)).put 2 (.int .i64 S2)).put 3 (.slice A7 n7 c7)
  have z0 := hzz.cell 0
  have z1 := hzz.cell 1
  have z2 := hzz.cell 2
  have z3 := hzz.cell 3
  simp at z0 z1 z2 z3
  have q0 := HQ8.out.cell 0
  have q1 := HQ8.out.cell 1
  have q2 := HQ8.out.cell 2
  have q3 := HQ8.out.cell 3
  have f0 := HQ8.out.soft 0
  have f1 := HQ8.out.soft 1
  have f2 := HQ8.out.soft 2
  have f3 := HQ8.out.soft 3
  have x0 := HE8.out.cell 0
  have x1 := HE8.out.cell 1
  have x2 := HE8.out.cell 2
  have x3 := HE8.out.cell 3
  have HBZ := Lib.hid ((((HB8.out.setCell (p := ⟨w.heap.size + 1 + 1, 0, none⟩) (by show w.heap.size ≤ w.heap.size + 1 + 1; omega) (.int .i64 N2)).setCell (p := ⟨w.heap.size + 1 + 1, 1, none⟩) (by show w.heap.size ≤ w.heap.size + 1 + 1; omega) (.int .i64 T2)).setCell (p := ⟨w.heap.size + 1 + 1, 2, none⟩) (by show w.heap.size ≤ w.heap.size + 1 + 1; omega) (.int .i64 S2)).setCell (p := ⟨w.heap.size + 1 + 1, 3, none⟩) (by show w.heap.size ≤ w.heap.size + 1 + 1; omega) (.slice A7 n7 c7))
  have HOZ := Lib.hid (own_set (p := ⟨w.heap.size + 1 + 1, 3, none⟩) (own_set (p := ⟨w.heap.size + 1 + 1, 2, none⟩) (own_set (p := ⟨w.heap.size + 1 + 1, 1, none⟩) (own_set (p := ⟨w.heap.size + 1 + 1, 0, none⟩) HO8.out (.int .i64 N2) hne8) (.int .i64 T2) hne8) (.int .i64 S2) hne8) (.slice A7 n7 c7) hne8)
  clear hzz
  go_wp2
  exact bodyPost_ret (v := .agg #[.int .i64 N2, .int .i64 T2, .int .i64 S2, .slice A7 n7 c7]) (by simp [results, Try.results15, go_sem, z0, z1, z2, z3]) rfl (SnPost1.own HX.out hm7 HOZ.out (by omega) HBZ.out)
end Go.Proofs.Ytfpiejcfhdnjiaa
