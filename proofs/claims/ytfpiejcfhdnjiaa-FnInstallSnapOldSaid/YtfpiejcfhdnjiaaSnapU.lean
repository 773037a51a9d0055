/- The reference's InstallSnap. (Written by gen/snapu.py.) -/
import Derived.Test.YtfpiejcfhdnjiaaSnapS
import Derived.Test.YtfpiejcfhdnjiaaSnapP
import Derived.Deep.RegionHeld3
set_option linter.unusedSimpArgs false
set_option linter.unusedVariables false
namespace Go.Proofs.Ytfpiejcfhdnjiaa
open Go.RowKit

theorem instS_no {N T S : Int} {R : List En} {N' T' S' : Int} {R' : List En} (h : vSnap N T S R = false ∨ vSnap N' T' S' R' = false) : instOf N T S R N' T' S' R' = (0, 0, 0, []) := by
  unfold instOf
  rcases h with h | h <;> simp [h]
theorem instS_old {N T S : Int} {R : List En} {N' T' S' : Int} {R' : List En} (h : vSnap N T S R = true) (h' : vSnap N' T' S' R' = true) (hle : N' ≤ N) : instOf N T S R N' T' S' R' = (N, T, S, R) := by
  simp [instOf, h, h', hle]
theorem instS_new {N T S : Int} {R : List En} {N' T' S' : Int} {R' : List En} (h : vSnap N T S R = true) (h' : vSnap N' T' S' R' = true) (hlt : N < N') : instOf N T S R N' T' S' R' = (N', T', S', restB N R N' T') := by
  have : ¬ N' ≤ N := by omega
  simp [instOf, h, h', this]
set_option maxRecDepth 100000 in
set_option maxHeartbeats 3200000 in
theorem InstallSnapS_any (N T S : Int) (lo hi n c : Nat) (A : Option Addr) (ls : List En) (N2 T2 S2 : Int) (lo2 hi2 n2 c2 : Nat) (A2 : Option Addr) (ls2 : List En) (w : World) (hr : Rd w lo hi 2 A n (pvs ls)) (hB : hi ≤ w.heap.size) (hn : n ≤ 1048576) (hcap : n ≤ c) (hr2 : Rd w lo2 hi2 2 A2 n2 (pvs ls2)) (hB2 : hi2 ≤ w.heap.size) (hn2 : n2 ≤ 1048576) (_hcap2 : n2 ≤ c2) :
    Calls Try.prog 17 #[.agg #[.int .i64 N, .int .i64 T, .int .i64 S, .slice A n c], .agg #[.int .i64 N2, .int .i64 T2, .int .i64 S2, .slice A2 n2 c2]] w (SnPost1 (instOf N T S ls N2 T2 S2 ls2) w) := by
  have HL := Lib.hid hr.len2
  have hb0 := up_alloc (up_alloc (up_alloc (Below.refl _ w) (.cells #[.int .i64 N, .int .i64 T, .int .i64 S, .slice A n c] 32)) (.cells #[.int .i64 N2, .int .i64 T2, .int .i64 S2, .slice A2 n2 c2] 32)) (.cells #[.int .i64 0, .int .i64 0, .int .i64 0, .slice none 0 0] 32)
  have hp0 := ((Blk.new w 32 #[.int .i64 N, .int .i64 T, .int .i64 S, .slice A n c]).alloc (.cells #[.int .i64 N2, .int .i64 T2, .int .i64 S2, .slice A2 n2 c2] 32)).alloc (.cells #[.int .i64 0, .int .i64 0, .int .i64 0, .slice none 0 0] 32)
  have ht0 : Blk (((w.alloc (.cells #[.int .i64 N, .int .i64 T, .int .i64 S, .slice A n c] 32)).alloc (.cells #[.int .i64 N2, .int .i64 T2, .int .i64 S2, .slice A2 n2 c2] 32)).alloc (.cells #[.int .i64 0, .int .i64 0, .int .i64 0, .slice none 0 0] 32)) (w.heap.size + 1) 32 #[.int .i64 N2, .int .i64 T2, .int .i64 S2, .slice A2 n2 c2] := (Blk.new2 (by simp)).alloc _
  have hq0 : Blk (((w.alloc (.cells #[.int .i64 N, .int .i64 T, .int .i64 S, .slice A n c] 32)).alloc (.cells #[.int .i64 N2, .int .i64 T2, .int .i64 S2, .slice A2 n2 c2] 32)).alloc (.cells #[.int .i64 0, .int .i64 0, .int .i64 0, .slice none 0 0] 32)) (w.heap.size + 1 + 1) 32 #[.int .i64 0, .int .i64 0, .int .i64 0, .slice none 0 0] := Blk.new2 (by simp)
  have HR0 := Lib.hid (hr.keep hb0 hB)
  have HU0 := Lib.hid (hr2.keep hb0 hB2)
  have HB0 := Lib.hid hb0
  have HP0 := Lib.hid hp0
  have HT0 := Lib.hid ht0
  have HQ0 := Lib.hid hq0
  have hz0 : (((w.alloc (.cells #[.int .i64 N, .int .i64 T, .int .i64 S, .slice A n c] 32)).alloc (.cells #[.int .i64 N2, .int .i64 T2, .int .i64 S2, .slice A2 n2 c2] 32)).alloc (.cells #[.int .i64 0, .int .i64 0, .int .i64 0, .slice none 0 0] 32)).heap.size = w.heap.size + 1 + 1 + 1 := by simp
  clear hr hr2 hb0 hp0 hq0 ht0
  go_enter Try.func17, Try.ntmps17
  go_wp2_with (fail)
  generalize (((w.alloc (.cells #[.int .i64 N, .int .i64 T, .int .i64 S, .slice A n c] 32)).alloc (.cells #[.int .i64 N2, .int .i64 T2, .int .i64 S2, .slice A2 n2 c2] 32)).alloc (.cells #[.int .i64 0, .int .i64 0, .int .i64 0, .slice none 0 0] 32)) = w0 at *
  (with_reducible refine (validSnapS_any N T S lo hi n c A ls _ HR0.out (by omega) hn).mono ?_)
  rintro e w1 ⟨rfl, hb1⟩
  have HP1 := Lib.hid (HP0.out.below hb1 (by omega))
  have HT1 := Lib.hid (HT0.out.below hb1 (by omega))
  have HQ1 := Lib.hid (HQ0.out.below hb1 (by omega))
  have HR1 := Lib.hid (HR0.out.keep hb1 (by omega))
  have HU1 := Lib.hid (HU0.out.keep hb1 (by omega))
  have HB1 := Lib.hid (up HB0.out hb1)
  have hz1 := hb1.size
  clear hb1 HP0 HQ0 HR0 HB0 HT0 HU0
  cases h1 : vSnap N T S ls with
  | false =>
    have HX := Lib.hid (instS_no (N := N) (T := T) (S := S) (R := ls) (N' := N2) (T' := T2) (S' := S2) (R' := ls2) (.inl h1))
    clear h1
    have hzz := (((HQ1.out.put 0 (.int .i64 0)).put 1 (.int .i64 0)).put 2 (.int .i64 0)).put 3 (.slice none 0 0)
    have z0 := hzz.cell 0
    have z1 := hzz.cell 1
    have z2 := hzz.cell 2
    have z3 := hzz.cell 3
    simp at z0 z1 z2 z3
    have q0 := HQ1.out.cell 0
    have q1 := HQ1.out.cell 1
    have q2 := HQ1.out.cell 2
    have q3 := HQ1.out.cell 3
    have f0 := HQ1.out.soft 0
    have f1 := HQ1.out.soft 1
    have f2 := HQ1.out.soft 2
    have f3 := HQ1.out.soft 3
    have HBZ := Lib.hid ((((HB1.out.setCell (p := ⟨w.heap.size + 1 + 1, 0, none⟩) (by show w.heap.size ≤ w.heap.size + 1 + 1; omega) (.int .i64 0)).setCell (p := ⟨w.heap.size + 1 + 1, 1, none⟩) (by show w.heap.size ≤ w.heap.size + 1 + 1; omega) (.int .i64 0)).setCell (p := ⟨w.heap.size + 1 + 1, 2, none⟩) (by show w.heap.size ≤ w.heap.size + 1 + 1; omega) (.int .i64 0)).setCell (p := ⟨w.heap.size + 1 + 1, 3, none⟩) (by show w.heap.size ≤ w.heap.size + 1 + 1; omega) (.slice none 0 0))
    clear hzz
    go_wp2
    exact bodyPost_ret (v := .agg #[.int .i64 0, .int .i64 0, .int .i64 0, .slice none 0 0]) (by simp [results, Try.results17, go_sem, z0, z1, z2, z3]) rfl (SnPost1.no HX.out HBZ.out)
  | true =>
  have hv := vSnap_iff.1 h1
  have hn16 : n ≤ 16 := by rw [← HL.out]; exact vSnap_len h1
  have HV := Lib.hid h1
  clear h1
  have s0 := HT1.out.cell 0
  have s1 := HT1.out.cell 1
  have s2 := HT1.out.cell 2
  have s3 := HT1.out.cell 3
  go_wp2_with (fail)
  clear s0 s1 s2 s3
  (with_reducible refine (validSnapS_any N2 T2 S2 lo2 hi2 n2 c2 A2 ls2 _ HU1.out (by omega) hn2).mono ?_)
  rintro e w2 ⟨rfl, hb2⟩
  have HP2 := Lib.hid (HP1.out.below hb2 (by omega))
  have HT2 := Lib.hid (HT1.out.below hb2 (by omega))
  have HQ2 := Lib.hid (HQ1.out.below hb2 (by omega))
  have HR2 := Lib.hid (HR1.out.keep hb2 (by omega))
  have HB2 := Lib.hid (up HB1.out hb2)
  have hz2 := hb2.size
  clear hb2 HP1 HQ1 HR1 HB1 HT1 HU1
  cases h2 : vSnap N2 T2 S2 ls2 with
  | false =>
    have HX := Lib.hid (instS_no (N := N) (T := T) (S := S) (R := ls) (N' := N2) (T' := T2) (S' := S2) (R' := ls2) (.inr h2))
    clear h2 hv
    have hzz := (((HQ2.out.put 0 (.int .i64 0)).put 1 (.int .i64 0)).put 2 (.int .i64 0)).put 3 (.slice none 0 0)
    have z0 := hzz.cell 0
    have z1 := hzz.cell 1
    have z2 := hzz.cell 2
    have z3 := hzz.cell 3
    simp at z0 z1 z2 z3
    have q0 := HQ2.out.cell 0
    have q1 := HQ2.out.cell 1
    have q2 := HQ2.out.cell 2
    have q3 := HQ2.out.cell 3
    have f0 := HQ2.out.soft 0
    have f1 := HQ2.out.soft 1
    have f2 := HQ2.out.soft 2
    have f3 := HQ2.out.soft 3
    have HBZ := Lib.hid ((((HB2.out.setCell (p := ⟨w.heap.size + 1 + 1, 0, none⟩) (by show w.heap.size ≤ w.heap.size + 1 + 1; omega) (.int .i64 0)).setCell (p := ⟨w.heap.size + 1 + 1, 1, none⟩) (by show w.heap.size ≤ w.heap.size + 1 + 1; omega) (.int .i64 0)).setCell (p := ⟨w.heap.size + 1 + 1, 2, none⟩) (by show w.heap.size ≤ w.heap.size + 1 + 1; omega) (.int .i64 0)).setCell (p := ⟨w.heap.size + 1 + 1, 3, none⟩) (by show w.heap.size ≤ w.heap.size + 1 + 1; omega) (.slice none 0 0))
    clear hzz
    go_wp2
    exact bodyPost_ret (v := .agg #[.int .i64 0, .int .i64 0, .int .i64 0, .slice none 0 0]) (by simp [results, Try.results17, go_sem, z0, z1, z2, z3]) rfl (SnPost1.no HX.out HBZ.out)
  | true =>
  have hv2 := vSnap_iff.1 h2
  have HV2 := Lib.hid h2
  clear h2
  by_cases hlt : N < N2
  case neg =>
    have d1 : decide (N2 ≤ N) = true := decide_eq_true (by omega)
    have HX := Lib.hid (instS_old HV.out HV2.out (show N2 ≤ N by omega))
    clear hv hv2 HV HV2
    have HSB := Lib.hid (show ∀ wx, Blk wx w.heap.size 32 #[.int .i64 N, .int .i64 T, .int .i64 S, .slice A n c] → wx.cell? ⟨w.heap.size, 0, none⟩ = some (.int .i64 N) ∧ wx.cell? ⟨w.heap.size, 1, none⟩ = some (.int .i64 T) ∧ wx.cell? ⟨w.heap.size, 2, none⟩ = some (.int .i64 S) ∧ wx.cell? ⟨w.heap.size, 3, none⟩ = some (.slice A n c) from fun wx h => ⟨h.cell 0, h.cell 1, h.cell 2, h.cell 3⟩)
    have HCL := Lib.hid (show ∀ wx, Below w2.heap.size w2 wx → Calls Try.prog 54 #[.slice A n c] wx fun e w' => ∃ A9 c9, e = .returned (.slice A9 n c9) ∧ w'.ownsRow wx.heap.size 29 2 (.slice A9 n c9) n (pvs ls) ∧ Below wx.heap.size wx w' from fun wx hb =>
      (copyLogS_any lo hi n c A ls wx (HR2.out.keep hb (by omega)) (Nat.le_trans (by omega) hb.size) hn).mono (by
        rintro e w' ⟨v, rfl, ho, hb9⟩
        obtain ⟨A9, c9, rfl, _⟩ := own_form ho
        exact ⟨A9, c9, rfl, ho, hb9⟩))
    have hpq : w.heap.size ≠ (w.heap.size + 1 + 1) := by omega
    obtain ⟨e0, e1, e2, e3⟩ := HSB.out _ HP2.out
    have b0 := HT2.out.cell 0
    go_wp2_with (fail)
    clear b0
    go_region_held3 (fun wx => wx.cell? ⟨w.heap.size, 0, none⟩ = some (.int .i64 N) ∧ wx.cell? ⟨w.heap.size, 1, none⟩ = some (.int .i64 T) ∧ wx.cell? ⟨w.heap.size, 2, none⟩ = some (.int .i64 S) ∧ wx.cell? ⟨w.heap.size, 3, none⟩ = some (.slice A n c))
      (first | exact HSB.out _ HP2.out | exact HSB.out _ HP2.out.drew | exact HSB.out _ HP6.out | exact HSB.out _ ((((HP6.out.far (p := ⟨w.heap.size + 1 + 1, 0, none⟩) hpq (.int .i64 N)).far (p := ⟨w.heap.size + 1 + 1, 1, none⟩) hpq (.int .i64 T)).far (p := ⟨w.heap.size + 1 + 1, 2, none⟩) hpq (.int .i64 S)).far (p := ⟨w.heap.size + 1 + 1, 3, none⟩) hpq (.slice A9 n c9)))
      ((first
        | (go_at_call 54; (with_reducible refine (HCL.out _ (up_drew (Below.refl _ _))).mono ?_); rintro e w6 ⟨A9, c9, rfl, ho6, hb6⟩; have HB6 := Lib.hid (up (up_drew (Below.refl _ w2)) hb6); have HO6 := Lib.hid ho6; have HP6 := Lib.hid (HP2.out.below HB6.out HP2.out.lt); have HQ6 := Lib.hid (HQ2.out.below HB6.out HQ2.out.lt); have q0 := HQ6.out.cell 0; have q1 := HQ6.out.cell 1; have q2 := HQ6.out.cell 2; have q3 := HQ6.out.cell 3; have f0 := HQ6.out.soft 0; have f1 := HQ6.out.soft 1; have f2 := HQ6.out.soft 2; have f3 := HQ6.out.soft 3; clear ho6 hb6)
        | fail "no arm"))
    all_goals
      clear e0 e1 e2 e3
      have hne6 : ∀ k', (Value.slice A9 n c9).ownBlock = some k' → k' ≠ w.heap.size + 1 + 1 := fun k' hk' => by have := HO6.out.lt k' hk'; simp only [World.size_drew] at this; omega
      have hzz := (((HQ6.out.put 0 (.int .i64 N)).put 1 (.int .i64 T)).put 2 (.int .i64 S)).put 3 (.slice A9 n c9)
      have z0 := hzz.cell 0
      have z1 := hzz.cell 1
      have z2 := hzz.cell 2
      have z3 := hzz.cell 3
      simp at z0 z1 z2 z3
      have HOZ := Lib.hid (own_set (p := ⟨w.heap.size + 1 + 1, 3, none⟩) (own_set (p := ⟨w.heap.size + 1 + 1, 2, none⟩) (own_set (p := ⟨w.heap.size + 1 + 1, 1, none⟩) (own_set (p := ⟨w.heap.size + 1 + 1, 0, none⟩) HO6.out (.int .i64 N) hne6) (.int .i64 T) hne6) (.int .i64 S) hne6) (.slice A9 n c9) hne6)
      have HBZ := Lib.hid (((((up HB2.out HB6.out).setCell (p := ⟨w.heap.size + 1 + 1, 0, none⟩) (by show w.heap.size ≤ w.heap.size + 1 + 1; omega) (.int .i64 N)).setCell (p := ⟨w.heap.size + 1 + 1, 1, none⟩) (by show w.heap.size ≤ w.heap.size + 1 + 1; omega) (.int .i64 T)).setCell (p := ⟨w.heap.size + 1 + 1, 2, none⟩) (by show w.heap.size ≤ w.heap.size + 1 + 1; omega) (.int .i64 S)).setCell (p := ⟨w.heap.size + 1 + 1, 3, none⟩) (by show w.heap.size ≤ w.heap.size + 1 + 1; omega) (.slice A9 n c9))
      clear hzz
      go_wp2
      exact bodyPost_ret (v := .agg #[.int .i64 N, .int .i64 T, .int .i64 S, .slice A9 n c9]) (by simp [results, Try.results17, go_sem, z0, z1, z2, z3]) rfl (SnPost1.own HX.out HL.out HOZ.out (by simp only [World.size_drew]; omega) HBZ.out)
  have d1 : decide (N2 ≤ N) = false := decide_eq_false (by omega)
  have HX0 := Lib.hid (instS_new HV.out HV2.out hlt)
  obtain ⟨j, hj⟩ : ∃ j : Nat, N2 - N = ((j + 1 : Nat) : Int) := ⟨(N2 - N - 1).toNat, by omega⟩
  have hjw : IntKind.i64.wrap (N2 - N) = ((j + 1 : Nat) : Int) := by rw [IntWalk.i64_in _ (by omega)]; exact hj
  have hjt : (N2 - N).toNat = j + 1 := by omega
  have HXR := Lib.hid (show restB N ls N2 T2 = if j + 1 ≤ n ∧ termOf ls (j + 1) = T2 then ls.drop (j + 1) else [] by rw [restB, hjt, HL.out])
  have hj1 : IntKind.i64.wrap (((j + 1 : Nat) : Int) - 1) = (j : Int) := by rw [IntWalk.i64_in _ (by omega)]; omega
  have hj2 : IntKind.i64.wrap ((j : Int) + 1 - 1) = (j : Int) := by rw [IntWalk.i64_in _ (by omega)]; omega
  clear hj hjt hv hv2 HV HV2
  have a0 := HP2.out.cell 0
  have b0 := HT2.out.cell 0
  have b1 := HT2.out.cell 1
  have b2 := HT2.out.cell 2
  have hb3 := up_alloc (up_alloc (Below.refl _ w2) (.cells #[] 29)) (.cells #[.int .i64 N2, .int .i64 T2, .int .i64 S2, .slice (some ⟨w2.heap.size, 0, none⟩) 0 0] 32)
  have HE3 := Lib.hid (show Blk ((w2.alloc (.cells #[] 29)).alloc (.cells #[.int .i64 N2, .int .i64 T2, .int .i64 S2, .slice (some ⟨w2.heap.size, 0, none⟩) 0 0] 32)) (w2.heap.size + 1) 32 #[.int .i64 N2, .int .i64 T2, .int .i64 S2, .slice (some ⟨w2.heap.size, 0, none⟩) 0 0] from Blk.new2 (by simp))
  have HO3 := Lib.hid (show ((w2.alloc (.cells #[] 29)).alloc (.cells #[.int .i64 N2, .int .i64 T2, .int .i64 S2, .slice (some ⟨w2.heap.size, 0, none⟩) 0 0] 32)).ownsRow w.heap.size 29 2 (.slice (some ⟨w2.heap.size, 0, none⟩) 0 0) 0 (pvs []) from own_base (own_of_blk ((Blk.new w2 29 #[]).alloc _) (Nat.le_refl _)) (by omega))
  have HP3 := Lib.hid (HP2.out.below hb3 HP2.out.lt)
  have HT3 := Lib.hid (HT2.out.below hb3 HT2.out.lt)
  have HQ3 := Lib.hid (HQ2.out.below hb3 HQ2.out.lt)
  have HR3 := Lib.hid (HR2.out.keep hb3 (by omega))
  have HB3 := Lib.hid (up HB2.out hb3)
  have hz3 : ((w2.alloc (.cells #[] 29)).alloc (.cells #[.int .i64 N2, .int .i64 T2, .int .i64 S2, .slice (some ⟨w2.heap.size, 0, none⟩) 0 0] 32)).heap.size = w2.heap.size + 1 + 1 := by simp
  have a3 := HP3.out.cell 0
  have t0 := HT3.out.cell 0
  clear hb3 HP2 HT2 HQ2 HR2 HB2
  go_wp2_with (fail)
  clear a0 b0 b1 b2
  generalize ((w2.alloc (.cells #[] 29)).alloc (.cells #[.int .i64 N2, .int .i64 T2, .int .i64 S2, .slice (some ⟨w2.heap.size, 0, none⟩) 0 0] 32)) = w3 at *
  obtain ⟨g, hgg⟩ : ∃ g, g = w2.heap.size := ⟨_, rfl⟩
  have hg1 : w2.heap.size ≤ g := by omega
  have hg2 : g + 1 + 1 = w3.heap.size := by omega
  rw [← hgg] at HE3 HO3 ⊢
  clear hgg a3 t0
  have a4 : w3.cell? ⟨w.heap.size, 3, none⟩ = some (.slice A n c) := HP3.out.cell 3
  have t1 : w3.cell? ⟨w.heap.size + 1, 1, none⟩ = some (.int .i64 T2) := HT3.out.cell 1
  by_cases hbig : n < j + 1
  · have d2 : decide (((j + 1 : Nat) : Int) ≤ (n : Int)) = false := decide_eq_false (by omega)
    have d2' : decide ((j : Int) + 1 ≤ (n : Int)) = false := decide_eq_false (by omega)
    have HX := Lib.hid (show instOf N T S ls N2 T2 S2 ls2 = (N2, T2, S2, []) by rw [HX0.out, HXR.out, if_neg (fun h => by omega)])
    go_quiet (fail)
    clear a4 t1
    have HE4 := Lib.hid (HE3.out.drewN nq)
    have HQ4 := Lib.hid (HQ3.out.drewN nq)
    have HB4 := Lib.hid (up_drewN HB3.out nq)
    have HO4 := Lib.hid (own_keep HO3.out (up_drewN (Below.refl _ _) nq))
    have hne : ∀ k', (Value.slice (some ⟨g, 0, none⟩) 0 0).ownBlock = some k' → k' ≠ w.heap.size + 1 + 1 := fun k' hk' => by have := HO4.out.lt k' hk'; simp [Value.ownBlock] at hk'; omega
    generalize w3.drewN nq = w4 at *
    have hzz := (((HQ4.out.put 0 (.int .i64 N2)).put 1 (.int .i64 T2)).put 2 (.int .i64 S2)).put 3 (.slice (some ⟨g, 0, none⟩) 0 0)
    have z0 := hzz.cell 0
    have z1 := hzz.cell 1
    have z2 := hzz.cell 2
    have z3 := hzz.cell 3
    simp at z0 z1 z2 z3
    have q0 := HQ4.out.cell 0
    have q1 := HQ4.out.cell 1
    have q2 := HQ4.out.cell 2
    have q3 := HQ4.out.cell 3
    have f0 := HQ4.out.soft 0
    have f1 := HQ4.out.soft 1
    have f2 := HQ4.out.soft 2
    have f3 := HQ4.out.soft 3
    have x0 := HE4.out.cell 0
    have x1 := HE4.out.cell 1
    have x2 := HE4.out.cell 2
    have x3 := HE4.out.cell 3
    have HBZ := Lib.hid ((((HB4.out.setCell (p := ⟨w.heap.size + 1 + 1, 0, none⟩) (by show w.heap.size ≤ w.heap.size + 1 + 1; omega) (.int .i64 N2)).setCell (p := ⟨w.heap.size + 1 + 1, 1, none⟩) (by show w.heap.size ≤ w.heap.size + 1 + 1; omega) (.int .i64 T2)).setCell (p := ⟨w.heap.size + 1 + 1, 2, none⟩) (by show w.heap.size ≤ w.heap.size + 1 + 1; omega) (.int .i64 S2)).setCell (p := ⟨w.heap.size + 1 + 1, 3, none⟩) (by show w.heap.size ≤ w.heap.size + 1 + 1; omega) (.slice (some ⟨g, 0, none⟩) 0 0))
    have HOZ := Lib.hid (own_set (p := ⟨w.heap.size + 1 + 1, 3, none⟩) (own_set (p := ⟨w.heap.size + 1 + 1, 2, none⟩) (own_set (p := ⟨w.heap.size + 1 + 1, 1, none⟩) (own_set (p := ⟨w.heap.size + 1 + 1, 0, none⟩) HO4.out (.int .i64 N2) hne) (.int .i64 T2) hne) (.int .i64 S2) hne) (.slice (some ⟨g, 0, none⟩) 0 0) hne)
    clear hzz
    go_wp2
    exact bodyPost_ret (v := .agg #[.int .i64 N2, .int .i64 T2, .int .i64 S2, .slice (some ⟨g, 0, none⟩) 0 0]) (by simp [results, Try.results17, go_sem, z0, z1, z2, z3]) rfl (SnPost1.own HX.out rfl HOZ.out (Nat.le_refl _) HBZ.out)
  have d2 : decide (((j + 1 : Nat) : Int) ≤ (n : Int)) = true := decide_eq_true (by omega)
  have d2' : decide ((j : Int) + 1 ≤ (n : Int)) = true := decide_eq_true (by omega)
  obtain ⟨b, off, x, y, hA, hbB, _, hgx, hc0, hc1⟩ := HR3.out.pair (k := j) (by omega)
  subst hA
  have HTX := Lib.hid (termOf_get hgx)
  clear hgx
  have hj0 : (0 : Int) ≤ (j : Int) := by omega
  have hjn : (j : Int) < (n : Int) := by omega
  by_cases hx : x = T2
  case neg =>
    have d3 : (x == T2) = false := by simpa using hx
    have HX := Lib.hid (show instOf N T S ls N2 T2 S2 ls2 = (N2, T2, S2, []) by rw [HX0.out, HXR.out, if_neg (fun h => hx (by rw [← h.2, HTX.out]))])
    clear hx
    go_quiet (fail)
    clear a4 t1
    have HE4 := Lib.hid (HE3.out.drewN nq)
    have HQ4 := Lib.hid (HQ3.out.drewN nq)
    have HB4 := Lib.hid (up_drewN HB3.out nq)
    have HO4 := Lib.hid (own_keep HO3.out (up_drewN (Below.refl _ _) nq))
    have hne : ∀ k', (Value.slice (some ⟨g, 0, none⟩) 0 0).ownBlock = some k' → k' ≠ w.heap.size + 1 + 1 := fun k' hk' => by have := HO4.out.lt k' hk'; simp [Value.ownBlock] at hk'; omega
    clear hc0 hc1
    generalize w3.drewN nq = w4 at *
    have hzz := (((HQ4.out.put 0 (.int .i64 N2)).put 1 (.int .i64 T2)).put 2 (.int .i64 S2)).put 3 (.slice (some ⟨g, 0, none⟩) 0 0)
    have z0 := hzz.cell 0
    have z1 := hzz.cell 1
    have z2 := hzz.cell 2
    have z3 := hzz.cell 3
    simp at z0 z1 z2 z3
    have q0 := HQ4.out.cell 0
    have q1 := HQ4.out.cell 1
    have q2 := HQ4.out.cell 2
    have q3 := HQ4.out.cell 3
    have f0 := HQ4.out.soft 0
    have f1 := HQ4.out.soft 1
    have f2 := HQ4.out.soft 2
    have f3 := HQ4.out.soft 3
    have x0 := HE4.out.cell 0
    have x1 := HE4.out.cell 1
    have x2 := HE4.out.cell 2
    have x3 := HE4.out.cell 3
    have HBZ := Lib.hid ((((HB4.out.setCell (p := ⟨w.heap.size + 1 + 1, 0, none⟩) (by show w.heap.size ≤ w.heap.size + 1 + 1; omega) (.int .i64 N2)).setCell (p := ⟨w.heap.size + 1 + 1, 1, none⟩) (by show w.heap.size ≤ w.heap.size + 1 + 1; omega) (.int .i64 T2)).setCell (p := ⟨w.heap.size + 1 + 1, 2, none⟩) (by show w.heap.size ≤ w.heap.size + 1 + 1; omega) (.int .i64 S2)).setCell (p := ⟨w.heap.size + 1 + 1, 3, none⟩) (by show w.heap.size ≤ w.heap.size + 1 + 1; omega) (.slice (some ⟨g, 0, none⟩) 0 0))
    have HOZ := Lib.hid (own_set (p := ⟨w.heap.size + 1 + 1, 3, none⟩) (own_set (p := ⟨w.heap.size + 1 + 1, 2, none⟩) (own_set (p := ⟨w.heap.size + 1 + 1, 1, none⟩) (own_set (p := ⟨w.heap.size + 1 + 1, 0, none⟩) HO4.out (.int .i64 N2) hne) (.int .i64 T2) hne) (.int .i64 S2) hne) (.slice (some ⟨g, 0, none⟩) 0 0) hne)
    clear hzz
    go_wp2
    exact bodyPost_ret (v := .agg #[.int .i64 N2, .int .i64 T2, .int .i64 S2, .slice (some ⟨g, 0, none⟩) 0 0]) (by simp [results, Try.results17, go_sem, z0, z1, z2, z3]) rfl (SnPost1.own HX.out rfl HOZ.out (Nat.le_refl _) HBZ.out)
  subst hx
  have d3 : (x == x) = true := by simp
  have HX := Lib.hid (show instOf N T S ls N2 x S2 ls2 = (N2, x, S2, ls.drop (j + 1)) by rw [HX0.out, HXR.out, if_pos ⟨by omega, HTX.out⟩])
  have HM := Lib.hid (show (ls.drop (j + 1)).length = n - (j + 1) by rw [List.length_drop, HL.out])
  obtain ⟨AT, hAT, hRT⟩ := HR3.out.behind2 (show j + 1 ≤ n by omega) hcap
  have HRT := Lib.hid hRT
  clear hRT
  have p1 : ((j + 1 : Nat) : Int) ≤ (n : Int) := by omega
  have p2 : (0 : Int) ≤ ((j + 1 : Nat) : Int) := by omega
  have p5 : ((j + 1 : Nat) : Int) ≤ (c : Int) := by omega
  have p4 : (n : Int) ≤ (c : Int) := by omega
  have p6 : (((j + 1 : Nat) : Int)).toNat = j + 1 := by omega
  have p8 : j + 1 ≤ c := by omega
  go_quiet (fail)
  clear a4 t1
  have HE4 := Lib.hid (HE3.out.drewN nq)
  have HQ4 := Lib.hid (HQ3.out.drewN nq)
  have HB4 := Lib.hid (up_drewN HB3.out nq)
  have HR4 := Lib.hid (HRT.out.keep (up_drewN (Below.refl _ _) nq) (by omega))
  have hz4 : (w3.drewN nq).heap.size = w3.heap.size := rfl
  have e3 := (HP3.out.drewN nq).cell 3
  clear hc0 hc1 HE3 HQ3 HB3 HR3 HO3 HRT HP3 HT3
  generalize w3.drewN nq = w4 at *
  go_wp2_with (fail)
  clear e3
  (with_reducible refine (copyLogS_any lo hi (n - (j + 1)) (c - (j + 1)) (some AT) (ls.drop (j + 1)) _ HR4.out (by omega) (by omega)).mono ?_)
  rintro e w7 ⟨v7, rfl, ho7, hb7⟩
  obtain ⟨A7, c7, rfl, _⟩ := own_form ho7
  have HE7 := Lib.hid (HE4.out.below hb7 HE4.out.lt)
  have HQ7 := Lib.hid (HQ4.out.below hb7 HQ4.out.lt)
  have HB7 := Lib.hid (up HB4.out hb7)
  have hne7 : ∀ k', (Value.slice A7 (n - (j + 1)) c7).ownBlock = some k' → k' ≠ g + 1 ∧ k' ≠ w.heap.size + 1 + 1 := fun k' hk' => by have := ho7.lt k' hk'; omega
  have y3 := HE7.out.cell 3
  have g3 := HE7.out.soft 3
  clear HE4 HQ4 HB4 HR4 hb7
  have HE8 := Lib.hid (show Blk (w7.setCell ⟨g + 1, 3, none⟩ (.slice A7 (n - (j + 1)) c7)) (g + 1) 32 #[.int .i64 N2, .int .i64 x, .int .i64 S2, .slice A7 (n - (j + 1)) c7] from by simpa using HE7.out.put 3 (.slice A7 (n - (j + 1)) c7))
  have HQ8 := Lib.hid (HQ7.out.far (p := ⟨g + 1, 3, none⟩) (by show w.heap.size + 1 + 1 ≠ g + 1; omega) (.slice A7 (n - (j + 1)) c7))
  have HO8 := Lib.hid (own_set (p := ⟨g + 1, 3, none⟩) ho7 (.slice A7 (n - (j + 1)) c7) (fun k' hk' => (hne7 k' hk').1))
  have HB8 := Lib.hid (HB7.out.setCell (p := ⟨g + 1, 3, none⟩) (by show w.heap.size ≤ g + 1; omega) (.slice A7 (n - (j + 1)) c7))
  clear ho7 HE7 HQ7 HB7
  have hne8 : ∀ k', (Value.slice A7 (n - (j + 1)) c7).ownBlock = some k' → k' ≠ w.heap.size + 1 + 1 := fun k' hk' => (hne7 k' hk').2
  have hzz := (((HQ8.out.put 0 (.int .i64 N2)).put 1 (.int .i64 x)).put 2 (.int .i64 S2)).put 3 (.slice A7 (n - (j + 1)) c7)
  have z0 := hzz.cell 0
  have z1 := hzz.cell 1
  have z2 := hzz.cell 2
  have z3 := hzz.cell 3
  simp at z0 z1 z2 z3
  have q0 := HQ8.out.cell 0
  have q1 := HQ8.out.cell 1
  have q2 := HQ8.out.cell 2
  have q3 := HQ8.out.cell 3
  have f0 := HQ8.out.soft 0
  have f1 := HQ8.out.soft 1
  have f2 := HQ8.out.soft 2
  have f3 := HQ8.out.soft 3
  have x0 := HE8.out.cell 0
  have x1 := HE8.out.cell 1
  have x2 := HE8.out.cell 2
  have x3 := HE8.out.cell 3
  have HBZ := Lib.hid ((((HB8.out.setCell (p := ⟨w.heap.size + 1 + 1, 0, none⟩) (by show w.heap.size ≤ w.heap.size + 1 + 1; omega) (.int .i64 N2)).setCell (p := ⟨w.heap.size + 1 + 1, 1, none⟩) (by show w.heap.size ≤ w.heap.size + 1 + 1; omega) (.int .i64 x)).setCell (p := ⟨w.heap.size + 1 + 1, 2, none⟩) (by show w.heap.size ≤ w.heap.size + 1 + 1; omega) (.int .i64 S2)).setCell (p := ⟨w.heap.size + 1 + 1, 3, none⟩) (by show w.heap.size ≤ w.heap.size + 1 + 1; omega) (.slice A7 (n - (j + 1)) c7))
  have HOZ := Lib.hid (own_set (p := ⟨w.heap.size + 1 + 1, 3, none⟩) (own_set (p := ⟨w.heap.size + 1 + 1, 2, none⟩) (own_set (p := ⟨w.heap.size + 1 + 1, 1, none⟩) (own_set (p := ⟨w.heap.size + 1 + 1, 0, none⟩) HO8.out (.int .i64 N2) hne8) (.int .i64 x) hne8) (.int .i64 S2) hne8) (.slice A7 (n - (j + 1)) c7) hne8)
  clear hzz
  go_wp2
  exact bodyPost_ret (v := .agg #[.int .i64 N2, .int .i64 x, .int .i64 S2, .slice A7 (n - (j + 1)) c7]) (by simp [results, Try.results17, go_sem, z0, z1, z2, z3]) rfl (SnPost1.own HX.out HM.out HOZ.out (by omega) HBZ.out)
end Go.Proofs.Ytfpiejcfhdnjiaa
