/- Merged: RunM, RunN, InsFlat. -/
import Derived.Test.YtknphikoikdcjaaGreatRunL
import Derived.Test.YtknphikoikdcjaaGreatTimC
import Derived.Test.YtknphikoikdcjaaGreatTokList
import Derived.Test.YtknphikoikdcjaaGreatInstSB
import Derived.Deep.RegionHeld3
/- impl.result. (Written by gen/runm.py.) -/
set_option linter.unusedSimpArgs false
set_option linter.unusedVariables false
namespace Go.Proofs.YtknphikoikdcjaaGreat
open Go.RowKit Go.Maps

theorem soft_kept {w w' : World} {lo hi size n B : Nat} {A : Option Addr} {xs : List Value} (h : Soft w size A n) (hr : Rd w lo hi size A n xs) (hb : Below B w w') (hB : hi ≤ B) : Soft w' size A n := fun b off e j hj => by
  subst e
  have hn : 0 < n := by
    rcases Nat.eq_zero_or_pos n with h0 | h0
    · subst h0; simp at hj
    · exact h0
  obtain ⟨b', off', e', _, hbh⟩ := hr.form hn
  cases e'
  exact (hb.frozen (p := ⟨b, off + j, none⟩) (by show b < B; omega)).trans (h b off rfl j hj)
theorem soft_set {w : World} {size n : Nat} {A : Option Addr} (h : Soft w size A n) (p : Addr) (u : Value) : Soft (w.setCell p u) size A n := fun b off e j hj => by
  rw [World.frozen?_setCell]
  exact h b off e j hj
/-- An instance and true, its rows not frozen, or the zero value and false. -/
def InsPostX (r : Option Ins) (w : World) (e : Ending) (w' : World) : Prop :=
  (r = none ∧ e = .returned (.tuple #[.agg #[.slice none 0 0, .slice none 0 0, .int .i64 0, .slice none 0 0], .bool false]) ∧ Below w.heap.size w w') ∨
  (∃ x A0 c0 A1 c1 A2 c2 m1 m2, r = some x ∧ e = .returned (.tuple #[.agg #[.slice A0 x.ms.length c0, .slice A1 x.vs.length c1, .int .i64 x.cl, .slice A2 x.ts.length c2], .bool true]) ∧
    Rd w' m1 m2 1 A0 x.ms.length (ivs x.ms) ∧ Rd w' m2 w'.heap.size 1 A1 x.vs.length (ivs x.vs) ∧ Rd w' w.heap.size m1 2 A2 x.ts.length (pvs x.ts) ∧ (w.heap.size ≤ m1 ∧ m1 ≤ m2 ∧ m2 ≤ w'.heap.size) ∧ (Soft w' 1 A0 x.ms.length ∧ Soft w' 1 A1 x.vs.length ∧ Soft w' 2 A2 x.ts.length) ∧ Below w.heap.size w w')
theorem sortAny (base n : Nat) (A : Option Addr) (c : Nat) (ts : List Tm) (w : World) (h : w.ownsRow base 96 2 (.slice A n c) n (pvs ts)) (hn : n ≤ 1048576) :
    Calls Tryz.prog 134 #[.slice A n c, .func (.func 135) #[] #[]] w fun e w' => e = .returned (.tuple #[]) ∧ ∃ us, us.Perm ts ∧ TSort us ∧ w'.ownsRow base 96 2 (.slice A n c) n (pvs us) ∧ w.grownBy w' (Value.ownBlock (.slice A n c)) := by
  rcases h.2 with ⟨e, h0⟩ | ⟨g, cap, cur, e, _⟩
  · injection e with e1 e2 e3
    subst e1; subst e3; subst h0
    refine (sortNone_any none 0 _ w).mono ?_
    rintro e w' ⟨he, rfl⟩
    have hl : ts.length = 0 := (Rd.of_own h).len2
    obtain rfl : ts = [] := List.eq_nil_of_length_eq_zero hl
    exact ⟨he, [], List.Perm.refl _, List.Pairwise.nil, h, ⟨rfl, rfl, rfl, Nat.le_refl _, fun _ _ _ => rfl⟩⟩
  · injection e with e1 e2 e3
    subst e1
    exact sortTimers_any base g n c ts w h hn
set_option maxRecDepth 100000 in
set_option maxHeartbeats 1600000 in
theorem resultNo_any (w : World) : Calls Tryz.prog 73 #[.agg #[.slice none 0 0, .slice none 0 0, .map none, .map none, .map none, .slice none 0 0, .int .i64 0, .slice none 0 0], .bool false] w (InsPostX none w) := by
  have hb1 := up_alloc (up_alloc (Below.refl _ w) (.cells #[.slice none 0 0, .slice none 0 0, .map none, .map none, .map none, .slice none 0 0, .int .i64 0, .slice none 0 0] 114)) (.cells #[.slice none 0 0, .slice none 0 0, .int .i64 0, .slice none 0 0] 34)
  have hk2 : Blk ((w.alloc (.cells #[.slice none 0 0, .slice none 0 0, .map none, .map none, .map none, .slice none 0 0, .int .i64 0, .slice none 0 0] 114)).alloc (.cells #[.slice none 0 0, .slice none 0 0, .int .i64 0, .slice none 0 0] 34)) (w.heap.size + 1) 34 #[.slice none 0 0, .slice none 0 0, .int .i64 0, .slice none 0 0] := by
    simpa using Blk.new (w.alloc (.cells #[.slice none 0 0, .slice none 0 0, .map none, .map none, .map none, .slice none 0 0, .int .i64 0, .slice none 0 0] 114)) 34 #[.slice none 0 0, .slice none 0 0, .int .i64 0, .slice none 0 0]
  have HB1 := Lib.hid hb1
  have r0 := hk2.cell 0
  have r1 := hk2.cell 1
  have r2 := hk2.cell 2
  have r3 := hk2.cell 3
  simp only [List.getElem?_toArray, List.getElem?_cons_zero, List.getElem?_cons_succ] at r0 r1 r2 r3
  have s0 := hk2.soft 0
  have s1 := hk2.soft 1
  have s2 := hk2.soft 2
  have s3 := hk2.soft 3
  clear hb1 hk2
  go_enter Tryz.func73, Tryz.ntmps73
  go_wp2
  refine bodyPost_ret (v := .tuple #[.agg #[.slice none 0 0, .slice none 0 0, .int .i64 0, .slice none 0 0], .bool false]) ?_ rfl ?_
  · generalize (w.alloc (.cells #[.slice none 0 0, .slice none 0 0, .map none, .map none, .map none, .slice none 0 0, .int .i64 0, .slice none 0 0] 114)).alloc (.cells #[.slice none 0 0, .slice none 0 0, .int .i64 0, .slice none 0 0] 34) = wz at r0 r1 r2 r3 ⊢
    simp [results, Tryz.results73, go_sem, r0, r1, r2, r3]
  · exact .inl ⟨rfl, rfl, HB1.out⟩
set_option maxRecDepth 100000 in
set_option maxHeartbeats 6400000 in
theorem resultYes_any (An : Option Addr) (nn cn : Nat) (ns : List (Int × Int)) (Af : Option Addr) (lf cf : Nat) (fs : List Flw) (bo bi mb m : Nat) (ms : List Int) (Av : Option Addr) (nv cv : Nat) (vs : List Int) (cl : Int) (At : Option Addr) (nt ct : Nat) (us ts : List Tm) (w : World) (hN : NetM w ns fs ms An nn Af lf bo bi mb m) (hlf : lf ≤ 1048576) (hv : Rd w 0 w.heap.size 1 Av nv (ivs vs)) (hnv : nv ≤ 1048576) (ht : Rd w 0 w.heap.size 2 At nt (pvs us)) (hnt : nt ≤ 1048576) (hp : us.Perm ts) (hs : TSort ts) :
    Calls Tryz.prog 73 #[.agg #[.slice An nn cn, .slice Af lf cf, .map (some bo), .map (some bi), .map (some mb), .slice Av nv cv, .int .i64 cl, .slice At nt ct], .bool true] w (InsPostX (some ⟨ms, vs, cl, ts⟩) w) := by
  obtain rfl : nt = ts.length := by rw [← hp.length_eq]; exact ht.len2.symm
  obtain rfl : nv = vs.length := hv.len1.symm
  obtain rfl : lf = ms.length := by rw [vMarks_lenR hN.vm]; exact hN.flows.1.symm
  have hb1 := up_alloc (up_alloc (Below.refl _ w) (.cells #[.slice An nn cn, .slice Af ms.length cf, .map (some bo), .map (some bi), .map (some mb), .slice Av vs.length cv, .int .i64 cl, .slice At ts.length ct] 114)) (.cells #[.slice none 0 0, .slice none 0 0, .int .i64 0, .slice none 0 0] 34)
  have hk1 := (Blk.new w 114 #[.slice An nn cn, .slice Af ms.length cf, .map (some bo), .map (some bi), .map (some mb), .slice Av vs.length cv, .int .i64 cl, .slice At ts.length ct]).alloc (.cells #[.slice none 0 0, .slice none 0 0, .int .i64 0, .slice none 0 0] 34)
  have hk2 : Blk ((w.alloc (.cells #[.slice An nn cn, .slice Af ms.length cf, .map (some bo), .map (some bi), .map (some mb), .slice Av vs.length cv, .int .i64 cl, .slice At ts.length ct] 114)).alloc (.cells #[.slice none 0 0, .slice none 0 0, .int .i64 0, .slice none 0 0] 34)) (w.heap.size + 1) 34 #[.slice none 0 0, .slice none 0 0, .int .i64 0, .slice none 0 0] := by
    simpa using Blk.new (w.alloc (.cells #[.slice An nn cn, .slice Af ms.length cf, .map (some bo), .map (some bi), .map (some mb), .slice Av vs.length cv, .int .i64 cl, .slice At ts.length ct] 114)) 34 #[.slice none 0 0, .slice none 0 0, .int .i64 0, .slice none 0 0]
  have hs2 : ((w.alloc (.cells #[.slice An nn cn, .slice Af ms.length cf, .map (some bo), .map (some bi), .map (some mb), .slice Av vs.length cv, .int .i64 cl, .slice At ts.length ct] 114)).alloc (.cells #[.slice none 0 0, .slice none 0 0, .int .i64 0, .slice none 0 0] 34)).heap.size = w.heap.size + 1 + 1 := by simp
  have HM0 := Lib.hid hN.cm
  have HV0 := Lib.hid hv
  have HCL := Lib.hid (cloneTimers_any 0 _ ts.length ct At us ((w.alloc (.cells #[.slice An nn cn, .slice Af ms.length cf, .map (some bo), .map (some bi), .map (some mb), .slice Av vs.length cv, .int .i64 cl, .slice At ts.length ct] 114)).alloc (.cells #[.slice none 0 0, .slice none 0 0, .int .i64 0, .slice none 0 0] 34)) (rd_up ht hb1) (Nat.le_refl _) hnt)
  have HP := Lib.hid hp
  have HS := Lib.hid hs
  have HB1 := Lib.hid hb1
  have HK1 := Lib.hid hk1
  have HK2 := Lib.hid hk2
  have hmlt := hN.cm.lt
  clear hb1 hk1 hk2 hN hv ht hp hs
  have c7 : ((w.alloc (.cells #[.slice An nn cn, .slice Af ms.length cf, .map (some bo), .map (some bi), .map (some mb), .slice Av vs.length cv, .int .i64 cl, .slice At ts.length ct] 114)).alloc (.cells #[.slice none 0 0, .slice none 0 0, .int .i64 0, .slice none 0 0] 34)).cell? ⟨w.heap.size, 7, none⟩ = some (.slice At ts.length ct) := HK1.out.cell 7
  go_enter Tryz.func73, Tryz.ntmps73
  go_wp2_with (fail)
  generalize (w.alloc (.cells #[.slice An nn cn, .slice Af ms.length cf, .map (some bo), .map (some bi), .map (some mb), .slice Av vs.length cv, .int .i64 cl, .slice At ts.length ct] 114)).alloc (.cells #[.slice none 0 0, .slice none 0 0, .int .i64 0, .slice none 0 0] 34) = w2 at *
  (with_reducible refine HCL.out.mono ?_)
  clear HCL c7
  rintro e w3 ⟨A5, c5, rfl, ho3, hb3⟩
  have HO3 := Lib.hid ho3
  have HB3 := Lib.hid (up HB1.out hb3)
  have HK3 := Lib.hid (HK1.out.below hb3 HK1.out.lt)
  have HZ3 := Lib.hid (HK2.out.below hb3 HK2.out.lt)
  have hs3 := hb3.size
  clear ho3 hb3 HK1 HK2 HB1
  go_wp2_with (fail)
  (with_reducible refine (sortAny _ _ A5 c5 us w3 HO3.out hnt).mono ?_)
  rintro e w4 ⟨rfl, us2, hp2, hs2', ho4, hg4⟩
  obtain rfl : us2 = ts := TSort.unique hs2' HS.out (hp2.trans HP.out)
  have hbk : ∀ j, Value.ownBlock (.slice A5 us2.length c5) = some j → w2.heap.size ≤ j := fun j e => (HO3.out.lt j e).1
  have HB4 := Lib.hid (HB3.out.grown hg4 (by have := HB3.out.size; omega) (fun j e => by have := hbk j e; omega))
  have HK4 := Lib.hid (HK3.out.grown hg4 (fun e => by have := hbk _ e.symm; omega))
  have HZ4 := Lib.hid (HZ3.out.grown hg4 (fun e => by have := hbk _ e.symm; omega))
  have HO4 := Lib.hid ho4
  have hs4 := hg4.size
  clear hp2 hs2' ho4 hg4 hbk HO3 HB3 HK3 HZ3 HP HS
  have hr5 := Rd.of_own HO4.out
  have HR5 := Lib.hid hr5
  have HF5 := Lib.hid (Soft.of_own HO4.out)
  have hkl := HK4.out.lt
  have hzl := HZ4.out.lt
  clear hr5 HO4
  have HLW : Hid (∀ wx : World, Below w4.heap.size w4 wx → Calls Tryz.prog 136 #[.map (some mb), .int .i64 (ms.length : Int)] wx (Fresh (ivs ms) 1 ms.length wx)) := fun wx hbx => by
    obtain ⟨g, hm1, hm2⟩ := HM0.out.keep (HB4.out.trans (hbx.mono (by omega))) hmlt
    have := list_any mb m ms.length g (fun i => ms.getD i 0) wx hm1 (fun i hi => (marks_get hm2 _).trans (markAt_get ms i hi)) (by omega)
    rwa [range_getD] at this
  have HCW : Hid (∀ wx : World, Below w4.heap.size w4 wx → Calls Tryz.prog 137 #[.slice Av vs.length cv] wx fun e w' => ∃ A9 c9, e = .returned (.slice A9 vs.length c9) ∧ w'.ownsRow wx.heap.size 3 1 (.slice A9 vs.length c9) vs.length (ivs vs) ∧ Below wx.heap.size wx w') := fun wx hbx => cloneInts_any 0 _ vs.length cv Av vs wx (rd_up HV0.out (HB4.out.trans (hbx.mono (by omega)))) (Nat.le_refl _) hnv
  have HSW : Hid (∀ wx : World, Below w4.heap.size w4 wx → wx.cell? ⟨w.heap.size, 1, none⟩ = some (.slice Af ms.length cf) ∧ wx.cell? ⟨w.heap.size, 4, none⟩ = some (.map (some mb)) ∧ wx.cell? ⟨w.heap.size, 5, none⟩ = some (.slice Av vs.length cv) ∧ wx.cell? ⟨w.heap.size, 6, none⟩ = some (.int .i64 cl)) := fun wx hbx => ⟨(HK4.out.below hbx hkl).cell 1, (HK4.out.below hbx hkl).cell 4, (HK4.out.below hbx hkl).cell 5, (HK4.out.below hbx hkl).cell 6⟩
  have HYW : Hid (∀ wx : World, Below w4.heap.size w4 wx → Blk wx (w.heap.size + 1) 34 #[.slice none 0 0, .slice none 0 0, .int .i64 0, .slice none 0 0]) := fun wx hbx => HZ4.out.below hbx hzl
  go_wp2_with (fail)
  go_region_held3 (fun wx => wx.cell? ⟨w.heap.size, 1, none⟩ = some (.slice Af ms.length cf) ∧ wx.cell? ⟨w.heap.size, 4, none⟩ = some (.map (some mb)) ∧ wx.cell? ⟨w.heap.size, 5, none⟩ = some (.slice Av vs.length cv) ∧ wx.cell? ⟨w.heap.size, 6, none⟩ = some (.int .i64 cl))
    (first | exact HSW.out _ (Below.refl _ _) | exact HSW.out _ (up_drew (Below.refl _ _)) | exact HSW.out _ HX6.out | exact HSW.out _ HX7.out | exact HSC.out)
    ((first
      | (go_at_call 136; (with_reducible refine (HLW.out _ (up_drew (Below.refl _ w4))).mono ?_); rintro e w6 ⟨A6, c6, rfl, _, hr6, hf6, hb6⟩; have HF6 := Lib.hid hf6; clear hf6; have HX6 := Lib.hid (up (up_drew (Below.refl _ w4)) hb6); have HR6 := Lib.hid hr6; have hs6 := hb6.size; clear hr6 hb6)
      | (go_at_call 137; (with_reducible refine (HCW.out _ HX6.out).mono ?_); rintro e w7 ⟨A7, c7, rfl, ho7, hb7⟩; have HR7 := Lib.hid (Rd.of_own ho7); have HF7 := Lib.hid (Soft.of_own ho7); have HF6b := Lib.hid (soft_kept HF6.out HR6.out hb7 (Nat.le_refl _)); have HR6b := Lib.hid (HR6.out.keep hb7 (Nat.le_refl _)); have hs7 := hb7.size; have HX7 := Lib.hid (up HX6.out hb7); have HB7 := Lib.hid (HB4.out.trans (HX7.out.mono (by omega))); have HR5b := Lib.hid (HR5.out.keep HX7.out (Nat.le_refl _)); have HF5b := Lib.hid (soft_kept HF5.out HR5.out HX7.out (Nat.le_refl _)); have hyy := HYW.out _ HX7.out; have r0 := hyy.cell 0; have r1 := hyy.cell 1; have r2 := hyy.cell 2; have r3 := hyy.cell 3; simp only [List.getElem?_toArray, List.getElem?_cons_zero, List.getElem?_cons_succ] at r0 r1 r2 r3; have s0 := hyy.soft 0; have s1 := hyy.soft 1; have s2 := hyy.soft 2; have s3 := hyy.soft 3; obtain ⟨b0, b1, b2, b3, HBZ⟩ := ins_store hyy HB7.out (by omega) (.slice A6 ms.length c6) (.slice A7 vs.length c7) (.int .i64 cl) (.slice A5 us2.length c5); have hkf := (Blk.far (Blk.far (Blk.far (Blk.far (HK4.out.below HX7.out hkl) (p := ⟨w.heap.size + 1, 0, none⟩) (by show w.heap.size ≠ w.heap.size + 1; omega) (Value.slice A6 ms.length c6)) (p := ⟨w.heap.size + 1, 1, none⟩) (by show w.heap.size ≠ w.heap.size + 1; omega) (Value.slice A7 vs.length c7)) (p := ⟨w.heap.size + 1, 2, none⟩) (by show w.heap.size ≠ w.heap.size + 1; omega) (Value.int .i64 cl)) (p := ⟨w.heap.size + 1, 3, none⟩) (by show w.heap.size ≠ w.heap.size + 1; omega) (Value.slice A5 us2.length c5)); have HSC := Lib.hid (show ((((w7.setCell ⟨w.heap.size + 1, 0, none⟩ (Value.slice A6 ms.length c6)).setCell ⟨w.heap.size + 1, 1, none⟩ (Value.slice A7 vs.length c7)).setCell ⟨w.heap.size + 1, 2, none⟩ (Value.int .i64 cl)).setCell ⟨w.heap.size + 1, 3, none⟩ (Value.slice A5 us2.length c5)).cell? ⟨w.heap.size, 1, none⟩ = some (.slice Af ms.length cf) ∧ ((((w7.setCell ⟨w.heap.size + 1, 0, none⟩ (Value.slice A6 ms.length c6)).setCell ⟨w.heap.size + 1, 1, none⟩ (Value.slice A7 vs.length c7)).setCell ⟨w.heap.size + 1, 2, none⟩ (Value.int .i64 cl)).setCell ⟨w.heap.size + 1, 3, none⟩ (Value.slice A5 us2.length c5)).cell? ⟨w.heap.size, 4, none⟩ = some (.map (some mb)) ∧ ((((w7.setCell ⟨w.heap.size + 1, 0, none⟩ (Value.slice A6 ms.length c6)).setCell ⟨w.heap.size + 1, 1, none⟩ (Value.slice A7 vs.length c7)).setCell ⟨w.heap.size + 1, 2, none⟩ (Value.int .i64 cl)).setCell ⟨w.heap.size + 1, 3, none⟩ (Value.slice A5 us2.length c5)).cell? ⟨w.heap.size, 5, none⟩ = some (.slice Av vs.length cv) ∧ ((((w7.setCell ⟨w.heap.size + 1, 0, none⟩ (Value.slice A6 ms.length c6)).setCell ⟨w.heap.size + 1, 1, none⟩ (Value.slice A7 vs.length c7)).setCell ⟨w.heap.size + 1, 2, none⟩ (Value.int .i64 cl)).setCell ⟨w.heap.size + 1, 3, none⟩ (Value.slice A5 us2.length c5)).cell? ⟨w.heap.size, 6, none⟩ = some (.int .i64 cl) from ⟨hkf.cell 1, hkf.cell 4, hkf.cell 5, hkf.cell 6⟩); clear hkf ho7 hb7 hyy)
      | fail "no arm"))
  all_goals
    have hsz := HBZ.out.2.1
    have hs67 := HX6.out.size
    have HQ0 := Lib.hid (Rd.wide (Rd.setCell (Rd.setCell (Rd.setCell (Rd.setCell HR6b.out (p := ⟨w.heap.size + 1, 0, none⟩) (.inl (by show w.heap.size + 1 < w4.heap.size; omega)) (Value.slice A6 ms.length c6)) (p := ⟨w.heap.size + 1, 1, none⟩) (.inl (by show w.heap.size + 1 < w4.heap.size; omega)) (Value.slice A7 vs.length c7)) (p := ⟨w.heap.size + 1, 2, none⟩) (.inl (by show w.heap.size + 1 < w4.heap.size; omega)) (Value.int .i64 cl)) (p := ⟨w.heap.size + 1, 3, none⟩) (.inl (by show w.heap.size + 1 < w4.heap.size; omega)) (Value.slice A5 us2.length c5)) (show w4.heap.size ≤ w4.drew.heap.size from Nat.le_refl _) (Nat.le_refl w6.heap.size))
    have HQ1 := Lib.hid (Rd.wide (Rd.setCell (Rd.setCell (Rd.setCell (Rd.setCell HR7.out (p := ⟨w.heap.size + 1, 0, none⟩) (.inl (by show w.heap.size + 1 < w6.heap.size; omega)) (Value.slice A6 ms.length c6)) (p := ⟨w.heap.size + 1, 1, none⟩) (.inl (by show w.heap.size + 1 < w6.heap.size; omega)) (Value.slice A7 vs.length c7)) (p := ⟨w.heap.size + 1, 2, none⟩) (.inl (by show w.heap.size + 1 < w6.heap.size; omega)) (Value.int .i64 cl)) (p := ⟨w.heap.size + 1, 3, none⟩) (.inl (by show w.heap.size + 1 < w6.heap.size; omega)) (Value.slice A5 us2.length c5)) (Nat.le_refl w6.heap.size) (show w7.heap.size ≤ ((((w7.setCell ⟨w.heap.size + 1, 0, none⟩ (Value.slice A6 ms.length c6)).setCell ⟨w.heap.size + 1, 1, none⟩ (Value.slice A7 vs.length c7)).setCell ⟨w.heap.size + 1, 2, none⟩ (Value.int .i64 cl)).setCell ⟨w.heap.size + 1, 3, none⟩ (Value.slice A5 us2.length c5)).heap.size by rw [hsz]; omega))
    have HQ2 := Lib.hid (Rd.wide (Rd.setCell (Rd.setCell (Rd.setCell (Rd.setCell HR5b.out (p := ⟨w.heap.size + 1, 0, none⟩) (.inl (by show w.heap.size + 1 < w2.heap.size; omega)) (Value.slice A6 ms.length c6)) (p := ⟨w.heap.size + 1, 1, none⟩) (.inl (by show w.heap.size + 1 < w2.heap.size; omega)) (Value.slice A7 vs.length c7)) (p := ⟨w.heap.size + 1, 2, none⟩) (.inl (by show w.heap.size + 1 < w2.heap.size; omega)) (Value.int .i64 cl)) (p := ⟨w.heap.size + 1, 3, none⟩) (.inl (by show w.heap.size + 1 < w2.heap.size; omega)) (Value.slice A5 us2.length c5)) (show w.heap.size ≤ w2.heap.size by omega) (Nat.le_refl w4.heap.size))
    have hm12 : w.heap.size ≤ w4.heap.size ∧ w4.heap.size ≤ w6.heap.size ∧ w6.heap.size ≤ ((((w7.setCell ⟨w.heap.size + 1, 0, none⟩ (Value.slice A6 ms.length c6)).setCell ⟨w.heap.size + 1, 1, none⟩ (Value.slice A7 vs.length c7)).setCell ⟨w.heap.size + 1, 2, none⟩ (Value.int .i64 cl)).setCell ⟨w.heap.size + 1, 3, none⟩ (Value.slice A5 us2.length c5)).heap.size := ⟨by omega, by omega, by rw [hsz]; omega⟩
    clear hsz
    go_wp2
    refine bodyPost_ret (v := .tuple #[.agg #[.slice A6 ms.length c6, .slice A7 vs.length c7, .int .i64 cl, .slice A5 us2.length c5], .bool true]) ?_ rfl ?_
    · generalize ((((w7.setCell ⟨w.heap.size + 1, 0, none⟩ (Value.slice A6 ms.length c6)).setCell ⟨w.heap.size + 1, 1, none⟩ (Value.slice A7 vs.length c7)).setCell ⟨w.heap.size + 1, 2, none⟩ (Value.int .i64 cl)).setCell ⟨w.heap.size + 1, 3, none⟩ (Value.slice A5 us2.length c5)) = wz at b0 b1 b2 b3 ⊢
      simp [results, Tryz.results73, go_sem, b0, b1, b2, b3]
    · exact .inr ⟨⟨ms, vs, cl, us2⟩, A6, c6, A7, c7, A5, c5, w4.heap.size, w6.heap.size, rfl, rfl, HQ0.out, HQ1.out, HQ2.out, hm12, ⟨(soft_set (soft_set (soft_set (soft_set HF6b.out _ _) _ _) _ _) _ _), (soft_set (soft_set (soft_set (soft_set HF7.out _ _) _ _) _ _) _ _), (soft_set (soft_set (soft_set (soft_set HF5b.out _ _) _ _) _ _) _ _)⟩, HBZ.out.1⟩
end Go.Proofs.YtknphikoikdcjaaGreat


/- The program's StartInstance. (Written by gen/runn.py.) -/
namespace Go.Proofs.YtknphikoikdcjaaGreat
open Go.RowKit Go.Maps

theorem InsPostX.shape {r : Option Ins} {w w' : World} {e : Ending} (h : InsPostX r w e w') : ∃ A0 n0 c0 A1 n1 c1 z A2 n2 c2 b, e = .returned (.tuple #[.agg #[.slice A0 n0 c0, .slice A1 n1 c1, .int .i64 z, .slice A2 n2 c2], .bool b]) ∧ Below w.heap.size w w' ∧ ∀ (q : Nat) (w0 : World), q < w.heap.size → w0.heap.size ≤ q → Below w0.heap.size w0 w → InsPostX r w0 e ((((w'.setCell ⟨q, 0, none⟩ (.slice A0 n0 c0)).setCell ⟨q, 1, none⟩ (.slice A1 n1 c1)).setCell ⟨q, 2, none⟩ (.int .i64 z)).setCell ⟨q, 3, none⟩ (.slice A2 n2 c2)) := by
  rcases h with ⟨hr, rfl, hb⟩ | ⟨x, A0, c0, A1, c1, A2, c2, m1, m2, hr, rfl, h0, h1, h2, hm, hc, hb⟩
  · exact ⟨_, _, _, _, _, _, _, _, _, _, _, rfl, hb, fun q w0 hq hq0 hw => .inl ⟨hr, rfl, ((((hw.trans (hb.mono hw.size)).setCell (p := ⟨q, 0, none⟩) hq0 _).setCell (p := ⟨q, 1, none⟩) hq0 _).setCell (p := ⟨q, 2, none⟩) hq0 _).setCell (p := ⟨q, 3, none⟩) hq0 _⟩⟩
  · refine ⟨_, _, _, _, _, _, _, _, _, _, _, rfl, hb, fun q w0 hq hq0 hw =>   .inr ⟨x, A0, c0, A1, c1, A2, c2, m1, m2, hr, rfl, ?_, ?_, ?_, ⟨Nat.le_trans hw.size hm.1, hm.2.1, by simpa using hm.2.2⟩, ⟨soft_set (soft_set (soft_set (soft_set hc.1 _ _) _ _) _ _) _ _, soft_set (soft_set (soft_set (soft_set hc.2.1 _ _) _ _) _ _) _ _, soft_set (soft_set (soft_set (soft_set hc.2.2 _ _) _ _) _ _) _ _⟩, ((((hw.trans (hb.mono hw.size)).setCell (p := ⟨q, 0, none⟩) hq0 _).setCell (p := ⟨q, 1, none⟩) hq0 _).setCell (p := ⟨q, 2, none⟩) hq0 _).setCell (p := ⟨q, 3, none⟩) hq0 _⟩⟩
    · exact Rd.wide (Rd.setCell (Rd.setCell (Rd.setCell (Rd.setCell h0 (p := ⟨q, 0, none⟩) (by left; show q < _; omega) _) (p := ⟨q, 1, none⟩) (by left; show q < _; omega) _) (p := ⟨q, 2, none⟩) (by left; show q < _; omega) _) (p := ⟨q, 3, none⟩) (by left; show q < _; omega) _) (Nat.le_refl _) (Nat.le_refl _)
    · exact Rd.wide (Rd.setCell (Rd.setCell (Rd.setCell (Rd.setCell h1 (p := ⟨q, 0, none⟩) (by left; show q < _; omega) _) (p := ⟨q, 1, none⟩) (by left; show q < _; omega) _) (p := ⟨q, 2, none⟩) (by left; show q < _; omega) _) (p := ⟨q, 3, none⟩) (by left; show q < _; omega) _) (Nat.le_refl _) (by simp)
    · exact Rd.wide (Rd.setCell (Rd.setCell (Rd.setCell (Rd.setCell h2 (p := ⟨q, 0, none⟩) (.inl hq) _) (p := ⟨q, 1, none⟩) (.inl hq) _) (p := ⟨q, 2, none⟩) (.inl hq) _) (p := ⟨q, 3, none⟩) (.inl hq) _) hw.size (Nat.le_refl _)
theorem GoPost.result {ns : List (Int × Int)} {fs : List Flw} {r : Option (List Int)} {ts ts0 : List Tm} {An : Option Addr} {nn cn : Nat} {Af : Option Addr} {lf cf bo bi : Nat} {Av : Option Addr} {nv cv : Nat} {vs : List Int} {cl : Int} {w w' : World} {e : Ending} (h : GoPost ns fs r ts An nn cn Af lf cf bo bi Av nv cv cl w e w') (hv : Rd w 0 w.heap.size 1 Av nv (ivs vs)) (hnv : nv ≤ 1048576) (hlf : lf ≤ 1048576) (hnn : nn ≤ 10) (hts : ts.length ≤ 1000) (hp : ts.Perm ts0) (hs : TSort ts0) :
    ∃ v1 v2, e = .returned (.tuple #[v1, v2]) ∧ Below w.heap.size w w' ∧ Calls Tryz.prog 73 #[v1, v2] w' (InsPostX (r.map fun m => ⟨m, vs, cl, withUp ns fs m cl ts0 nn⟩) w') := by
  rcases h with ⟨rfl, rfl, hb⟩ | ⟨ms', mb2, m2, A9, c9, us, rfl, rfl, hN, hpu, hh, hlen, hr, hb⟩
  · exact ⟨_, _, rfl, hb, resultNo_any w'⟩
  · exact ⟨_, _, rfl, hb, resultYes_any An nn cn ns Af lf cf fs bo bi mb2 m2 ms' Av nv cv vs cl A9 us.length c9 us (withUp ns fs ms' cl ts0 nn) w' hN hlf (rd_up hv hb) hnv (hr.wide (Nat.zero_le _) (Nat.le_refl _)) (by omega) (hpu.trans (withUp_perm hp nn)) (withUp_sort hs nn)⟩
end Go.Proofs.YtknphikoikdcjaaGreat


/- What a function that makes an instance answers, in one shape. -/
namespace Go.Proofs.YtknphikoikdcjaaGreat
open Go.RowKit

/-- The instance that is answered: the zero value where there is none. -/
def insV (r : Option Ins) : Ins := r.getD ⟨[], [], 0, []⟩
theorem InsPost.flat {r : Option Ins} {w w' : World} {e : Ending} (h : InsPost r w e w') {um uv : List Int} {ucl : Int} {ut : List Tm} {ub : Bool} (hv : insV r = ⟨um, uv, ucl, ut⟩) (hb : r.isSome = ub) :
    ∃ A0 c0 A1 c1 A2 c2, e = .returned (.tuple #[.agg #[.slice A0 um.length c0, .slice A1 uv.length c1, .int .i64 ucl, .slice A2 ut.length c2], .bool ub]) ∧ Rd w' w.heap.size w'.heap.size 1 A0 um.length (ivs um) ∧ Rd w' w.heap.size w'.heap.size 1 A1 uv.length (ivs uv) ∧ Rd w' w.heap.size w'.heap.size 2 A2 ut.length (pvs ut) ∧ Below w.heap.size w w' := by
  rcases h with ⟨rfl, rfl, hb'⟩ | ⟨x, A0, c0, A1, c1, A2, c2, rfl, rfl, h0, h1, h2, _, hb'⟩
  · cases hv
    cases hb
    exact ⟨none, 0, none, 0, none, 0, rfl, Rd.nil _ _ _ _ _, Rd.nil _ _ _ _ _, Rd.nil _ _ _ _ _, hb'⟩
  · cases hv
    cases hb
    exact ⟨A0, c0, A1, c1, A2, c2, rfl, h0, h1, h2, hb'⟩
theorem InsPostX.flat {r : Option Ins} {w w' : World} {e : Ending} (h : InsPostX r w e w') {um uv : List Int} {ucl : Int} {ut : List Tm} {ub : Bool} (hv : insV r = ⟨um, uv, ucl, ut⟩) (hb : r.isSome = ub) :
    ∃ A0 c0 A1 c1 A2 c2 m1 m2, e = .returned (.tuple #[.agg #[.slice A0 um.length c0, .slice A1 uv.length c1, .int .i64 ucl, .slice A2 ut.length c2], .bool ub]) ∧ Rd w' m1 m2 1 A0 um.length (ivs um) ∧ Rd w' m2 w'.heap.size 1 A1 uv.length (ivs uv) ∧ Rd w' w.heap.size m1 2 A2 ut.length (pvs ut) ∧ (w.heap.size ≤ m1 ∧ m1 ≤ m2 ∧ m2 ≤ w'.heap.size) ∧ (Soft w' 1 A0 um.length ∧ Soft w' 1 A1 uv.length ∧ Soft w' 2 A2 ut.length) ∧ Below w.heap.size w w' := by
  rcases h with ⟨rfl, rfl, hb'⟩ | ⟨x, A0, c0, A1, c1, A2, c2, m1, m2, rfl, rfl, h0, h1, h2, hm, hs, hb'⟩
  · cases hv
    cases hb
    exact ⟨none, 0, none, 0, none, 0, w.heap.size, w.heap.size, rfl, Rd.nil _ _ _ _ _, Rd.nil _ _ _ _ _, Rd.nil _ _ _ _ _, ⟨Nat.le_refl _, Nat.le_refl _, hb'.size⟩, ⟨fun b off e => by (cases e), fun b off e => by (cases e), fun b off e => by (cases e)⟩, hb'⟩
  · cases hv
    cases hb
    exact ⟨A0, c0, A1, c1, A2, c2, m1, m2, rfl, h0, h1, h2, hm, hs, hb'⟩
/-- What is answered is short. -/
def InsOk (r : Option Ins) : Prop := (insV r).ms.length ≤ 1048576 ∧ (insV r).vs.length ≤ 1048576 ∧ (insV r).ts.length ≤ 1048576
theorem insOk_none : InsOk none := ⟨Nat.zero_le _, Nat.zero_le _, Nat.zero_le _⟩
theorem settle_ok {ns : List (Int × Int)} {fs : List Flw} {ms vs : List Int} {cl : Int} {ts : List Tm} (hV : vProc ns fs = true) (hM : vMarks fs ms = true) (hvv : vVals vs = true) (ht : ts.length ≤ 1000) : InsOk (settleOf ns fs ms vs cl ts) := by
  unfold settleOf
  cases hs : settleM ns fs vs 30 ms with
  | none => exact insOk_none
  | some m =>
    have hm := (settleM_marks 30 hM hs).1
    have h1 := vMarks_lenR hm
    have h2 := (vProc_len hV).2.2
    have h3 := vVals_len hvv
    have h4 := withUp_len (ns := ns) (fs := fs) (ms := m) (clock := cl) (ts := ts) (fun z hz => (vMarks_03 hm z hz).2) ns.length
    have h5 := (vProc_len hV).2.1
    refine ⟨?_, ?_, ?_⟩
    · show m.length ≤ _; omega
    · show vs.length ≤ _; omega
    · show (withUp ns fs m cl ts ns.length).length ≤ _; omega
theorem goOn_ok {ns : List (Int × Int)} {fs : List Flw} {ms vs : List Int} {node cl : Int} {ts : List Tm} (hV : vProc ns fs = true) (hvv : vVals vs = true) (ht : ts.length ≤ 1000) : InsOk (goOnOf ns fs ms node vs cl ts) := by
  unfold goOnOf
  cases hf : fireOf ns fs ms node vs with
  | none => exact insOk_none
  | some m => exact settle_ok hV (fireOf_marks hf) hvv ht
theorem goOn_map {ns : List (Int × Int)} {fs : List Flw} {ms vs : List Int} {node cl : Int} {ts : List Tm} : (((fireOf ns fs ms node vs).bind (settleM ns fs vs 30)).map fun m => (⟨m, vs, cl, withUp ns fs m cl ts ns.length⟩ : Ins)) = goOnOf ns fs ms node vs cl ts := by
  unfold goOnOf settleOf
  cases fireOf ns fs ms node vs <;> rfl
end Go.Proofs.YtknphikoikdcjaaGreat
