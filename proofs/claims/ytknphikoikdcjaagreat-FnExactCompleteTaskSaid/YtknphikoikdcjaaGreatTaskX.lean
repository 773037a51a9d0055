/- CompleteTask: the reference and the program. -/
import Derived.Test.YtknphikoikdcjaaGreatRunMM
import Derived.Test.YtknphikoikdcjaaGreatInstSB
import Derived.Test.YtknphikoikdcjaaGreatOpenS
import Derived.Test.YtknphikoikdcjaaGreatSetsA
import Derived.Deep.RegionHeld3
set_option linter.unusedSimpArgs false
set_option linter.unusedVariables false
namespace Go.Proofs.YtknphikoikdcjaaGreat
open Go.RowKit Go.Maps


/-- What CompleteTask answers. -/
def completeOf (ns : List (Int × Int)) (fs : List Flw) (ms vs : List Int) (cl : Int) (ts : List Tm) (node : Int) (l : List (Int × Int)) : Option Ins :=
  if vProc ns fs && vInst ns fs ms vs cl ts && vSets l && inL (tasksOf ns fs ms vs cl ts) node then goOnOf ns fs ms node (withOf vs l) cl ts else none
theorem vVals_with {vs : List Int} {l : List (Int × Int)} (h : vVals vs = true) (hl : vSets l = true) : vVals (withOf vs l) = true := by
  have h1 : l.all okSet = true := by simp only [vSets, Bool.and_eq_true] at hl; exact hl.1
  clear hl
  unfold withOf
  induction l generalizing vs with
  | nil => exact h
  | cons s l ih =>
    rw [List.all_cons, Bool.and_eq_true] at h1
    rw [List.foldl_cons]
    refine ih ?_ h1.2
    simp only [vVals, Bool.and_eq_true, decide_eq_true_eq, List.all_eq_true] at h ⊢
    refine ⟨by simpa using h.1, fun x hx => ?_⟩
    rcases List.mem_or_eq_of_mem_set hx with hx | rfl
    · exact h.2 x hx
    · have := h1.1
      simp only [okSet, Bool.and_eq_true] at this
      exact this.2
theorem tasks_at {ns : List (Int × Int)} {fs : List Flw} {ms vs : List Int} {cl : Int} {ts : List Tm} {node : Int} (h : inL (tasksOf ns fs ms vs cl ts) node = true) : ∃ k : Nat, node = (k : Int) ∧ k < ns.length := by
  have h : node ∈ tasksOf ns fs ms vs cl ts := by simpa [inL] using h
  unfold tasksOf at h
  split at h
  case isFalse => cases h
  case isTrue =>
    simp only [tasksUp, List.mem_map, List.mem_filter, List.mem_range] at h
    obtain ⟨a, ⟨ha, _⟩, rfl⟩ := h
    exact ⟨a, rfl, ha⟩
set_option maxRecDepth 100000 in
set_option maxHeartbeats 12800000 in
theorem CompleteTaskS_any (lo hi nn cn : Nat) (An : Option Addr) (ns : List (Int × Int)) (lo1 hi1 lf cf : Nat) (Af : Option Addr) (fs : List Flw) (lom him nm cm : Nat) (Am : Option Addr) (ms : List Int) (lov hiv nv cv : Nat) (Av : Option Addr) (vs : List Int) (cl : Int) (lot hit nt ct : Nat) (At : Option Addr) (ts : List Tm) (node : Int) (los his nl cs : Nat) (As : Option Addr) (l : List (Int × Int)) (w : World)
    (hrn : Rd w lo hi 2 An nn (pvs ns)) (hB : hi ≤ w.heap.size) (hnn : nn ≤ 1048576) (hr : Fls w lo1 hi1 Af lf fs) (hB1 : hi1 ≤ w.heap.size) (hn : lf ≤ 1048576)
    (hm : Rd w lom him 1 Am nm (ivs ms)) (hBm : him ≤ w.heap.size) (hnm : nm ≤ 1048576) (hv : Rd w lov hiv 1 Av nv (ivs vs)) (hBv : hiv ≤ w.heap.size) (hnv : nv ≤ 1048576) (ht : Rd w lot hit 2 At nt (pvs ts)) (hBt : hit ≤ w.heap.size) (hnt : nt ≤ 1048576) (hl : Rd w los his 2 As nl (pvs l)) (hBl : his ≤ w.heap.size) (hnl : nl ≤ 1048576) :
    Calls Tryz.prog 32 #[.agg #[.slice An nn cn, .slice Af lf cf], .agg #[.slice Am nm cm, .slice Av nv cv, .int .i64 cl, .slice At nt ct], .int .i64 node, .slice As nl cs] w (InsPost (completeOf ns fs ms vs cl ts node l) w) := by
  have hb1 := up_alloc (up_alloc (up_alloc (Below.refl _ w) (.cells #[.slice An nn cn, .slice Af lf cf] 40)) (.cells #[.slice Am nm cm, .slice Av nv cv, .int .i64 cl, .slice At nt ct] 34)) (.cells #[.slice none 0 0, .slice none 0 0, .int .i64 0, .slice none 0 0] 34)
  have hp1 := ((Blk.new w 40 #[.slice An nn cn, .slice Af lf cf]).alloc (.cells #[.slice Am nm cm, .slice Av nv cv, .int .i64 cl, .slice At nt ct] 34)).alloc (.cells #[.slice none 0 0, .slice none 0 0, .int .i64 0, .slice none 0 0] 34)
  have hx1 : Blk (((w.alloc (.cells #[.slice An nn cn, .slice Af lf cf] 40)).alloc (.cells #[.slice Am nm cm, .slice Av nv cv, .int .i64 cl, .slice At nt ct] 34)).alloc (.cells #[.slice none 0 0, .slice none 0 0, .int .i64 0, .slice none 0 0] 34)) (w.heap.size + 1) 34 #[.slice Am nm cm, .slice Av nv cv, .int .i64 cl, .slice At nt ct] := by
    have := (Blk.new (w.alloc (.cells #[.slice An nn cn, .slice Af lf cf] 40)) 34 #[.slice Am nm cm, .slice Av nv cv, .int .i64 cl, .slice At nt ct]).alloc (.cells #[.slice none 0 0, .slice none 0 0, .int .i64 0, .slice none 0 0] 34)
    simpa using this
  have hy1 : Blk (((w.alloc (.cells #[.slice An nn cn, .slice Af lf cf] 40)).alloc (.cells #[.slice Am nm cm, .slice Av nv cv, .int .i64 cl, .slice At nt ct] 34)).alloc (.cells #[.slice none 0 0, .slice none 0 0, .int .i64 0, .slice none 0 0] 34)) (w.heap.size + 1 + 1) 34 #[.slice none 0 0, .slice none 0 0, .int .i64 0, .slice none 0 0] := by simpa using Blk.new ((w.alloc (.cells #[.slice An nn cn, .slice Af lf cf] 40)).alloc (.cells #[.slice Am nm cm, .slice Av nv cv, .int .i64 cl, .slice At nt ct] 34)) 34 #[.slice none 0 0, .slice none 0 0, .int .i64 0, .slice none 0 0]
  have hs1 : (((w.alloc (.cells #[.slice An nn cn, .slice Af lf cf] 40)).alloc (.cells #[.slice Am nm cm, .slice Av nv cv, .int .i64 cl, .slice At nt ct] 34)).alloc (.cells #[.slice none 0 0, .slice none 0 0, .int .i64 0, .slice none 0 0] 34)).heap.size = w.heap.size + 1 + 1 + 1 := by simp
  have HL := Lib.hid hrn.len2
  have HF := Lib.hid hr.1
  have HLT := Lib.hid ht.len2
  have HC := Lib.hid (validProcessS_any lo hi nn cn An ns lo1 hi1 lf cf Af fs _ (hrn.keep hb1 hB) (Nat.le_trans hB hb1.size) hnn (hr.keep hb1 hB1) (Nat.le_trans hB1 hb1.size) hn)
  have k0 := hp1.cell 0
  have k1 := hp1.cell 1
  simp only [List.getElem?_toArray, List.getElem?_cons_zero, List.getElem?_cons_succ] at k0 k1
  have HB := Lib.hid hb1
  have HP := Lib.hid hp1
  have HX := Lib.hid hx1
  have HY := Lib.hid hy1
  clear hb1 hp1 hx1 hy1
  go_enter Tryz.func32, Tryz.ntmps32
  go_wp2_with (fail)
  (with_reducible refine HC.out.mono ?_)
  clear HC k0 k1
  rintro e w1 ⟨rfl, hb2⟩
  have hs2 := hb2.size
  rw [hs1] at hs2
  have HB1 := Lib.hid (up HB.out hb2)
  have HP1 := Lib.hid (HP.out.below hb2 (by omega))
  have HX1 := Lib.hid (HX.out.below hb2 (by omega))
  have HY1 := Lib.hid (HY.out.below hb2 (by omega))
  clear hb2 HB HP HX HY hs1
  cases hV : vProc ns fs with
  | false =>
    have HNO := Lib.hid (show completeOf ns fs ms vs cl ts node l = none by unfold completeOf; rw [hV]; rfl)
    clear hV
    have hxx := HY1.out
    have r0 := hxx.cell 0
    have r1 := hxx.cell 1
    have r2 := hxx.cell 2
    have r3 := hxx.cell 3
    simp only [List.getElem?_toArray, List.getElem?_cons_zero, List.getElem?_cons_succ] at r0 r1 r2 r3
    have s0 := hxx.soft 0
    have s1 := hxx.soft 1
    have s2 := hxx.soft 2
    have s3 := hxx.soft 3
    obtain ⟨b0, b1, b2, b3, HBZ⟩ := ins_store hxx HB1.out (by omega) (.slice none 0 0) (.slice none 0 0) (.int .i64 0) (.slice none 0 0)
    clear hxx
    go_wp2
    refine bodyPost_ret (v := .tuple #[.agg #[.slice none 0 0, .slice none 0 0, .int .i64 0, .slice none 0 0], .bool false]) ?_ rfl ?_
    · generalize ((((w1.setCell ⟨w.heap.size + 1 + 1, 0, none⟩ (.slice none 0 0)).setCell ⟨w.heap.size + 1 + 1, 1, none⟩ (.slice none 0 0)).setCell ⟨w.heap.size + 1 + 1, 2, none⟩ (.int .i64 0)).setCell ⟨w.heap.size + 1 + 1, 3, none⟩ (.slice none 0 0)) = wz at b0 b1 b2 b3 ⊢
      simp [results, Tryz.results32, go_sem, b0, b1, b2, b3]
    · exact .inl ⟨HNO.out, rfl, HBZ.out.1⟩
  | true =>
  have HV := Lib.hid hV
  have k0 := HP1.out.cell 0
  have k1 := HP1.out.cell 1
  have x0 := HX1.out.cell 0
  have x1 := HX1.out.cell 1
  have x2 := HX1.out.cell 2
  have x3 := HX1.out.cell 3
  simp only [List.getElem?_toArray, List.getElem?_cons_zero, List.getElem?_cons_succ] at k0 k1 x0 x1 x2 x3
  have HC := Lib.hid (validInstanceS_any lo hi nn cn An ns lo1 hi1 lf cf Af fs lom him nm cm Am ms lov hiv nv cv Av vs cl lot hit nt ct At ts w1 (hrn.keep HB1.out hB) (Nat.le_trans hB HB1.out.size) hnn (hr.keep HB1.out hB1) (Nat.le_trans hB1 HB1.out.size) hn (hm.keep HB1.out hBm) (Nat.le_trans hBm HB1.out.size) hnm (hv.keep HB1.out hBv) (Nat.le_trans hBv HB1.out.size) hnv (ht.keep HB1.out hBt) (Nat.le_trans hBt HB1.out.size) hnt hV)
  clear hV
  go_wp2_with (fail)
  (with_reducible refine HC.out.mono ?_)
  clear HC k0 k1 x0 x1 x2 x3
  rintro e w2 ⟨rfl, hb2⟩
  have hs3 := hb2.size
  have HB2 := Lib.hid (up HB1.out hb2)
  have HP2 := Lib.hid (HP1.out.below hb2 (by omega))
  have HX2 := Lib.hid (HX1.out.below hb2 (by omega))
  have HY2 := Lib.hid (HY1.out.below hb2 (by omega))
  clear hb2 HB1 HP1 HX1 HY1
  cases hI : vInst ns fs ms vs cl ts with
  | false =>
    have HNO := Lib.hid (show completeOf ns fs ms vs cl ts node l = none by unfold completeOf; rw [hI]; simp)
    clear hI
    have hxx := HY2.out
    have r0 := hxx.cell 0
    have r1 := hxx.cell 1
    have r2 := hxx.cell 2
    have r3 := hxx.cell 3
    simp only [List.getElem?_toArray, List.getElem?_cons_zero, List.getElem?_cons_succ] at r0 r1 r2 r3
    have s0 := hxx.soft 0
    have s1 := hxx.soft 1
    have s2 := hxx.soft 2
    have s3 := hxx.soft 3
    obtain ⟨b0, b1, b2, b3, HBZ⟩ := ins_store hxx HB2.out (by omega) (.slice none 0 0) (.slice none 0 0) (.int .i64 0) (.slice none 0 0)
    clear hxx
    go_wp2
    refine bodyPost_ret (v := .tuple #[.agg #[.slice none 0 0, .slice none 0 0, .int .i64 0, .slice none 0 0], .bool false]) ?_ rfl ?_
    · generalize ((((w2.setCell ⟨w.heap.size + 1 + 1, 0, none⟩ (.slice none 0 0)).setCell ⟨w.heap.size + 1 + 1, 1, none⟩ (.slice none 0 0)).setCell ⟨w.heap.size + 1 + 1, 2, none⟩ (.int .i64 0)).setCell ⟨w.heap.size + 1 + 1, 3, none⟩ (.slice none 0 0)) = wz at b0 b1 b2 b3 ⊢
      simp [results, Tryz.results32, go_sem, b0, b1, b2, b3]
    · exact .inl ⟨HNO.out, rfl, HBZ.out.1⟩
  | true =>
  have hnn10 : nn ≤ 10 := by have := (vProc_len HV.out).2.1; have := HL.out; omega
  have HIT := Lib.hid (vInst_ts HV.out hI)
  have hnt30 : nt ≤ 30 := by have := HIT.out.2.1; have := HLT.out; omega
  have HM := Lib.hid (vInst_parts hI).1
  have HVV := Lib.hid (vInst_parts hI).2.1
  have hcl0 : 0 ≤ cl := (inR_iff.1 (vInst_parts hI).2.2.1).1
  have hcl9 : cl ≤ 9999 := (inR_iff.1 (vInst_parts hI).2.2.1).2
  have HI := Lib.hid hI
  clear hI
  have HVS := Lib.hid (validSetsS_any los his nl cs As l w2 (hl.keep HB2.out hBl) hnl)
  cases hS : vSets l with
  | false =>
    rw [hS] at HVS
    have HNO := Lib.hid (show completeOf ns fs ms vs cl ts node l = none by unfold completeOf; rw [hS]; simp)
    clear hS
    go_wp2_with (fail)
    (with_reducible refine HVS.out.mono ?_)
    clear HVS
    rintro e w' ⟨rfl, rfl⟩
    have hxx := HY2.out
    have r0 := hxx.cell 0
    have r1 := hxx.cell 1
    have r2 := hxx.cell 2
    have r3 := hxx.cell 3
    simp only [List.getElem?_toArray, List.getElem?_cons_zero, List.getElem?_cons_succ] at r0 r1 r2 r3
    have s0 := hxx.soft 0
    have s1 := hxx.soft 1
    have s2 := hxx.soft 2
    have s3 := hxx.soft 3
    obtain ⟨b0, b1, b2, b3, HBZ⟩ := ins_store hxx HB2.out (by omega) (.slice none 0 0) (.slice none 0 0) (.int .i64 0) (.slice none 0 0)
    clear hxx
    go_wp2
    refine bodyPost_ret (v := .tuple #[.agg #[.slice none 0 0, .slice none 0 0, .int .i64 0, .slice none 0 0], .bool false]) ?_ rfl ?_
    · generalize ((((w2.setCell ⟨w.heap.size + 1 + 1, 0, none⟩ (.slice none 0 0)).setCell ⟨w.heap.size + 1 + 1, 1, none⟩ (.slice none 0 0)).setCell ⟨w.heap.size + 1 + 1, 2, none⟩ (.int .i64 0)).setCell ⟨w.heap.size + 1 + 1, 3, none⟩ (.slice none 0 0)) = wz at b0 b1 b2 b3 ⊢
      simp [results, Tryz.results32, go_sem, b0, b1, b2, b3]
    · exact .inl ⟨HNO.out, rfl, HBZ.out.1⟩
  | true =>
  rw [hS] at HVS
  have HSS := Lib.hid hS
  clear hS
  have k0 := HP2.out.cell 0
  have k1 := HP2.out.cell 1
  have x0 := HX2.out.cell 0
  have x1 := HX2.out.cell 1
  have x2 := HX2.out.cell 2
  have x3 := HX2.out.cell 3
  simp only [List.getElem?_toArray, List.getElem?_cons_zero, List.getElem?_cons_succ] at k0 k1 x0 x1 x2 x3
  have HCO := Lib.hid (OpenTasksS_any lo hi nn cn An ns lo1 hi1 lf cf Af fs lom him nm cm Am ms lov hiv nv cv Av vs cl lot hit nt ct At ts w2 (hrn.keep HB2.out hB) (Nat.le_trans hB HB2.out.size) hnn (hr.keep HB2.out hB1) (Nat.le_trans hB1 HB2.out.size) hn (hm.keep HB2.out hBm) (Nat.le_trans hBm HB2.out.size) hnm (hv.keep HB2.out hBv) (Nat.le_trans hBv HB2.out.size) hnv (ht.keep HB2.out hBt) (Nat.le_trans hBt HB2.out.size) hnt)
  have htl : (tasksOf ns fs ms vs cl ts).length ≤ 1048576 := by
    unfold tasksOf
    split
    · have := tasksUp_le ns fs ms ns.length; have := HL.out; omega
    · simp
  go_wp2_with (fail)
  (with_reducible refine HVS.out.mono ?_)
  clear HVS
  rintro e w' ⟨rfl, rfl⟩
  go_wp2_with (fail)
  (with_reducible refine HCO.out.mono ?_)
  clear HCO k0 k1 x0 x1 x2 x3
  rintro e w3 ⟨A3, c3, rfl, _, hr3, _, hb3⟩
  have hs4 := hb3.size
  have HB3 := Lib.hid (up HB2.out hb3)
  have HP3 := Lib.hid (HP2.out.below hb3 (by omega))
  have HX3 := Lib.hid (HX2.out.below hb3 (by omega))
  have HY3 := Lib.hid (HY2.out.below hb3 (by omega))
  have HII := Lib.hid (isInS_any _ _ (tasksOf ns fs ms vs cl ts).length c3 A3 (tasksOf ns fs ms vs cl ts) node w3 hr3 htl)
  clear hb3 HB2 HP2 HX2 HY2 hr3
  cases hin : inL (tasksOf ns fs ms vs cl ts) node with
  | false =>
    rw [hin] at HII
    have HNO := Lib.hid (show completeOf ns fs ms vs cl ts node l = none by unfold completeOf; rw [hin]; simp)
    clear hin
    go_wp2_with (fail)
    (with_reducible refine HII.out.mono ?_)
    clear HII
    rintro e w' ⟨rfl, rfl⟩
    have hxx := HY3.out
    have r0 := hxx.cell 0
    have r1 := hxx.cell 1
    have r2 := hxx.cell 2
    have r3 := hxx.cell 3
    simp only [List.getElem?_toArray, List.getElem?_cons_zero, List.getElem?_cons_succ] at r0 r1 r2 r3
    have s0 := hxx.soft 0
    have s1 := hxx.soft 1
    have s2 := hxx.soft 2
    have s3 := hxx.soft 3
    obtain ⟨b0, b1, b2, b3, HBZ⟩ := ins_store hxx HB3.out (by omega) (.slice none 0 0) (.slice none 0 0) (.int .i64 0) (.slice none 0 0)
    clear hxx
    go_wp2
    refine bodyPost_ret (v := .tuple #[.agg #[.slice none 0 0, .slice none 0 0, .int .i64 0, .slice none 0 0], .bool false]) ?_ rfl ?_
    · generalize ((((w3.setCell ⟨w.heap.size + 1 + 1, 0, none⟩ (.slice none 0 0)).setCell ⟨w.heap.size + 1 + 1, 1, none⟩ (.slice none 0 0)).setCell ⟨w.heap.size + 1 + 1, 2, none⟩ (.int .i64 0)).setCell ⟨w.heap.size + 1 + 1, 3, none⟩ (.slice none 0 0)) = wz at b0 b1 b2 b3 ⊢
      simp [results, Tryz.results32, go_sem, b0, b1, b2, b3]
    · exact .inl ⟨HNO.out, rfl, HBZ.out.1⟩
  | true =>
  rw [hin] at HII
  have HGO := Lib.hid (show completeOf ns fs ms vs cl ts node l = goOnOf ns fs ms node (withOf vs l) cl ts by unfold completeOf; rw [HV.out, HI.out, HSS.out, hin]; rfl)
  obtain ⟨k, rfl, hk⟩ := tasks_at hin
  clear hin
  obtain ⟨z, zy, hkz⟩ : ∃ z zy, ns[k]? = some (z, zy) := ⟨ns[k].1, ns[k].2, List.getElem?_eq_getElem hk⟩
  have HKZ := Lib.hid hkz
  clear hkz
  have hk2 : k < nn := by have := HL.out; omega
  have hv4 : nv = 4 := by have := vVals_len HVV.out; have := hv.len1; omega
  have HV4 := Lib.hid hv4
  clear hv4
  go_wp2_with (fail)
  (with_reducible refine HII.out.mono ?_)
  clear HII
  rintro e w' ⟨rfl, rfl⟩
  have hv4 := HV4.out
  subst hv4
  have hpl := HP3.out.lt
  have hxl := HX3.out.lt
  have hyl := HY3.out.lt
  have HVW := Lib.hid (vVals_with HVV.out HSS.out)
  have HCW : Hid (∀ wx : World, Below w3.heap.size w3 wx → Calls Tryz.prog 95 #[.slice Av 4 cv, .slice As nl cs] wx fun e w' => ∃ v, e = .returned v ∧ w'.ownsRow wx.heap.size 3 1 v 4 (ivs (withOf vs l)) ∧ Below wx.heap.size wx w') := fun wx hbx => withSetsS_any lov hiv cv Av vs los his nl cs As l wx (hv.keep (up HB3.out hbx) hBv) (Nat.le_trans hBv (up HB3.out hbx).size) (hl.keep (up HB3.out hbx) hBl) (Nat.le_trans hBl (up HB3.out hbx).size) hnl HSS.out
  have HCG : Hid (∀ (wx : World) (l0 h0 c : Nat) (A : Option Addr), Below w3.heap.size w3 wx → Rd wx l0 h0 1 A 4 (ivs (withOf vs l)) → h0 ≤ wx.heap.size → Calls Tryz.prog 94 #[.agg #[.slice An nn cn, .slice Af lf cf], .agg #[.slice Am nm cm, .slice Av 4 cv, .int .i64 cl, .slice At nt ct], .int .i64 (k : Int), .slice A 4 c, .slice At nt ct] wx (InsPost (goOnOf ns fs ms (k : Int) (withOf vs l) cl ts) wx)) := fun wx l0 h0 c A hbx hrd hh => goOnS_any lo hi nn cn An ns lo1 hi1 lf cf Af fs lom him nm cm Am ms (.slice Av 4 cv) (.slice At nt ct) k z zy l0 h0 4 c A (withOf vs l) cl lot hit nt ct At ts wx (hrn.keep (up HB3.out hbx) hB) (Nat.le_trans hB (up HB3.out hbx).size) hnn (hr.keep (up HB3.out hbx) hB1) (Nat.le_trans hB1 (up HB3.out hbx).size) hn (hm.keep (up HB3.out hbx) hBm) (Nat.le_trans hBm (up HB3.out hbx).size) hrd hh (ht.keep (up HB3.out hbx) hBt) (Nat.le_trans hBt (up HB3.out hbx).size) (by omega) HV.out HM.out HVW.out hcl0 (by omega) hk2 HKZ.out
  have HSW : Hid (∀ wx : World, Below w3.heap.size w3 wx → wx.cell? ⟨w.heap.size, 0, none⟩ = some (.slice An nn cn) ∧ wx.cell? ⟨w.heap.size, 1, none⟩ = some (.slice Af lf cf) ∧ wx.cell? ⟨w.heap.size + 1, 0, none⟩ = some (.slice Am nm cm) ∧ wx.cell? ⟨w.heap.size + 1, 1, none⟩ = some (.slice Av 4 cv) ∧ wx.cell? ⟨w.heap.size + 1, 2, none⟩ = some (.int .i64 cl) ∧ wx.cell? ⟨w.heap.size + 1, 3, none⟩ = some (.slice At nt ct)) := fun wx hbx => ⟨(HP3.out.below hbx hpl).cell 0, (HP3.out.below hbx hpl).cell 1, (HX3.out.below hbx hxl).cell 0, (HX3.out.below hbx hxl).cell 1, (HX3.out.below hbx hxl).cell 2, (HX3.out.below hbx hxl).cell 3⟩
  have HYW : Hid (∀ wx : World, Below w3.heap.size w3 wx → Blk wx (w.heap.size + 1 + 1) 34 #[.slice none 0 0, .slice none 0 0, .int .i64 0, .slice none 0 0]) := fun wx hbx => HY3.out.below hbx hyl
  generalize withOf vs l = us at *
  cases hSO : goOnOf ns fs ms (k : Int) us cl ts with
  | none =>
    have HSO := Lib.hid hSO
    clear hSO
    go_wp2_with (fail)
    go_region_held3 (fun w' => w'.cell? ⟨w.heap.size, 0, none⟩ = some (.slice An nn cn) ∧ w'.cell? ⟨w.heap.size, 1, none⟩ = some (.slice Af lf cf) ∧ w'.cell? ⟨w.heap.size + 1, 0, none⟩ = some (.slice Am nm cm) ∧ w'.cell? ⟨w.heap.size + 1, 1, none⟩ = some (.slice Av 4 cv) ∧ w'.cell? ⟨w.heap.size + 1, 2, none⟩ = some (.int .i64 cl) ∧ w'.cell? ⟨w.heap.size + 1, 3, none⟩ = some (.slice At nt ct))
      (first | exact HSW.out _ (Below.refl _ _) | exact HSW.out _ (up_drew (Below.refl _ _)) | exact HSW.out _ HX6.out | exact HSW.out _ HX7.out | exact HSC.out)
      ((first
        | (go_at_call 95; (with_reducible refine (HCW.out _ (up_drew (Below.refl _ w3))).mono ?_); rintro e w6 ⟨v6, rfl, hown6, hb6⟩; obtain ⟨A6, c6, rfl, _, hr6, _⟩ := own_form hown6; have HX6 := Lib.hid (up (up_drew (Below.refl _ w3)) hb6))
        | (go_at_call 94; (with_reducible refine (HCG.out _ _ _ _ _ HX6.out hr6 (Nat.le_refl _)).mono ?_); intro e w7 hip; obtain ⟨rfl, hb7⟩ := hip.no HSO.out; have HX7 := Lib.hid (up HX6.out hb7); have HB7 := Lib.hid (up HB3.out HX7.out); have hyy := HYW.out _ HX7.out; have r0 := hyy.cell 0; have r1 := hyy.cell 1; have r2 := hyy.cell 2; have r3 := hyy.cell 3; simp only [List.getElem?_toArray, List.getElem?_cons_zero, List.getElem?_cons_succ] at r0 r1 r2 r3; have s0 := hyy.soft 0; have s1 := hyy.soft 1; have s2 := hyy.soft 2; have s3 := hyy.soft 3; obtain ⟨b0, b1, b2, b3, HBZ⟩ := ins_store hyy HB7.out (by omega) (.slice none 0 0) (.slice none 0 0) (.int .i64 0) (.slice none 0 0); have hpf := (((((HP3.out.below HX7.out hpl).far (p := ⟨w.heap.size + 1 + 1, 0, none⟩) (by show _ ≠ w.heap.size + 1 + 1; omega) (.slice none 0 0)).far (p := ⟨w.heap.size + 1 + 1, 1, none⟩) (by show _ ≠ w.heap.size + 1 + 1; omega) (.slice none 0 0)).far (p := ⟨w.heap.size + 1 + 1, 2, none⟩) (by show _ ≠ w.heap.size + 1 + 1; omega) (.int .i64 0)).far (p := ⟨w.heap.size + 1 + 1, 3, none⟩) (by show _ ≠ w.heap.size + 1 + 1; omega) (.slice none 0 0)); have hxf := (((((HX3.out.below HX7.out hxl).far (p := ⟨w.heap.size + 1 + 1, 0, none⟩) (by show _ ≠ w.heap.size + 1 + 1; omega) (.slice none 0 0)).far (p := ⟨w.heap.size + 1 + 1, 1, none⟩) (by show _ ≠ w.heap.size + 1 + 1; omega) (.slice none 0 0)).far (p := ⟨w.heap.size + 1 + 1, 2, none⟩) (by show _ ≠ w.heap.size + 1 + 1; omega) (.int .i64 0)).far (p := ⟨w.heap.size + 1 + 1, 3, none⟩) (by show _ ≠ w.heap.size + 1 + 1; omega) (.slice none 0 0)); have HSC := Lib.hid (show ((((w7.setCell ⟨w.heap.size + 1 + 1, 0, none⟩ (.slice none 0 0)).setCell ⟨w.heap.size + 1 + 1, 1, none⟩ (.slice none 0 0)).setCell ⟨w.heap.size + 1 + 1, 2, none⟩ (.int .i64 0)).setCell ⟨w.heap.size + 1 + 1, 3, none⟩ (.slice none 0 0)).cell? ⟨w.heap.size, 0, none⟩ = some (.slice An nn cn) ∧ ((((w7.setCell ⟨w.heap.size + 1 + 1, 0, none⟩ (.slice none 0 0)).setCell ⟨w.heap.size + 1 + 1, 1, none⟩ (.slice none 0 0)).setCell ⟨w.heap.size + 1 + 1, 2, none⟩ (.int .i64 0)).setCell ⟨w.heap.size + 1 + 1, 3, none⟩ (.slice none 0 0)).cell? ⟨w.heap.size, 1, none⟩ = some (.slice Af lf cf) ∧ ((((w7.setCell ⟨w.heap.size + 1 + 1, 0, none⟩ (.slice none 0 0)).setCell ⟨w.heap.size + 1 + 1, 1, none⟩ (.slice none 0 0)).setCell ⟨w.heap.size + 1 + 1, 2, none⟩ (.int .i64 0)).setCell ⟨w.heap.size + 1 + 1, 3, none⟩ (.slice none 0 0)).cell? ⟨w.heap.size + 1, 0, none⟩ = some (.slice Am nm cm) ∧ ((((w7.setCell ⟨w.heap.size + 1 + 1, 0, none⟩ (.slice none 0 0)).setCell ⟨w.heap.size + 1 + 1, 1, none⟩ (.slice none 0 0)).setCell ⟨w.heap.size + 1 + 1, 2, none⟩ (.int .i64 0)).setCell ⟨w.heap.size + 1 + 1, 3, none⟩ (.slice none 0 0)).cell? ⟨w.heap.size + 1, 1, none⟩ = some (.slice Av 4 cv) ∧ ((((w7.setCell ⟨w.heap.size + 1 + 1, 0, none⟩ (.slice none 0 0)).setCell ⟨w.heap.size + 1 + 1, 1, none⟩ (.slice none 0 0)).setCell ⟨w.heap.size + 1 + 1, 2, none⟩ (.int .i64 0)).setCell ⟨w.heap.size + 1 + 1, 3, none⟩ (.slice none 0 0)).cell? ⟨w.heap.size + 1, 2, none⟩ = some (.int .i64 cl) ∧ ((((w7.setCell ⟨w.heap.size + 1 + 1, 0, none⟩ (.slice none 0 0)).setCell ⟨w.heap.size + 1 + 1, 1, none⟩ (.slice none 0 0)).setCell ⟨w.heap.size + 1 + 1, 2, none⟩ (.int .i64 0)).setCell ⟨w.heap.size + 1 + 1, 3, none⟩ (.slice none 0 0)).cell? ⟨w.heap.size + 1, 3, none⟩ = some (.slice At nt ct) from ⟨hpf.cell 0, hpf.cell 1, hxf.cell 0, hxf.cell 1, hxf.cell 2, hxf.cell 3⟩); clear hpf hxf)))
    all_goals
      go_wp2
      refine bodyPost_ret (v := .tuple #[.agg #[.slice none 0 0, .slice none 0 0, .int .i64 0, .slice none 0 0], .bool false]) ?_ rfl ?_
      · generalize ((((w7.setCell ⟨w.heap.size + 1 + 1, 0, none⟩ (.slice none 0 0)).setCell ⟨w.heap.size + 1 + 1, 1, none⟩ (.slice none 0 0)).setCell ⟨w.heap.size + 1 + 1, 2, none⟩ (.int .i64 0)).setCell ⟨w.heap.size + 1 + 1, 3, none⟩ (.slice none 0 0)) = wz at b0 b1 b2 b3 ⊢
        simp [results, Tryz.results32, go_sem, b0, b1, b2, b3]
      · exact .inl ⟨HGO.out.trans HSO.out, rfl, HBZ.out.1⟩
  | some x =>
    have HSO := Lib.hid hSO
    clear hSO
    go_wp2_with (fail)
    go_region_held3 (fun w' => w'.cell? ⟨w.heap.size, 0, none⟩ = some (.slice An nn cn) ∧ w'.cell? ⟨w.heap.size, 1, none⟩ = some (.slice Af lf cf) ∧ w'.cell? ⟨w.heap.size + 1, 0, none⟩ = some (.slice Am nm cm) ∧ w'.cell? ⟨w.heap.size + 1, 1, none⟩ = some (.slice Av 4 cv) ∧ w'.cell? ⟨w.heap.size + 1, 2, none⟩ = some (.int .i64 cl) ∧ w'.cell? ⟨w.heap.size + 1, 3, none⟩ = some (.slice At nt ct))
      (first | exact HSW.out _ (Below.refl _ _) | exact HSW.out _ (up_drew (Below.refl _ _)) | exact HSW.out _ HX6.out | exact HSW.out _ HX7.out | exact HSC.out)
      ((first
        | (go_at_call 95; (with_reducible refine (HCW.out _ (up_drew (Below.refl _ w3))).mono ?_); rintro e w6 ⟨v6, rfl, hown6, hb6⟩; obtain ⟨A6, c6, rfl, _, hr6, _⟩ := own_form hown6; have HX6 := Lib.hid (up (up_drew (Below.refl _ w3)) hb6))
        | (go_at_call 94; (with_reducible refine (HCG.out _ _ _ _ _ HX6.out hr6 (Nat.le_refl _)).mono ?_); intro e w7 hip; obtain ⟨A0, c0, A1, c1, A2, c2, rfl, hr0, hr1, hr2, hcc, hb7⟩ := hip.yes HSO.out; have hs67 := hb7.size; have hs36 := HX6.out.size; have HX7 := Lib.hid (up HX6.out hb7); have HB7 := Lib.hid (up HB3.out HX7.out); have hyy := HYW.out _ HX7.out; have r0 := hyy.cell 0; have r1 := hyy.cell 1; have r2 := hyy.cell 2; have r3 := hyy.cell 3; simp only [List.getElem?_toArray, List.getElem?_cons_zero, List.getElem?_cons_succ] at r0 r1 r2 r3; have s0 := hyy.soft 0; have s1 := hyy.soft 1; have s2 := hyy.soft 2; have s3 := hyy.soft 3; obtain ⟨b0, b1, b2, b3, HBZ⟩ := ins_store hyy HB7.out (by omega) (.slice A0 x.ms.length c0) (.slice A1 x.vs.length c1) (.int .i64 x.cl) (.slice A2 x.ts.length c2); have hpf := (((((HP3.out.below HX7.out hpl).far (p := ⟨w.heap.size + 1 + 1, 0, none⟩) (by show _ ≠ w.heap.size + 1 + 1; omega) (.slice A0 x.ms.length c0)).far (p := ⟨w.heap.size + 1 + 1, 1, none⟩) (by show _ ≠ w.heap.size + 1 + 1; omega) (.slice A1 x.vs.length c1)).far (p := ⟨w.heap.size + 1 + 1, 2, none⟩) (by show _ ≠ w.heap.size + 1 + 1; omega) (.int .i64 x.cl)).far (p := ⟨w.heap.size + 1 + 1, 3, none⟩) (by show _ ≠ w.heap.size + 1 + 1; omega) (.slice A2 x.ts.length c2)); have hxf := (((((HX3.out.below HX7.out hxl).far (p := ⟨w.heap.size + 1 + 1, 0, none⟩) (by show _ ≠ w.heap.size + 1 + 1; omega) (.slice A0 x.ms.length c0)).far (p := ⟨w.heap.size + 1 + 1, 1, none⟩) (by show _ ≠ w.heap.size + 1 + 1; omega) (.slice A1 x.vs.length c1)).far (p := ⟨w.heap.size + 1 + 1, 2, none⟩) (by show _ ≠ w.heap.size + 1 + 1; omega) (.int .i64 x.cl)).far (p := ⟨w.heap.size + 1 + 1, 3, none⟩) (by show _ ≠ w.heap.size + 1 + 1; omega) (.slice A2 x.ts.length c2)); have HSC := Lib.hid (show ((((w7.setCell ⟨w.heap.size + 1 + 1, 0, none⟩ (.slice A0 x.ms.length c0)).setCell ⟨w.heap.size + 1 + 1, 1, none⟩ (.slice A1 x.vs.length c1)).setCell ⟨w.heap.size + 1 + 1, 2, none⟩ (.int .i64 x.cl)).setCell ⟨w.heap.size + 1 + 1, 3, none⟩ (.slice A2 x.ts.length c2)).cell? ⟨w.heap.size, 0, none⟩ = some (.slice An nn cn) ∧ ((((w7.setCell ⟨w.heap.size + 1 + 1, 0, none⟩ (.slice A0 x.ms.length c0)).setCell ⟨w.heap.size + 1 + 1, 1, none⟩ (.slice A1 x.vs.length c1)).setCell ⟨w.heap.size + 1 + 1, 2, none⟩ (.int .i64 x.cl)).setCell ⟨w.heap.size + 1 + 1, 3, none⟩ (.slice A2 x.ts.length c2)).cell? ⟨w.heap.size, 1, none⟩ = some (.slice Af lf cf) ∧ ((((w7.setCell ⟨w.heap.size + 1 + 1, 0, none⟩ (.slice A0 x.ms.length c0)).setCell ⟨w.heap.size + 1 + 1, 1, none⟩ (.slice A1 x.vs.length c1)).setCell ⟨w.heap.size + 1 + 1, 2, none⟩ (.int .i64 x.cl)).setCell ⟨w.heap.size + 1 + 1, 3, none⟩ (.slice A2 x.ts.length c2)).cell? ⟨w.heap.size + 1, 0, none⟩ = some (.slice Am nm cm) ∧ ((((w7.setCell ⟨w.heap.size + 1 + 1, 0, none⟩ (.slice A0 x.ms.length c0)).setCell ⟨w.heap.size + 1 + 1, 1, none⟩ (.slice A1 x.vs.length c1)).setCell ⟨w.heap.size + 1 + 1, 2, none⟩ (.int .i64 x.cl)).setCell ⟨w.heap.size + 1 + 1, 3, none⟩ (.slice A2 x.ts.length c2)).cell? ⟨w.heap.size + 1, 1, none⟩ = some (.slice Av 4 cv) ∧ ((((w7.setCell ⟨w.heap.size + 1 + 1, 0, none⟩ (.slice A0 x.ms.length c0)).setCell ⟨w.heap.size + 1 + 1, 1, none⟩ (.slice A1 x.vs.length c1)).setCell ⟨w.heap.size + 1 + 1, 2, none⟩ (.int .i64 x.cl)).setCell ⟨w.heap.size + 1 + 1, 3, none⟩ (.slice A2 x.ts.length c2)).cell? ⟨w.heap.size + 1, 2, none⟩ = some (.int .i64 cl) ∧ ((((w7.setCell ⟨w.heap.size + 1 + 1, 0, none⟩ (.slice A0 x.ms.length c0)).setCell ⟨w.heap.size + 1 + 1, 1, none⟩ (.slice A1 x.vs.length c1)).setCell ⟨w.heap.size + 1 + 1, 2, none⟩ (.int .i64 x.cl)).setCell ⟨w.heap.size + 1 + 1, 3, none⟩ (.slice A2 x.ts.length c2)).cell? ⟨w.heap.size + 1, 3, none⟩ = some (.slice At nt ct) from ⟨hpf.cell 0, hpf.cell 1, hxf.cell 0, hxf.cell 1, hxf.cell 2, hxf.cell 3⟩); clear hpf hxf)))
    all_goals
      have hsz := HBZ.out.2.1
      have HQ0 := Lib.hid (((((hr0.setCell (p := ⟨w.heap.size + 1 + 1, 0, none⟩) (.inl (by show w.heap.size + 1 + 1 < w6.heap.size; omega)) (.slice A0 x.ms.length c0)).setCell (p := ⟨w.heap.size + 1 + 1, 1, none⟩) (.inl (by show w.heap.size + 1 + 1 < w6.heap.size; omega)) (.slice A1 x.vs.length c1)).setCell (p := ⟨w.heap.size + 1 + 1, 2, none⟩) (.inl (by show w.heap.size + 1 + 1 < w6.heap.size; omega)) (.int .i64 x.cl)).setCell (p := ⟨w.heap.size + 1 + 1, 3, none⟩) (.inl (by show w.heap.size + 1 + 1 < w6.heap.size; omega)) (.slice A2 x.ts.length c2)).wide (show w.heap.size ≤ w6.heap.size by omega) (show w7.heap.size ≤ ((((w7.setCell ⟨w.heap.size + 1 + 1, 0, none⟩ (.slice A0 x.ms.length c0)).setCell ⟨w.heap.size + 1 + 1, 1, none⟩ (.slice A1 x.vs.length c1)).setCell ⟨w.heap.size + 1 + 1, 2, none⟩ (.int .i64 x.cl)).setCell ⟨w.heap.size + 1 + 1, 3, none⟩ (.slice A2 x.ts.length c2)).heap.size by rw [hsz]; omega))
      have HQ1 := Lib.hid (((((hr1.setCell (p := ⟨w.heap.size + 1 + 1, 0, none⟩) (.inl (by show w.heap.size + 1 + 1 < w6.heap.size; omega)) (.slice A0 x.ms.length c0)).setCell (p := ⟨w.heap.size + 1 + 1, 1, none⟩) (.inl (by show w.heap.size + 1 + 1 < w6.heap.size; omega)) (.slice A1 x.vs.length c1)).setCell (p := ⟨w.heap.size + 1 + 1, 2, none⟩) (.inl (by show w.heap.size + 1 + 1 < w6.heap.size; omega)) (.int .i64 x.cl)).setCell (p := ⟨w.heap.size + 1 + 1, 3, none⟩) (.inl (by show w.heap.size + 1 + 1 < w6.heap.size; omega)) (.slice A2 x.ts.length c2)).wide (show w.heap.size ≤ w6.heap.size by omega) (show w7.heap.size ≤ ((((w7.setCell ⟨w.heap.size + 1 + 1, 0, none⟩ (.slice A0 x.ms.length c0)).setCell ⟨w.heap.size + 1 + 1, 1, none⟩ (.slice A1 x.vs.length c1)).setCell ⟨w.heap.size + 1 + 1, 2, none⟩ (.int .i64 x.cl)).setCell ⟨w.heap.size + 1 + 1, 3, none⟩ (.slice A2 x.ts.length c2)).heap.size by rw [hsz]; omega))
      have HQ2 := Lib.hid (((((hr2.setCell (p := ⟨w.heap.size + 1 + 1, 0, none⟩) (.inl (by show w.heap.size + 1 + 1 < w6.heap.size; omega)) (.slice A0 x.ms.length c0)).setCell (p := ⟨w.heap.size + 1 + 1, 1, none⟩) (.inl (by show w.heap.size + 1 + 1 < w6.heap.size; omega)) (.slice A1 x.vs.length c1)).setCell (p := ⟨w.heap.size + 1 + 1, 2, none⟩) (.inl (by show w.heap.size + 1 + 1 < w6.heap.size; omega)) (.int .i64 x.cl)).setCell (p := ⟨w.heap.size + 1 + 1, 3, none⟩) (.inl (by show w.heap.size + 1 + 1 < w6.heap.size; omega)) (.slice A2 x.ts.length c2)).wide (show w.heap.size ≤ w6.heap.size by omega) (show w7.heap.size ≤ ((((w7.setCell ⟨w.heap.size + 1 + 1, 0, none⟩ (.slice A0 x.ms.length c0)).setCell ⟨w.heap.size + 1 + 1, 1, none⟩ (.slice A1 x.vs.length c1)).setCell ⟨w.heap.size + 1 + 1, 2, none⟩ (.int .i64 x.cl)).setCell ⟨w.heap.size + 1 + 1, 3, none⟩ (.slice A2 x.ts.length c2)).heap.size by rw [hsz]; omega))
      clear hsz
      go_wp2
      refine bodyPost_ret (v := .tuple #[.agg #[.slice A0 x.ms.length c0, .slice A1 x.vs.length c1, .int .i64 x.cl, .slice A2 x.ts.length c2], .bool true]) ?_ rfl ?_
      · generalize ((((w7.setCell ⟨w.heap.size + 1 + 1, 0, none⟩ (.slice A0 x.ms.length c0)).setCell ⟨w.heap.size + 1 + 1, 1, none⟩ (.slice A1 x.vs.length c1)).setCell ⟨w.heap.size + 1 + 1, 2, none⟩ (.int .i64 x.cl)).setCell ⟨w.heap.size + 1 + 1, 3, none⟩ (.slice A2 x.ts.length c2)) = wz at b0 b1 b2 b3 ⊢
        simp [results, Tryz.results32, go_sem, b0, b1, b2, b3]
      · exact .inr ⟨x, A0, c0, A1, c1, A2, c2, HGO.out.trans HSO.out, rfl, HQ0.out, HQ1.out, HQ2.out, hcc, HBZ.out.1⟩
set_option maxRecDepth 100000 in
set_option maxHeartbeats 1600000 in
theorem validSetsI_any (lo hi n c : Nat) (A : Option Addr) (l : List (Int × Int)) (w : World) (hr : Rd w lo hi 2 A n (pvs l)) (hB : hi ≤ w.heap.size) (hn : n ≤ 1048576) :
    Calls Tryz.prog 97 #[.slice A n c] w fun e w' => e = .returned (.bool (vSets l)) ∧ Below w.heap.size w w' := by
  have HL := Lib.hid hr.len2
  have HR := Lib.hid hr
  clear hr
  go_enter Tryz.func97, Tryz.ntmps97
  go_wp2
  go_loopw [7] (fun iv wr => ∃ (k : Nat), k ≤ n ∧ iv = .int .i64 k ∧ Hid ((l.take k).all okSet = true) ∧ Hid (Below w.heap.size w wr))
     (fun iv _ => n - (intOf iv).toNat)
  case atStart => exact ⟨0, by omega, rfl, rfl, Below.refl _ _⟩
  case round =>
    obtain ⟨k, hk, rfl, hS, HB⟩ := hrel
    by_cases hlt : k < n
    · obtain ⟨b, off, x, y, hA, hbB, _, hg, hc0, hc1⟩ := (HR.out.keep HB.out hB).pair hlt
      subst hA
      have hkn : (k : Int) < (n : Int) := by omega
      have hk0 : (0 : Int) ≤ (k : Int) := by omega
      have HG := Lib.hid hg
      have HB2 := Lib.hid (up HB.out (up_alloc (Below.refl _ wr) (.cells #[.int .i64 x, .int .i64 y] 145)))
      clear hg
      cases h0 : inR x 0 3 with
      | false =>
        have HX := Lib.hid (show vSets l = false from vSets_bad HG.out (by simp [okSet, h0]))
        go_wp2_with (go_at_call 155; refine (validVariable_any _ _).mono ?_; rintro e w' ⟨rfl, rfl⟩)
        go_ret
        exact ⟨ret_bool HX.out.symm, HB2.out⟩
      | true =>
      cases h1 : inR y (-9999) 9999 with
      | false =>
        have HX := Lib.hid (show vSets l = false from vSets_bad HG.out (by simp [okSet, h0, h1]))
        go_wp2_with (first | (go_at_call 155; refine (validVariable_any _ _).mono ?_; rintro e w' ⟨rfl, rfl⟩) | (go_at_call 150; refine (validValue_any _ _).mono ?_; rintro e w' ⟨rfl, rfl⟩))
        go_ret
        exact ⟨ret_bool HX.out.symm, HB2.out⟩
      | true =>
        have HS := Lib.hid (sets_step HG.out hS.out (show okSet (x, y) = true by simp [okSet, h0, h1]))
        go_wp2_with (first | (go_at_call 155; refine (validVariable_any _ _).mono ?_; rintro e w' ⟨rfl, rfl⟩) | (go_at_call 150; refine (validValue_any _ _).mono ?_; rintro e w' ⟨rfl, rfl⟩))
        go_roundw
        case rel => exact ⟨k + 1, by omega, by go_num, HS, HB2⟩
        case measure => simp [intOf]; omega
    · obtain rfl : n = k := by omega
      have hal : l.take n = l := List.take_of_length_le (by have := HL.out; omega)
      rw [hal] at hS
      by_cases hm : n ≤ 4
      · have HX2 := Lib.hid (show vSets l = true by rw [vSets, hS.out, HL.out, decide_eq_true hm]; rfl)
        go_wp2
        go_ret
        exact ⟨ret_bool (by rw [HX2.out]; exact decide_eq_true (by omega)), HB.out⟩
      · have HX2 := Lib.hid (show vSets l = false by rw [vSets, HL.out, decide_eq_false hm]; simp)
        go_wp2
        go_ret
        exact ⟨ret_bool (by rw [HX2.out]; exact decide_eq_false (by omega)), HB.out⟩
set_option maxRecDepth 100000 in
set_option maxHeartbeats 3200000 in
theorem withValues_any (An : Option Addr) (nn cn : Nat) (Af : Option Addr) (lf cf bo bi mb : Nat) (Av : Option Addr) (cv : Nat) (vs : List Int) (cl : Int) (At : Option Addr) (nt ct : Nat) (los his n c : Nat) (A : Option Addr) (l : List (Int × Int)) (w : World) (hv : Rd w 0 w.heap.size 1 Av 4 (ivs vs)) (hs : Rd w los his 2 A n (pvs l)) (hBs : his ≤ w.heap.size) (hn : n ≤ 1048576) (hS : vSets l = true) :
    Calls Tryz.prog 98 #[.agg #[.slice An nn cn, .slice Af lf cf, .map (some bo), .map (some bi), .map (some mb), .slice Av 4 cv, .int .i64 cl, .slice At nt ct], .slice A n c] w fun e w' => ∃ A9 c9, e = .returned (.agg #[.slice An nn cn, .slice Af lf cf, .map (some bo), .map (some bi), .map (some mb), .slice A9 4 c9, .int .i64 cl, .slice At nt ct]) ∧ Rd w' w.heap.size w'.heap.size 1 A9 4 (ivs (withOf vs l)) ∧ Below w.heap.size w w' := by
  have hb1 := up_alloc (up_alloc (Below.refl _ w) (.cells #[.slice An nn cn, .slice Af lf cf, .map (some bo), .map (some bi), .map (some mb), .slice Av 4 cv, .int .i64 cl, .slice At nt ct] 114)) (.cells #[.slice none 0 0, .slice none 0 0, .map none, .map none, .map none, .slice none 0 0, .int .i64 0, .slice none 0 0] 114)
  have HK1 := Lib.hid ((Blk.new w 114 #[.slice An nn cn, .slice Af lf cf, .map (some bo), .map (some bi), .map (some mb), .slice Av 4 cv, .int .i64 cl, .slice At nt ct]).alloc (.cells #[.slice none 0 0, .slice none 0 0, .map none, .map none, .map none, .slice none 0 0, .int .i64 0, .slice none 0 0] 114))
  have HZ1 := Lib.hid (show Blk ((w.alloc (.cells #[.slice An nn cn, .slice Af lf cf, .map (some bo), .map (some bi), .map (some mb), .slice Av 4 cv, .int .i64 cl, .slice At nt ct] 114)).alloc (.cells #[.slice none 0 0, .slice none 0 0, .map none, .map none, .map none, .slice none 0 0, .int .i64 0, .slice none 0 0] 114)) (w.heap.size + 1) 114 #[.slice none 0 0, .slice none 0 0, .map none, .map none, .map none, .slice none 0 0, .int .i64 0, .slice none 0 0] from Blk.newAtR (by simp))
  have hsz : ((w.alloc (.cells #[.slice An nn cn, .slice Af lf cf, .map (some bo), .map (some bi), .map (some mb), .slice Av 4 cv, .int .i64 cl, .slice At nt ct] 114)).alloc (.cells #[.slice none 0 0, .slice none 0 0, .map none, .map none, .map none, .slice none 0 0, .int .i64 0, .slice none 0 0] 114)).heap.size = w.heap.size + 1 + 1 := by simp
  have HL := Lib.hid hs.len2
  have HLV := Lib.hid hv.len1
  have HOK := Lib.hid (show ∀ s ∈ l, 0 ≤ s.1 ∧ s.1 ≤ 3 from fun s h => by
    have h1 : l.all okSet = true := by simp only [vSets, Bool.and_eq_true] at hS; exact hS.1
    have := List.all_eq_true.1 h1 s h
    simp only [okSet, Bool.and_eq_true, inR_iff] at this
    exact this.1)
  have HC := Lib.hid (cloneInts_any 0 _ 4 cv Av vs ((w.alloc (.cells #[.slice An nn cn, .slice Af lf cf, .map (some bo), .map (some bi), .map (some mb), .slice Av 4 cv, .int .i64 cl, .slice At nt ct] 114)).alloc (.cells #[.slice none 0 0, .slice none 0 0, .map none, .map none, .map none, .slice none 0 0, .int .i64 0, .slice none 0 0] 114)) (rd_up hv hb1) (Nat.le_refl _) (by omega))
  have HS0 := Lib.hid hs
  have HB1 := Lib.hid hb1
  clear hS hs hv hb1
  have k5 : ((w.alloc (.cells #[.slice An nn cn, .slice Af lf cf, .map (some bo), .map (some bi), .map (some mb), .slice Av 4 cv, .int .i64 cl, .slice At nt ct] 114)).alloc (.cells #[.slice none 0 0, .slice none 0 0, .map none, .map none, .map none, .slice none 0 0, .int .i64 0, .slice none 0 0] 114)).cell? ⟨w.heap.size, 5, none⟩ = some (.slice Av 4 cv) := HK1.out.cell 5
  go_enter Tryz.func98, Tryz.ntmps98
  go_wp2_with (fail)
  generalize (w.alloc (.cells #[.slice An nn cn, .slice Af lf cf, .map (some bo), .map (some bi), .map (some mb), .slice Av 4 cv, .int .i64 cl, .slice At nt ct] 114)).alloc (.cells #[.slice none 0 0, .slice none 0 0, .map none, .map none, .map none, .slice none 0 0, .int .i64 0, .slice none 0 0] 114) = w1 at *
  (with_reducible refine HC.out.mono ?_)
  clear HC k5
  rintro e w2 ⟨A9, c9, rfl, hown1, hb2⟩
  obtain ⟨g, cg, e9, hg1, hg2, _⟩ := own_first hown1 (by omega)
  injection e9 with e9 _ e10
  subst e9; subst e10
  have HO1 := Lib.hid (show w2.ownsRow w1.heap.size 3 1 (.slice (some ⟨g, 0, none⟩) 4 c9) 4 (ivs (withOf vs (l.take 0))) from hown1)
  have HB2 := Lib.hid (up HB1.out hb2)
  have HK2 := Lib.hid (HK1.out.below hb2 HK1.out.lt)
  have HZ2 := Lib.hid (HZ1.out.below hb2 HZ1.out.lt)
  clear hown1 hb2 HK1 HZ1 HB1
  go_wp2
  go_loopw [13] (fun iv wr => ∃ (k : Nat), k ≤ n ∧ iv = .int .i64 k ∧ Hid (wr.ownsRow w1.heap.size 3 1 (.slice (some ⟨g, 0, none⟩) 4 c9) 4 (ivs (withOf vs (l.take k)))) ∧ Hid (Below w.heap.size w wr) ∧ Hid (Blk wr w.heap.size 114 #[.slice An nn cn, .slice Af lf cf, .map (some bo), .map (some bi), .map (some mb), .slice Av 4 cv, .int .i64 cl, .slice At nt ct]) ∧ Hid (Blk wr (w.heap.size + 1) 114 #[.slice none 0 0, .slice none 0 0, .map none, .map none, .map none, .slice none 0 0, .int .i64 0, .slice none 0 0]))
     (fun iv _ => n - (intOf iv).toNat)
  case atStart => exact ⟨0, by omega, rfl, HO1, HB2, HK2, HZ2⟩
  case round =>
    clear HO1 HB2 HK2 HZ2
    obtain ⟨k, hk, rfl, HO, HB, HK, HZ⟩ := hrel
    by_cases hlt : k < n
    · obtain ⟨b, off, x, y, rfl, hbh, _, hg, hc0, hc1⟩ := (HS0.out.keep HB.out hBs).pair hlt
      have hxb := HOK.out _ (List.mem_of_getElem? hg)
      simp only at hxb
      obtain ⟨q, rfl⟩ : ∃ q : Nat, x = (q : Int) := ⟨x.toNat, by omega⟩
      have hkn : (k : Int) < (n : Int) := by omega
      have hk0 : (0 : Int) ≤ (k : Int) := by omega
      have hq4 : (q : Int) < 4 := by omega
      have hq0 : (0 : Int) ≤ (q : Int) := by omega
      have hba := up_alloc (Below.refl _ wr) (.cells #[.int .i64 (q : Int), .int .i64 y] 145)
      have hO2 := own_keep HO.out hba
      have HB2 := Lib.hid (up HB.out hba)
      have HK2 := Lib.hid (HK.out.below hba HK.out.lt)
      have HZ2 := Lib.hid (HZ.out.below hba HZ.out.lt)
      have hd0 := hO2.cellAt q (by omega)
      have hf0 := hO2.frozenAt q
      have hlen : (withOf vs (l.take k)).length = 4 := by rw [withOf_len, HLV.out]
      rw [ivs_at (by omega)] at hd0
      have hst := (hO2.stored q (.int .i64 y)).1
      rw [ivs_set] at hst
      have HST := Lib.hid (show ((wr.alloc (.cells #[.int .i64 (q : Int), .int .i64 y] 145)).setCell ⟨g, q, none⟩ (.int .i64 y)).ownsRow w1.heap.size 3 1 (.slice (some ⟨g, 0, none⟩) 4 c9) 4 (ivs (withOf vs (l.take (k + 1)))) by
        rw [take_snoc hg, withOf_snoc]
        exact hst)
      have HB5 := Lib.hid (HB2.out.setCell (p := ⟨g, q, none⟩) (by show w.heap.size ≤ g; omega) (.int .i64 y))
      have HK5 := Lib.hid (HK2.out.far (p := ⟨g, q, none⟩) (by show w.heap.size ≠ g; omega) (.int .i64 y))
      have HZ5 := Lib.hid (HZ2.out.far (p := ⟨g, q, none⟩) (by show w.heap.size + 1 ≠ g; omega) (.int .i64 y))
      clear hg hst hlen hxb HO hba hO2
      go_wp2
      go_roundw
      case rel => exact ⟨k + 1, by omega, by go_num, HST, HB5, HK5, HZ5⟩
      case measure => simp [intOf]; omega
    · obtain rfl : n = k := by omega
      have hal : l.take n = l := List.take_of_length_le (by have := HL.out; omega)
      rw [hal] at HO
      have f5 := HK.out.soft 5
      have e5 : wr.cell? ⟨w.heap.size, 5, none⟩ = some (.slice Av 4 cv) := HK.out.cell 5
      have HE5 := Lib.hid (show Blk (wr.setCell ⟨w.heap.size, 5, none⟩ (.slice (some ⟨g, 0, none⟩) 4 c9)) w.heap.size 114 #[.slice An nn cn, .slice Af lf cf, .map (some bo), .map (some bi), .map (some mb), .slice (some ⟨g, 0, none⟩) 4 c9, .int .i64 cl, .slice At nt ct] from HK.out.put 5 (.slice (some ⟨g, 0, none⟩) 4 c9))
      have HK5 := Lib.hid (show Blk (wr.setCell ⟨w.heap.size, 5, none⟩ (.slice (some ⟨g, 0, none⟩) 4 c9)) (w.heap.size + 1) 114 #[.slice none 0 0, .slice none 0 0, .map none, .map none, .map none, .slice none 0 0, .int .i64 0, .slice none 0 0] from HZ.out.far (p := ⟨w.heap.size, 5, none⟩) (by show w.heap.size + 1 ≠ w.heap.size; omega) _)
      have HB4 := Lib.hid (show Below w.heap.size w (wr.setCell ⟨w.heap.size, 5, none⟩ (.slice (some ⟨g, 0, none⟩) 4 c9)) from HB.out.setCell (p := ⟨w.heap.size, 5, none⟩) (Nat.le_refl _) (.slice (some ⟨g, 0, none⟩) 4 c9))
      have g0 : (wr.setCell ⟨w.heap.size, 5, none⟩ (.slice (some ⟨g, 0, none⟩) 4 c9)).cell? ⟨w.heap.size, 0, none⟩ = some (.slice An nn cn) := HE5.out.cell 0
      have g1 : (wr.setCell ⟨w.heap.size, 5, none⟩ (.slice (some ⟨g, 0, none⟩) 4 c9)).cell? ⟨w.heap.size, 1, none⟩ = some (.slice Af lf cf) := HE5.out.cell 1
      have g2 : (wr.setCell ⟨w.heap.size, 5, none⟩ (.slice (some ⟨g, 0, none⟩) 4 c9)).cell? ⟨w.heap.size, 2, none⟩ = some (.map (some bo)) := HE5.out.cell 2
      have g3 : (wr.setCell ⟨w.heap.size, 5, none⟩ (.slice (some ⟨g, 0, none⟩) 4 c9)).cell? ⟨w.heap.size, 3, none⟩ = some (.map (some bi)) := HE5.out.cell 3
      have g4 : (wr.setCell ⟨w.heap.size, 5, none⟩ (.slice (some ⟨g, 0, none⟩) 4 c9)).cell? ⟨w.heap.size, 4, none⟩ = some (.map (some mb)) := HE5.out.cell 4
      have g5 : (wr.setCell ⟨w.heap.size, 5, none⟩ (.slice (some ⟨g, 0, none⟩) 4 c9)).cell? ⟨w.heap.size, 5, none⟩ = some (.slice (some ⟨g, 0, none⟩) 4 c9) := HE5.out.cell 5
      have g6 : (wr.setCell ⟨w.heap.size, 5, none⟩ (.slice (some ⟨g, 0, none⟩) 4 c9)).cell? ⟨w.heap.size, 6, none⟩ = some (.int .i64 cl) := HE5.out.cell 6
      have g7 : (wr.setCell ⟨w.heap.size, 5, none⟩ (.slice (some ⟨g, 0, none⟩) 4 c9)).cell? ⟨w.heap.size, 7, none⟩ = some (.slice At nt ct) := HE5.out.cell 7
      have q0 : (wr.setCell ⟨w.heap.size, 5, none⟩ (.slice (some ⟨g, 0, none⟩) 4 c9)).cell? ⟨w.heap.size + 1, 0, none⟩ = some (.slice none 0 0) := HK5.out.cell 0
      have q1 : (wr.setCell ⟨w.heap.size, 5, none⟩ (.slice (some ⟨g, 0, none⟩) 4 c9)).cell? ⟨w.heap.size + 1, 1, none⟩ = some (.slice none 0 0) := HK5.out.cell 1
      have q2 : (wr.setCell ⟨w.heap.size, 5, none⟩ (.slice (some ⟨g, 0, none⟩) 4 c9)).cell? ⟨w.heap.size + 1, 2, none⟩ = some (.map none) := HK5.out.cell 2
      have q3 : (wr.setCell ⟨w.heap.size, 5, none⟩ (.slice (some ⟨g, 0, none⟩) 4 c9)).cell? ⟨w.heap.size + 1, 3, none⟩ = some (.map none) := HK5.out.cell 3
      have q4 : (wr.setCell ⟨w.heap.size, 5, none⟩ (.slice (some ⟨g, 0, none⟩) 4 c9)).cell? ⟨w.heap.size + 1, 4, none⟩ = some (.map none) := HK5.out.cell 4
      have q5 : (wr.setCell ⟨w.heap.size, 5, none⟩ (.slice (some ⟨g, 0, none⟩) 4 c9)).cell? ⟨w.heap.size + 1, 5, none⟩ = some (.slice none 0 0) := HK5.out.cell 5
      have q6 : (wr.setCell ⟨w.heap.size, 5, none⟩ (.slice (some ⟨g, 0, none⟩) 4 c9)).cell? ⟨w.heap.size + 1, 6, none⟩ = some (.int .i64 0) := HK5.out.cell 6
      have q7 : (wr.setCell ⟨w.heap.size, 5, none⟩ (.slice (some ⟨g, 0, none⟩) 4 c9)).cell? ⟨w.heap.size + 1, 7, none⟩ = some (.slice none 0 0) := HK5.out.cell 7
      have fq0 := HK5.out.soft 0
      have fq1 := HK5.out.soft 1
      have fq2 := HK5.out.soft 2
      have fq3 := HK5.out.soft 3
      have fq4 := HK5.out.soft 4
      have fq5 := HK5.out.soft 5
      have fq6 := HK5.out.soft 6
      have fq7 := HK5.out.soft 7
      have hzz := ((((((((HK5.out.put 0 (.slice An nn cn)).put 1 (.slice Af lf cf)).put 2 (.map (some bo))).put 3 (.map (some bi))).put 4 (.map (some mb))).put 5 (.slice (some ⟨g, 0, none⟩) 4 c9)).put 6 (.int .i64 cl)).put 7 (.slice At nt ct))
      have z0 := hzz.cell 0
      have z1 := hzz.cell 1
      have z2 := hzz.cell 2
      have z3 := hzz.cell 3
      have z4 := hzz.cell 4
      have z5 := hzz.cell 5
      have z6 := hzz.cell 6
      have z7 := hzz.cell 7
      simp at z0 z1 z2 z3 z4 z5 z6 z7
      have HBZ := Lib.hid ((((((((HB4.out.setCell (p := ⟨w.heap.size + 1, 0, none⟩) (by show w.heap.size ≤ w.heap.size + 1; omega) (.slice An nn cn)).setCell (p := ⟨w.heap.size + 1, 1, none⟩) (by show w.heap.size ≤ w.heap.size + 1; omega) (.slice Af lf cf)).setCell (p := ⟨w.heap.size + 1, 2, none⟩) (by show w.heap.size ≤ w.heap.size + 1; omega) (.map (some bo))).setCell (p := ⟨w.heap.size + 1, 3, none⟩) (by show w.heap.size ≤ w.heap.size + 1; omega) (.map (some bi))).setCell (p := ⟨w.heap.size + 1, 4, none⟩) (by show w.heap.size ≤ w.heap.size + 1; omega) (.map (some mb))).setCell (p := ⟨w.heap.size + 1, 5, none⟩) (by show w.heap.size ≤ w.heap.size + 1; omega) (.slice (some ⟨g, 0, none⟩) 4 c9)).setCell (p := ⟨w.heap.size + 1, 6, none⟩) (by show w.heap.size ≤ w.heap.size + 1; omega) (.int .i64 cl)).setCell (p := ⟨w.heap.size + 1, 7, none⟩) (by show w.heap.size ≤ w.heap.size + 1; omega) (.slice At nt ct))
      have hzs : (((((((((wr.setCell ⟨w.heap.size, 5, none⟩ (.slice (some ⟨g, 0, none⟩) 4 c9)).setCell ⟨w.heap.size + 1, 0, none⟩ (.slice An nn cn)).setCell ⟨w.heap.size + 1, 1, none⟩ (.slice Af lf cf)).setCell ⟨w.heap.size + 1, 2, none⟩ (.map (some bo))).setCell ⟨w.heap.size + 1, 3, none⟩ (.map (some bi))).setCell ⟨w.heap.size + 1, 4, none⟩ (.map (some mb))).setCell ⟨w.heap.size + 1, 5, none⟩ (.slice (some ⟨g, 0, none⟩) 4 c9)).setCell ⟨w.heap.size + 1, 6, none⟩ (.int .i64 cl)).setCell ⟨w.heap.size + 1, 7, none⟩ (.slice At nt ct)).heap.size = wr.heap.size := by simp
      have HRZ := Lib.hid (show Rd (((((((((wr.setCell ⟨w.heap.size, 5, none⟩ (.slice (some ⟨g, 0, none⟩) 4 c9)).setCell ⟨w.heap.size + 1, 0, none⟩ (.slice An nn cn)).setCell ⟨w.heap.size + 1, 1, none⟩ (.slice Af lf cf)).setCell ⟨w.heap.size + 1, 2, none⟩ (.map (some bo))).setCell ⟨w.heap.size + 1, 3, none⟩ (.map (some bi))).setCell ⟨w.heap.size + 1, 4, none⟩ (.map (some mb))).setCell ⟨w.heap.size + 1, 5, none⟩ (.slice (some ⟨g, 0, none⟩) 4 c9)).setCell ⟨w.heap.size + 1, 6, none⟩ (.int .i64 cl)).setCell ⟨w.heap.size + 1, 7, none⟩ (.slice At nt ct)) w.heap.size (((((((((wr.setCell ⟨w.heap.size, 5, none⟩ (.slice (some ⟨g, 0, none⟩) 4 c9)).setCell ⟨w.heap.size + 1, 0, none⟩ (.slice An nn cn)).setCell ⟨w.heap.size + 1, 1, none⟩ (.slice Af lf cf)).setCell ⟨w.heap.size + 1, 2, none⟩ (.map (some bo))).setCell ⟨w.heap.size + 1, 3, none⟩ (.map (some bi))).setCell ⟨w.heap.size + 1, 4, none⟩ (.map (some mb))).setCell ⟨w.heap.size + 1, 5, none⟩ (.slice (some ⟨g, 0, none⟩) 4 c9)).setCell ⟨w.heap.size + 1, 6, none⟩ (.int .i64 cl)).setCell ⟨w.heap.size + 1, 7, none⟩ (.slice At nt ct)).heap.size 1 (some ⟨g, 0, none⟩) 4 (ivs (withOf vs l)) from Rd.wide (Rd.setCell (Rd.setCell (Rd.setCell (Rd.setCell (Rd.setCell (Rd.setCell (Rd.setCell (Rd.setCell ((Rd.of_own HO.out).setCell (p := ⟨w.heap.size, 5, none⟩) (.inl (by show w.heap.size < w1.heap.size; omega)) (.slice (some ⟨g, 0, none⟩) 4 c9)) (p := ⟨w.heap.size + 1, 0, none⟩) (.inl (by show w.heap.size + 1 < w1.heap.size; omega)) (.slice An nn cn)) (p := ⟨w.heap.size + 1, 1, none⟩) (.inl (by show w.heap.size + 1 < w1.heap.size; omega)) (.slice Af lf cf)) (p := ⟨w.heap.size + 1, 2, none⟩) (.inl (by show w.heap.size + 1 < w1.heap.size; omega)) (.map (some bo))) (p := ⟨w.heap.size + 1, 3, none⟩) (.inl (by show w.heap.size + 1 < w1.heap.size; omega)) (.map (some bi))) (p := ⟨w.heap.size + 1, 4, none⟩) (.inl (by show w.heap.size + 1 < w1.heap.size; omega)) (.map (some mb))) (p := ⟨w.heap.size + 1, 5, none⟩) (.inl (by show w.heap.size + 1 < w1.heap.size; omega)) (.slice (some ⟨g, 0, none⟩) 4 c9)) (p := ⟨w.heap.size + 1, 6, none⟩) (.inl (by show w.heap.size + 1 < w1.heap.size; omega)) (.int .i64 cl)) (p := ⟨w.heap.size + 1, 7, none⟩) (.inl (by show w.heap.size + 1 < w1.heap.size; omega)) (.slice At nt ct)) (by omega) (Nat.le_of_eq hzs.symm))
      clear hzz hzs
      go_wp2
      exact bodyPost_ret (v := .agg #[.slice An nn cn, .slice Af lf cf, .map (some bo), .map (some bi), .map (some mb), .slice (some ⟨g, 0, none⟩) 4 c9, .int .i64 cl, .slice At nt ct]) (by simp [results, Tryz.results98, go_sem, z0, z1, z2, z3, z4, z5, z6, z7]) rfl ⟨some ⟨g, 0, none⟩, c9, rfl, HRZ.out, HBZ.out⟩
theorem task_in {ns : List (Int × Int)} {fs : List Flw} {ms vs : List Int} {cl : Int} {ts : List Tm} {node : Int} (hV : vProc ns fs = true) (hI : vInst ns fs ms vs cl ts = true) (hM : vMarks fs ms = true) : inL (tasksOf ns fs ms vs cl ts) node = (inR node 0 ((ns.length : Int) - 1) && readyB (kindAt ns node.toNat) ms (flOf fs false node) && (kindAt ns node.toNat == 2)) := by
  rw [Bool.eq_iff_iff]
  have e : tasksOf ns fs ms vs cl ts = tasksUp ns fs ms ns.length := by unfold tasksOf; rw [hV, hI]; rfl
  rw [e]
  constructor
  · intro h
    have h : node ∈ tasksUp ns fs ms ns.length := by simpa [inL] using h
    simp only [tasksUp, List.mem_map, List.mem_filter, List.mem_range] at h
    obtain ⟨k, ⟨hk, ht⟩, rfl⟩ := h
    rw [task_is hV hM hk] at ht
    rw [Bool.and_assoc, Bool.and_eq_true, Int.toNat_natCast]
    exact ⟨inR_iff.2 (by omega), ht⟩
  · intro h
    rw [Bool.and_assoc, Bool.and_eq_true, inR_iff] at h
    obtain ⟨k, rfl⟩ : ∃ k : Nat, node = (k : Int) := ⟨node.toNat, by omega⟩
    rw [Int.toNat_natCast] at h
    have hk : k < ns.length := by omega
    rw [← task_is hV hM hk] at h
    have : (k : Int) ∈ tasksUp ns fs ms ns.length := by
      simp only [tasksUp, List.mem_map, List.mem_filter, List.mem_range]
      exact ⟨k, ⟨hk, h.2⟩, rfl⟩
    simpa [inL] using this
set_option maxRecDepth 100000 in
set_option maxHeartbeats 6400000 in
theorem CompleteTaskI_any (lo hi nn cn : Nat) (An : Option Addr) (ns : List (Int × Int)) (lo1 hi1 lf cf : Nat) (Af : Option Addr) (fs : List Flw) (lom him nm cm : Nat) (Am : Option Addr) (ms : List Int) (lov hiv nv cv : Nat) (Av : Option Addr) (vs : List Int) (cl : Int) (lot hit nt ct : Nat) (At : Option Addr) (ts : List Tm) (node : Int) (los his nl cs : Nat) (As : Option Addr) (l : List (Int × Int)) (w : World) (hrn : Rd w lo hi 2 An nn (pvs ns)) (hB : hi ≤ w.heap.size) (hnn : nn ≤ 1048576) (hr : Fls w lo1 hi1 Af lf fs) (hB1 : hi1 ≤ w.heap.size) (hn : lf ≤ 1048576) (hm : Rd w lom him 1 Am nm (ivs ms)) (hBm : him ≤ w.heap.size) (hnm : nm ≤ 1048576) (hv : Rd w lov hiv 1 Av nv (ivs vs)) (hBv : hiv ≤ w.heap.size) (hnv : nv ≤ 1048576) (ht : Rd w lot hit 2 At nt (pvs ts)) (hBt : hit ≤ w.heap.size) (hnt : nt ≤ 1048576) (hl : Rd w los his 2 As nl (pvs l)) (hBl : his ≤ w.heap.size) (hnl : nl ≤ 1048576) :
    Calls Tryz.prog 34 #[.agg #[.slice An nn cn, .slice Af lf cf], .agg #[.slice Am nm cm, .slice Av nv cv, .int .i64 cl, .slice At nt ct], .int .i64 node, .slice As nl cs] w (InsPostX (completeOf ns fs ms vs cl ts node l) w) := by
  have hb1 := up_alloc (up_alloc (up_alloc (Below.refl _ w) (.cells #[.slice An nn cn, .slice Af lf cf] 40)) (.cells #[.slice Am nm cm, .slice Av nv cv, .int .i64 cl, .slice At nt ct] 34)) (.cells #[.slice none 0 0, .slice none 0 0, .int .i64 0, .slice none 0 0] 34)
  have HP := Lib.hid (((Blk.new w 40 #[.slice An nn cn, .slice Af lf cf]).alloc (.cells #[.slice Am nm cm, .slice Av nv cv, .int .i64 cl, .slice At nt ct] 34)).alloc (.cells #[.slice none 0 0, .slice none 0 0, .int .i64 0, .slice none 0 0] 34))
  have HX := Lib.hid (show Blk (((w.alloc (.cells #[.slice An nn cn, .slice Af lf cf] 40)).alloc (.cells #[.slice Am nm cm, .slice Av nv cv, .int .i64 cl, .slice At nt ct] 34)).alloc (.cells #[.slice none 0 0, .slice none 0 0, .int .i64 0, .slice none 0 0] 34)) (w.heap.size + 1) 34 #[.slice Am nm cm, .slice Av nv cv, .int .i64 cl, .slice At nt ct] from (Blk.newAtR (by simp)).alloc _)
  have HY := Lib.hid (show Blk (((w.alloc (.cells #[.slice An nn cn, .slice Af lf cf] 40)).alloc (.cells #[.slice Am nm cm, .slice Av nv cv, .int .i64 cl, .slice At nt ct] 34)).alloc (.cells #[.slice none 0 0, .slice none 0 0, .int .i64 0, .slice none 0 0] 34)) (w.heap.size + 1 + 1) 34 #[.slice none 0 0, .slice none 0 0, .int .i64 0, .slice none 0 0] from Blk.newAtR (by simp))
  have hs1 : (((w.alloc (.cells #[.slice An nn cn, .slice Af lf cf] 40)).alloc (.cells #[.slice Am nm cm, .slice Av nv cv, .int .i64 cl, .slice At nt ct] 34)).alloc (.cells #[.slice none 0 0, .slice none 0 0, .int .i64 0, .slice none 0 0] 34)).heap.size = w.heap.size + 1 + 1 + 1 := by simp
  have HB := Lib.hid hb1
  have HNL := Lib.hid hrn.len2
  have HLT := Lib.hid ht.len2
  have HCR := Lib.hid (runningOf_any lo hi nn cn An ns lo1 hi1 lf cf Af fs lom him nm cm Am ms lov hiv nv cv Av vs cl lot hit nt ct At ts _ (hrn.keep hb1 hB) (Nat.le_trans hB hb1.size) hnn (hr.keep hb1 hB1) (Nat.le_trans hB1 hb1.size) hn (hm.keep hb1 hBm) (Nat.le_trans hBm hb1.size) hnm (hv.keep hb1 hBv) (Nat.le_trans hBv hb1.size) hnv (ht.keep hb1 hBt) (Nat.le_trans hBt hb1.size) hnt)
  clear hb1
  have p0 : (((w.alloc (.cells #[.slice An nn cn, .slice Af lf cf] 40)).alloc (.cells #[.slice Am nm cm, .slice Av nv cv, .int .i64 cl, .slice At nt ct] 34)).alloc (.cells #[.slice none 0 0, .slice none 0 0, .int .i64 0, .slice none 0 0] 34)).cell? ⟨w.heap.size, 0, none⟩ = some (.slice An nn cn) := HP.out.cell 0
  have p1 : (((w.alloc (.cells #[.slice An nn cn, .slice Af lf cf] 40)).alloc (.cells #[.slice Am nm cm, .slice Av nv cv, .int .i64 cl, .slice At nt ct] 34)).alloc (.cells #[.slice none 0 0, .slice none 0 0, .int .i64 0, .slice none 0 0] 34)).cell? ⟨w.heap.size, 1, none⟩ = some (.slice Af lf cf) := HP.out.cell 1
  have x0 : (((w.alloc (.cells #[.slice An nn cn, .slice Af lf cf] 40)).alloc (.cells #[.slice Am nm cm, .slice Av nv cv, .int .i64 cl, .slice At nt ct] 34)).alloc (.cells #[.slice none 0 0, .slice none 0 0, .int .i64 0, .slice none 0 0] 34)).cell? ⟨w.heap.size + 1, 0, none⟩ = some (.slice Am nm cm) := HX.out.cell 0
  have x1 : (((w.alloc (.cells #[.slice An nn cn, .slice Af lf cf] 40)).alloc (.cells #[.slice Am nm cm, .slice Av nv cv, .int .i64 cl, .slice At nt ct] 34)).alloc (.cells #[.slice none 0 0, .slice none 0 0, .int .i64 0, .slice none 0 0] 34)).cell? ⟨w.heap.size + 1, 1, none⟩ = some (.slice Av nv cv) := HX.out.cell 1
  have x2 : (((w.alloc (.cells #[.slice An nn cn, .slice Af lf cf] 40)).alloc (.cells #[.slice Am nm cm, .slice Av nv cv, .int .i64 cl, .slice At nt ct] 34)).alloc (.cells #[.slice none 0 0, .slice none 0 0, .int .i64 0, .slice none 0 0] 34)).cell? ⟨w.heap.size + 1, 2, none⟩ = some (.int .i64 cl) := HX.out.cell 2
  have x3 : (((w.alloc (.cells #[.slice An nn cn, .slice Af lf cf] 40)).alloc (.cells #[.slice Am nm cm, .slice Av nv cv, .int .i64 cl, .slice At nt ct] 34)).alloc (.cells #[.slice none 0 0, .slice none 0 0, .int .i64 0, .slice none 0 0] 34)).cell? ⟨w.heap.size + 1, 3, none⟩ = some (.slice At nt ct) := HX.out.cell 3
  go_enter Tryz.func34, Tryz.ntmps34
  go_wp2_with (fail)
  generalize ((w.alloc (.cells #[.slice An nn cn, .slice Af lf cf] 40)).alloc (.cells #[.slice Am nm cm, .slice Av nv cv, .int .i64 cl, .slice At nt ct] 34)).alloc (.cells #[.slice none 0 0, .slice none 0 0, .int .i64 0, .slice none 0 0] 34) = w2 at *
  (with_reducible refine HCR.out.mono ?_)
  clear HCR p0 p1 x0 x1 x2 x3 HX
  rintro e w3 (⟨hno, rfl, hb3⟩ | ⟨hV, hI, bo, bi, mb, m, rfl, hN, hmb, hb3⟩)
  · have HNO := Lib.hid (show completeOf ns fs ms vs cl ts node l = none by unfold completeOf; simp [hno])
    have HB3 := Lib.hid (up_alloc (up HB.out hb3) (.cells #[.slice none 0 0, .slice none 0 0, .map none, .map none, .map none, .slice none 0 0, .int .i64 0, .slice none 0 0] 114))
    have HY3 := Lib.hid ((HY.out.below hb3 HY.out.lt).alloc (.cells #[.slice none 0 0, .slice none 0 0, .map none, .map none, .map none, .slice none 0 0, .int .i64 0, .slice none 0 0] 114))
    have hs3 := hb3.size
    clear hno hb3
    have hyy := HY3.out
    have r0 := hyy.cell 0
    have r1 := hyy.cell 1
    have r2 := hyy.cell 2
    have r3 := hyy.cell 3
    simp only [List.getElem?_toArray, List.getElem?_cons_zero, List.getElem?_cons_succ] at r0 r1 r2 r3
    have s0 := hyy.soft 0
    have s1 := hyy.soft 1
    have s2 := hyy.soft 2
    have s3 := hyy.soft 3
    obtain ⟨b0, b1, b2, b3, HBZ⟩ := ins_store hyy HB3.out (by omega) (.slice none 0 0) (.slice none 0 0) (.int .i64 0) (.slice none 0 0)
    clear hyy
    go_wp2
    refine bodyPost_ret (v := .tuple #[.agg #[.slice none 0 0, .slice none 0 0, .int .i64 0, .slice none 0 0], .bool false]) ?_ rfl ?_
    · generalize (((((w3.alloc (.cells #[.slice none 0 0, .slice none 0 0, .map none, .map none, .map none, .slice none 0 0, .int .i64 0, .slice none 0 0] 114)).setCell ⟨w.heap.size + 1 + 1, 0, none⟩ (.slice none 0 0)).setCell ⟨w.heap.size + 1 + 1, 1, none⟩ (.slice none 0 0)).setCell ⟨w.heap.size + 1 + 1, 2, none⟩ (.int .i64 0)).setCell ⟨w.heap.size + 1 + 1, 3, none⟩ (.slice none 0 0)) = wz at b0 b1 b2 b3 ⊢
      simp [results, Tryz.results34, go_sem, b0, b1, b2, b3]
    · exact .inl ⟨HNO.out, rfl, HBZ.out.1⟩
  have hb4 := up_alloc (Below.refl _ w3) (.cells #[.slice An nn cn, .slice Af lf cf, .map (some bo), .map (some bi), .map (some mb), .slice Av nv cv, .int .i64 cl, .slice At nt ct] 114)
  have hs3 := hb3.size
  have HB4 := Lib.hid (up (up HB.out hb3) hb4)
  have HP4 := Lib.hid ((HP.out.below hb3 HP.out.lt).alloc (.cells #[.slice An nn cn, .slice Af lf cf, .map (some bo), .map (some bi), .map (some mb), .slice Av nv cv, .int .i64 cl, .slice At nt ct] 114))
  have HY4 := Lib.hid ((HY.out.below hb3 HY.out.lt).alloc (.cells #[.slice An nn cn, .slice Af lf cf, .map (some bo), .map (some bi), .map (some mb), .slice Av nv cv, .int .i64 cl, .slice At nt ct] 114))
  have HR4 := Lib.hid (Blk.new w3 114 #[.slice An nn cn, .slice Af lf cf, .map (some bo), .map (some bi), .map (some mb), .slice Av nv cv, .int .i64 cl, .slice At nt ct])
  have HN4 := Lib.hid (hN.keep hb4)
  have HV := Lib.hid hV
  have HI := Lib.hid hI
  have hparts := vInst_parts hI
  have hVV := hparts.2.1
  have hcl := inR_iff.1 hparts.2.2.1
  have htsx := vInst_ts hV hI
  have HTS := Lib.hid htsx.1
  have hts30 := htsx.2.1
  have HT64 := Lib.hid (show ∀ t ∈ ts, in64 t.1 from fun t h => by have := htsx.2.2.1 t h; have := (vProc_len hV).2.1; unfold in64; omega)
  have hn10 : nn ≤ 10 := by have := (vProc_len hV).2.1; have := HNL.out; omega
  have hnt30 : nt ≤ 1000 := by have := HLT.out; omega
  have hrs4 : (w3.alloc (.cells #[.slice An nn cn, .slice Af lf cf, .map (some bo), .map (some bi), .map (some mb), .slice Av nv cv, .int .i64 cl, .slice At nt ct] 114)).heap.size = w3.heap.size + 1 := by simp
  have HNV4 := Lib.hid (show nv = 4 by have := vVals_len hVV; have := hv.len1; omega)
  have HVV := Lib.hid hVV
  clear hb3 hb4 hN hV hI hparts htsx HB HP HY hVV
  have HVS := Lib.hid (validSetsI_any los his nl cs As l (w3.alloc (.cells #[.slice An nn cn, .slice Af lf cf, .map (some bo), .map (some bi), .map (some mb), .slice Av nv cv, .int .i64 cl, .slice At nt ct] 114)) (hl.keep HB4.out hBl) (Nat.le_trans hBl HB4.out.size) hnl)
  cases hS : vSets l with
  | false =>
    rw [hS] at HVS
    have HNO := Lib.hid (show completeOf ns fs ms vs cl ts node l = none by unfold completeOf; rw [hS]; simp)
    clear hS
    go_wp2_with (fail)
    (with_reducible refine HVS.out.mono ?_)
    clear HVS
    rintro e w5 ⟨rfl, hb5⟩
    have HB5 := Lib.hid (up HB4.out hb5)
    have HY5 := Lib.hid (HY4.out.below hb5 HY4.out.lt)
    clear hb5
    have hyy := HY5.out
    have r0 := hyy.cell 0
    have r1 := hyy.cell 1
    have r2 := hyy.cell 2
    have r3 := hyy.cell 3
    simp only [List.getElem?_toArray, List.getElem?_cons_zero, List.getElem?_cons_succ] at r0 r1 r2 r3
    have s0 := hyy.soft 0
    have s1 := hyy.soft 1
    have s2 := hyy.soft 2
    have s3 := hyy.soft 3
    obtain ⟨b0, b1, b2, b3, HBZ⟩ := ins_store hyy HB5.out (by omega) (.slice none 0 0) (.slice none 0 0) (.int .i64 0) (.slice none 0 0)
    clear hyy
    go_wp2
    refine bodyPost_ret (v := .tuple #[.agg #[.slice none 0 0, .slice none 0 0, .int .i64 0, .slice none 0 0], .bool false]) ?_ rfl ?_
    · generalize ((((w5.setCell ⟨w.heap.size + 1 + 1, 0, none⟩ (.slice none 0 0)).setCell ⟨w.heap.size + 1 + 1, 1, none⟩ (.slice none 0 0)).setCell ⟨w.heap.size + 1 + 1, 2, none⟩ (.int .i64 0)).setCell ⟨w.heap.size + 1 + 1, 3, none⟩ (.slice none 0 0)) = wz at b0 b1 b2 b3 ⊢
      simp [results, Tryz.results34, go_sem, b0, b1, b2, b3]
    · exact .inl ⟨HNO.out, rfl, HBZ.out.1⟩
  | true =>
    rw [hS] at HVS
    have HSS := Lib.hid hS
    clear hS
    go_wp2_with (fail)
    (with_reducible refine HVS.out.mono ?_)
    clear HVS
    rintro e w5 ⟨rfl, hb5⟩
    have HB5 := Lib.hid (up HB4.out hb5)
    have HY5 := Lib.hid (HY4.out.below hb5 HY4.out.lt)
    have HR5 := Lib.hid (HR4.out.below hb5 HR4.out.lt)
    have HN5 := Lib.hid (HN4.out.keep hb5)
    have hs5 := hb5.size
    clear hb5 HB4 HY4 HR4 HN4 HP4
    have HWA := Lib.hid (waitsAt_any An nn cn ns Af lf cf fs bo bi mb m ms Av nv cv cl At nt ct node 2 w5 HN5.out hnn)
    have HTI := Lib.hid (task_in (vs := vs) (cl := cl) (ts := ts) (node := node) HV.out HI.out HN5.out.vm)
    rw [HNL.out] at HTI
    have e0 : w5.cell? ⟨w3.heap.size, 0, none⟩ = some (.slice An nn cn) := HR5.out.cell 0
    have e1 : w5.cell? ⟨w3.heap.size, 1, none⟩ = some (.slice Af lf cf) := HR5.out.cell 1
    have e2 : w5.cell? ⟨w3.heap.size, 2, none⟩ = some (.map (some bo)) := HR5.out.cell 2
    have e3 : w5.cell? ⟨w3.heap.size, 3, none⟩ = some (.map (some bi)) := HR5.out.cell 3
    have e4 : w5.cell? ⟨w3.heap.size, 4, none⟩ = some (.map (some mb)) := HR5.out.cell 4
    have e5 : w5.cell? ⟨w3.heap.size, 5, none⟩ = some (.slice Av nv cv) := HR5.out.cell 5
    have e6 : w5.cell? ⟨w3.heap.size, 6, none⟩ = some (.int .i64 cl) := HR5.out.cell 6
    have e7 : w5.cell? ⟨w3.heap.size, 7, none⟩ = some (.slice At nt ct) := HR5.out.cell 7
    cases hin : inL (tasksOf ns fs ms vs cl ts) node with
    | false =>
      rw [← HTI.out, hin] at HWA
      have HNO := Lib.hid (show completeOf ns fs ms vs cl ts node l = none by unfold completeOf; rw [hin]; simp)
      clear hin
      go_wp2_with (fail)
      (with_reducible refine HWA.out.mono ?_)
      clear HWA e0 e1 e2 e3 e4 e5 e6 e7
      rintro e w6 ⟨rfl, hb6⟩
      have HB6 := Lib.hid (up HB5.out hb6)
      have HY6 := Lib.hid (HY5.out.below hb6 HY5.out.lt)
      clear hb6
      have hyy := HY6.out
      have r0 := hyy.cell 0
      have r1 := hyy.cell 1
      have r2 := hyy.cell 2
      have r3 := hyy.cell 3
      simp only [List.getElem?_toArray, List.getElem?_cons_zero, List.getElem?_cons_succ] at r0 r1 r2 r3
      have s0 := hyy.soft 0
      have s1 := hyy.soft 1
      have s2 := hyy.soft 2
      have s3 := hyy.soft 3
      obtain ⟨b0, b1, b2, b3, HBZ⟩ := ins_store hyy HB6.out (by omega) (.slice none 0 0) (.slice none 0 0) (.int .i64 0) (.slice none 0 0)
      clear hyy
      go_wp2
      refine bodyPost_ret (v := .tuple #[.agg #[.slice none 0 0, .slice none 0 0, .int .i64 0, .slice none 0 0], .bool false]) ?_ rfl ?_
      · generalize ((((w6.setCell ⟨w.heap.size + 1 + 1, 0, none⟩ (.slice none 0 0)).setCell ⟨w.heap.size + 1 + 1, 1, none⟩ (.slice none 0 0)).setCell ⟨w.heap.size + 1 + 1, 2, none⟩ (.int .i64 0)).setCell ⟨w.heap.size + 1 + 1, 3, none⟩ (.slice none 0 0)) = wz at b0 b1 b2 b3 ⊢
        simp [results, Tryz.results34, go_sem, b0, b1, b2, b3]
      · exact .inl ⟨HNO.out, rfl, HBZ.out.1⟩
    | true =>
      rw [← HTI.out, hin] at HWA
      have HGO := Lib.hid (show completeOf ns fs ms vs cl ts node l = goOnOf ns fs ms node (withOf vs l) cl ts by unfold completeOf; rw [HV.out, HI.out, HSS.out, hin]; rfl)
      obtain ⟨k, rfl, hk⟩ := tasks_at hin
      obtain ⟨z, zy, hkz⟩ : ∃ z zy, ns[k]? = some (z, zy) := ⟨ns[k].1, ns[k].2, List.getElem?_eq_getElem hk⟩
      have HKZ := Lib.hid hkz
      have hk2 : k < nn := by have := HNL.out; omega
      have HVW := Lib.hid (vVals_with HVV.out HSS.out)
      clear hin hkz
      have hnv4 := HNV4.out
      subst hnv4
      go_wp2_with (fail)
      (with_reducible refine HWA.out.mono ?_)
      clear HWA e0 e1 e2 e3 e4 e5 e6 e7
      rintro e w6 ⟨rfl, hb6⟩
      have HB6 := Lib.hid (up HB5.out hb6)
      have HY6 := Lib.hid (HY5.out.below hb6 HY5.out.lt)
      have HR6 := Lib.hid (HR5.out.below hb6 HR5.out.lt)
      have HN6 := Lib.hid (HN5.out.keep hb6)
      have hs6 := hb6.size
      clear hb6 HB5 HY5 HR5 HN5
      have e0 : w6.cell? ⟨w3.heap.size, 0, none⟩ = some (.slice An nn cn) := HR6.out.cell 0
      have e1 : w6.cell? ⟨w3.heap.size, 1, none⟩ = some (.slice Af lf cf) := HR6.out.cell 1
      have e2 : w6.cell? ⟨w3.heap.size, 2, none⟩ = some (.map (some bo)) := HR6.out.cell 2
      have e3 : w6.cell? ⟨w3.heap.size, 3, none⟩ = some (.map (some bi)) := HR6.out.cell 3
      have e4 : w6.cell? ⟨w3.heap.size, 4, none⟩ = some (.map (some mb)) := HR6.out.cell 4
      have e5 : w6.cell? ⟨w3.heap.size, 5, none⟩ = some (.slice Av 4 cv) := HR6.out.cell 5
      have e6 : w6.cell? ⟨w3.heap.size, 6, none⟩ = some (.int .i64 cl) := HR6.out.cell 6
      have e7 : w6.cell? ⟨w3.heap.size, 7, none⟩ = some (.slice At nt ct) := HR6.out.cell 7
      have HWV := Lib.hid (withValues_any An nn cn Af lf cf bo bi mb Av cv vs cl At nt ct los his nl cs As l w6 ((hv.keep HB6.out hBv).wide (Nat.zero_le _) (Nat.le_trans hBv HB6.out.size)) (hl.keep HB6.out hBl) (Nat.le_trans hBl HB6.out.size) hnl HSS.out)
      go_wp2_with (fail)
      (with_reducible refine HWV.out.mono ?_)
      clear HWV e0 e1 e2 e3 e4 e5 e6 e7
      rintro e w7 ⟨A9, c9, rfl, hr9, hb7⟩
      have HB7 := Lib.hid (up HB6.out hb7)
      have HY7 := Lib.hid (HY6.out.below hb7 HY6.out.lt)
      have HN7 := Lib.hid (HN6.out.keep hb7)
      have HV9 := Lib.hid (hr9.wide (Nat.zero_le _) (Nat.le_refl _))
      have hs7 := hb7.size
      clear hb7 hr9 HB6 HY6 HR6 HN6
      have HGA := Lib.hid (goneOn_any An nn cn ns Af lf cf fs bo bi mb m ms A9 4 c9 (withOf vs l) cl At nt ct ts w7 k z zy HN7.out hn10 hn HV9.out HVW.out ((ht.keep HB7.out hBt).wide (Nat.zero_le _) (Nat.le_trans hBt HB7.out.size)) hnt30 HT64.out HTS.out.heap ⟨by omega, by omega⟩ hk2 HKZ.out)
      go_wp2_with (fail)
      (with_reducible refine HGA.out.mono ?_)
      clear HGA
      intro e w8 hg8
      obtain ⟨v1, v2, rfl, hb8, hres⟩ := hg8.result (ts0 := ts) HV9.out (by omega) hn hn10 (by omega) (List.Perm.refl _) HTS.out
      rw [← HNL.out, goOn_map, ← HGO.out] at hres
      have HB8 := Lib.hid (up HB7.out hb8)
      have HY8 := Lib.hid (HY7.out.below hb8 HY7.out.lt)
      have hs8 := hb8.size
      have HRES := Lib.hid hres
      clear hg8 hb8 hres
      go_wp2_with (fail)
      (with_reducible refine HRES.out.mono ?_)
      clear HRES
      intro e w9 hip
      obtain ⟨xa, xn, xc, ya, yn, yc, xz, za, zn, zc, xb, rfl, hb9, hfin⟩ := hip.shape
      have HB9 := Lib.hid (up HB8.out hb9)
      have HFIN := Lib.hid (hfin (w.heap.size + 1 + 1) w (by have := HY8.out.lt; omega) (by omega) HB8.out)
      have HY9 := Lib.hid (HY8.out.below hb9 HY8.out.lt)
      clear hip hb9 hfin
      have hyy := HY9.out
      have r0 := hyy.cell 0
      have r1 := hyy.cell 1
      have r2 := hyy.cell 2
      have r3 := hyy.cell 3
      simp only [List.getElem?_toArray, List.getElem?_cons_zero, List.getElem?_cons_succ] at r0 r1 r2 r3
      have s0 := hyy.soft 0
      have s1 := hyy.soft 1
      have s2 := hyy.soft 2
      have s3 := hyy.soft 3
      obtain ⟨b0, b1, b2, b3, HBZ⟩ := ins_store hyy HB9.out (by omega) (.slice xa xn xc) (.slice ya yn yc) (.int .i64 xz) (.slice za zn zc)
      clear hyy
      go_wp2
      refine bodyPost_ret (v := .tuple #[.agg #[.slice xa xn xc, .slice ya yn yc, .int .i64 xz, .slice za zn zc], .bool xb]) ?_ rfl ?_
      · generalize ((((w9.setCell ⟨w.heap.size + 1 + 1, 0, none⟩ (.slice xa xn xc)).setCell ⟨w.heap.size + 1 + 1, 1, none⟩ (.slice ya yn yc)).setCell ⟨w.heap.size + 1 + 1, 2, none⟩ (.int .i64 xz)).setCell ⟨w.heap.size + 1 + 1, 3, none⟩ (.slice za zn zc)) = wz at b0 b1 b2 b3 ⊢
        simp [results, Tryz.results34, go_sem, b0, b1, b2, b3]
      · exact HFIN.out
theorem complete_ok (ns : List (Int × Int)) (fs : List Flw) (ms vs : List Int) (cl : Int) (ts : List Tm) (node : Int) (l : List (Int × Int)) : InsOk (completeOf ns fs ms vs cl ts node l) := by
  unfold completeOf
  split
  case isFalse => exact insOk_none
  case isTrue h =>
    simp only [Bool.and_eq_true] at h
    have h1 := vInst_ts h.1.1.1 h.1.1.2
    have h2 := vInst_parts h.1.1.2
    exact goOn_ok h.1.1.1 (vVals_with h2.2.1 h.1.2) (by omega)
end Go.Proofs.YtknphikoikdcjaaGreat
