/- DeliverMessage: the reference and the program. -/
import Derived.Test.YtknphikoikdcjaaGreatRunMM
import Derived.Test.YtknphikoikdcjaaGreatInstSB
import Derived.Deep.RegionHeld3
set_option linter.unusedSimpArgs false
set_option linter.unusedVariables false
namespace Go.Proofs.YtknphikoikdcjaaGreat
open Go.RowKit Go.Maps


def msgAt (ns : List (Int × Int)) (fs : List Flw) (ms : List Int) (name : Int) (k : Nat) : Bool := kindAt ns k == 4 && valAt ns k == name && decide (0 < waitAt fs ms (k : Int))
/-- The first node that waits for a message. -/
def firstMsg (ns : List (Int × Int)) (fs : List Flw) (ms : List Int) (name : Int) : Option Nat := (List.range ns.length).find? (msgAt ns fs ms name)
/-- What DeliverMessage answers. -/
def deliverOf (ns : List (Int × Int)) (fs : List Flw) (ms vs : List Int) (cl : Int) (ts : List Tm) (name : Int) : Option Ins :=
  if vProc ns fs && vInst ns fs ms vs cl ts then (firstMsg ns fs ms name).bind fun k => goOnOf ns fs ms (k : Int) vs cl ts else none
set_option maxRecDepth 100000 in
set_option maxHeartbeats 6400000 in
theorem DeliverMessageS_any (lo hi nn cn : Nat) (An : Option Addr) (ns : List (Int × Int)) (lo1 hi1 lf cf : Nat) (Af : Option Addr) (fs : List Flw) (lom him nm cm : Nat) (Am : Option Addr) (ms : List Int) (lov hiv nv cv : Nat) (Av : Option Addr) (vs : List Int) (cl : Int) (lot hit nt ct : Nat) (At : Option Addr) (ts : List Tm) (name : Int) (w : World)
    (hrn : Rd w lo hi 2 An nn (pvs ns)) (hB : hi ≤ w.heap.size) (hnn : nn ≤ 1048576) (hr : Fls w lo1 hi1 Af lf fs) (hB1 : hi1 ≤ w.heap.size) (hn : lf ≤ 1048576)
    (hm : Rd w lom him 1 Am nm (ivs ms)) (hBm : him ≤ w.heap.size) (hnm : nm ≤ 1048576) (hv : Rd w lov hiv 1 Av nv (ivs vs)) (hBv : hiv ≤ w.heap.size) (hnv : nv ≤ 1048576) (ht : Rd w lot hit 2 At nt (pvs ts)) (hBt : hit ≤ w.heap.size) (hnt : nt ≤ 1048576) :
    Calls Tryz.prog 37 #[.agg #[.slice An nn cn, .slice Af lf cf], .agg #[.slice Am nm cm, .slice Av nv cv, .int .i64 cl, .slice At nt ct], .int .i64 name] w (InsPost (deliverOf ns fs ms vs cl ts name) w) := by
  have hb1 := up_alloc (up_alloc (up_alloc (Below.refl _ w) (.cells #[.slice An nn cn, .slice Af lf cf] 40)) (.cells #[.slice Am nm cm, .slice Av nv cv, .int .i64 cl, .slice At nt ct] 34)) (.cells #[.slice none 0 0, .slice none 0 0, .int .i64 0, .slice none 0 0] 34)
  have hp1 := ((Blk.new w 40 #[.slice An nn cn, .slice Af lf cf]).alloc (.cells #[.slice Am nm cm, .slice Av nv cv, .int .i64 cl, .slice At nt ct] 34)).alloc (.cells #[.slice none 0 0, .slice none 0 0, .int .i64 0, .slice none 0 0] 34)
  have hx1 : Blk (((w.alloc (.cells #[.slice An nn cn, .slice Af lf cf] 40)).alloc (.cells #[.slice Am nm cm, .slice Av nv cv, .int .i64 cl, .slice At nt ct] 34)).alloc (.cells #[.slice none 0 0, .slice none 0 0, .int .i64 0, .slice none 0 0] 34)) (w.heap.size + 1) 34 #[.slice Am nm cm, .slice Av nv cv, .int .i64 cl, .slice At nt ct] := by
    have := (Blk.new (w.alloc (.cells #[.slice An nn cn, .slice Af lf cf] 40)) 34 #[.slice Am nm cm, .slice Av nv cv, .int .i64 cl, .slice At nt ct]).alloc (.cells #[.slice none 0 0, .slice none 0 0, .int .i64 0, .slice none 0 0] 34)
    simpa using this
  have hy1 : Blk (((w.alloc (.cells #[.slice An nn cn, .slice Af lf cf] 40)).alloc (.cells #[.slice Am nm cm, .slice Av nv cv, .int .i64 cl, .slice At nt ct] 34)).alloc (.cells #[.slice none 0 0, .slice none 0 0, .int .i64 0, .slice none 0 0] 34)) (w.heap.size + 1 + 1) 34 #[.slice none 0 0, .slice none 0 0, .int .i64 0, .slice none 0 0] := by simpa using Blk.new ((w.alloc (.cells #[.slice An nn cn, .slice Af lf cf] 40)).alloc (.cells #[.slice Am nm cm, .slice Av nv cv, .int .i64 cl, .slice At nt ct] 34)) 34 #[.slice none 0 0, .slice none 0 0, .int .i64 0, .slice none 0 0]
  have hs1 : (((w.alloc (.cells #[.slice An nn cn, .slice Af lf cf] 40)).alloc (.cells #[.slice Am nm cm, .slice Av nv cv, .int .i64 cl, .slice At nt ct] 34)).alloc (.cells #[.slice none 0 0, .slice none 0 0, .int .i64 0, .slice none 0 0] 34)).heap.size = w.heap.size + 1 + 1 + 1 := by simp
  have HL := Lib.hid hrn.len2
  have HF := Lib.hid hr.1
  have HLT := Lib.hid ht.len2
  have HC := Lib.hid (validProcessS_any lo hi nn cn An ns lo1 hi1 lf cf Af fs _ (hrn.keep hb1 hB) (Nat.le_trans hB hb1.size) hnn (hr.keep hb1 hB1) (Nat.le_trans hB1 hb1.size) hn)
  have k0 := hp1.cell 0
  have k1 := hp1.cell 1
  simp only [List.getElem?_toArray, List.getElem?_cons_zero, List.getElem?_cons_succ] at k0 k1
  have HB := Lib.hid hb1
  have HP := Lib.hid hp1
  have HX := Lib.hid hx1
  have HY := Lib.hid hy1
  clear hb1 hp1 hx1 hy1
  go_enter Tryz.func37, Tryz.ntmps37
  go_wp2_with (fail)
  (with_reducible refine HC.out.mono ?_)
  clear HC k0 k1
  rintro e w1 ⟨rfl, hb2⟩
  have hs2 := hb2.size
  rw [hs1] at hs2
  have HB1 := Lib.hid (up HB.out hb2)
  have HP1 := Lib.hid (HP.out.below hb2 (by omega))
  have HX1 := Lib.hid (HX.out.below hb2 (by omega))
  have HY1 := Lib.hid (HY.out.below hb2 (by omega))
  clear hb2 HB HP HX HY hs1
  cases hV : vProc ns fs with
  | false =>
    have HNO := Lib.hid (show deliverOf ns fs ms vs cl ts name = none by unfold deliverOf; rw [hV]; rfl)
    clear hV
    have hxx := HY1.out
    have r0 := hxx.cell 0
    have r1 := hxx.cell 1
    have r2 := hxx.cell 2
    have r3 := hxx.cell 3
    simp only [List.getElem?_toArray, List.getElem?_cons_zero, List.getElem?_cons_succ] at r0 r1 r2 r3
    have s0 := hxx.soft 0
    have s1 := hxx.soft 1
    have s2 := hxx.soft 2
    have s3 := hxx.soft 3
    obtain ⟨b0, b1, b2, b3, HBZ⟩ := ins_store hxx HB1.out (by omega) (.slice none 0 0) (.slice none 0 0) (.int .i64 0) (.slice none 0 0)
    clear hxx
    go_wp2
    refine bodyPost_ret (v := .tuple #[.agg #[.slice none 0 0, .slice none 0 0, .int .i64 0, .slice none 0 0], .bool false]) ?_ rfl ?_
    · generalize ((((w1.setCell ⟨w.heap.size + 1 + 1, 0, none⟩ (.slice none 0 0)).setCell ⟨w.heap.size + 1 + 1, 1, none⟩ (.slice none 0 0)).setCell ⟨w.heap.size + 1 + 1, 2, none⟩ (.int .i64 0)).setCell ⟨w.heap.size + 1 + 1, 3, none⟩ (.slice none 0 0)) = wz at b0 b1 b2 b3 ⊢
      simp [results, Tryz.results37, go_sem, b0, b1, b2, b3]
    · exact .inl ⟨HNO.out, rfl, HBZ.out.1⟩
  | true =>
  have HV := Lib.hid hV
  have k0 := HP1.out.cell 0
  have k1 := HP1.out.cell 1
  have x0 := HX1.out.cell 0
  have x1 := HX1.out.cell 1
  have x2 := HX1.out.cell 2
  have x3 := HX1.out.cell 3
  simp only [List.getElem?_toArray, List.getElem?_cons_zero, List.getElem?_cons_succ] at k0 k1 x0 x1 x2 x3
  have HC := Lib.hid (validInstanceS_any lo hi nn cn An ns lo1 hi1 lf cf Af fs lom him nm cm Am ms lov hiv nv cv Av vs cl lot hit nt ct At ts w1 (hrn.keep HB1.out hB) (Nat.le_trans hB HB1.out.size) hnn (hr.keep HB1.out hB1) (Nat.le_trans hB1 HB1.out.size) hn (hm.keep HB1.out hBm) (Nat.le_trans hBm HB1.out.size) hnm (hv.keep HB1.out hBv) (Nat.le_trans hBv HB1.out.size) hnv (ht.keep HB1.out hBt) (Nat.le_trans hBt HB1.out.size) hnt hV)
  clear hV
  go_wp2_with (fail)
  (with_reducible refine HC.out.mono ?_)
  clear HC k0 k1 x0 x1 x2 x3
  rintro e w2 ⟨rfl, hb2⟩
  have hs3 := hb2.size
  have HB2 := Lib.hid (up HB1.out hb2)
  have HP2 := Lib.hid (HP1.out.below hb2 (by omega))
  have HX2 := Lib.hid (HX1.out.below hb2 (by omega))
  have HY2 := Lib.hid (HY1.out.below hb2 (by omega))
  clear hb2 HB1 HP1 HX1 HY1
  cases hI : vInst ns fs ms vs cl ts with
  | false =>
    have HNO := Lib.hid (show deliverOf ns fs ms vs cl ts name = none by unfold deliverOf; rw [hI]; simp)
    clear hI
    have hxx := HY2.out
    have r0 := hxx.cell 0
    have r1 := hxx.cell 1
    have r2 := hxx.cell 2
    have r3 := hxx.cell 3
    simp only [List.getElem?_toArray, List.getElem?_cons_zero, List.getElem?_cons_succ] at r0 r1 r2 r3
    have s0 := hxx.soft 0
    have s1 := hxx.soft 1
    have s2 := hxx.soft 2
    have s3 := hxx.soft 3
    obtain ⟨b0, b1, b2, b3, HBZ⟩ := ins_store hxx HB2.out (by omega) (.slice none 0 0) (.slice none 0 0) (.int .i64 0) (.slice none 0 0)
    clear hxx
    go_wp2
    refine bodyPost_ret (v := .tuple #[.agg #[.slice none 0 0, .slice none 0 0, .int .i64 0, .slice none 0 0], .bool false]) ?_ rfl ?_
    · generalize ((((w2.setCell ⟨w.heap.size + 1 + 1, 0, none⟩ (.slice none 0 0)).setCell ⟨w.heap.size + 1 + 1, 1, none⟩ (.slice none 0 0)).setCell ⟨w.heap.size + 1 + 1, 2, none⟩ (.int .i64 0)).setCell ⟨w.heap.size + 1 + 1, 3, none⟩ (.slice none 0 0)) = wz at b0 b1 b2 b3 ⊢
      simp [results, Tryz.results37, go_sem, b0, b1, b2, b3]
    · exact .inl ⟨HNO.out, rfl, HBZ.out.1⟩
  | true =>
  have hnn10 : nn ≤ 10 := by have := (vProc_len HV.out).2.1; have := HL.out; omega
  have HIT := Lib.hid (vInst_ts HV.out hI)
  have hnt30 : nt ≤ 30 := by have := HIT.out.2.1; have := HLT.out; omega
  have HM := Lib.hid (vInst_parts hI).1
  have HVV := Lib.hid (vInst_parts hI).2.1
  have hcl0 : 0 ≤ cl := (inR_iff.1 (vInst_parts hI).2.2.1).1
  have hcl9 : cl ≤ 9999 := (inR_iff.1 (vInst_parts hI).2.2.1).2
  have HI := Lib.hid hI
  clear hI
  have HYES := Lib.hid (show deliverOf ns fs ms vs cl ts name = (firstMsg ns fs ms name).bind fun k => goOnOf ns fs ms (k : Int) vs cl ts by unfold deliverOf; rw [HV.out, HI.out]; rfl)
  go_wp2
  go_loopw [8] (fun kv wr => ∃ (k : Nat), k ≤ nn ∧ kv = .int .i64 k ∧ Hid (∀ j, j < k → msgAt ns fs ms name j = false) ∧ Hid (Below w.heap.size w wr) ∧ Blk wr w.heap.size 40 #[.slice An nn cn, .slice Af lf cf] ∧ Blk wr (w.heap.size + 1) 34 #[.slice Am nm cm, .slice Av nv cv, .int .i64 cl, .slice At nt ct] ∧ Blk wr (w.heap.size + 1 + 1) 34 #[.slice none 0 0, .slice none 0 0, .int .i64 0, .slice none 0 0])
     (fun kv _ => nn - (intOf kv).toNat)
  case atStart => exact ⟨0, by omega, rfl, fun j hj => absurd hj (by omega), HB2, HP2.out, HX2.out, HY2.out⟩
  case round =>
    clear HB2 HP2 HX2 HY2 hs2 hs3
    obtain ⟨k, hk, rfl, HK, HB, hp, hx, hy⟩ := hrel
    have hpl := hp.lt
    have hxl := hx.lt
    have hyl := hy.lt
    have k0 := hp.cell 0
    have k1 := hp.cell 1
    have x0 := hx.cell 0
    simp only [List.getElem?_toArray, List.getElem?_cons_zero, List.getElem?_cons_succ] at k0 k1 x0
    have HP := Lib.hid hp
    have HX := Lib.hid hx
    have HY := Lib.hid hy
    clear hp hx hy
    by_cases hlt : k < nn
    · obtain ⟨bn, on, z, zy, hAn, hbn, _, hgn, hn0, hn1⟩ := (hrn.keep HB.out hB).pair hlt
      subst hAn
      have hkn : (k : Int) < (nn : Int) := by omega
      have hk0 : (0 : Int) ≤ (k : Int) := by omega
      have HG := Lib.hid hgn
      have HMA : Hid (msgAt ns fs ms name k = (z == 4 && zy == name && decide (0 < waitAt fs ms (k : Int)))) := by show msgAt ns fs ms name k = _; unfold msgAt; rw [kindAt_is HG.out, valAt_is HG.out]
      have HNX : Hid (msgAt ns fs ms name k = false → ∀ j, j < k + 1 → msgAt ns fs ms name j = false) := fun h j hj => by
        by_cases e : j = k
        · subst e; exact h
        · exact HK.out j (by omega)
      clear hgn
      by_cases h4 : z = 4
      case neg =>
        have hz4 : (z == 4) = false := by simpa using h4
        have HK2 := Lib.hid (HNX.out (by rw [HMA.out, hz4]; rfl))
        clear HNX HMA HK h4
        go_wp2
        go_roundw
        case rel => exact ⟨k + 1, by omega, by go_num, HK2, HB, HP.out, HX.out, HY.out⟩
        case measure => simp [intOf]; omega
      subst h4
      by_cases hnm' : zy = name
      case neg =>
        have hz5 : (zy == name) = false := by simpa using hnm'
        have HK2 := Lib.hid (HNX.out (by rw [HMA.out, hz5]; rfl))
        clear HNX HMA HK hnm'
        go_wp2
        go_roundw
        case rel => exact ⟨k + 1, by omega, by go_num, HK2, HB, HP.out, HX.out, HY.out⟩
        case measure => simp [intOf]; omega
      subst hnm'
      have hz5 : (zy == zy) = true := by simp
      have HLEN := Lib.hid (one_in HV.out HG.out (.inr (.inr rfl)))
      have HCW := Lib.hid (waitingS_any (.slice (some ⟨bn, on, none⟩) nn cn) lo1 hi1 lf cf Af fs lom him nm cm Am ms k wr (hr.keep HB.out hB1) (Nat.le_trans hB1 HB.out.size) hn (hm.keep HB.out hBm) (Nat.le_trans hBm HB.out.size) (vMarks_len HM.out) (by rw [HLEN.out]; omega))
      by_cases hw : 0 < waitAt fs ms (k : Int)
      case neg =>
        have hwd : decide (0 < waitAt fs ms (k : Int)) = false := decide_eq_false hw
        have HK2 := Lib.hid (HNX.out (by rw [HMA.out, hwd]; simp))
        generalize waitAt fs ms (k : Int) = wa at *
        clear HNX HMA HK hw
        go_wp2_with (fail)
        (with_reducible refine HCW.out.mono ?_)
        clear HCW k0 k1 x0 hn0 hn1
        rintro e w5 ⟨rfl, hb5⟩
        have HB5 := Lib.hid (up HB.out hb5)
        have HP5 := Lib.hid (HP.out.below hb5 hpl)
        have HX5 := Lib.hid (HX.out.below hb5 hxl)
        have HY5 := Lib.hid (HY.out.below hb5 hyl)
        clear hb5 HB HP HX HY
        go_wp2
        go_roundw
        case rel => exact ⟨k + 1, by omega, by go_num, HK2, HB5, HP5.out, HX5.out, HY5.out⟩
        case measure => simp [intOf]; omega
      have hwd : decide (0 < waitAt fs ms (k : Int)) = true := decide_eq_true hw
      have HFM := Lib.hid (show firstMsg ns fs ms zy = some k from find_hit (fun j hj => HK.out j hj) (by rw [HL.out]; exact hlt) (by rw [HMA.out, hwd]; simp))
      have HGO := Lib.hid (show deliverOf ns fs ms vs cl ts zy = goOnOf ns fs ms (k : Int) vs cl ts by rw [HYES.out, HFM.out]; rfl)
      generalize waitAt fs ms (k : Int) = wa at *
      clear HNX HMA HK hw HFM HYES
      go_wp2_with (fail)
      (with_reducible refine HCW.out.mono ?_)
      clear HCW k0 k1 x0 hn0 hn1
      rintro e w5 ⟨rfl, hb5⟩
      have HB5 := Lib.hid (up HB.out hb5)
      have HP5 := Lib.hid (HP.out.below hb5 hpl)
      have HX5 := Lib.hid (HX.out.below hb5 hxl)
      have HY5 := Lib.hid (HY.out.below hb5 hyl)
      have hs5 := hb5.size
      have k0 := HP5.out.cell 0
      have k1 := HP5.out.cell 1
      have x0 := HX5.out.cell 0
      have x1 := HX5.out.cell 1
      have x2 := HX5.out.cell 2
      have x3 := HX5.out.cell 3
      simp only [List.getElem?_toArray, List.getElem?_cons_zero, List.getElem?_cons_succ] at k0 k1 x0 x1 x2 x3
      have HCG := Lib.hid (goOnS_any lo hi nn cn (some ⟨bn, on, none⟩) ns lo1 hi1 lf cf Af fs lom him nm cm Am ms (.slice Av nv cv) (.slice At nt ct) k 4 zy lov hiv nv cv Av vs cl lot hit nt ct At ts w5 (hrn.keep HB5.out hB) (Nat.le_trans hB HB5.out.size) hnn (hr.keep HB5.out hB1) (Nat.le_trans hB1 HB5.out.size) hn (hm.keep HB5.out hBm) (Nat.le_trans hBm HB5.out.size) (hv.keep HB5.out hBv) (Nat.le_trans hBv HB5.out.size) (ht.keep HB5.out hBt) (Nat.le_trans hBt HB5.out.size) (by omega) HV.out HM.out HVV.out hcl0 (by omega) hlt HG.out)
      clear hb5 HB HP HX HY
      go_wp2_with (fail)
      (with_reducible refine HCG.out.mono ?_)
      clear HCG k0 k1 x0 x1 x2 x3
      rintro e w6 (⟨hno, rfl, hb6⟩ | ⟨x, A0, c0, A1, c1, A2, c2, hso, rfl, hr0, hr1, hr2, hcc, hb6⟩)
      · have HB6 := Lib.hid (up HB5.out hb6)
        have HY6 := Lib.hid (HY5.out.below hb6 HY5.out.lt)
        have HNO := Lib.hid (HGO.out.trans hno)
        clear hb6 hno HB5 HP5 HX5 HY5
        have hxx := HY6.out
        have r0 := hxx.cell 0
        have r1 := hxx.cell 1
        have r2 := hxx.cell 2
        have r3 := hxx.cell 3
        simp only [List.getElem?_toArray, List.getElem?_cons_zero, List.getElem?_cons_succ] at r0 r1 r2 r3
        have s0 := hxx.soft 0
        have s1 := hxx.soft 1
        have s2 := hxx.soft 2
        have s3 := hxx.soft 3
        obtain ⟨b0, b1, b2, b3, HBZ⟩ := ins_store hxx HB6.out (by omega) (.slice none 0 0) (.slice none 0 0) (.int .i64 0) (.slice none 0 0)
        clear hxx
        go_wp2
        refine bodyPost_ret (v := .tuple #[.agg #[.slice none 0 0, .slice none 0 0, .int .i64 0, .slice none 0 0], .bool false]) ?_ rfl ?_
        · generalize ((((w6.setCell ⟨w.heap.size + 1 + 1, 0, none⟩ (.slice none 0 0)).setCell ⟨w.heap.size + 1 + 1, 1, none⟩ (.slice none 0 0)).setCell ⟨w.heap.size + 1 + 1, 2, none⟩ (.int .i64 0)).setCell ⟨w.heap.size + 1 + 1, 3, none⟩ (.slice none 0 0)) = wz at b0 b1 b2 b3 ⊢
          simp [results, Tryz.results37, go_sem, b0, b1, b2, b3]
        · exact .inl ⟨HNO.out, rfl, HBZ.out.1⟩
      · have HB6 := Lib.hid (up HB5.out hb6)
        have HY6 := Lib.hid (HY5.out.below hb6 HY5.out.lt)
        have HSOME := Lib.hid (HGO.out.trans hso)
        have hs6 := hb6.size
        clear hb6 hso HB5 HP5 HX5 HY5
        have hxx := HY6.out
        have r0 := hxx.cell 0
        have r1 := hxx.cell 1
        have r2 := hxx.cell 2
        have r3 := hxx.cell 3
        simp only [List.getElem?_toArray, List.getElem?_cons_zero, List.getElem?_cons_succ] at r0 r1 r2 r3
        have s0 := hxx.soft 0
        have s1 := hxx.soft 1
        have s2 := hxx.soft 2
        have s3 := hxx.soft 3
        obtain ⟨b0, b1, b2, b3, HBZ⟩ := ins_store hxx HB6.out (by omega) (.slice A0 x.ms.length c0) (.slice A1 x.vs.length c1) (.int .i64 x.cl) (.slice A2 x.ts.length c2)
        have hsz := HBZ.out.2.1
        have HQ0 := Lib.hid (((((hr0.setCell (p := ⟨w.heap.size + 1 + 1, 0, none⟩) (.inl (by show w.heap.size + 1 + 1 < w5.heap.size; omega)) (.slice A0 x.ms.length c0)).setCell (p := ⟨w.heap.size + 1 + 1, 1, none⟩) (.inl (by show w.heap.size + 1 + 1 < w5.heap.size; omega)) (.slice A1 x.vs.length c1)).setCell (p := ⟨w.heap.size + 1 + 1, 2, none⟩) (.inl (by show w.heap.size + 1 + 1 < w5.heap.size; omega)) (.int .i64 x.cl)).setCell (p := ⟨w.heap.size + 1 + 1, 3, none⟩) (.inl (by show w.heap.size + 1 + 1 < w5.heap.size; omega)) (.slice A2 x.ts.length c2)).wide (show w.heap.size ≤ w5.heap.size by omega) (show w6.heap.size ≤ ((((w6.setCell ⟨w.heap.size + 1 + 1, 0, none⟩ (.slice A0 x.ms.length c0)).setCell ⟨w.heap.size + 1 + 1, 1, none⟩ (.slice A1 x.vs.length c1)).setCell ⟨w.heap.size + 1 + 1, 2, none⟩ (.int .i64 x.cl)).setCell ⟨w.heap.size + 1 + 1, 3, none⟩ (.slice A2 x.ts.length c2)).heap.size by rw [hsz]; omega))
        have HQ1 := Lib.hid (((((hr1.setCell (p := ⟨w.heap.size + 1 + 1, 0, none⟩) (.inl (by show w.heap.size + 1 + 1 < w5.heap.size; omega)) (.slice A0 x.ms.length c0)).setCell (p := ⟨w.heap.size + 1 + 1, 1, none⟩) (.inl (by show w.heap.size + 1 + 1 < w5.heap.size; omega)) (.slice A1 x.vs.length c1)).setCell (p := ⟨w.heap.size + 1 + 1, 2, none⟩) (.inl (by show w.heap.size + 1 + 1 < w5.heap.size; omega)) (.int .i64 x.cl)).setCell (p := ⟨w.heap.size + 1 + 1, 3, none⟩) (.inl (by show w.heap.size + 1 + 1 < w5.heap.size; omega)) (.slice A2 x.ts.length c2)).wide (show w.heap.size ≤ w5.heap.size by omega) (show w6.heap.size ≤ ((((w6.setCell ⟨w.heap.size + 1 + 1, 0, none⟩ (.slice A0 x.ms.length c0)).setCell ⟨w.heap.size + 1 + 1, 1, none⟩ (.slice A1 x.vs.length c1)).setCell ⟨w.heap.size + 1 + 1, 2, none⟩ (.int .i64 x.cl)).setCell ⟨w.heap.size + 1 + 1, 3, none⟩ (.slice A2 x.ts.length c2)).heap.size by rw [hsz]; omega))
        have HQ2 := Lib.hid (((((hr2.setCell (p := ⟨w.heap.size + 1 + 1, 0, none⟩) (.inl (by show w.heap.size + 1 + 1 < w5.heap.size; omega)) (.slice A0 x.ms.length c0)).setCell (p := ⟨w.heap.size + 1 + 1, 1, none⟩) (.inl (by show w.heap.size + 1 + 1 < w5.heap.size; omega)) (.slice A1 x.vs.length c1)).setCell (p := ⟨w.heap.size + 1 + 1, 2, none⟩) (.inl (by show w.heap.size + 1 + 1 < w5.heap.size; omega)) (.int .i64 x.cl)).setCell (p := ⟨w.heap.size + 1 + 1, 3, none⟩) (.inl (by show w.heap.size + 1 + 1 < w5.heap.size; omega)) (.slice A2 x.ts.length c2)).wide (show w.heap.size ≤ w5.heap.size by omega) (show w6.heap.size ≤ ((((w6.setCell ⟨w.heap.size + 1 + 1, 0, none⟩ (.slice A0 x.ms.length c0)).setCell ⟨w.heap.size + 1 + 1, 1, none⟩ (.slice A1 x.vs.length c1)).setCell ⟨w.heap.size + 1 + 1, 2, none⟩ (.int .i64 x.cl)).setCell ⟨w.heap.size + 1 + 1, 3, none⟩ (.slice A2 x.ts.length c2)).heap.size by rw [hsz]; omega))
        clear hr0 hr1 hr2 hsz
        clear hxx
        go_wp2
        refine bodyPost_ret (v := .tuple #[.agg #[.slice A0 x.ms.length c0, .slice A1 x.vs.length c1, .int .i64 x.cl, .slice A2 x.ts.length c2], .bool true]) ?_ rfl ?_
        · generalize ((((w6.setCell ⟨w.heap.size + 1 + 1, 0, none⟩ (.slice A0 x.ms.length c0)).setCell ⟨w.heap.size + 1 + 1, 1, none⟩ (.slice A1 x.vs.length c1)).setCell ⟨w.heap.size + 1 + 1, 2, none⟩ (.int .i64 x.cl)).setCell ⟨w.heap.size + 1 + 1, 3, none⟩ (.slice A2 x.ts.length c2)) = wz at b0 b1 b2 b3 ⊢
          simp [results, Tryz.results37, go_sem, b0, b1, b2, b3]
        · exact .inr ⟨x, A0, c0, A1, c1, A2, c2, HSOME.out, rfl, HQ0.out, HQ1.out, HQ2.out, hcc, HBZ.out.1⟩
    · obtain rfl : nn = k := by omega
      have HNO := Lib.hid (show deliverOf ns fs ms vs cl ts name = none by rw [HYES.out, show firstMsg ns fs ms name = none from find_none (fun j hj => HK.out j (by have := HL.out; omega))]; rfl)
      clear HK HYES k1 x0
      have hxx := HY.out
      have r0 := hxx.cell 0
      have r1 := hxx.cell 1
      have r2 := hxx.cell 2
      have r3 := hxx.cell 3
      simp only [List.getElem?_toArray, List.getElem?_cons_zero, List.getElem?_cons_succ] at r0 r1 r2 r3
      have s0 := hxx.soft 0
      have s1 := hxx.soft 1
      have s2 := hxx.soft 2
      have s3 := hxx.soft 3
      obtain ⟨b0, b1, b2, b3, HBZ⟩ := ins_store hxx HB.out (by omega) (.slice none 0 0) (.slice none 0 0) (.int .i64 0) (.slice none 0 0)
      clear hxx
      go_wp2
      refine bodyPost_ret (v := .tuple #[.agg #[.slice none 0 0, .slice none 0 0, .int .i64 0, .slice none 0 0], .bool false]) ?_ rfl ?_
      · generalize ((((wr.setCell ⟨w.heap.size + 1 + 1, 0, none⟩ (.slice none 0 0)).setCell ⟨w.heap.size + 1 + 1, 1, none⟩ (.slice none 0 0)).setCell ⟨w.heap.size + 1 + 1, 2, none⟩ (.int .i64 0)).setCell ⟨w.heap.size + 1 + 1, 3, none⟩ (.slice none 0 0)) = wz at b0 b1 b2 b3 ⊢
        simp [results, Tryz.results37, go_sem, b0, b1, b2, b3]
      · exact .inl ⟨HNO.out, rfl, HBZ.out.1⟩
theorem msg_is {ns : List (Int × Int)} {fs : List Flw} {ms : List Int} {name : Int} (hV : vProc ns fs = true) (hM : vMarks fs ms = true) {k : Nat} (hk : k < ns.length) : msgAt ns fs ms name k = ((valAt ns k == name) && (readyB (kindAt ns k) ms (flOf fs false (k : Int)) && (kindAt ns k == 4))) := by
  unfold msgAt
  cases hb : (kindAt ns k == 4) with
  | false => simp
  | true =>
    rw [wait_ready hV hM hk (.inr (.inr (by simpa using hb)))]
    simp
set_option maxRecDepth 100000 in
set_option maxHeartbeats 6400000 in
theorem DeliverMessageI_any (lo hi nn cn : Nat) (An : Option Addr) (ns : List (Int × Int)) (lo1 hi1 lf cf : Nat) (Af : Option Addr) (fs : List Flw) (lom him nm cm : Nat) (Am : Option Addr) (ms : List Int) (lov hiv nv cv : Nat) (Av : Option Addr) (vs : List Int) (cl : Int) (lot hit nt ct : Nat) (At : Option Addr) (ts : List Tm) (name : Int) (w : World) (hrn : Rd w lo hi 2 An nn (pvs ns)) (hB : hi ≤ w.heap.size) (hnn : nn ≤ 1048576) (hr : Fls w lo1 hi1 Af lf fs) (hB1 : hi1 ≤ w.heap.size) (hn : lf ≤ 1048576) (hm : Rd w lom him 1 Am nm (ivs ms)) (hBm : him ≤ w.heap.size) (hnm : nm ≤ 1048576) (hv : Rd w lov hiv 1 Av nv (ivs vs)) (hBv : hiv ≤ w.heap.size) (hnv : nv ≤ 1048576) (ht : Rd w lot hit 2 At nt (pvs ts)) (hBt : hit ≤ w.heap.size) (hnt : nt ≤ 1048576) :
    Calls Tryz.prog 38 #[.agg #[.slice An nn cn, .slice Af lf cf], .agg #[.slice Am nm cm, .slice Av nv cv, .int .i64 cl, .slice At nt ct], .int .i64 name] w (InsPostX (deliverOf ns fs ms vs cl ts name) w) := by
  have hb1 := up_alloc (up_alloc (up_alloc (Below.refl _ w) (.cells #[.slice An nn cn, .slice Af lf cf] 40)) (.cells #[.slice Am nm cm, .slice Av nv cv, .int .i64 cl, .slice At nt ct] 34)) (.cells #[.slice none 0 0, .slice none 0 0, .int .i64 0, .slice none 0 0] 34)
  have HP := Lib.hid (((Blk.new w 40 #[.slice An nn cn, .slice Af lf cf]).alloc (.cells #[.slice Am nm cm, .slice Av nv cv, .int .i64 cl, .slice At nt ct] 34)).alloc (.cells #[.slice none 0 0, .slice none 0 0, .int .i64 0, .slice none 0 0] 34))
  have HX := Lib.hid (show Blk (((w.alloc (.cells #[.slice An nn cn, .slice Af lf cf] 40)).alloc (.cells #[.slice Am nm cm, .slice Av nv cv, .int .i64 cl, .slice At nt ct] 34)).alloc (.cells #[.slice none 0 0, .slice none 0 0, .int .i64 0, .slice none 0 0] 34)) (w.heap.size + 1) 34 #[.slice Am nm cm, .slice Av nv cv, .int .i64 cl, .slice At nt ct] from (Blk.newAtR (by simp)).alloc _)
  have HY := Lib.hid (show Blk (((w.alloc (.cells #[.slice An nn cn, .slice Af lf cf] 40)).alloc (.cells #[.slice Am nm cm, .slice Av nv cv, .int .i64 cl, .slice At nt ct] 34)).alloc (.cells #[.slice none 0 0, .slice none 0 0, .int .i64 0, .slice none 0 0] 34)) (w.heap.size + 1 + 1) 34 #[.slice none 0 0, .slice none 0 0, .int .i64 0, .slice none 0 0] from Blk.newAtR (by simp))
  have hs1 : (((w.alloc (.cells #[.slice An nn cn, .slice Af lf cf] 40)).alloc (.cells #[.slice Am nm cm, .slice Av nv cv, .int .i64 cl, .slice At nt ct] 34)).alloc (.cells #[.slice none 0 0, .slice none 0 0, .int .i64 0, .slice none 0 0] 34)).heap.size = w.heap.size + 1 + 1 + 1 := by simp
  have HB := Lib.hid hb1
  have HNL := Lib.hid hrn.len2
  have HLT := Lib.hid ht.len2
  have HCR := Lib.hid (runningOf_any lo hi nn cn An ns lo1 hi1 lf cf Af fs lom him nm cm Am ms lov hiv nv cv Av vs cl lot hit nt ct At ts _ (hrn.keep hb1 hB) (Nat.le_trans hB hb1.size) hnn (hr.keep hb1 hB1) (Nat.le_trans hB1 hb1.size) hn (hm.keep hb1 hBm) (Nat.le_trans hBm hb1.size) hnm (hv.keep hb1 hBv) (Nat.le_trans hBv hb1.size) hnv (ht.keep hb1 hBt) (Nat.le_trans hBt hb1.size) hnt)
  clear hb1
  have p0 : (((w.alloc (.cells #[.slice An nn cn, .slice Af lf cf] 40)).alloc (.cells #[.slice Am nm cm, .slice Av nv cv, .int .i64 cl, .slice At nt ct] 34)).alloc (.cells #[.slice none 0 0, .slice none 0 0, .int .i64 0, .slice none 0 0] 34)).cell? ⟨w.heap.size, 0, none⟩ = some (.slice An nn cn) := HP.out.cell 0
  have p1 : (((w.alloc (.cells #[.slice An nn cn, .slice Af lf cf] 40)).alloc (.cells #[.slice Am nm cm, .slice Av nv cv, .int .i64 cl, .slice At nt ct] 34)).alloc (.cells #[.slice none 0 0, .slice none 0 0, .int .i64 0, .slice none 0 0] 34)).cell? ⟨w.heap.size, 1, none⟩ = some (.slice Af lf cf) := HP.out.cell 1
  have x0 : (((w.alloc (.cells #[.slice An nn cn, .slice Af lf cf] 40)).alloc (.cells #[.slice Am nm cm, .slice Av nv cv, .int .i64 cl, .slice At nt ct] 34)).alloc (.cells #[.slice none 0 0, .slice none 0 0, .int .i64 0, .slice none 0 0] 34)).cell? ⟨w.heap.size + 1, 0, none⟩ = some (.slice Am nm cm) := HX.out.cell 0
  have x1 : (((w.alloc (.cells #[.slice An nn cn, .slice Af lf cf] 40)).alloc (.cells #[.slice Am nm cm, .slice Av nv cv, .int .i64 cl, .slice At nt ct] 34)).alloc (.cells #[.slice none 0 0, .slice none 0 0, .int .i64 0, .slice none 0 0] 34)).cell? ⟨w.heap.size + 1, 1, none⟩ = some (.slice Av nv cv) := HX.out.cell 1
  have x2 : (((w.alloc (.cells #[.slice An nn cn, .slice Af lf cf] 40)).alloc (.cells #[.slice Am nm cm, .slice Av nv cv, .int .i64 cl, .slice At nt ct] 34)).alloc (.cells #[.slice none 0 0, .slice none 0 0, .int .i64 0, .slice none 0 0] 34)).cell? ⟨w.heap.size + 1, 2, none⟩ = some (.int .i64 cl) := HX.out.cell 2
  have x3 : (((w.alloc (.cells #[.slice An nn cn, .slice Af lf cf] 40)).alloc (.cells #[.slice Am nm cm, .slice Av nv cv, .int .i64 cl, .slice At nt ct] 34)).alloc (.cells #[.slice none 0 0, .slice none 0 0, .int .i64 0, .slice none 0 0] 34)).cell? ⟨w.heap.size + 1, 3, none⟩ = some (.slice At nt ct) := HX.out.cell 3
  go_enter Tryz.func38, Tryz.ntmps38
  go_wp2_with (fail)
  generalize ((w.alloc (.cells #[.slice An nn cn, .slice Af lf cf] 40)).alloc (.cells #[.slice Am nm cm, .slice Av nv cv, .int .i64 cl, .slice At nt ct] 34)).alloc (.cells #[.slice none 0 0, .slice none 0 0, .int .i64 0, .slice none 0 0] 34) = w2 at *
  (with_reducible refine HCR.out.mono ?_)
  clear HCR p0 p1 x0 x1 x2 x3 HX
  rintro e w3 (⟨hno, rfl, hb3⟩ | ⟨hV, hI, bo, bi, mb, m, rfl, hN, hmb, hb3⟩)
  · have HNO := Lib.hid (show deliverOf ns fs ms vs cl ts name = none by unfold deliverOf; simp [hno])
    have HB3 := Lib.hid (up_alloc (up HB.out hb3) (.cells #[.slice none 0 0, .slice none 0 0, .map none, .map none, .map none, .slice none 0 0, .int .i64 0, .slice none 0 0] 114))
    have HY3 := Lib.hid ((HY.out.below hb3 HY.out.lt).alloc (.cells #[.slice none 0 0, .slice none 0 0, .map none, .map none, .map none, .slice none 0 0, .int .i64 0, .slice none 0 0] 114))
    have hs3 := hb3.size
    clear hno hb3
    have hyy := HY3.out
    have r0 := hyy.cell 0
    have r1 := hyy.cell 1
    have r2 := hyy.cell 2
    have r3 := hyy.cell 3
    simp only [List.getElem?_toArray, List.getElem?_cons_zero, List.getElem?_cons_succ] at r0 r1 r2 r3
    have s0 := hyy.soft 0
    have s1 := hyy.soft 1
    have s2 := hyy.soft 2
    have s3 := hyy.soft 3
    obtain ⟨b0, b1, b2, b3, HBZ⟩ := ins_store hyy HB3.out (by omega) (.slice none 0 0) (.slice none 0 0) (.int .i64 0) (.slice none 0 0)
    clear hyy
    go_wp2
    refine bodyPost_ret (v := .tuple #[.agg #[.slice none 0 0, .slice none 0 0, .int .i64 0, .slice none 0 0], .bool false]) ?_ rfl ?_
    · generalize (((((w3.alloc (.cells #[.slice none 0 0, .slice none 0 0, .map none, .map none, .map none, .slice none 0 0, .int .i64 0, .slice none 0 0] 114)).setCell ⟨w.heap.size + 1 + 1, 0, none⟩ (.slice none 0 0)).setCell ⟨w.heap.size + 1 + 1, 1, none⟩ (.slice none 0 0)).setCell ⟨w.heap.size + 1 + 1, 2, none⟩ (.int .i64 0)).setCell ⟨w.heap.size + 1 + 1, 3, none⟩ (.slice none 0 0)) = wz at b0 b1 b2 b3 ⊢
      simp [results, Tryz.results38, go_sem, b0, b1, b2, b3]
    · exact .inl ⟨HNO.out, rfl, HBZ.out.1⟩
  have hb4 := up_alloc (Below.refl _ w3) (.cells #[.slice An nn cn, .slice Af lf cf, .map (some bo), .map (some bi), .map (some mb), .slice Av nv cv, .int .i64 cl, .slice At nt ct] 114)
  have hs3 := hb3.size
  have HB4 := Lib.hid (up (up HB.out hb3) hb4)
  have HP4 := Lib.hid ((HP.out.below hb3 HP.out.lt).alloc (.cells #[.slice An nn cn, .slice Af lf cf, .map (some bo), .map (some bi), .map (some mb), .slice Av nv cv, .int .i64 cl, .slice At nt ct] 114))
  have HY4 := Lib.hid ((HY.out.below hb3 HY.out.lt).alloc (.cells #[.slice An nn cn, .slice Af lf cf, .map (some bo), .map (some bi), .map (some mb), .slice Av nv cv, .int .i64 cl, .slice At nt ct] 114))
  have HR4 := Lib.hid (Blk.new w3 114 #[.slice An nn cn, .slice Af lf cf, .map (some bo), .map (some bi), .map (some mb), .slice Av nv cv, .int .i64 cl, .slice At nt ct])
  have HN4 := Lib.hid (hN.keep hb4)
  have HV := Lib.hid hV
  have HI := Lib.hid hI
  have hparts := vInst_parts hI
  have hVV := hparts.2.1
  have hcl := inR_iff.1 hparts.2.2.1
  have htsx := vInst_ts hV hI
  have HTS := Lib.hid htsx.1
  have hts30 := htsx.2.1
  have HT64 := Lib.hid (show ∀ t ∈ ts, in64 t.1 from fun t h => by have := htsx.2.2.1 t h; have := (vProc_len hV).2.1; unfold in64; omega)
  have hn10 : nn ≤ 10 := by have := (vProc_len hV).2.1; have := HNL.out; omega
  have hnt30 : nt ≤ 1000 := by have := HLT.out; omega
  have hrs4 : (w3.alloc (.cells #[.slice An nn cn, .slice Af lf cf, .map (some bo), .map (some bi), .map (some mb), .slice Av nv cv, .int .i64 cl, .slice At nt ct] 114)).heap.size = w3.heap.size + 1 := by simp
  have HNV4 := Lib.hid (show nv = 4 by have := vVals_len hVV; have := hv.len1; omega)
  have HVV := Lib.hid hVV
  clear hb3 hb4 hN hV hI hparts htsx HB HP HY hVV
  have HYES := Lib.hid (show deliverOf ns fs ms vs cl ts name = (firstMsg ns fs ms name).bind fun k => goOnOf ns fs ms (k : Int) vs cl ts by unfold deliverOf; rw [HV.out, HI.out]; rfl)
  have HMI := Lib.hid (fun (k : Nat) (hk : k < ns.length) => msg_is (name := name) HV.out HN4.out.vm hk)
  have k0 : (w3.alloc (.cells #[.slice An nn cn, .slice Af lf cf, .map (some bo), .map (some bi), .map (some mb), .slice Av nv cv, .int .i64 cl, .slice At nt ct] 114)).cell? ⟨w.heap.size, 0, none⟩ = some (.slice An nn cn) := HP4.out.cell 0
  go_wp2
  clear k0
  generalize w3.alloc (.cells #[.slice An nn cn, .slice Af lf cf, .map (some bo), .map (some bi), .map (some mb), .slice Av nv cv, .int .i64 cl, .slice At nt ct] 114) = w4 at *
  have hrl := HR4.out.lt
  have hyl := HY4.out.lt
  go_loopw [24] (fun iv wr => ∃ (j : Nat), j ≤ nn ∧ iv = .int .i64 j ∧ Hid (∀ i, i < j → msgAt ns fs ms name i = false) ∧ Hid (Below w4.heap.size w4 wr))
     (fun iv _ => nn - (intOf iv).toNat)
  case atStart => exact ⟨0, by omega, rfl, fun i hi => absurd hi (by omega), Below.refl _ _⟩
  case round =>
    obtain ⟨j, hj, rfl, HNO, HBR⟩ := hrel
    have hsr := HBR.out.size
    by_cases hlt : j < nn
    · obtain ⟨b, off, x, y, hA, _, _, hg, hc0, hc1⟩ := ((hrn.keep HB4.out hB).keep HBR.out (by have := HB4.out.size; omega)).pair hlt
      subst hA
      have HG := Lib.hid hg
      have hb5 := up_alloc (Below.refl _ wr) (.cells #[.int .i64 x, .int .i64 y] 137)
      have HB5 := Lib.hid (up HBR.out hb5)
      have HN5 := Lib.hid (HN4.out.keep HB5.out)
      have HR5 := Lib.hid (HR4.out.below HB5.out hrl)
      have hj1 : (j : Int) < (nn : Int) := by omega
      have hj0 : (0 : Int) ≤ (j : Int) := by omega
      have HWA := Lib.hid (waitsAt_any (some ⟨b, off, none⟩) nn cn ns Af lf cf fs bo bi mb m ms Av nv cv cl At nt ct (j : Int) 4 _ HN5.out hnn)
      have hmi := HMI.out j (by rw [HNL.out]; exact hlt)
      rw [valAt_is hg] at hmi
      rw [show inR (j : Int) 0 ((nn : Int) - 1) = true from inR_iff.2 (by omega), Bool.true_and, Int.toNat_natCast] at HWA
      generalize (readyB (kindAt ns j) ms (flOf fs false (j : Int)) && (kindAt ns j == 4)) = bw at *
      have HMJ := Lib.hid hmi
      clear hmi hg hb5
      by_cases hxn : y = name
      · subst hxn
        have hyy' : (y == y) = true := by simp
        have e0 : (wr.alloc (.cells #[.int .i64 x, .int .i64 y] 137)).cell? ⟨w3.heap.size, 0, none⟩ = some (.slice (some ⟨b, off, none⟩) nn cn) := HR5.out.cell 0
        have e1 : (wr.alloc (.cells #[.int .i64 x, .int .i64 y] 137)).cell? ⟨w3.heap.size, 1, none⟩ = some (.slice Af lf cf) := HR5.out.cell 1
        have e2 : (wr.alloc (.cells #[.int .i64 x, .int .i64 y] 137)).cell? ⟨w3.heap.size, 2, none⟩ = some (.map (some bo)) := HR5.out.cell 2
        have e3 : (wr.alloc (.cells #[.int .i64 x, .int .i64 y] 137)).cell? ⟨w3.heap.size, 3, none⟩ = some (.map (some bi)) := HR5.out.cell 3
        have e4 : (wr.alloc (.cells #[.int .i64 x, .int .i64 y] 137)).cell? ⟨w3.heap.size, 4, none⟩ = some (.map (some mb)) := HR5.out.cell 4
        have e5 : (wr.alloc (.cells #[.int .i64 x, .int .i64 y] 137)).cell? ⟨w3.heap.size, 5, none⟩ = some (.slice Av nv cv) := HR5.out.cell 5
        have e6 : (wr.alloc (.cells #[.int .i64 x, .int .i64 y] 137)).cell? ⟨w3.heap.size, 6, none⟩ = some (.int .i64 cl) := HR5.out.cell 6
        have e7 : (wr.alloc (.cells #[.int .i64 x, .int .i64 y] 137)).cell? ⟨w3.heap.size, 7, none⟩ = some (.slice At nt ct) := HR5.out.cell 7
        go_wp2_with (fail)
        (with_reducible refine HWA.out.mono ?_)
        clear HWA e0 e1 e2 e3 e4 e5 e6 e7
        rintro e w6 ⟨rfl, hb6⟩
        have HBQ := Lib.hid (up HB5.out hb6)
        clear hb6 HB5 HN5 HR5
        cases bw with
        | false =>
          have HNO2 := Lib.hid (show ∀ i, i < j + 1 → msgAt ns fs ms y i = false from fun i hi => by
            rcases Nat.lt_succ_iff_lt_or_eq.1 hi with h | h
            · exact HNO.out i h
            · subst h; rw [HMJ.out]; simp)
          go_wp2
          go_roundw
          case rel => exact ⟨j + 1, by omega, by go_num, HNO2, HBQ⟩
          case measure => simp [intOf]; omega
        | true =>
          have HGO := Lib.hid (show deliverOf ns fs ms vs cl ts y = goOnOf ns fs ms (j : Int) vs cl ts by
            have hm : msgAt ns fs ms y j = true := by rw [HMJ.out]; simp
            have hf : firstMsg ns fs ms y = some j := find_hit HNO.out (by rw [HNL.out]; exact hlt) hm
            rw [HYES.out, hf]; rfl)
          have HB7 := Lib.hid (up HB4.out HBQ.out)
          have HY7 := Lib.hid (HY4.out.below HBQ.out hyl)
          have HN7 := Lib.hid (HN4.out.keep HBQ.out)
          have HR7 := Lib.hid (HR4.out.below HBQ.out hrl)
          have hs7 := HBQ.out.size
          have HV9 := Lib.hid (show Rd w6 0 w6.heap.size 1 Av nv (ivs vs) from (hv.keep HB7.out hBv).wide (Nat.zero_le _) (Nat.le_trans hBv HB7.out.size))
          have HGA := Lib.hid (goneOn_any (some ⟨b, off, none⟩) nn cn ns Af lf cf fs bo bi mb m ms Av nv cv vs cl At nt ct ts w6 j x y HN7.out hn10 hn HV9.out HVV.out ((ht.keep HB7.out hBt).wide (Nat.zero_le _) (Nat.le_trans hBt HB7.out.size)) hnt30 HT64.out HTS.out.heap ⟨by omega, by omega⟩ hlt HG.out)
          have e0 : w6.cell? ⟨w3.heap.size, 0, none⟩ = some (.slice (some ⟨b, off, none⟩) nn cn) := HR7.out.cell 0
          have e1 : w6.cell? ⟨w3.heap.size, 1, none⟩ = some (.slice Af lf cf) := HR7.out.cell 1
          have e2 : w6.cell? ⟨w3.heap.size, 2, none⟩ = some (.map (some bo)) := HR7.out.cell 2
          have e3 : w6.cell? ⟨w3.heap.size, 3, none⟩ = some (.map (some bi)) := HR7.out.cell 3
          have e4 : w6.cell? ⟨w3.heap.size, 4, none⟩ = some (.map (some mb)) := HR7.out.cell 4
          have e5 : w6.cell? ⟨w3.heap.size, 5, none⟩ = some (.slice Av nv cv) := HR7.out.cell 5
          have e6 : w6.cell? ⟨w3.heap.size, 6, none⟩ = some (.int .i64 cl) := HR7.out.cell 6
          have e7 : w6.cell? ⟨w3.heap.size, 7, none⟩ = some (.slice At nt ct) := HR7.out.cell 7
          go_wp2_with (fail)
          (with_reducible refine HGA.out.mono ?_)
          clear HGA e0 e1 e2 e3 e4 e5 e6 e7 HBQ
          intro e w8 hg8
          obtain ⟨v1, v2, rfl, hb8, hres⟩ := hg8.result (ts0 := ts) HV9.out (by omega) hn hn10 (by omega) (List.Perm.refl _) HTS.out
          rw [← HNL.out, goOn_map, ← HGO.out] at hres
          have HB8 := Lib.hid (up HB7.out hb8)
          have HY8 := Lib.hid (HY7.out.below hb8 HY7.out.lt)
          have hs8 := hb8.size
          have HRES := Lib.hid hres
          clear hg8 hb8 hres
          go_wp2_with (fail)
          (with_reducible refine HRES.out.mono ?_)
          clear HRES
          intro e w9 hip
          obtain ⟨xa, xn, xc, ya, yn, yc, xz, za, zn, zc, xb, rfl, hb9, hfin⟩ := hip.shape
          have HB9 := Lib.hid (up HB8.out hb9)
          have HFIN := Lib.hid (hfin (w.heap.size + 1 + 1) w (by have := HY8.out.lt; omega) (by omega) HB8.out)
          have HY9 := Lib.hid (HY8.out.below hb9 HY8.out.lt)
          clear hip hb9 hfin
          have hyy := HY9.out
          have r0 := hyy.cell 0
          have r1 := hyy.cell 1
          have r2 := hyy.cell 2
          have r3 := hyy.cell 3
          simp only [List.getElem?_toArray, List.getElem?_cons_zero, List.getElem?_cons_succ] at r0 r1 r2 r3
          have s0 := hyy.soft 0
          have s1 := hyy.soft 1
          have s2 := hyy.soft 2
          have s3 := hyy.soft 3
          obtain ⟨b0, b1, b2, b3, HBZ⟩ := ins_store hyy HB9.out (by omega) (.slice xa xn xc) (.slice ya yn yc) (.int .i64 xz) (.slice za zn zc)
          clear hyy
          go_wp2
          refine bodyPost_ret (v := .tuple #[.agg #[.slice xa xn xc, .slice ya yn yc, .int .i64 xz, .slice za zn zc], .bool xb]) ?_ rfl ?_
          · generalize ((((w9.setCell ⟨w.heap.size + 1 + 1, 0, none⟩ (.slice xa xn xc)).setCell ⟨w.heap.size + 1 + 1, 1, none⟩ (.slice ya yn yc)).setCell ⟨w.heap.size + 1 + 1, 2, none⟩ (.int .i64 xz)).setCell ⟨w.heap.size + 1 + 1, 3, none⟩ (.slice za zn zc)) = wz at b0 b1 b2 b3 ⊢
            simp [results, Tryz.results38, go_sem, b0, b1, b2, b3]
          · exact HFIN.out
      · have hxf : (y == name) = false := by simpa using hxn
        have HNO2 := Lib.hid (show ∀ i, i < j + 1 → msgAt ns fs ms name i = false from fun i hi => by
          rcases Nat.lt_succ_iff_lt_or_eq.1 hi with h | h
          · exact HNO.out i h
          · subst h; rw [HMJ.out]; simp [hxn])
        clear hxn HWA
        go_wp2
        go_roundw
        case rel => exact ⟨j + 1, by omega, by go_num, HNO2, HB5⟩
        case measure => simp [intOf]; omega
    · obtain rfl : j = nn := by omega
      have HNN := Lib.hid (show deliverOf ns fs ms vs cl ts name = none by
        have hf : firstMsg ns fs ms name = none := find_none (by rw [HNL.out]; exact HNO.out)
        rw [HYES.out, hf]; rfl)
      have HB5 := Lib.hid (up HB4.out HBR.out)
      have HY5 := Lib.hid (HY4.out.below HBR.out hyl)
      have hyy := HY5.out
      have r0 := hyy.cell 0
      have r1 := hyy.cell 1
      have r2 := hyy.cell 2
      have r3 := hyy.cell 3
      simp only [List.getElem?_toArray, List.getElem?_cons_zero, List.getElem?_cons_succ] at r0 r1 r2 r3
      have s0 := hyy.soft 0
      have s1 := hyy.soft 1
      have s2 := hyy.soft 2
      have s3 := hyy.soft 3
      obtain ⟨b0, b1, b2, b3, HBZ⟩ := ins_store hyy HB5.out (by omega) (.slice none 0 0) (.slice none 0 0) (.int .i64 0) (.slice none 0 0)
      clear hyy
      go_wp2
      refine bodyPost_ret (v := .tuple #[.agg #[.slice none 0 0, .slice none 0 0, .int .i64 0, .slice none 0 0], .bool false]) ?_ rfl ?_
      · generalize ((((wr.setCell ⟨w.heap.size + 1 + 1, 0, none⟩ (.slice none 0 0)).setCell ⟨w.heap.size + 1 + 1, 1, none⟩ (.slice none 0 0)).setCell ⟨w.heap.size + 1 + 1, 2, none⟩ (.int .i64 0)).setCell ⟨w.heap.size + 1 + 1, 3, none⟩ (.slice none 0 0)) = wz at b0 b1 b2 b3 ⊢
        simp [results, Tryz.results38, go_sem, b0, b1, b2, b3]
      · exact .inl ⟨HNN.out, rfl, HBZ.out.1⟩
theorem deliver_ok (ns : List (Int × Int)) (fs : List Flw) (ms vs : List Int) (cl : Int) (ts : List Tm) (name : Int) : InsOk (deliverOf ns fs ms vs cl ts name) := by
  unfold deliverOf
  split
  case isFalse => exact insOk_none
  case isTrue h =>
    simp only [Bool.and_eq_true] at h
    have h1 := vInst_ts h.1 h.2
    have h2 := vInst_parts h.2
    cases hf : firstMsg ns fs ms name with
    | none => exact insOk_none
    | some k => exact goOn_ok h.1 h2.2.1 (by omega)
end Go.Proofs.YtknphikoikdcjaaGreat
