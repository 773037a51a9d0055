/- Merged: InstS4, InstS5, InstS6. -/
import Derived.Test.YtknphikoikdcjaaGreatInstS3
import Derived.Test.YtknphikoikdcjaaGreatTokFireBB
import Derived.Test.YtknphikoikdcjaaGreatSetsA
import Derived.Test.YtknphikoikdcjaaGreatTokList
/- The reference's settle. (Written by gen/insts4.py.) -/
set_option linter.unusedSimpArgs false
set_option linter.unusedVariables false
namespace Go.Proofs.YtknphikoikdcjaaGreat
open Go.RowKit

/-- An instance and true, or the zero value and false. -/
def InsPost (r : Option Ins) (w : World) (e : Ending) (w' : World) : Prop :=
  (r = none ∧ e = .returned (.tuple #[.agg #[.slice none 0 0, .slice none 0 0, .int .i64 0, .slice none 0 0], .bool false]) ∧ Below w.heap.size w w') ∨
  (∃ x A0 c0 A1 c1 A2 c2, r = some x ∧ e = .returned (.tuple #[.agg #[.slice A0 x.ms.length c0, .slice A1 x.vs.length c1, .int .i64 x.cl, .slice A2 x.ts.length c2], .bool true]) ∧
    Rd w' w.heap.size w'.heap.size 1 A0 x.ms.length (ivs x.ms) ∧ Rd w' w.heap.size w'.heap.size 1 A1 x.vs.length (ivs x.vs) ∧ Rd w' w.heap.size w'.heap.size 2 A2 x.ts.length (pvs x.ts) ∧ x.ts.length ≤ c2 ∧ Below w.heap.size w w')
/-- How many elements a slice has. -/
def lenV : Value → Nat
  | .slice _ n _ => n
  | _ => 0
theorem pvs_one2 : ∀ ts : List Tm, ∀ v ∈ pvs ts, v.oneCell' = true := fun ts v hv => by
  simp only [pvs, pv, List.mem_flatMap] at hv
  obtain ⟨p, _, hp⟩ := hv
  simp at hp
  rcases hp with rfl | rfl <;> rfl
theorem vMarks_len {fs : List Flw} {ms : List Int} (h : vMarks fs ms = true) : ms.length = fs.length := by
  simp only [vMarks, Bool.and_eq_true, decide_eq_true_eq] at h; exact h.1
theorem ins_store {w0 w : World} {q : Nat} {a0 a1 a2 a3 : Value} (h : Blk w q 34 #[a0, a1, a2, a3]) (hb : Below w0.heap.size w0 w) (hq : w0.heap.size ≤ q) (v0 v1 v2 v3 : Value) :
    ((((w.setCell ⟨q, 0, none⟩ v0).setCell ⟨q, 1, none⟩ v1).setCell ⟨q, 2, none⟩ v2).setCell ⟨q, 3, none⟩ v3).cell? ⟨q, 0, none⟩ = some v0 ∧ ((((w.setCell ⟨q, 0, none⟩ v0).setCell ⟨q, 1, none⟩ v1).setCell ⟨q, 2, none⟩ v2).setCell ⟨q, 3, none⟩ v3).cell? ⟨q, 1, none⟩ = some v1 ∧ ((((w.setCell ⟨q, 0, none⟩ v0).setCell ⟨q, 1, none⟩ v1).setCell ⟨q, 2, none⟩ v2).setCell ⟨q, 3, none⟩ v3).cell? ⟨q, 2, none⟩ = some v2 ∧ ((((w.setCell ⟨q, 0, none⟩ v0).setCell ⟨q, 1, none⟩ v1).setCell ⟨q, 2, none⟩ v2).setCell ⟨q, 3, none⟩ v3).cell? ⟨q, 3, none⟩ = some v3 ∧
    Hid (Below w0.heap.size w0 ((((w.setCell ⟨q, 0, none⟩ v0).setCell ⟨q, 1, none⟩ v1).setCell ⟨q, 2, none⟩ v2).setCell ⟨q, 3, none⟩ v3) ∧ ((((w.setCell ⟨q, 0, none⟩ v0).setCell ⟨q, 1, none⟩ v1).setCell ⟨q, 2, none⟩ v2).setCell ⟨q, 3, none⟩ v3).heap.size = w.heap.size ∧ ∀ i, i ≠ q → ((((w.setCell ⟨q, 0, none⟩ v0).setCell ⟨q, 1, none⟩ v1).setCell ⟨q, 2, none⟩ v2).setCell ⟨q, 3, none⟩ v3).heap[i]? = w.heap[i]?) := by
  have hZ := (((h.put 0 v0).put 1 v1).put 2 v2).put 3 v3
  have b0 := hZ.cell 0
  have b1 := hZ.cell 1
  have b2 := hZ.cell 2
  have b3 := hZ.cell 3
  simp at b0 b1 b2 b3
  refine ⟨b0, b1, b2, b3, (((hb.setCell (p := ⟨q, 0, none⟩) hq v0).setCell (p := ⟨q, 1, none⟩) hq v1).setCell (p := ⟨q, 2, none⟩) hq v2).setCell (p := ⟨q, 3, none⟩) hq v3, by simp [World.setCell], fun i hi => ?_⟩
  rw [Below.heap_setCell _ _ _ _ hi, Below.heap_setCell _ _ _ _ hi, Below.heap_setCell _ _ _ _ hi, Below.heap_setCell _ _ _ _ hi]
set_option maxRecDepth 100000 in
set_option maxHeartbeats 12800000 in
theorem settleS_any (lo hi nn cn : Nat) (An : Option Addr) (ns : List (Int × Int)) (lo1 hi1 lf cf : Nat) (Af : Option Addr) (fs : List Flw) (lom him nm cm : Nat) (Am : Option Addr) (ms : List Int) (lov hiv nv cv : Nat) (Av : Option Addr) (vs : List Int) (cl : Int) (lot hit nt ct : Nat) (At : Option Addr) (ts : List Tm) (w : World)
    (hrn : Rd w lo hi 2 An nn (pvs ns)) (hB : hi ≤ w.heap.size) (hnn : nn ≤ 1048576) (hr : Fls w lo1 hi1 Af lf fs) (hB1 : hi1 ≤ w.heap.size) (hn : lf ≤ 1048576)
    (hm : Rd w lom him 1 Am nm (ivs ms)) (hBm : him ≤ w.heap.size) (hv : Rd w lov hiv 1 Av nv (ivs vs)) (hBv : hiv ≤ w.heap.size) (ht : Rd w lot hit 2 At nt (pvs ts)) (hBt : hit ≤ w.heap.size) (hnt : nt ≤ 2000)
    (hV : vProc ns fs = true) (hM : vMarks fs ms = true) (hVV : vVals vs = true) (hcl : 0 ≤ cl) (hcl9 : cl ≤ 20000) :
    Calls Tryz.prog 84 #[.agg #[.slice An nn cn, .slice Af lf cf], .slice Am nm cm, .slice Av nv cv, .int .i64 cl, .slice At nt ct] w (InsPost (settleOf ns fs ms vs cl ts) w) := by
  obtain ⟨i0, hi0, hz0, hz1, hz2⟩ := info_parts infoTimerS
  have hb1 := up_alloc (up_alloc (Below.refl _ w) (.cells #[.slice An nn cn, .slice Af lf cf] 40)) (.cells #[.slice none 0 0, .slice none 0 0, .int .i64 0, .slice none 0 0] 34)
  have hp1 := (Blk.new w 40 #[.slice An nn cn, .slice Af lf cf]).alloc (.cells #[.slice none 0 0, .slice none 0 0, .int .i64 0, .slice none 0 0] 34)
  have hx1 : Blk ((w.alloc (.cells #[.slice An nn cn, .slice Af lf cf] 40)).alloc (.cells #[.slice none 0 0, .slice none 0 0, .int .i64 0, .slice none 0 0] 34)) (w.heap.size + 1) 34 #[.slice none 0 0, .slice none 0 0, .int .i64 0, .slice none 0 0] := by simpa using Blk.new (w.alloc (.cells #[.slice An nn cn, .slice Af lf cf] 40)) 34 #[.slice none 0 0, .slice none 0 0, .int .i64 0, .slice none 0 0]
  have hs1 : ((w.alloc (.cells #[.slice An nn cn, .slice Af lf cf] 40)).alloc (.cells #[.slice none 0 0, .slice none 0 0, .int .i64 0, .slice none 0 0] 34)).heap.size = w.heap.size + 1 + 1 := by simp
  have HL := Lib.hid hrn.len2
  have HF := Lib.hid hr.1
  have HLV := Lib.hid hv.len1
  have HLT := Lib.hid ht.len2
  have HV := Lib.hid hV
  have HVV := Lib.hid hVV
  have hv4 := vVals_len hVV
  have hnv4 : nv = 4 := by have := hv.len1; omega
  subst hnv4
  have hnn10 : nn ≤ 10 := by have := (vProc_len hV).2.1; have := HL.out; omega
  have h14 := (vProc_len hV).2.2
  have hml := vMarks_len hM
  have hmn := hm.len1
  have HNF := Lib.hid (show nm = lf by have := HF.out; omega)
  have hpos : 0 < nm := by
    obtain ⟨q, _, hq, _⟩ := start_flow hV
    have := HF.out; have := HNF.out; omega
  have hnm14 : nm ≤ 14 := by have := HF.out; have := HNF.out; omega
  have HC := Lib.hid (copyIntsS_any lom him nm cm Am ms _ (hm.keep hb1 hBm) (Nat.le_trans hBm hb1.size) (by omega))
  have HB0 := Lib.hid hb1
  have HP0 := Lib.hid hp1
  have HX0 := Lib.hid hx1
  have HM := Lib.hid hM
  clear hb1 hp1 hx1 hV hVV hM hml hmn hm
  go_enter Tryz.func84, Tryz.ntmps84
  go_wp2_with (fail)
  (with_reducible refine HC.out.mono ?_)
  clear HC
  rintro e w1 ⟨v1, rfl, hown1, hb2⟩
  rw [hs1] at hown1 hb2
  have hs2 := hb2.size
  rw [hs1] at hs2
  obtain ⟨A1, c1, rfl, _, hr1, _⟩ := own_form hown1
  have HB1 := Lib.hid (up HB0.out (hs1.symm ▸ hb2 : Below ((w.alloc (.cells #[.slice An nn cn, .slice Af lf cf] 40)).alloc (.cells #[.slice none 0 0, .slice none 0 0, .int .i64 0, .slice none 0 0] 34)).heap.size _ w1))
  have HP1 := Lib.hid (HP0.out.below hb2 (by omega))
  have HX1 := Lib.hid (HX0.out.below hb2 (by omega))
  have HR1 := Lib.hid hr1
  clear hown1 hr1 hb2 HB0 HP0 HX0 hs1
  go_wp2
  go_loopw [12, 13, 14, 15, 16] (fun nv' sv _ _ _ wr => ∃ (s : Nat) (m : List Int) (A' : Option Addr) (c' : Nat), sv = .int .i64 s ∧ s ≤ 30 ∧ nv' = .slice A' nm c' ∧ Hid (vMarks fs m = true) ∧ Hid (Rd wr (w.heap.size + 1 + 1) wr.heap.size 1 A' nm (ivs m)) ∧ Hid (settleM ns fs vs 30 ms = settleM ns fs vs (30 - s) m) ∧ Hid (Below w.heap.size w wr) ∧ Blk wr w.heap.size 40 #[.slice An nn cn, .slice Af lf cf] ∧ Blk wr (w.heap.size + 1) 34 #[.slice none 0 0, .slice none 0 0, .int .i64 0, .slice none 0 0])
     (fun _ sv _ _ _ _ => 31 - (intOf sv).toNat)
  case atStart => exact ⟨0, ms, A1, c1, rfl, by omega, rfl, HM, HR1, rfl, HB1, HP1.out, HX1.out⟩
  case round =>
    clear HB1 HP1 HX1 HR1 HM hs2
    obtain ⟨s, m, A', c', rfl, hs30, rfl, HM, HR, HSM, HB, hp, hx⟩ := hrel
    have hpl := hp.lt
    have hxl := hx.lt
    have HX := Lib.hid hx
    clear hx
    obtain ⟨wo, hwo⟩ : ∃ wo : World, wo = wr := ⟨_, rfl⟩
    subst hwo
    go_wp2
    go_loopw [14] (fun kv wq => ∃ (k : Nat), k ≤ nn ∧ kv = .int .i64 k ∧ Hid (∀ j, j < k → autoAt ns fs m j = false) ∧ Hid (Below wo.heap.size wo wq) ∧ Blk wq w.heap.size 40 #[.slice An nn cn, .slice Af lf cf])
       (fun kv _ => nn - (intOf kv).toNat)
    case atStart => exact ⟨0, by omega, rfl, fun j hj => absurd hj (by omega), Below.refl _ _, hp⟩
    case round =>
      clear hp
      obtain ⟨k, hk, rfl, HK, HBq, hp⟩ := hrel
      have HBB := Lib.hid (up HB.out HBq.out)
      have hpl2 := hp.lt
      have hsq := HBq.out.size
      have k0 := hp.cell 0
      have k1 := hp.cell 1
      simp only [List.getElem?_toArray, List.getElem?_cons_zero, List.getElem?_cons_succ] at k0 k1
      have HP := Lib.hid hp
      clear hp
      by_cases hlt : k < nn
      · obtain ⟨bn, on, z, zy, hAn, hbn, _, hgn, hn0, _⟩ := (hrn.keep HBB.out hB).pair hlt
        subst hAn
        have hkn : (k : Int) < (nn : Int) := by omega
        have hk0 : (0 : Int) ≤ (k : Int) := by omega
        have hknd : decide ((k : Int) < (nn : Int)) = true := decide_eq_true hkn
        have hkne : ((k : Int) == (nn : Int)) = false := by rw [beq_eq_false_iff_ne]; omega
        have HG := Lib.hid hgn
        have HAU : Hid (autoAt ns fs m k = (autoB z && readyB z m (flOf fs false (k : Int)))) := by show autoAt ns fs m k = _; unfold autoAt; rw [kindAt_is HG.out]
        clear hgn
        have HCA : Hid (∀ wx : World, Calls Tryz.prog 116 #[.int .i64 z] wx fun e w' => e = .returned (.bool (autoB z)) ∧ wx = w') := fun wx => automatic_any z wx
        cases hA : autoB z with
        | false =>
          rw [hA] at HCA
          have HK2 := Lib.hid (show ∀ j, j < k + 1 → autoAt ns fs m j = false from fun j hj => by
            by_cases e : j = k
            · subst e; rw [HAU.out, hA]; rfl
            · exact HK.out j (by omega))
          clear hA HAU HK
          go_wp2_with (go_at_call 116; (with_reducible refine (HCA.out _).mono ?_); rintro e w' ⟨rfl, rfl⟩)
          go_roundw
          case rel => exact ⟨k + 1, by omega, by go_num, HK2, HBq, HP.out⟩
          case measure => simp [intOf]; omega
        | true =>
        rw [hA] at HCA
        have HCR := Lib.hid (readyS_any lo hi nn cn (some ⟨bn, on, none⟩) ns lo1 hi1 lf cf Af fs (w.heap.size + 1 + 1) wo.heap.size nm c' A' m k z zy wr (hrn.keep HBB.out hB) (Nat.le_trans hB HBB.out.size) hnn (hr.keep HBB.out hB1) (Nat.le_trans hB1 HBB.out.size) hn (HR.out.keep HBq.out (Nat.le_refl _)) hsq (vMarks_len HM.out) (fun y hy => (marks_in HM.out y hy).1) hlt HG.out)
        go_wp2_with (go_at_call 116; (with_reducible refine (HCA.out _).mono ?_); rintro e w' ⟨rfl, rfl⟩)
        (with_reducible refine HCR.out.mono ?_)
        clear HCR HCA k0 k1 hn0
        rintro e w5 ⟨rfl, hb5⟩
        have HB5 := Lib.hid (up HBq.out hb5)
        have HP5 := Lib.hid (HP.out.below hb5 hpl2)
        have hs5 := hb5.size
        clear hb5 HP HBB
        cases hRB : readyB z m (flOf fs false (k : Int)) with
        | false =>
          have HK2 := Lib.hid (show ∀ j, j < k + 1 → autoAt ns fs m j = false from fun j hj => by
            by_cases e : j = k
            · subst e; rw [HAU.out, hRB]; simp
            · exact HK.out j (by omega))
          clear hA HAU HK hRB
          go_wp2
          go_roundw
          case rel => exact ⟨k + 1, by omega, by go_num, HK2, HB5, HP5.out⟩
          case measure => simp [intOf]; omega
        | true =>
        have HFA := Lib.hid (show firstAuto ns fs m = some k from find_hit (fun j hj => HK.out j hj) (by rw [HL.out]; exact hlt) (by rw [HAU.out, hA, hRB]; rfl))
        have hFO := fireOf_yes (vs := vs) HV.out HM.out HG.out (inR_iff.2 ⟨by omega, by have := HL.out; omega⟩) HVV.out
        have HBX := Lib.hid (up HB.out HB5.out)
        have HXX := Lib.hid (HX.out.below HB5.out hxl)
        have HCF := Lib.hid (fire_any lo hi nn cn (some ⟨bn, on, none⟩) ns lo1 hi1 lf cf Af fs (w.heap.size + 1 + 1) wo.heap.size nm c' A' m k z zy lov hiv 4 cv Av vs w5 (hrn.keep HBX.out hB) (Nat.le_trans hB HBX.out.size) hnn (hr.keep HBX.out hB1) (Nat.le_trans hB1 HBX.out.size) hn (HR.out.keep HB5.out (Nat.le_refl _)) HB5.out.size (by omega) (hv.keep HBX.out hBv) (Nat.le_trans hBv HBX.out.size) (by omega) (vMarks_len HM.out) (marks_in HM.out) hlt HG.out h14 hpos HV.out HVV.out _ hFO)
        have p0 := HP5.out.cell 0
        have p1 := HP5.out.cell 1
        simp only [List.getElem?_toArray, List.getElem?_cons_zero, List.getElem?_cons_succ] at p0 p1
        clear hA HAU HK hRB hFO HB5
        go_wp2_with (fail)
        (with_reducible refine HCF.out.mono ?_)
        clear HCF p0 p1
        rintro e w6 (⟨hnone, rfl, hb6⟩ | ⟨l, Al, cl', hsome, rfl, _, hrl, _, hb6⟩)
        · have HB6 := Lib.hid (up HBX.out hb6)
          have HX6 := Lib.hid (HXX.out.below hb6 (by have := HXX.out.lt; exact this))
          have HNO := Lib.hid (show settleOf ns fs ms vs cl ts = none by unfold settleOf; rw [HSM.out, settleM_fail HFA.out hnone]; rfl)
          clear hb6 hnone HBX HXX HSM HX
          have hxx := HX6.out
          have r0 := hxx.cell 0
          have r1 := hxx.cell 1
          have r2 := hxx.cell 2
          have r3 := hxx.cell 3
          simp only [List.getElem?_toArray, List.getElem?_cons_zero, List.getElem?_cons_succ] at r0 r1 r2 r3
          have s0 := hxx.soft 0
          have s1 := hxx.soft 1
          have s2 := hxx.soft 2
          have s3 := hxx.soft 3
          obtain ⟨b0, b1, b2, b3, HBZ⟩ := ins_store hxx HB6.out (by omega) (.slice none 0 0) (.slice none 0 0) (.int .i64 0) (.slice none 0 0)
          clear hxx
          go_wp2
          refine bodyPost_ret (v := .tuple #[.agg #[.slice none 0 0, .slice none 0 0, .int .i64 0, .slice none 0 0], .bool false]) ?_ rfl ?_
          · generalize ((((w6.setCell ⟨w.heap.size + 1, 0, none⟩ (.slice none 0 0)).setCell ⟨w.heap.size + 1, 1, none⟩ (.slice none 0 0)).setCell ⟨w.heap.size + 1, 2, none⟩ (.int .i64 0)).setCell ⟨w.heap.size + 1, 3, none⟩ (.slice none 0 0)) = wz at b0 b1 b2 b3 ⊢
            simp [results, Tryz.results84, go_sem, b0, b1, b2, b3]
          · exact .inl ⟨HNO.out, rfl, HBZ.out.1⟩
        · have hll : l.length = nm := by have := vMarks_len (fireOf_marks hsome); have := HF.out; have := HNF.out; omega
          rw [hll] at hrl ⊢
          have HB6 := Lib.hid (up HBX.out hb6)
          have HX6 := Lib.hid (HXX.out.below hb6 (by have := HXX.out.lt; exact this))
          have HP6 := Lib.hid (HP5.out.below hb6 HP5.out.lt)
          have HRL := Lib.hid (hrl.wide (show w.heap.size + 1 + 1 ≤ w5.heap.size by omega) (Nat.le_refl _))
          have HSO := Lib.hid hsome
          clear hb6 hsome HBX HXX HX hrl hll HP5
          by_cases hs3 : s = 30
          · subst hs3
            have HNO := Lib.hid (show settleOf ns fs ms vs cl ts = none by unfold settleOf; rw [HSM.out, show 30 - 30 = 0 from rfl, settleM_end HFA.out]; rfl)
            clear HSM
            have hxx := HX6.out
            have r0 := hxx.cell 0
            have r1 := hxx.cell 1
            have r2 := hxx.cell 2
            have r3 := hxx.cell 3
            simp only [List.getElem?_toArray, List.getElem?_cons_zero, List.getElem?_cons_succ] at r0 r1 r2 r3
            have s0 := hxx.soft 0
            have s1 := hxx.soft 1
            have s2 := hxx.soft 2
            have s3 := hxx.soft 3
            obtain ⟨b0, b1, b2, b3, HBZ⟩ := ins_store hxx HB6.out (by omega) (.slice none 0 0) (.slice none 0 0) (.int .i64 0) (.slice none 0 0)
            clear hxx
            go_wp2
            refine bodyPost_ret (v := .tuple #[.agg #[.slice none 0 0, .slice none 0 0, .int .i64 0, .slice none 0 0], .bool false]) ?_ rfl ?_
            · generalize ((((w6.setCell ⟨w.heap.size + 1, 0, none⟩ (.slice none 0 0)).setCell ⟨w.heap.size + 1, 1, none⟩ (.slice none 0 0)).setCell ⟨w.heap.size + 1, 2, none⟩ (.int .i64 0)).setCell ⟨w.heap.size + 1, 3, none⟩ (.slice none 0 0)) = wz at b0 b1 b2 b3 ⊢
              simp [results, Tryz.results84, go_sem, b0, b1, b2, b3]
            · exact .inl ⟨HNO.out, rfl, HBZ.out.1⟩
          · have hse : ((s : Int) == 30) = false := by rw [beq_eq_false_iff_ne]; omega
            have HSM2 := Lib.hid (show settleM ns fs vs 30 ms = settleM ns fs vs (30 - (s + 1)) l by rw [HSM.out, show 30 - s = (30 - (s + 1)) + 1 by omega, settleM_step HFA.out HSO.out])
            have HML := Lib.hid (fireOf_marks HSO.out)
            have hs31 : s + 1 ≤ 30 := by omega
            clear HSM HSO HFA hs3
            go_wp2
            go_roundw
            case rel => exact ⟨s + 1, l, Al, cl', by go_num, by omega, rfl, HML, HRL, HSM2, HB6, HP6.out, HX6.out⟩
            case measure => simp [intOf]; omega
      · obtain rfl : nn = k := by omega
        have hkne : decide ((nn : Int) < (nn : Int)) = false := decide_eq_false (by omega)
        have hkeq : ((nn : Int) == (nn : Int)) = true := by simp
        have HFN := Lib.hid (show firstAuto ns fs m = none from find_none (fun j hj => HK.out j (by have := HL.out; omega)))
        have HSF := Lib.hid (show settleOf ns fs ms vs cl ts = some ⟨m, vs, cl, withUp ns fs m cl ts ns.length⟩ by unfold settleOf; rw [HSM.out, settleM_stop _ HFN.out]; rfl)
        have HXX := Lib.hid (HX.out.below HBq.out hxl)
        have HRM := Lib.hid (HR.out.keep HBq.out (Nat.le_refl _))
        have hownE : (wr.alloc (.cells #[] 96)).ownsRow wr.heap.size 96 2 (.slice (some ⟨wr.heap.size, 0, none⟩) 0 0) 0 [] := World.ownsRow_made wr #[] 0 (Nat.le_refl _) (by unfold maxLen; omega) (by simp)
        have hbl := up_alloc (Below.refl _ wr) (.cells #[] 96)
        have hr1 := (ht.keep HBB.out hBt).keep hbl (Nat.le_trans hBt HBB.out.size)
        clear HK HFN HSM HX HR
        go_wp2_with (at_builtin; refine wpList_append_rd _ rfl _ _ 32 rfl wr.heap.size 96 i0 _ 2 16 Tryz.underlying32 hi0 hz0 hz1 hz2 rfl (by decide) _ _ _ rfl hownE lot hit At nt ct (pvs ts) rfl hr1 (pvs_one2 ts) ?c3 ?c4 ?c5 ?_)
        case c3 => unfold maxLen; omega
        case c4 => omega
        case c5 => simp
        intro v2 w7 hown2 hg2 _
        have hb2 := up_grown hbl hownE hg2 (Nat.le_refl _)
        try simp only [Nat.zero_add, List.nil_append] at hown2
        have HO7 := Lib.hid (show w7.ownsRow wr.heap.size 96 2 v2 (withUp ns fs m cl ts 0).length (pvs (withUp ns fs m cl ts 0)) from by
          show w7.ownsRow wr.heap.size 96 2 v2 ts.length (pvs ts); rw [HLT.out]; exact hown2)
        have HB7 := Lib.hid hb2
        have HP7 := Lib.hid (HP.out.below hb2 hpl2)
        have hs7 := hb2.size
        clear hownE hbl hr1 hown2 hg2 hb2 HP k0 k1
        obtain ⟨wi, hwi⟩ : ∃ wi : World, wi = wr := ⟨_, rfl⟩
        subst hwi
        have hwis := HBB.out.size
        go_wp2
        go_loopw [17, 18] (fun ov kv wq => ∃ (k N : Nat), k ≤ nn ∧ kv = .int .i64 k ∧ Hid ((withUp ns fs m cl ts k).length = N) ∧ N ≤ 2000 + 3 * k ∧ Hid (wq.ownsRow wi.heap.size 96 2 ov N (pvs (withUp ns fs m cl ts k))) ∧ Hid (Below wi.heap.size wi wq) ∧ Blk wq w.heap.size 40 #[.slice An nn cn, .slice Af lf cf])
           (fun _ kv _ => nn - (intOf kv).toNat)
        case atStart => exact ⟨0, _, by omega, rfl, rfl, by show ts.length ≤ _; have := HLT.out; omega, HO7, HB7, HP7.out⟩
        case round =>
          clear HO7 HB7 HP7 hs7
          obtain ⟨k, N, hk, rfl, HN, hN, HO, HBi, hp⟩ := hrel
          have k0 := hp.cell 0
          have k1 := hp.cell 1
          simp only [List.getElem?_toArray, List.getElem?_cons_zero, List.getElem?_cons_succ] at k0 k1
          have HP := Lib.hid hp
          clear hp
          by_cases hlt : k < nn
          · obtain ⟨bn, on, z, zy, hAn, hbn, _, hgn, hn0, hn1⟩ := (hrn.keep (up HBB.out HBi.out) hB).pair hlt
            subst hAn
            have hkn : (k : Int) < (nn : Int) := by omega
            have hk0 : (0 : Int) ≤ (k : Int) := by omega
            have HG := Lib.hid hgn
            have hbnw : bn < wi.heap.size := by omega
            have hpw : w.heap.size < wi.heap.size := by omega
            have hzyb : z = 3 → 1 ≤ zy ∧ zy ≤ 100 := fun h => by
              have := (vProc_node HV.out hgn).1
              subst h
              simpa [vVal, inR_iff] using this
            have HZB := Lib.hid hzyb
            have HC0 := Lib.hid ((HBi.out.cell (p := ⟨bn, on + k * 2, none⟩) hbnw).symm.trans hn0)
            have HC1 := Lib.hid ((HBi.out.cell (p := ⟨bn, on + k * 2 + 1, none⟩) hbnw).symm.trans hn1)
            clear hgn hzyb hn0 hn1
            go_wp2
            clear k0 k1
            by_cases h3 : z = 3
            case neg =>
              have hz3 : (z == 3) = false := by simpa using h3
              have HW2 := Lib.hid (show withUp ns fs m cl ts (k + 1) = withUp ns fs m cl ts k by rw [withUp, if_neg (by rw [kindAt_is HG.out]; exact h3)])
              clear h3 HZB
              go_loopw [17] (fun ov wq => Hid (wq.ownsRow wi.heap.size 96 2 ov N (pvs (withUp ns fs m cl ts k))) ∧ Hid (Below wi.heap.size wi wq) ∧ Blk wq w.heap.size 40 #[.slice (some ⟨bn, on, none⟩) nn cn, .slice Af lf cf])
                 (fun _ _ => 0)
              case atStart => exact ⟨HO, HBi, HP.out⟩
              case round =>
                clear HO HBi HP
                obtain ⟨HO, HBi, hp⟩ := hrel
                have k0 := hp.cell 0
                simp only [List.getElem?_toArray, List.getElem?_cons_zero, List.getElem?_cons_succ] at k0
                have c0 := (HBi.out.cell (p := ⟨bn, on + k * 2, none⟩) hbnw).trans HC0.out
                have HP := Lib.hid hp
                clear hp
                go_wp2_with (fail)
                go_quiet (fail)
                clear k0 c0
                go_wp2
                go_roundw
                case rel => exact ⟨k + 1, N, by omega, by go_num, by rw [HW2.out]; exact HN, by omega, by rw [HW2.out]; exact own_keep HO.out (up_drewN (Below.refl _ wr) _), up_drewN HBi.out _, HP.out.drewN _⟩
                case measure => simp [intOf]; omega
            case pos =>
              subst h3
              have hzy1 := (HZB.out rfl).1
              have hzy2 := (HZB.out rfl).2
              have hwr : IntKind.i64.wrap (cl + zy) = cl + zy := IntWalk.i64_in _ (by omega)
              have HW2 := Lib.hid (show withUp ns fs m cl ts (k + 1) = addN ((k : Int), cl + zy) (lackT fs m ts k) (withUp ns fs m cl ts k) by rw [withUp, if_pos (kindAt_is HG.out), valAt_is HG.out])
              have HLEN := Lib.hid (one_in HV.out HG.out (.inr (.inl rfl)))
              have HTU := Lib.hid (show ∀ i, tAt (addN ((k : Int), cl + zy) i (withUp ns fs m cl ts k)) (k : Int) = tAt ts (k : Int) + i from fun i => by
                rw [tAt_addN, tAt_withUp, if_neg (by omega), if_pos rfl]; omega)
              have HNL := Lib.hid (show ∀ i, (addN ((k : Int), cl + zy) i (withUp ns fs m cl ts k)).length = i + N from fun i => by rw [addN_len, HN.out])
              have hlk : lackT fs m ts k ≤ 3 := by unfold lackT; have := (waitAt_bd (fs := fs) (marks_in HM.out) (k : Int)).2; omega
              have hta : tAt ts (k : Int) ≤ 2000 := by have := tAt_le ts (k : Int); have := HLT.out; omega
              have hwa := waitAt_bd (fs := fs) (marks_in HM.out) (k : Int)
              have hwa1 := hwa.1
              have hwa2 := hwa.2
              have HLK : Hid (lackT fs m ts k = (waitAt fs m (k : Int) - tAt ts (k : Int)).toNat) := rfl
              clear HZB hwa
              obtain ⟨AX, cX, hXX, _, _, _⟩ := own_form HO.out
              go_loopw [17] (fun ov wq => ∃ (i : Nat) (A9 : Option Addr) (c9 : Nat), ov = .slice A9 (N + i) c9 ∧ i ≤ lackT fs m ts k ∧ Hid (wq.ownsRow wi.heap.size 96 2 (.slice A9 (N + i) c9) (N + i) (pvs (addN ((k : Int), cl + zy) i (withUp ns fs m cl ts k)))) ∧ Hid (Below wi.heap.size wi wq) ∧ Blk wq w.heap.size 40 #[.slice (some ⟨bn, on, none⟩) nn cn, .slice Af lf cf])
                 (fun ov _ => N + lackT fs m ts k - lenV ov)
              case atStart => exact ⟨0, AX, cX, hXX, by omega, (show Hid (wr.ownsRow wi.heap.size 96 2 (.slice AX N cX) N (pvs (withUp ns fs m cl ts k))) from by rw [← hXX]; exact HO.out), HBi, HP.out⟩
              case round =>
                clear HO HBi HP hXX
                obtain ⟨i, A9, c9, rfl, hi, HO, HBi, hp⟩ := hrel
                have hpl3 := hp.lt
                have hbis := HBi.out.size
                have HP := Lib.hid hp
                clear hp
                have HRT := Lib.hid (Rd.of_own HO.out)
                have HBW := Lib.hid (up HBB.out HBi.out)
                have HCT : Hid (∀ wx : World, Below wr.heap.size wr wx → Calls Tryz.prog 115 #[.slice A9 (N + i) c9, .int .i64 (k : Int)] wx fun e w' => e = .returned (.int .i64 ((tAt ts (k : Int) + i : Nat) : Int)) ∧ wx = w') := fun wx hbx => by
                  rw [← HTU.out i]; exact timersAt_any _ _ (N + i) c9 A9 _ (k : Int) wx (HRT.out.keep hbx (Nat.le_refl _)) (by omega)
                have HCW : Hid (∀ wx : World, Below wr.heap.size wr wx → Calls Tryz.prog 90 #[.agg #[.slice (some ⟨bn, on, none⟩) nn cn, .slice Af lf cf], .slice A' nm c', .int .i64 (k : Int)] wx fun e w' => e = .returned (.int .i64 (waitAt fs m (k : Int))) ∧ Below wx.heap.size wx w') := fun wx hbx => waitingS_any (.slice (some ⟨bn, on, none⟩) nn cn) lo1 hi1 lf cf Af fs (w.heap.size + 1 + 1) wo.heap.size nm c' A' m k wx (hr.keep (up HBW.out hbx) hB1) (Nat.le_trans hB1 (up HBW.out hbx).size) hn (HRM.out.keep (up HBi.out hbx) hsq) (Nat.le_trans hsq (up HBi.out hbx).size) (vMarks_len HM.out) (by rw [HLEN.out]; omega)
                have HSW : Hid (∀ wx : World, Below wr.heap.size wr wx → wx.cell? ⟨w.heap.size, 0, none⟩ = some (.slice (some ⟨bn, on, none⟩) nn cn) ∧ wx.cell? ⟨w.heap.size, 1, none⟩ = some (.slice Af lf cf) ∧ wx.cell? ⟨bn, on + k * 2, none⟩ = some (.int .i64 3)) := fun wx hbx => ⟨(HP.out.below hbx hpl3).cell 0, (HP.out.below hbx hpl3).cell 1, ((up HBi.out hbx).cell (p := ⟨bn, on + k * 2, none⟩) hbnw).trans HC0.out⟩
                by_cases ht : ((tAt ts (k : Int) + i : Nat) : Int) < waitAt fs m (k : Int)
                · have htd : decide (((tAt ts (k : Int) + i : Nat) : Int) < waitAt fs m (k : Int)) = true := decide_eq_true ht
                  have hi1 : i < lackT fs m ts k := by rw [HLK.out]; omega
                  generalize waitAt fs m (k : Int) = wa at *
                  generalize hq9 : ((tAt ts (k : Int) + i : Nat) : Int) = ta at *
                  clear hq9
                  go_wp2_with (fail)
                  go_region_held3 (fun w' => w'.cell? ⟨w.heap.size, 0, none⟩ = some (.slice (some ⟨bn, on, none⟩) nn cn) ∧ w'.cell? ⟨w.heap.size, 1, none⟩ = some (.slice Af lf cf) ∧ w'.cell? ⟨bn, on + k * 2, none⟩ = some (.int .i64 3))
                    (first | exact HSW.out _ (Below.refl _ _) | exact HSW.out _ (up_drew (Below.refl _ _)) | exact HSW.out _ HX7.out)
                    ((first
                      | (go_at_call 115; (with_reducible refine (HCT.out _ (up_drew (Below.refl _ wr))).mono ?_); rintro e w' ⟨rfl, rfl⟩)
                      | (go_at_call 90; (with_reducible refine (HCW.out _ (up_drew (Below.refl _ wr))).mono ?_); rintro e w7 ⟨rfl, hb7⟩; have HX7 := Lib.hid (up (up_drew (Below.refl _ wr)) hb7))))
                  all_goals
                    have HB7 := Lib.hid (up HBi.out HX7.out)
                    have HP7 := Lib.hid (HP.out.below HX7.out hpl3)
                    have HR7 := Lib.hid (HRT.out.keep HX7.out (Nat.le_refl _))
                    have hs7 := HX7.out.size
                    have k0 := HP7.out.cell 0
                    simp only [List.getElem?_toArray, List.getElem?_cons_zero, List.getElem?_cons_succ] at k0
                    have c1 := (HB7.out.cell (p := ⟨bn, on + k * 2 + 1, none⟩) hbnw).trans HC1.out
                    clear HCT HCW HSW HX7 HO HBi HP HRT HBW ht htd
                    have HCA := Lib.hid (addTimer_any _ _ (N + i) c9 A9 (addN ((k : Int), cl + zy) i (withUp ns fs m cl ts k)) (k : Int) (cl + zy) w7 HR7.out hs7 (by omega))
                    go_wp2_with (fail)
                    (with_reducible refine HCA.out.mono ?_)
                    clear HCA k0 c1
                    rintro e w8 ⟨v8, rfl, hown8, hb8⟩
                    rw [show (addT (addN ((k : Int), cl + zy) i (withUp ns fs m cl ts k)) ((k : Int), cl + zy)).length = N + (i + 1) by rw [addT_len, HNL.out]; omega] at hown8
                    obtain ⟨A8, c8, rfl, _, _, _⟩ := own_form hown8
                    have HO8 := Lib.hid (show w8.ownsRow wi.heap.size 96 2 (.slice A8 (N + (i + 1)) c8) (N + (i + 1)) (pvs (addN ((k : Int), cl + zy) (i + 1) (withUp ns fs m cl ts k))) from hown8.mono (by omega))
                    have HB8 := Lib.hid (up HB7.out hb8)
                    have HP8 := Lib.hid (HP7.out.below hb8 HP7.out.lt)
                    clear hown8 hb8 HB7 HP7 HR7
                    go_wp2
                    go_roundw
                    case rel => exact ⟨i + 1, A8, c8, rfl, by omega, HO8, HB8, HP8.out⟩
                    case measure => simp only [lenV]; omega
                · have htd : decide (((tAt ts (k : Int) + i : Nat) : Int) < waitAt fs m (k : Int)) = false := decide_eq_false ht
                  have hi1 : i = lackT fs m ts k := by rw [HLK.out] at hi ⊢; omega
                  have HW3 := Lib.hid (show withUp ns fs m cl ts (k + 1) = addN ((k : Int), cl + zy) i (withUp ns fs m cl ts k) by rw [HW2.out, hi1])
                  clear hi1 HLK
                  generalize waitAt fs m (k : Int) = wa at *
                  generalize hq9 : ((tAt ts (k : Int) + i : Nat) : Int) = ta at *
                  clear hq9
                  go_wp2_with (fail)
                  go_region_held3 (fun w' => w'.cell? ⟨w.heap.size, 0, none⟩ = some (.slice (some ⟨bn, on, none⟩) nn cn) ∧ w'.cell? ⟨w.heap.size, 1, none⟩ = some (.slice Af lf cf) ∧ w'.cell? ⟨bn, on + k * 2, none⟩ = some (.int .i64 3))
                    (first | exact HSW.out _ (Below.refl _ _) | exact HSW.out _ (up_drew (Below.refl _ _)) | exact HSW.out _ HX7.out)
                    ((first
                      | (go_at_call 115; (with_reducible refine (HCT.out _ (up_drew (Below.refl _ wr))).mono ?_); rintro e w' ⟨rfl, rfl⟩)
                      | (go_at_call 90; (with_reducible refine (HCW.out _ (up_drew (Below.refl _ wr))).mono ?_); rintro e w7 ⟨rfl, hb7⟩; have HX7 := Lib.hid (up (up_drew (Below.refl _ wr)) hb7))))
                  all_goals
                    have HB7 := Lib.hid (up HBi.out HX7.out)
                    have HP7 := Lib.hid (HP.out.below HX7.out hpl3)
                    have HO7 := Lib.hid (show w7.ownsRow wi.heap.size 96 2 (.slice A9 (N + i) c9) (N + i) (pvs (withUp ns fs m cl ts (k + 1))) from by rw [HW3.out]; exact own_keep HO.out HX7.out)
                    have HN7 := Lib.hid (show (withUp ns fs m cl ts (k + 1)).length = N + i by rw [HW3.out, HNL.out]; omega)
                    clear HCT HCW HSW HX7 HO HBi HP HRT HBW ht htd HW3 HW2
                    go_wp2
                    go_roundw
                    case rel => exact ⟨k + 1, N + i, by omega, by go_num, HN7, by omega, HO7, HB7, HP7.out⟩
                    case measure => simp [intOf]; omega
          · obtain rfl : nn = k := by omega
            have hxl2 := HXX.out.lt
            have HBW := Lib.hid (up HBB.out HBi.out)
            have HX9 := Lib.hid (HXX.out.below HBi.out hxl2)
            have HR9 := Lib.hid (HRM.out.keep HBi.out hsq)
            have HVR := Lib.hid (hv.keep HBW.out hBv)
            have hbis := HBi.out.size
            obtain ⟨A9, c9, rfl, hcc, hr9, _⟩ := own_form HO.out
            have HT9 := Lib.hid hr9
            have HCP := Lib.hid (copyIntsS_any lov hiv 4 cv Av vs wr HVR.out (Nat.le_trans hBv HBW.out.size) (by omega))
            clear hr9 HO HXX HRM HBB
            go_wp2_with (fail)
            (with_reducible refine HCP.out.mono ?_)
            clear HCP k0 k1
            rintro e w9 ⟨v9, rfl, hown9, hb9⟩
            obtain ⟨AV, cV, rfl, _, hrv, _⟩ := own_form hown9
            have hs9 := hb9.size
            have hxx := HX9.out.below hb9 HX9.out.lt
            have HB9 := Lib.hid (up HBW.out hb9)
            have r0 := hxx.cell 0
            have r1 := hxx.cell 1
            have r2 := hxx.cell 2
            have r3 := hxx.cell 3
            simp only [List.getElem?_toArray, List.getElem?_cons_zero, List.getElem?_cons_succ] at r0 r1 r2 r3
            have s0 := hxx.soft 0
            have s1 := hxx.soft 1
            have s2 := hxx.soft 2
            have s3 := hxx.soft 3
            obtain ⟨b0, b1, b2, b3, HBZ⟩ := ins_store hxx HB9.out (by omega) (.slice A' nm c') (.slice AV 4 cV) (.int .i64 cl) (.slice A9 N c9)
            have hrm9 := HR9.out.keep hb9 (by omega)
            have hrt9 := HT9.out.keep hb9 (Nat.le_refl _)
            have hsz := HBZ.out.2.1
            have HRF := Lib.hid (((((hrm9.setCell (p := ⟨w.heap.size + 1, 0, none⟩) (.inl (by show w.heap.size + 1 < w.heap.size + 1 + 1; omega)) (.slice A' nm c')).setCell (p := ⟨w.heap.size + 1, 1, none⟩) (.inl (by show w.heap.size + 1 < w.heap.size + 1 + 1; omega)) (.slice AV 4 cV)).setCell (p := ⟨w.heap.size + 1, 2, none⟩) (.inl (by show w.heap.size + 1 < w.heap.size + 1 + 1; omega)) (.int .i64 cl)).setCell (p := ⟨w.heap.size + 1, 3, none⟩) (.inl (by show w.heap.size + 1 < w.heap.size + 1 + 1; omega)) (.slice A9 N c9)).wide (show w.heap.size ≤ w.heap.size + 1 + 1 by omega) (show wo.heap.size ≤ ((((w9.setCell ⟨w.heap.size + 1, 0, none⟩ (.slice A' nm c')).setCell ⟨w.heap.size + 1, 1, none⟩ (.slice AV 4 cV)).setCell ⟨w.heap.size + 1, 2, none⟩ (.int .i64 cl)).setCell ⟨w.heap.size + 1, 3, none⟩ (.slice A9 N c9)).heap.size by rw [hsz]; omega))
            have HVF := Lib.hid (((((hrv.setCell (p := ⟨w.heap.size + 1, 0, none⟩) (.inl (by show w.heap.size + 1 < wr.heap.size; omega)) (.slice A' nm c')).setCell (p := ⟨w.heap.size + 1, 1, none⟩) (.inl (by show w.heap.size + 1 < wr.heap.size; omega)) (.slice AV 4 cV)).setCell (p := ⟨w.heap.size + 1, 2, none⟩) (.inl (by show w.heap.size + 1 < wr.heap.size; omega)) (.int .i64 cl)).setCell (p := ⟨w.heap.size + 1, 3, none⟩) (.inl (by show w.heap.size + 1 < wr.heap.size; omega)) (.slice A9 N c9)).wide (show w.heap.size ≤ wr.heap.size by omega) (show w9.heap.size ≤ ((((w9.setCell ⟨w.heap.size + 1, 0, none⟩ (.slice A' nm c')).setCell ⟨w.heap.size + 1, 1, none⟩ (.slice AV 4 cV)).setCell ⟨w.heap.size + 1, 2, none⟩ (.int .i64 cl)).setCell ⟨w.heap.size + 1, 3, none⟩ (.slice A9 N c9)).heap.size by rw [hsz]; omega))
            have HTF := Lib.hid (((((hrt9.setCell (p := ⟨w.heap.size + 1, 0, none⟩) (.inl (by show w.heap.size + 1 < wi.heap.size; omega)) (.slice A' nm c')).setCell (p := ⟨w.heap.size + 1, 1, none⟩) (.inl (by show w.heap.size + 1 < wi.heap.size; omega)) (.slice AV 4 cV)).setCell (p := ⟨w.heap.size + 1, 2, none⟩) (.inl (by show w.heap.size + 1 < wi.heap.size; omega)) (.int .i64 cl)).setCell (p := ⟨w.heap.size + 1, 3, none⟩) (.inl (by show w.heap.size + 1 < wi.heap.size; omega)) (.slice A9 N c9)).wide (show w.heap.size ≤ wi.heap.size by omega) (show wr.heap.size ≤ ((((w9.setCell ⟨w.heap.size + 1, 0, none⟩ (.slice A' nm c')).setCell ⟨w.heap.size + 1, 1, none⟩ (.slice AV 4 cV)).setCell ⟨w.heap.size + 1, 2, none⟩ (.int .i64 cl)).setCell ⟨w.heap.size + 1, 3, none⟩ (.slice A9 N c9)).heap.size by rw [hsz]; omega))
            have hlm : m.length = nm := by have := vMarks_len HM.out; have := HF.out; have := HNF.out; omega
            have HLM := Lib.hid hlm
            clear hxx hrm9 hrt9 hrv hown9 hb9 hlm hsz HR9 HT9 HVR HX9 HBW HB9
            go_wp2
            refine bodyPost_ret (v := .tuple #[.agg #[.slice A' nm c', .slice AV 4 cV, .int .i64 cl, .slice A9 N c9], .bool true]) ?_ rfl ?_
            · generalize ((((w9.setCell ⟨w.heap.size + 1, 0, none⟩ (.slice A' nm c')).setCell ⟨w.heap.size + 1, 1, none⟩ (.slice AV 4 cV)).setCell ⟨w.heap.size + 1, 2, none⟩ (.int .i64 cl)).setCell ⟨w.heap.size + 1, 3, none⟩ (.slice A9 N c9)) = wz at b0 b1 b2 b3 ⊢
              simp [results, Tryz.results84, go_sem, b0, b1, b2, b3]
            · refine .inr ⟨⟨m, vs, cl, withUp ns fs m cl ts ns.length⟩, A', c', AV, cV, A9, c9, HSF.out, ?_, ?_, ?_, ?_, ?_, HBZ.out.1⟩
              · show _ = Ending.returned (.tuple #[.agg #[.slice A' m.length c', .slice AV vs.length cV, .int .i64 cl, .slice A9 (withUp ns fs m cl ts ns.length).length c9], .bool true])
                rw [HLM.out, HLV.out, HL.out, HN.out]
              · show Rd _ _ _ 1 A' m.length (ivs m)
                rw [HLM.out]; exact HRF.out
              · show Rd _ _ _ 1 AV vs.length (ivs vs)
                rw [HLV.out]; exact HVF.out
              · show Rd _ _ _ 2 A9 (withUp ns fs m cl ts ns.length).length (pvs (withUp ns fs m cl ts ns.length))
                rw [HL.out, HN.out]; exact HTF.out
              · show (withUp ns fs m cl ts ns.length).length ≤ c9
                rw [HL.out, HN.out]; exact hcc
end Go.Proofs.YtknphikoikdcjaaGreat


/- The reference's goOn. (Written by gen/insts5.py.) -/
namespace Go.Proofs.YtknphikoikdcjaaGreat
open Go.RowKit

set_option maxRecDepth 100000 in
set_option maxHeartbeats 3200000 in
theorem goOnS_any (lo hi nn cn : Nat) (An : Option Addr) (ns : List (Int × Int)) (lo1 hi1 lf cf : Nat) (Af : Option Addr) (fs : List Flw) (lom him nm cm : Nat) (Am : Option Addr) (ms : List Int) (u1 u3 : Value) (k : Nat) (z zy : Int) (lov hiv nv cv : Nat) (Av : Option Addr) (vs : List Int) (cl : Int) (lot hit nt ct : Nat) (At : Option Addr) (ts : List Tm) (w : World)
    (hrn : Rd w lo hi 2 An nn (pvs ns)) (hB : hi ≤ w.heap.size) (hnn : nn ≤ 1048576) (hr : Fls w lo1 hi1 Af lf fs) (hB1 : hi1 ≤ w.heap.size) (hn : lf ≤ 1048576)
    (hm : Rd w lom him 1 Am nm (ivs ms)) (hBm : him ≤ w.heap.size) (hv : Rd w lov hiv 1 Av nv (ivs vs)) (hBv : hiv ≤ w.heap.size) (ht : Rd w lot hit 2 At nt (pvs ts)) (hBt : hit ≤ w.heap.size) (hnt : nt ≤ 2000)
    (hV : vProc ns fs = true) (hM : vMarks fs ms = true) (hVV : vVals vs = true) (hcl : 0 ≤ cl) (hcl9 : cl ≤ 20000) (hk : k < nn) (hkz : ns[k]? = some (z, zy)) :
    Calls Tryz.prog 94 #[.agg #[.slice An nn cn, .slice Af lf cf], .agg #[.slice Am nm cm, u1, .int .i64 cl, u3], .int .i64 (k : Int), .slice Av nv cv, .slice At nt ct] w (InsPost (goOnOf ns fs ms (k : Int) vs cl ts) w) := by
  have hb1 := up_alloc (up_alloc (up_alloc (Below.refl _ w) (.cells #[.slice An nn cn, .slice Af lf cf] 40)) (.cells #[.slice Am nm cm, u1, .int .i64 cl, u3] 34)) (.cells #[.slice none 0 0, .slice none 0 0, .int .i64 0, .slice none 0 0] 34)
  have hp1 := ((Blk.new w 40 #[.slice An nn cn, .slice Af lf cf]).alloc (.cells #[.slice Am nm cm, u1, .int .i64 cl, u3] 34)).alloc (.cells #[.slice none 0 0, .slice none 0 0, .int .i64 0, .slice none 0 0] 34)
  have hx1 : Blk (((w.alloc (.cells #[.slice An nn cn, .slice Af lf cf] 40)).alloc (.cells #[.slice Am nm cm, u1, .int .i64 cl, u3] 34)).alloc (.cells #[.slice none 0 0, .slice none 0 0, .int .i64 0, .slice none 0 0] 34)) (w.heap.size + 1) 34 #[.slice Am nm cm, u1, .int .i64 cl, u3] := by
    have := (Blk.new (w.alloc (.cells #[.slice An nn cn, .slice Af lf cf] 40)) 34 #[.slice Am nm cm, u1, .int .i64 cl, u3]).alloc (.cells #[.slice none 0 0, .slice none 0 0, .int .i64 0, .slice none 0 0] 34)
    simpa using this
  have hy1 : Blk (((w.alloc (.cells #[.slice An nn cn, .slice Af lf cf] 40)).alloc (.cells #[.slice Am nm cm, u1, .int .i64 cl, u3] 34)).alloc (.cells #[.slice none 0 0, .slice none 0 0, .int .i64 0, .slice none 0 0] 34)) (w.heap.size + 1 + 1) 34 #[.slice none 0 0, .slice none 0 0, .int .i64 0, .slice none 0 0] := by simpa using Blk.new ((w.alloc (.cells #[.slice An nn cn, .slice Af lf cf] 40)).alloc (.cells #[.slice Am nm cm, u1, .int .i64 cl, u3] 34)) 34 #[.slice none 0 0, .slice none 0 0, .int .i64 0, .slice none 0 0]
  have hs1 : (((w.alloc (.cells #[.slice An nn cn, .slice Af lf cf] 40)).alloc (.cells #[.slice Am nm cm, u1, .int .i64 cl, u3] 34)).alloc (.cells #[.slice none 0 0, .slice none 0 0, .int .i64 0, .slice none 0 0] 34)).heap.size = w.heap.size + 1 + 1 + 1 := by simp
  have HL := Lib.hid hrn.len2
  have HF := Lib.hid hr.1
  have hv4 := vVals_len hVV
  have hnv4 : nv = 4 := by have := hv.len1; omega
  subst hnv4
  have hml := vMarks_len hM
  have hmn := hm.len1
  have h14 := (vProc_len hV).2.2
  have hpos : 0 < nm := by
    obtain ⟨q, _, hq, _⟩ := start_flow hV
    omega
  have hnm : nm ≤ 1048576 := by omega
  have hFO := fireOf_yes (vs := vs) hV hM hkz (inR_iff.2 ⟨by omega, by have := HL.out; omega⟩) hVV
  have HC := Lib.hid (fire_any lo hi nn cn An ns lo1 hi1 lf cf Af fs lom him nm cm Am ms k z zy lov hiv 4 cv Av vs _ (hrn.keep hb1 hB) (Nat.le_trans hB hb1.size) hnn (hr.keep hb1 hB1) (Nat.le_trans hB1 hb1.size) hn (hm.keep hb1 hBm) (Nat.le_trans hBm hb1.size) hnm (hv.keep hb1 hBv) (Nat.le_trans hBv hb1.size) (by omega) hml (marks_in hM) hk hkz h14 hpos hV hVV _ hFO)
  have HV := Lib.hid hV
  have HVV := Lib.hid hVV
  have k0 := hp1.cell 0
  have k1 := hp1.cell 1
  have x0 := hx1.cell 0
  simp only [List.getElem?_toArray, List.getElem?_cons_zero, List.getElem?_cons_succ] at k0 k1 x0
  have HB := Lib.hid hb1
  have HP := Lib.hid hp1
  have HX := Lib.hid hx1
  have HY := Lib.hid hy1
  clear hb1 hp1 hx1 hy1 hV hVV hM hml hmn hFO hkz
  go_enter Tryz.func94, Tryz.ntmps94
  go_wp2_with (fail)
  (with_reducible refine HC.out.mono ?_)
  clear HC k0 k1 x0
  rintro e w2 (⟨hnone, rfl, hb2⟩ | ⟨l, Al, cl', hsome, rfl, _, hrl, _, hb2⟩)
  · have hs2 := hb2.size
    rw [hs1] at hs2
    have HB2 := Lib.hid (up HB.out hb2)
    have HY2 := Lib.hid (HY.out.below hb2 (by omega))
    have HNO := Lib.hid (show goOnOf ns fs ms (k : Int) vs cl ts = none by unfold goOnOf; rw [hnone]; rfl)
    clear hb2 hnone HB HP HX HY hs1
    have hxx := HY2.out
    have r0 := hxx.cell 0
    have r1 := hxx.cell 1
    have r2 := hxx.cell 2
    have r3 := hxx.cell 3
    simp only [List.getElem?_toArray, List.getElem?_cons_zero, List.getElem?_cons_succ] at r0 r1 r2 r3
    have s0 := hxx.soft 0
    have s1 := hxx.soft 1
    have s2 := hxx.soft 2
    have s3 := hxx.soft 3
    obtain ⟨b0, b1, b2, b3, HBZ⟩ := ins_store hxx HB2.out (by omega) (.slice none 0 0) (.slice none 0 0) (.int .i64 0) (.slice none 0 0)
    clear hxx
    go_wp2
    refine bodyPost_ret (v := .tuple #[.agg #[.slice none 0 0, .slice none 0 0, .int .i64 0, .slice none 0 0], .bool false]) ?_ rfl ?_
    · generalize ((((w2.setCell ⟨w.heap.size + 1 + 1, 0, none⟩ (.slice none 0 0)).setCell ⟨w.heap.size + 1 + 1, 1, none⟩ (.slice none 0 0)).setCell ⟨w.heap.size + 1 + 1, 2, none⟩ (.int .i64 0)).setCell ⟨w.heap.size + 1 + 1, 3, none⟩ (.slice none 0 0)) = wz at b0 b1 b2 b3 ⊢
      simp [results, Tryz.results94, go_sem, b0, b1, b2, b3]
    · exact .inl ⟨HNO.out, rfl, HBZ.out.1⟩
  · have hs2 := hb2.size
    rw [hs1] at hs2
    have HB2 := Lib.hid (up HB.out hb2)
    have HP2 := Lib.hid (HP.out.below hb2 (by omega))
    have HX2 := Lib.hid (HX.out.below hb2 (by omega))
    have HY2 := Lib.hid (HY.out.below hb2 (by omega))
    have HGO := Lib.hid (show goOnOf ns fs ms (k : Int) vs cl ts = settleOf ns fs l vs cl ts by unfold goOnOf; rw [hsome]; rfl)
    have HCS := Lib.hid (settleS_any lo hi nn cn An ns lo1 hi1 lf cf Af fs _ _ l.length cl' Al l lov hiv 4 cv Av vs cl lot hit nt ct At ts w2 (hrn.keep HB2.out hB) (Nat.le_trans hB HB2.out.size) hnn (hr.keep HB2.out hB1) (Nat.le_trans hB1 HB2.out.size) hn hrl (Nat.le_refl _) (hv.keep HB2.out hBv) (Nat.le_trans hBv HB2.out.size) (ht.keep HB2.out hBt) (Nat.le_trans hBt HB2.out.size) hnt HV.out (fireOf_marks hsome) HVV.out hcl hcl9)
    have k0 := HP2.out.cell 0
    have k1 := HP2.out.cell 1
    have x2 := HX2.out.cell 2
    simp only [List.getElem?_toArray, List.getElem?_cons_zero, List.getElem?_cons_succ] at k0 k1 x2
    clear hb2 hsome HB HP HX HY hs1 hrl
    go_wp2_with (fail)
    (with_reducible refine HCS.out.mono ?_)
    clear HCS k0 k1 x2
    rintro e w3 (⟨hno, rfl, hb3⟩ | ⟨x, A0, c0, A1, c1, A2, c2, hso, rfl, hr0, hr1, hr2, hcc, hb3⟩)
    · have HB3 := Lib.hid (up HB2.out hb3)
      have HY3 := Lib.hid (HY2.out.below hb3 HY2.out.lt)
      have HNO := Lib.hid (HGO.out.trans hno)
      clear hb3 hno HB2 HP2 HX2 HY2
      have hxx := HY3.out
      have r0 := hxx.cell 0
      have r1 := hxx.cell 1
      have r2 := hxx.cell 2
      have r3 := hxx.cell 3
      simp only [List.getElem?_toArray, List.getElem?_cons_zero, List.getElem?_cons_succ] at r0 r1 r2 r3
      have s0 := hxx.soft 0
      have s1 := hxx.soft 1
      have s2 := hxx.soft 2
      have s3 := hxx.soft 3
      obtain ⟨b0, b1, b2, b3, HBZ⟩ := ins_store hxx HB3.out (by omega) (.slice none 0 0) (.slice none 0 0) (.int .i64 0) (.slice none 0 0)
      clear hxx
      go_wp2
      refine bodyPost_ret (v := .tuple #[.agg #[.slice none 0 0, .slice none 0 0, .int .i64 0, .slice none 0 0], .bool false]) ?_ rfl ?_
      · generalize ((((w3.setCell ⟨w.heap.size + 1 + 1, 0, none⟩ (.slice none 0 0)).setCell ⟨w.heap.size + 1 + 1, 1, none⟩ (.slice none 0 0)).setCell ⟨w.heap.size + 1 + 1, 2, none⟩ (.int .i64 0)).setCell ⟨w.heap.size + 1 + 1, 3, none⟩ (.slice none 0 0)) = wz at b0 b1 b2 b3 ⊢
        simp [results, Tryz.results94, go_sem, b0, b1, b2, b3]
      · exact .inl ⟨HNO.out, rfl, HBZ.out.1⟩
    · have HB3 := Lib.hid (up HB2.out hb3)
      have HY3 := Lib.hid (HY2.out.below hb3 HY2.out.lt)
      have HSOME := Lib.hid (HGO.out.trans hso)
      have hs3 := hb3.size
      clear hb3 hso HB2 HP2 HX2 HY2
      have hxx := HY3.out
      have r0 := hxx.cell 0
      have r1 := hxx.cell 1
      have r2 := hxx.cell 2
      have r3 := hxx.cell 3
      simp only [List.getElem?_toArray, List.getElem?_cons_zero, List.getElem?_cons_succ] at r0 r1 r2 r3
      have s0 := hxx.soft 0
      have s1 := hxx.soft 1
      have s2 := hxx.soft 2
      have s3 := hxx.soft 3
      obtain ⟨b0, b1, b2, b3, HBZ⟩ := ins_store hxx HB3.out (by omega) (.slice A0 x.ms.length c0) (.slice A1 x.vs.length c1) (.int .i64 x.cl) (.slice A2 x.ts.length c2)
      have hsz := HBZ.out.2.1
      have HQ0 := Lib.hid (((((hr0.setCell (p := ⟨w.heap.size + 1 + 1, 0, none⟩) (.inl (by show w.heap.size + 1 + 1 < w2.heap.size; omega)) (.slice A0 x.ms.length c0)).setCell (p := ⟨w.heap.size + 1 + 1, 1, none⟩) (.inl (by show w.heap.size + 1 + 1 < w2.heap.size; omega)) (.slice A1 x.vs.length c1)).setCell (p := ⟨w.heap.size + 1 + 1, 2, none⟩) (.inl (by show w.heap.size + 1 + 1 < w2.heap.size; omega)) (.int .i64 x.cl)).setCell (p := ⟨w.heap.size + 1 + 1, 3, none⟩) (.inl (by show w.heap.size + 1 + 1 < w2.heap.size; omega)) (.slice A2 x.ts.length c2)).wide (show w.heap.size ≤ w2.heap.size by omega) (show w3.heap.size ≤ ((((w3.setCell ⟨w.heap.size + 1 + 1, 0, none⟩ (.slice A0 x.ms.length c0)).setCell ⟨w.heap.size + 1 + 1, 1, none⟩ (.slice A1 x.vs.length c1)).setCell ⟨w.heap.size + 1 + 1, 2, none⟩ (.int .i64 x.cl)).setCell ⟨w.heap.size + 1 + 1, 3, none⟩ (.slice A2 x.ts.length c2)).heap.size by rw [hsz]; omega))
      have HQ1 := Lib.hid (((((hr1.setCell (p := ⟨w.heap.size + 1 + 1, 0, none⟩) (.inl (by show w.heap.size + 1 + 1 < w2.heap.size; omega)) (.slice A0 x.ms.length c0)).setCell (p := ⟨w.heap.size + 1 + 1, 1, none⟩) (.inl (by show w.heap.size + 1 + 1 < w2.heap.size; omega)) (.slice A1 x.vs.length c1)).setCell (p := ⟨w.heap.size + 1 + 1, 2, none⟩) (.inl (by show w.heap.size + 1 + 1 < w2.heap.size; omega)) (.int .i64 x.cl)).setCell (p := ⟨w.heap.size + 1 + 1, 3, none⟩) (.inl (by show w.heap.size + 1 + 1 < w2.heap.size; omega)) (.slice A2 x.ts.length c2)).wide (show w.heap.size ≤ w2.heap.size by omega) (show w3.heap.size ≤ ((((w3.setCell ⟨w.heap.size + 1 + 1, 0, none⟩ (.slice A0 x.ms.length c0)).setCell ⟨w.heap.size + 1 + 1, 1, none⟩ (.slice A1 x.vs.length c1)).setCell ⟨w.heap.size + 1 + 1, 2, none⟩ (.int .i64 x.cl)).setCell ⟨w.heap.size + 1 + 1, 3, none⟩ (.slice A2 x.ts.length c2)).heap.size by rw [hsz]; omega))
      have HQ2 := Lib.hid (((((hr2.setCell (p := ⟨w.heap.size + 1 + 1, 0, none⟩) (.inl (by show w.heap.size + 1 + 1 < w2.heap.size; omega)) (.slice A0 x.ms.length c0)).setCell (p := ⟨w.heap.size + 1 + 1, 1, none⟩) (.inl (by show w.heap.size + 1 + 1 < w2.heap.size; omega)) (.slice A1 x.vs.length c1)).setCell (p := ⟨w.heap.size + 1 + 1, 2, none⟩) (.inl (by show w.heap.size + 1 + 1 < w2.heap.size; omega)) (.int .i64 x.cl)).setCell (p := ⟨w.heap.size + 1 + 1, 3, none⟩) (.inl (by show w.heap.size + 1 + 1 < w2.heap.size; omega)) (.slice A2 x.ts.length c2)).wide (show w.heap.size ≤ w2.heap.size by omega) (show w3.heap.size ≤ ((((w3.setCell ⟨w.heap.size + 1 + 1, 0, none⟩ (.slice A0 x.ms.length c0)).setCell ⟨w.heap.size + 1 + 1, 1, none⟩ (.slice A1 x.vs.length c1)).setCell ⟨w.heap.size + 1 + 1, 2, none⟩ (.int .i64 x.cl)).setCell ⟨w.heap.size + 1 + 1, 3, none⟩ (.slice A2 x.ts.length c2)).heap.size by rw [hsz]; omega))
      clear hr0 hr1 hr2 hsz
      clear hxx
      go_wp2
      refine bodyPost_ret (v := .tuple #[.agg #[.slice A0 x.ms.length c0, .slice A1 x.vs.length c1, .int .i64 x.cl, .slice A2 x.ts.length c2], .bool true]) ?_ rfl ?_
      · generalize ((((w3.setCell ⟨w.heap.size + 1 + 1, 0, none⟩ (.slice A0 x.ms.length c0)).setCell ⟨w.heap.size + 1 + 1, 1, none⟩ (.slice A1 x.vs.length c1)).setCell ⟨w.heap.size + 1 + 1, 2, none⟩ (.int .i64 x.cl)).setCell ⟨w.heap.size + 1 + 1, 3, none⟩ (.slice A2 x.ts.length c2)) = wz at b0 b1 b2 b3 ⊢
        simp [results, Tryz.results94, go_sem, b0, b1, b2, b3]
      · exact .inr ⟨x, A0, c0, A1, c1, A2, c2, HSOME.out, rfl, HQ0.out, HQ1.out, HQ2.out, hcc, HBZ.out.1⟩
end Go.Proofs.YtknphikoikdcjaaGreat


/- The reference's StartInstance. (Written by gen/insts6.py.) -/
namespace Go.Proofs.YtknphikoikdcjaaGreat
open Go.RowKit

theorem InsPost.no {r : Option Ins} {w w' : World} {e : Ending} (h : InsPost r w e w') (hr : r = none) : e = .returned (.tuple #[.agg #[.slice none 0 0, .slice none 0 0, .int .i64 0, .slice none 0 0], .bool false]) ∧ Below w.heap.size w w' := by
  rcases h with ⟨_, h1, h2⟩ | ⟨x, _, _, _, _, _, _, h1, _⟩
  · exact ⟨h1, h2⟩
  · rw [hr] at h1; cases h1
theorem InsPost.yes {r : Option Ins} {x : Ins} {w w' : World} {e : Ending} (h : InsPost r w e w') (hr : r = some x) : ∃ A0 c0 A1 c1 A2 c2, e = .returned (.tuple #[.agg #[.slice A0 x.ms.length c0, .slice A1 x.vs.length c1, .int .i64 x.cl, .slice A2 x.ts.length c2], .bool true]) ∧
    Rd w' w.heap.size w'.heap.size 1 A0 x.ms.length (ivs x.ms) ∧ Rd w' w.heap.size w'.heap.size 1 A1 x.vs.length (ivs x.vs) ∧ Rd w' w.heap.size w'.heap.size 2 A2 x.ts.length (pvs x.ts) ∧ x.ts.length ≤ c2 ∧ Below w.heap.size w w' := by
  rcases h with ⟨h1, _⟩ | ⟨y, A0, c0, A1, c1, A2, c2, h1, h2⟩
  · rw [hr] at h1; cases h1
  · rw [hr] at h1; injection h1 with h1; subst h1
    exact ⟨A0, c0, A1, c1, A2, c2, h2⟩
/-- What StartInstance answers. -/
def startIns (ns : List (Int × Int)) (fs : List Flw) (vs : List Int) : Option Ins := if vProc ns fs && vVals vs then settleOf ns fs (firstOf ns fs) vs 0 [] else none
theorem first_marks {ns : List (Int × Int)} {fs : List Flw} (h : vProc ns fs = true) : vMarks fs (firstOf ns fs) = true := by
  obtain ⟨q, hq, hl, _⟩ := start_flow h
  rw [firstOf_yes h hq]
  unfold vMarks
  rw [Bool.and_eq_true, decide_eq_true_eq, List.all_eq_true]
  refine ⟨by simp, fun m hm => ?_⟩
  rcases List.mem_or_eq_of_mem_set hm with h1 | rfl
  · rw [(List.mem_replicate.1 h1).2]; rfl
  · rfl
end Go.Proofs.YtknphikoikdcjaaGreat

