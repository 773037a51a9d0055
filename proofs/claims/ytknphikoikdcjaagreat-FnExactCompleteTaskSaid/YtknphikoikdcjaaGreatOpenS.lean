/- The reference's OpenTasks. -/
import Derived.Test.YtknphikoikdcjaaGreatInstS3
import Derived.Test.YtknphikoikdcjaaGreatSetsA
import Derived.Deep.RegionHeld3
set_option linter.unusedSimpArgs false
set_option linter.unusedVariables false
namespace Go.Proofs.YtknphikoikdcjaaGreat
open Go.RowKit

theorem vMarks_len7 {fs : List Flw} {ms : List Int} (h : vMarks fs ms = true) : ms.length = fs.length := by
  simp only [vMarks, Bool.and_eq_true, decide_eq_true_eq] at h
  exact h.1
def taskAt (ns : List (Int × Int)) (fs : List Flw) (ms : List Int) (k : Nat) : Bool := kindAt ns k == 2 && decide (0 < waitAt fs ms (k : Int))
def tasksUp (ns : List (Int × Int)) (fs : List Flw) (ms : List Int) (k : Nat) : List Int := ((List.range k).filter (taskAt ns fs ms)).map fun (i : Nat) => (i : Int)
/-- What OpenTasks answers. -/
def tasksOf (ns : List (Int × Int)) (fs : List Flw) (ms vs : List Int) (cl : Int) (ts : List Tm) : List Int := if vProc ns fs && vInst ns fs ms vs cl ts then tasksUp ns fs ms ns.length else []
theorem tasksUp_yes {ns : List (Int × Int)} {fs : List Flw} {ms : List Int} {k : Nat} (h : taskAt ns fs ms k = true) : tasksUp ns fs ms (k + 1) = tasksUp ns fs ms k ++ [(k : Int)] := by
  simp [tasksUp, List.range_succ, h]
theorem tasksUp_no {ns : List (Int × Int)} {fs : List Flw} {ms : List Int} {k : Nat} (h : taskAt ns fs ms k = false) : tasksUp ns fs ms (k + 1) = tasksUp ns fs ms k := by
  simp [tasksUp, List.range_succ, h]
theorem tasksUp_le (ns : List (Int × Int)) (fs : List Flw) (ms : List Int) (k : Nat) : (tasksUp ns fs ms k).length ≤ k := by
  have := List.length_filter_le (taskAt ns fs ms) (List.range k)
  simpa [tasksUp] using this
theorem own_intl {w : World} {base : Nat} {e : TypeId} {v : Value} {ys : List Int} {x : Int} (h : w.ownsRow base e 1 v (ys.length + 1) (ivs ys ++ [.int .i64 x])) : w.ownsRow base e 1 v (ys ++ [x]).length (ivs (ys ++ [x])) := by
  rw [List.length_append, show ivs (ys ++ [x]) = ivs ys ++ [.int .i64 x] by simp [ivs]]; exact h
set_option maxRecDepth 100000 in
set_option maxHeartbeats 6400000 in
theorem OpenTasksS_any (lo hi nn cn : Nat) (An : Option Addr) (ns : List (Int × Int)) (lo1 hi1 lf cf : Nat) (Af : Option Addr) (fs : List Flw) (lom him nm cm : Nat) (Am : Option Addr) (ms : List Int) (lov hiv nv cv : Nat) (Av : Option Addr) (vs : List Int) (cl : Int) (lot hit nt ct : Nat) (At : Option Addr) (ts : List Tm) (w : World)
    (hrn : Rd w lo hi 2 An nn (pvs ns)) (hB : hi ≤ w.heap.size) (hnn : nn ≤ 1048576) (hr : Fls w lo1 hi1 Af lf fs) (hB1 : hi1 ≤ w.heap.size) (hn : lf ≤ 1048576)
    (hm : Rd w lom him 1 Am nm (ivs ms)) (hBm : him ≤ w.heap.size) (hnm : nm ≤ 1048576) (hv : Rd w lov hiv 1 Av nv (ivs vs)) (hBv : hiv ≤ w.heap.size) (hnv : nv ≤ 1048576) (ht : Rd w lot hit 2 At nt (pvs ts)) (hBt : hit ≤ w.heap.size) (hnt : nt ≤ 1048576) :
    Calls Tryz.prog 28 #[.agg #[.slice An nn cn, .slice Af lf cf], .agg #[.slice Am nm cm, .slice Av nv cv, .int .i64 cl, .slice At nt ct]] w (Fresh (ivs (tasksOf ns fs ms vs cl ts)) 1 (tasksOf ns fs ms vs cl ts).length w) := by
  obtain ⟨i0, hi0, hz0, hz1, hz2⟩ := info_parts infoIntCp
  have hb1 := up_alloc (up_alloc (up_alloc (Below.refl _ w) (.cells #[.slice An nn cn, .slice Af lf cf] 40)) (.cells #[.slice Am nm cm, .slice Av nv cv, .int .i64 cl, .slice At nt ct] 34)) (.cells #[] 3)
  have hp1 := ((Blk.new w 40 #[.slice An nn cn, .slice Af lf cf]).alloc (.cells #[.slice Am nm cm, .slice Av nv cv, .int .i64 cl, .slice At nt ct] 34)).alloc (.cells #[] 3)
  have hx1 : Blk (((w.alloc (.cells #[.slice An nn cn, .slice Af lf cf] 40)).alloc (.cells #[.slice Am nm cm, .slice Av nv cv, .int .i64 cl, .slice At nt ct] 34)).alloc (.cells #[] 3)) (w.heap.size + 1) 34 #[.slice Am nm cm, .slice Av nv cv, .int .i64 cl, .slice At nt ct] := by
    have := (Blk.new (w.alloc (.cells #[.slice An nn cn, .slice Af lf cf] 40)) 34 #[.slice Am nm cm, .slice Av nv cv, .int .i64 cl, .slice At nt ct]).alloc (.cells #[] 3)
    simpa using this
  have hown0 := World.ownsRow_made ((w.alloc (.cells #[.slice An nn cn, .slice Af lf cf] 40)).alloc (.cells #[.slice Am nm cm, .slice Av nv cv, .int .i64 cl, .slice At nt ct] 34)) (base := w.heap.size + 1 + 1) (e := 3) (size := 1) #[] 0 (by simp) (by unfold maxLen; omega) (by simp)
  rw [show ((w.alloc (.cells #[.slice An nn cn, .slice Af lf cf] 40)).alloc (.cells #[.slice Am nm cm, .slice Av nv cv, .int .i64 cl, .slice At nt ct] 34)).heap.size = w.heap.size + 1 + 1 by simp] at hown0
  have hs1 : (((w.alloc (.cells #[.slice An nn cn, .slice Af lf cf] 40)).alloc (.cells #[.slice Am nm cm, .slice Av nv cv, .int .i64 cl, .slice At nt ct] 34)).alloc (.cells #[] 3)).heap.size = w.heap.size + 1 + 1 + 1 := by simp
  have HO0 := Lib.hid (show (((w.alloc (.cells #[.slice An nn cn, .slice Af lf cf] 40)).alloc (.cells #[.slice Am nm cm, .slice Av nv cv, .int .i64 cl, .slice At nt ct] 34)).alloc (.cells #[] 3)).ownsRow (w.heap.size + 1 + 1) 3 1 (.slice (some ⟨w.heap.size + 1 + 1, 0, none⟩) 0 0) (tasksUp ns fs ms 0).length (ivs (tasksUp ns fs ms 0)) from hown0)
  have HL := Lib.hid hrn.len2
  have HF := Lib.hid hr.1
  have HC := Lib.hid (validProcessS_any lo hi nn cn An ns lo1 hi1 lf cf Af fs _ (hrn.keep hb1 hB) (Nat.le_trans hB hb1.size) hnn (hr.keep hb1 hB1) (Nat.le_trans hB1 hb1.size) hn)
  have k0 := hp1.cell 0
  have k1 := hp1.cell 1
  simp only [List.getElem?_toArray, List.getElem?_cons_zero, List.getElem?_cons_succ] at k0 k1
  have HB := Lib.hid hb1
  have HP := Lib.hid hp1
  have HX := Lib.hid hx1
  clear hb1 hp1 hx1 hown0
  go_enter Tryz.func28, Tryz.ntmps28
  go_wp2_with (fail)
  (with_reducible refine HC.out.mono ?_)
  clear HC k0 k1
  rintro e w1 ⟨rfl, hb2⟩
  have hs2 := hb2.size
  rw [hs1] at hs2
  have HB1 := Lib.hid (up HB.out hb2)
  have HP1 := Lib.hid (HP.out.below hb2 (by omega))
  have HX1 := Lib.hid (HX.out.below hb2 (by omega))
  have HO1 := Lib.hid (own_keep HO0.out hb2)
  clear hb2 HB HP HX hs1 HO0
  cases hV : vProc ns fs with
  | false =>
    have HNO := Lib.hid (show tasksOf ns fs ms vs cl ts = [] by unfold tasksOf; rw [hV]; rfl)
    clear hV
    go_wp2
    go_ret
    rw [HNO.out]
    exact Fresh.nil 1 HB1.out
  | true =>
  have HV := Lib.hid hV
  have k0 := HP1.out.cell 0
  have k1 := HP1.out.cell 1
  have x0 := HX1.out.cell 0
  have x1 := HX1.out.cell 1
  have x2 := HX1.out.cell 2
  have x3 := HX1.out.cell 3
  simp only [List.getElem?_toArray, List.getElem?_cons_zero, List.getElem?_cons_succ] at k0 k1 x0 x1 x2 x3
  have HC := Lib.hid (validInstanceS_any lo hi nn cn An ns lo1 hi1 lf cf Af fs lom him nm cm Am ms lov hiv nv cv Av vs cl lot hit nt ct At ts w1 (hrn.keep HB1.out hB) (Nat.le_trans hB HB1.out.size) hnn (hr.keep HB1.out hB1) (Nat.le_trans hB1 HB1.out.size) hn (hm.keep HB1.out hBm) (Nat.le_trans hBm HB1.out.size) hnm (hv.keep HB1.out hBv) (Nat.le_trans hBv HB1.out.size) hnv (ht.keep HB1.out hBt) (Nat.le_trans hBt HB1.out.size) hnt hV)
  clear hV
  go_wp2_with (fail)
  (with_reducible refine HC.out.mono ?_)
  clear HC k0 k1 x0 x1 x2 x3
  rintro e w2 ⟨rfl, hb2⟩
  have hs3 := hb2.size
  have HB2 := Lib.hid (up HB1.out hb2)
  have HP2 := Lib.hid (HP1.out.below hb2 (by omega))
  have HX2 := Lib.hid (HX1.out.below hb2 (by omega))
  have HO2 := Lib.hid (own_keep HO1.out hb2)
  clear hb2 HB1 HP1 HX1 HO1
  cases hI : vInst ns fs ms vs cl ts with
  | false =>
    have HNO := Lib.hid (show tasksOf ns fs ms vs cl ts = [] by unfold tasksOf; rw [hI]; simp)
    clear hI
    go_wp2
    go_ret
    rw [HNO.out]
    exact Fresh.nil 1 HB2.out
  | true =>
  have HYES := Lib.hid (show tasksOf ns fs ms vs cl ts = tasksUp ns fs ms nn by unfold tasksOf; rw [HV.out, hI, HL.out]; rfl)
  have HM := Lib.hid (vInst_parts hI).1
  have hnn10 : nn ≤ 10 := by have := (vProc_len HV.out).2.1; have := HL.out; omega
  clear hI
  go_wp2
  go_loopw [5, 6] (fun ov kv wr => ∃ (k : Nat), k ≤ nn ∧ kv = .int .i64 k ∧ Hid (wr.ownsRow (w.heap.size + 1 + 1) 3 1 ov (tasksUp ns fs ms k).length (ivs (tasksUp ns fs ms k))) ∧ Hid (Below w.heap.size w wr) ∧ Blk wr w.heap.size 40 #[.slice An nn cn, .slice Af lf cf] ∧ Blk wr (w.heap.size + 1) 34 #[.slice Am nm cm, .slice Av nv cv, .int .i64 cl, .slice At nt ct])
     (fun _ kv _ => nn - (intOf kv).toNat)
  case atStart => exact ⟨0, by omega, rfl, HO2, HB2, HP2.out, HX2.out⟩
  case round =>
    clear HO2 HB2 HP2 HX2 hs2 hs3
    obtain ⟨k, hk, rfl, HO, HB, hp, hx⟩ := hrel
    have hpl := hp.lt
    have hxl := hx.lt
    have k0 := hp.cell 0
    have k1 := hp.cell 1
    have x0 := hx.cell 0
    simp only [List.getElem?_toArray, List.getElem?_cons_zero, List.getElem?_cons_succ] at k0 k1 x0
    have HP := Lib.hid hp
    have HX := Lib.hid hx
    have hle := tasksUp_le ns fs ms k
    clear hp hx
    by_cases hlt : k < nn
    · obtain ⟨bn, on, z, zy, hAn, hbn, _, hgn, hn0, _⟩ := (hrn.keep HB.out hB).pair hlt
      subst hAn
      have hkn : (k : Int) < (nn : Int) := by omega
      have hk0 : (0 : Int) ≤ (k : Int) := by omega
      have HG := Lib.hid hgn
      have HTA : Hid (taskAt ns fs ms k = (z == 2 && decide (0 < waitAt fs ms (k : Int)))) := by show taskAt ns fs ms k = _; unfold taskAt; rw [kindAt_is HG.out]
      clear hgn
      by_cases h2 : z = 2
      case neg =>
        have hz2' : (z == 2) = false := by simpa using h2
        have HU := Lib.hid (tasksUp_no (by rw [HTA.out, hz2']; rfl))
        clear HTA h2
        go_wp2
        go_roundw
        case rel => exact ⟨k + 1, by omega, by go_num, by rw [HU.out]; exact HO, HB, HP.out, HX.out⟩
        case measure => simp [intOf]; omega
      case pos =>
        subst h2
        have HLEN := Lib.hid (one_in HV.out HG.out (.inl rfl))
        have HCW := Lib.hid (waitingS_any (.slice (some ⟨bn, on, none⟩) nn cn) lo1 hi1 lf cf Af fs lom him nm cm Am ms k wr (hr.keep HB.out hB1) (Nat.le_trans hB1 HB.out.size) hn (hm.keep HB.out hBm) (Nat.le_trans hBm HB.out.size) (vMarks_len7 HM.out) (by rw [HLEN.out]; omega))
        have hwb := waitAt_bd (fs := fs) (marks_in HM.out) (k : Int)
        by_cases hw : 0 < waitAt fs ms (k : Int)
        · have hwd : decide (0 < waitAt fs ms (k : Int)) = true := decide_eq_true hw
          have HU := Lib.hid (tasksUp_yes (by rw [HTA.out, hwd]; rfl))
          generalize waitAt fs ms (k : Int) = wa at *
          clear HTA hwb
          go_wp2_with (fail)
          (with_reducible refine HCW.out.mono ?_)
          clear HCW k0 k1 x0 hn0
          rintro e w5 ⟨rfl, hb5⟩
          have HB5 := Lib.hid (up HB.out hb5)
          have HP5 := Lib.hid (HP.out.below hb5 hpl)
          have HX5 := Lib.hid (HX.out.below hb5 hxl)
          have hownX := own_keep HO.out hb5
          have hlow := hownX.lt
          have hs5 := hb5.size
          clear hb5 HB HP HX HO
          go_wp2_with (at_builtin; refine wpList_append_own _ rfl _ _ 26 rfl (w.heap.size + 1 + 1) 3 i0 (.int .i64 0) 1 8 Tryz.underlying26 hi0 hz0 hz1 hz2 rfl (by decide) _ _ _ rfl (hownX.alloc _) _ 1 1 [.int .i64 (k : Int)] rfl rfl (cell_one_new _ _ _) ?c2 ?c3 ?c4 ?c5 ?_)
          case c2 => first | rfl | (intro u hu; simp at hu; subst hu; rfl)
          case c3 => unfold maxLen; omega
          case c4 => omega
          case c5 => first | omega | (simp; omega)
          intro v' w6 hown6 hg6 _
          have HO6 := Lib.hid (show w6.ownsRow (w.heap.size + 1 + 1) 3 1 v' (tasksUp ns fs ms (k + 1)).length (ivs (tasksUp ns fs ms (k + 1))) from by rw [HU.out]; exact own_intl hown6)
          have HB6 := Lib.hid (up_grown (up_alloc HB5.out (.cells #[.int .i64 (k : Int)] 3)) (hownX.alloc _) hg6 (by omega))
          have HP6 := Lib.hid ((HP5.out.alloc (.cells #[.int .i64 (k : Int)] 3)).grown hg6 (fun e => by have := (hlow _ e.symm).1; omega))
          have HX6 := Lib.hid ((HX5.out.alloc (.cells #[.int .i64 (k : Int)] 3)).grown hg6 (fun e => by have := (hlow _ e.symm).1; omega))
          clear hown6 hg6 hownX hlow HB5 HP5 HX5
          go_wp2
          go_roundw
          case rel => exact ⟨k + 1, by omega, by go_num, HO6, HB6, HP6.out, HX6.out⟩
          case measure => simp [intOf]; omega
        · have hwd : decide (0 < waitAt fs ms (k : Int)) = false := decide_eq_false hw
          have HU := Lib.hid (tasksUp_no (by rw [HTA.out, hwd]; rfl))
          generalize waitAt fs ms (k : Int) = wa at *
          clear HTA hwb
          go_wp2_with (fail)
          (with_reducible refine HCW.out.mono ?_)
          clear HCW k0 k1 x0 hn0
          rintro e w5 ⟨rfl, hb5⟩
          have HB5 := Lib.hid (up HB.out hb5)
          have HP5 := Lib.hid (HP.out.below hb5 hpl)
          have HX5 := Lib.hid (HX.out.below hb5 hxl)
          have HO5 := Lib.hid (show w5.ownsRow (w.heap.size + 1 + 1) 3 1 _ (tasksUp ns fs ms (k + 1)).length (ivs (tasksUp ns fs ms (k + 1))) from by rw [HU.out]; exact own_keep HO.out hb5)
          clear hb5 HB HP HX HO
          go_wp2
          go_roundw
          case rel => exact ⟨k + 1, by omega, by go_num, HO5, HB5, HP5.out, HX5.out⟩
          case measure => simp [intOf]; omega
    · obtain rfl : nn = k := by omega
      have HFR := Lib.hid (Fresh.of_own (HO.out.mono (base' := w.heap.size) (by omega)) HB.out)
      clear HO HB HP HX
      go_wp2
      go_ret
      rw [HYES.out]
      exact HFR.out
theorem task_is {ns : List (Int × Int)} {fs : List Flw} {ms : List Int} (hV : vProc ns fs = true) (hM : vMarks fs ms = true) {k : Nat} (hk : k < ns.length) : taskAt ns fs ms k = (readyB (kindAt ns k) ms (flOf fs false (k : Int)) && (kindAt ns k == 2)) := by
  unfold taskAt
  cases hb : (kindAt ns k == 2) with
  | false => simp
  | true =>
    rw [wait_ready hV hM hk (.inl (by simpa using hb))]
    simp
end Go.Proofs.YtknphikoikdcjaaGreat
