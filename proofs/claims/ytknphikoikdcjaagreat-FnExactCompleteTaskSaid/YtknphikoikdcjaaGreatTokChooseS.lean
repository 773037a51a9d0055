/- spec.choose, spec.ChooseFlow. -/
import Derived.Test.YtknphikoikdcjaaGreatBase
import Derived.Test.YtknphikoikdcjaaGreatProcOutA
import Derived.Test.YtknphikoikdcjaaGreatEvalS
import Derived.Deep.RegionLaw
set_option linter.unusedSimpArgs false
set_option linter.unusedVariables false
namespace Go.Proofs.YtknphikoikdcjaaGreat
open Go.RowKit

set_option maxRecDepth 100000 in
set_option maxHeartbeats 1600000 in
theorem choose_any (An : Option Addr) (nn cn : Nat) (ns : List (Int × Int)) (lo hi lf cf : Nat) (Af : Option Addr) (fs : List Flw) (node : Int) (lo' hi' n' c' : Nat) (A' : Option Addr) (vs : List Int) (w : World)
    (hV : vProc ns fs = true) (hvs : vVals vs = true) (hr : Fls w lo hi Af lf fs) (hB : hi ≤ w.heap.size) (hn : lf ≤ 1048576)
    (hv : Rd w lo' hi' 1 A' n' (ivs vs)) (hB' : hi' ≤ w.heap.size) :
    Calls Tryz.prog 173 #[.agg #[.slice An nn cn, .slice Af lf cf], .int .i64 node, .slice A' n' c'] w fun e w' => e = .returned (.int .i64 (chooseR fs vs (flOf fs true node) (-1))) ∧ Below w.heap.size w w' := by
  have hb1 := up_alloc (Below.refl _ w) (.cells #[.slice An nn cn, .slice Af lf cf] 40)
  have hp := Blk.new w 40 #[.slice An nn cn, .slice Af lf cf]
  have HF := Lib.hid hr.1
  have hml : (flOf fs true node).length ≤ 1048576 := Nat.le_trans (flUp_le fs true node fs.length) (by rw [HF.out]; exact hn)
  have HMEM := Lib.hid (show ∀ (k : Nat) (z : Int), (flOf fs true node)[k]? = some z → ∃ (q : Nat) (f : Flw), z = (q : Int) ∧ fs[q]? = some f ∧ q < lf from fun k z h => by
    obtain ⟨q, f, rfl, hf, _⟩ := flOf_mem.1 (List.mem_of_getElem? h)
    exact ⟨q, f, rfl, hf, by have := (List.getElem?_eq_some_iff.1 hf).1; have := HF.out; omega⟩)
  have HV := Lib.hid hV
  have HVS := Lib.hid hvs
  have hs1 : (w.alloc (.cells #[.slice An nn cn, .slice Af lf cf] 40)).heap.size = w.heap.size + 1 := by simp
  have HC := Lib.hid (flowsOf_any lo hi lf cf Af (.slice An nn cn) fs node true _ (hr.keep hb1 hB) (by omega) hn)
  clear hV hvs
  generalize flOf fs true node = ids at *
  go_enter Tryz.func173, Tryz.ntmps173
  go_wp2_with (fail)
  (with_reducible refine HC.out.mono ?_)
  rintro e w1 ⟨Ao, co, rfl, hco, hro, _, hb2⟩
  have hs2 := hb2.size
  rw [hs1] at hs2
  have hp1 := hp.below hb2 (by omega)
  have hb02 := up hb1 hb2
  rw [hs1] at hro
  clear hb1 hb2 hp HC
  go_wp2
  go_loopw [8, 9] (fun rv iv wr => ∃ (k : Nat) (rest : Int), k ≤ ids.length ∧ iv = .int .i64 k ∧ rv = .int .i64 rest ∧ Hid (chooseR fs vs ids (-1) = chooseR fs vs (ids.drop k) rest) ∧ Hid (Blk wr w.heap.size 40 #[.slice An nn cn, .slice Af lf cf] ∧ Below w.heap.size w wr ∧ Rd wr (w.heap.size + 1) w1.heap.size 1 Ao ids.length (ivs ids) ∧ w1.heap.size ≤ wr.heap.size))
     (fun _ iv _ => ids.length - (intOf iv).toNat)
  case atStart => exact ⟨0, -1, by omega, rfl, rfl, rfl, ⟨hp1, hb02, hro, Nat.le_refl _⟩⟩
  case round =>
    clear hp1 hb02 hro
    obtain ⟨k, rest, hkl, rfl, rfl, HS, HW⟩ := hrel
    obtain ⟨hk, hbl, hro, hsw⟩ := HW.out
    have c1 : wr.cell? ⟨w.heap.size, 1, none⟩ = some (.slice Af lf cf) := hk.cell 1
    have HB := Lib.hid hbl
    have HK := Lib.hid hk
    have hkw := hk.lt
    clear hk hbl
    by_cases hlt : k < ids.length
    · obtain ⟨b, off, z, rfl, hb1', _, hg, hc0⟩ := hro.one hlt
      obtain ⟨q, f, rfl, hf, hq⟩ := HMEM.out k z hg
      obtain ⟨bf, off2, x, y, ps, Aw, mw, cw, rfl, hbf, _, hgf, hx0, hx1, hcw, hrw, hmw⟩ := (hr.keep HB.out hB).at hq
      have HC := Lib.hid (chooseR_at (vs := vs) hg hgf rest)
      have HWH := Lib.hid (vProc_when HV.out hgf)
      have hpl := hrw.len2
      have hk1 : (k : Int) < (ids.length : Int) := by omega
      have hk0 : (0 : Int) ≤ (k : Int) := by omega
      have hq1 : (q : Int) < (lf : Int) := by omega
      have hq0 : (0 : Int) ≤ (q : Int) := by omega
      have HRO := Lib.hid hro
      have hbx := up_alloc (Below.refl _ wr) (.cells #[.int .i64 x, .int .i64 y, .slice Aw mw cw] 167)
      have hbw : b < wr.heap.size := by omega
      have hbfw : bf < wr.heap.size := by have := HB.out.size; omega
      have hz := up_alloc (Below.refl _ wr) (.cells #[.int .i64 0, .int .i64 0, .slice none 0 0] 167)
      have z0 := (hz.cell (p := ⟨bf, off2 + q * 3, none⟩) hbfw).trans hx0
      have z1 := (hz.cell (p := ⟨bf, off2 + q * 3 + 1, none⟩) hbfw).trans hx1
      have z2 := (hz.cell (p := ⟨bf, off2 + q * 3 + 2, none⟩) hbfw).trans hcw
      have z3 := (hz.cell (p := ⟨w.heap.size, 1, none⟩) hkw).trans c1
      have z4 := (hz.cell (p := ⟨b, off + k, none⟩) hbw).trans hc0
      clear hz
      clear hg hf hgf hro HW
      by_cases h0 : mw = 0
      · subst h0
        have hps : ps = [] := List.eq_nil_of_length_eq_zero (by omega)
        subst hps
        clear hrw hpl
        have hcx := (up_drew hbx).cell hbw |>.trans hc0
        by_cases hrs : rest < 0
        · have hrs' : decide (rest < 0) = true := decide_eq_true hrs
          have HC2 := Lib.hid (HS.out.trans (by rw [HC.out]; simp [hrs] : chooseR fs vs (ids.drop k) rest = chooseR fs vs (ids.drop (k + 1)) (q : Int)))
          clear hrs HS HC
          go_wp2_with (fail)
          go_region
          all_goals
            go_wp2
            go_roundw
            case rel => exact ⟨k + 1, q, by omega, by go_num, rfl, HC2, ⟨(HK.out.alloc _).drew, up_drew (up_alloc HB.out _), HRO.out.keep (up_drew hbx) (by omega), by simp [World.drew]; omega⟩⟩
            case measure => simp [intOf]; omega
        · have hrs' : decide (rest < 0) = false := decide_eq_false hrs
          have HC2 := Lib.hid (HS.out.trans (by rw [HC.out]; simp [hrs] : chooseR fs vs (ids.drop k) rest = chooseR fs vs (ids.drop (k + 1)) rest))
          clear hrs HS HC
          go_wp2_with (fail)
          go_region
          all_goals
            go_wp2
            go_roundw
            case rel => exact ⟨k + 1, rest, by omega, by go_num, rfl, HC2, ⟨(HK.out.alloc _).drew, up_drew (up_alloc HB.out _), HRO.out.keep (up_drew hbx) (by omega), by simp [World.drew]; omega⟩⟩
            case measure => simp [intOf]; omega
      · have hne : ps ≠ [] := fun e => by rw [e] at hpl; simp at hpl; omega
        have hvc : vCond ps = true := by
          rcases HWH.out with h | h
          · exact absurd h hne
          · exact h
        have hev0 : evalOf ps vs = (evalL vs ps []).getD 0 0 := by simp [evalOf, hvc, HVS.out]
        have h0' : (((mw : Nat) : Int) == 0) = false := by simpa using h0
        have h0g : decide ((0 : Int) < (mw : Int)) = true := decide_eq_true (by omega)
        have h0n : 0 < mw := by omega
        have h0d : decide (0 < mw) = true := decide_eq_true h0n
        have HE := Lib.hid (evalS_any lo hi mw cw lo' hi' n' c' Aw A' ps vs ((wr.alloc (.cells #[.int .i64 x, .int .i64 y, .slice Aw mw cw] 167)).drew) (hrw.keep (up_drew hbx) (by have := HB.out.size; omega)) (by have := HB.out.size; simp [World.drew]; omega) (hv.keep (up_drew (up_alloc HB.out _)) hB') (by have := HB.out.size; simp [World.drew]; omega) hvc HVS.out)
        rw [← hev0] at HE
        have HFB := Lib.hid (Blk.new wr 167 #[.int .i64 x, .int .i64 y, .slice Aw mw cw]).drew
        have HK1 := Lib.hid (HK.out.alloc (.cells #[.int .i64 x, .int .i64 y, .slice Aw mw cw] 167)).drew
        have HB1 := Lib.hid (up_drew (up_alloc HB.out (.cells #[.int .i64 x, .int .i64 y, .slice Aw mw cw] 167)))
        have HR1 := Lib.hid (HRO.out.keep (up_drew hbx) (by omega))
        have hsx : ((wr.alloc (.cells #[.int .i64 x, .int .i64 y, .slice Aw mw cw] 167)).drew).heap.size = wr.heap.size + 1 := by simp [World.drew]
        have HSX := Lib.hid hsx
        clear hrw hpl h0 hev0 hvc HWH hsx
        go_wp2_with (fail)
        go_region
        all_goals
          go_wp2_with (fail)
          (with_reducible refine HE.out.mono ?_)
          rintro e w2 ⟨rfl, hb2⟩
          have hs3 := hb2.size
          rw [HSX.out] at hs3
          have HK2 := Lib.hid (HK1.out.below hb2 (by rw [HSX.out]; omega))
          have HB2 := Lib.hid (up HB1.out hb2)
          have HRO2 := Lib.hid (HR1.out.keep hb2 (by rw [HSX.out]; omega))
          have f2 : w2.cell? ⟨wr.heap.size, 2, none⟩ = some (.slice Aw mw cw) := (HFB.out.below hb2 (by rw [HSX.out]; omega)).cell 2
          have hc2 : w2.cell? ⟨b, off + k, none⟩ = some (.int .i64 (q : Int)) := (hb2.cell (p := ⟨b, off + k, none⟩) (by show b < _; rw [HSX.out]; omega)).trans (((up_drew hbx).cell (p := ⟨b, off + k, none⟩) hbw).trans hc0)
          clear hb2 HE
          by_cases hev : evalOf ps vs = 0
          · have HC2 := Lib.hid (HS.out.trans (by rw [HC.out]; simp [hne, hev] : chooseR fs vs (ids.drop k) rest = chooseR fs vs (ids.drop (k + 1)) rest))
            rw [hev]
            clear HS HC hev
            go_wp2
            go_roundw
            case rel => exact ⟨k + 1, rest, by omega, by go_num, rfl, HC2, ⟨HK2.out, HB2.out, HRO2.out, by omega⟩⟩
            case measure => simp [intOf]; omega
          · have HC2 := Lib.hid (HS.out.trans (by rw [HC.out]; simp [hne, hev] : chooseR fs vs (ids.drop k) rest = (q : Int)))
            have hev' : (evalOf ps vs != 0) = true := by simpa using hev
            clear HS HC hev
            go_wp2
            go_ret
            exact ⟨ret_int HC2.out.symm, HB2.out⟩
    · obtain rfl : k = ids.length := by omega
      have HC2 := Lib.hid (show chooseR fs vs ids (-1) = rest by rw [HS.out, List.drop_of_length_le (Nat.le_refl _)]; rfl)
      clear HS hro HW
      go_wp2
      go_ret
      exact ⟨ret_int HC2.out.symm, HB.out⟩
end Go.Proofs.YtknphikoikdcjaaGreat
