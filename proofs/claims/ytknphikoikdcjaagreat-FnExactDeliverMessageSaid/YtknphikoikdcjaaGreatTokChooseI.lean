/- impl.chosen, impl.ChooseFlow. -/
import Derived.Test.YtknphikoikdcjaaGreatTokNet
import Derived.Test.YtknphikoikdcjaaGreatEvalB
set_option linter.unusedSimpArgs false
set_option linter.unusedVariables false
namespace Go.Proofs.YtknphikoikdcjaaGreat
open Go.RowKit

set_option maxRecDepth 100000 in
set_option maxHeartbeats 1600000 in
theorem chosen_any (An : Option Addr) (nn cn : Nat) (lo hi lf cf bo bi : Nat) (Af : Option Addr) (fs : List Flw) (node : Int) (lo2 hi2 : Nat) (lo' hi' n' c' : Nat) (A' : Option Addr) (vs : List Int) (w : World)
    (hr : Fls w lo hi Af lf fs) (hB : hi ≤ w.heap.size) (hn : lf ≤ 1048576) (hm : RowMap Tryz.prog 3 w lo2 hi2 bo (fun z => flOf fs true z)) (hB2 : hi2 ≤ w.heap.size) (hnode : in64 node)
    (hv : Rd w lo' hi' 1 A' n' (ivs vs)) (hB' : hi' ≤ w.heap.size) (hn' : n' ≤ 9223372036854775807) :
    Calls Tryz.prog 210 #[netV An nn cn Af lf cf bo bi, .int .i64 node, .slice A' n' c'] w fun e w' => e = .returned (.int .i64 (chooseR fs vs (flOf fs true node) (-1))) ∧ Below w.heap.size w w' := by
  have hb1 := up_alloc (Below.refl _ w) (.cells #[.slice An nn cn, .slice Af lf cf, .map (some bo), .map (some bi)] 104)
  have hk := Blk.new w 104 #[.slice An nn cn, .slice Af lf cf, .map (some bo), .map (some bi)]
  obtain ⟨Ao, co, hlo, hco, hro, _⟩ := (hm.keep hb1 hB2).look keyedInt Tryz.underlying3 Tryz.underlying100 zeroInts hnode
  have HF := Lib.hid hr.1
  have hml : (flOf fs true node).length ≤ 1048576 := Nat.le_trans (flUp_le fs true node fs.length) (by rw [HF.out]; exact hn)
  have HMEM := Lib.hid (show ∀ (k : Nat) (z : Int), (flOf fs true node)[k]? = some z → ∃ (q : Nat) (f : Flw), z = (q : Int) ∧ fs[q]? = some f ∧ q < lf from fun k z h => by
    obtain ⟨q, f, rfl, hf, _⟩ := flOf_mem.1 (List.mem_of_getElem? h)
    exact ⟨q, f, rfl, hf, by have := (List.getElem?_eq_some_iff.1 hf).1; have := HF.out; omega⟩)
  have hs1 := hb1.size
  unfold netV
  generalize flOf fs true node = ids at *
  go_enter Tryz.func210, Tryz.ntmps210
  go_wp2
  go_loopw [7, 17] (fun rv iv wr => ∃ (k : Nat) (rest : Int), k ≤ ids.length ∧ iv = .int .i64 k ∧ rv = .int .i64 rest ∧ Hid (chooseR fs vs ids (-1) = chooseR fs vs (ids.drop k) rest) ∧ Hid (Blk wr w.heap.size 104 #[.slice An nn cn, .slice Af lf cf, .map (some bo), .map (some bi)] ∧ Below w.heap.size w wr ∧ Rd wr lo2 hi2 1 Ao ids.length (ivs ids)))
     (fun _ iv _ => ids.length - (intOf iv).toNat)
  case atStart => exact ⟨0, -1, by omega, rfl, rfl, rfl, ⟨hk, hb1, hro⟩⟩
  case round =>
    clear hk hb1 hro hlo hs1
    obtain ⟨k, rest, hkl, rfl, rfl, HS, HW⟩ := hrel
    obtain ⟨hk, hbl, hro⟩ := HW.out
    have c1 : wr.cell? ⟨w.heap.size, 1, none⟩ = some (.slice Af lf cf) := hk.cell 1
    have HB := Lib.hid hbl
    have HK := Lib.hid hk
    have hsz := hbl.size
    have hkw := hk.lt
    clear hk hbl
    by_cases hlt : k < ids.length
    · obtain ⟨b, off, z, rfl, _, _, hg, hc0⟩ := hro.one hlt
      obtain ⟨q, f, rfl, hf, hq⟩ := HMEM.out k z hg
      obtain ⟨bf, off2, x, y, ps, Aw, mw, cw, rfl, _, _, hgf, _, _, hcw, hrw, hmw⟩ := (hr.keep HB.out hB).at hq
      have HC := Lib.hid (chooseR_at (vs := vs) hg hgf rest)
      have hpl := hrw.len2
      have hk1 : (k : Int) < (ids.length : Int) := by omega
      have hk0 : (0 : Int) ≤ (k : Int) := by omega
      have hq1 : (q : Int) < (lf : Int) := by omega
      have hq0 : (0 : Int) ≤ (q : Int) := by omega
      have HRO := Lib.hid hro
      clear hg hf hgf hro HW
      by_cases h0 : mw = 0
      · subst h0
        have hps : ps = [] := List.eq_nil_of_length_eq_zero (by omega)
        subst hps
        clear hrw hpl
        by_cases hrs : rest < 0
        · have hrs' : decide (rest < 0) = true := decide_eq_true hrs
          have HC2 := Lib.hid (HS.out.trans (by rw [HC.out]; simp [hrs] : chooseR fs vs (ids.drop k) rest = chooseR fs vs (ids.drop (k + 1)) (q : Int)))
          clear hrs HS HC
          go_wp2
          go_roundw
          case rel => exact ⟨k + 1, q, by omega, by go_num, rfl, HC2, ⟨HK.out, HB.out, HRO.out⟩⟩
          case measure => simp [intOf]; omega
        · have hrs' : decide (rest < 0) = false := decide_eq_false hrs
          have HC2 := Lib.hid (HS.out.trans (by rw [HC.out]; simp [hrs] : chooseR fs vs (ids.drop k) rest = chooseR fs vs (ids.drop (k + 1)) rest))
          clear hrs HS HC
          go_wp2
          go_roundw
          case rel => exact ⟨k + 1, rest, by omega, by go_num, rfl, HC2, ⟨HK.out, HB.out, HRO.out⟩⟩
          case measure => simp [intOf]; omega
      · have hne : ps ≠ [] := fun e => by rw [e] at hpl; simp at hpl; omega
        have h0' : (((mw : Nat) : Int) == 0) = false := by simpa using h0
        have h0g : decide ((0 : Int) < (mw : Int)) = true := decide_eq_true (by omega)
        have h0h : decide ((mw : Int) > 0) = true := decide_eq_true (by omega)
        have h0n : 0 < mw := by omega
        have h0d : decide (0 < mw) = true := decide_eq_true h0n
        have HE := Lib.hid (EvalConditionI_any lo hi mw cw lo' hi' n' c' Aw A' ps vs wr hrw (by omega) (by omega) (hv.keep HB.out hB') (by omega) hn')
        clear hrw hpl h0
        go_wp2_with (fail)
        (with_reducible refine HE.out.mono ?_)
        rintro e w2 ⟨rfl, hb2⟩
        have HK2 := Lib.hid (HK.out.below hb2 hkw)
        have HB2 := Lib.hid (up HB.out hb2)
        have HRO2 := Lib.hid (HRO.out.keep hb2 (by omega))
        have c12 : w2.cell? ⟨w.heap.size, 1, none⟩ = some (.slice (some ⟨bf, off2, none⟩) lf cf) := HK2.out.cell 1
        clear hb2 HE c1
        by_cases hev : evalOf ps vs = 0
        · have HC2 := Lib.hid (HS.out.trans (by rw [HC.out]; simp [hne, hev] : chooseR fs vs (ids.drop k) rest = chooseR fs vs (ids.drop (k + 1)) rest))
          rw [hev]
          clear HS HC hev
          go_wp2
          go_roundw
          case rel => exact ⟨k + 1, rest, by omega, by go_num, rfl, HC2, ⟨HK2.out, HB2.out, HRO2.out⟩⟩
          case measure => simp [intOf]; omega
        · have HC2 := Lib.hid (HS.out.trans (by rw [HC.out]; simp [hne, hev] : chooseR fs vs (ids.drop k) rest = (q : Int)))
          have hev' : (evalOf ps vs != 0) = true := by simpa using hev
          clear HS HC hev
          go_wp2
          go_ret
          exact ⟨ret_int HC2.out.symm, HB2.out⟩
    · obtain rfl : k = ids.length := by omega
      have HC2 := Lib.hid (show chooseR fs vs ids (-1) = rest by rw [HS.out, List.drop_of_length_le (Nat.le_refl _)]; rfl)
      clear HS hro HW
      go_wp2
      go_ret
      exact ⟨ret_int HC2.out.symm, HB.out⟩
end Go.Proofs.YtknphikoikdcjaaGreat
