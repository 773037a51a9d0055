/- spec.validMarks, spec.ready, spec.ReadyNodes. -/
import Derived.Test.YtknphikoikdcjaaGreatTokCountA
import Derived.Test.YtknphikoikdcjaaGreatProcOutA
import Derived.Test.YtknphikoikdcjaaGreatEvalA
set_option linter.unusedSimpArgs false
set_option linter.unusedVariables false
namespace Go.Proofs.YtknphikoikdcjaaGreat
open Go.RowKit

theorem infoIntR : (Tryz.prog.info? 3).map (fun i => (i.zero, i.size, i.bytes)) = some (some (.int .i64 0), 1, 8) := by kernel_rfl
theorem readyB_nil (x : Int) (ms : List Int) : readyB x ms [] = false := by unfold readyB; split <;> rfl
theorem readyB_no8 {ms ids : List Int} {k : Nat} {q : Int} (hk : ids[k]? = some q) (h : ¬ 0 < ms.getD q.toNat 0) : readyB 8 ms ids = false := by
  have : ids.all (pos ms) = false := by
    rw [Bool.eq_false_iff]; intro ha
    have := List.all_eq_true.1 ha q (List.mem_of_getElem? hk)
    exact h (of_decide_eq_true this)
  simp [readyB, this]
theorem readyB_yes {x : Int} {ms ids : List Int} {k : Nat} {q : Int} (hx : ¬ x = 8) (hk : ids[k]? = some q) (h : 0 < ms.getD q.toNat 0) : readyB x ms ids = true := by
  have : ids.any (pos ms) = true := List.any_eq_true.2 ⟨q, List.mem_of_getElem? hk, decide_eq_true h⟩
  simp [readyB, hx, this]
/-- So far none decides. -/
def SoFar (x : Int) (ms ids : List Int) (j : Nat) : Prop := if x = 8 then (ids.take j).all (pos ms) = true else (ids.take j).any (pos ms) = false
theorem soFar_next {x : Int} {ms ids : List Int} {j : Nat} {q : Int} (h : SoFar x ms ids j) (hk : ids[j]? = some q) (h8 : x = 8 → 0 < ms.getD q.toNat 0) (h9 : ¬ x = 8 → ¬ 0 < ms.getD q.toNat 0) : SoFar x ms ids (j + 1) := by
  unfold SoFar at *
  rw [take_snoc hk]
  by_cases hx : x = 8
  · rw [if_pos hx] at *
    rw [List.all_append, h]
    have : pos ms q = true := decide_eq_true (h8 hx)
    simp [this]
  · rw [if_neg hx] at *
    rw [List.any_append, h]
    have : pos ms q = false := decide_eq_false (h9 hx)
    simp [this]
theorem soFar_end {x : Int} {ms ids : List Int} (h : SoFar x ms ids ids.length) (hne : ids.length ≠ 0) : (x == 8) = readyB x ms ids := by
  unfold SoFar at h
  rw [List.take_length] at h
  unfold readyB
  by_cases hx : x = 8
  · rw [if_pos hx] at *
    have : ids.isEmpty = false := by cases ids with
      | nil => simp at hne
      | cons a l => rfl
    simp [hx, h, this]
  · rw [if_neg hx] at *
    rw [h]
    simpa using hx

set_option maxRecDepth 100000 in
set_option maxHeartbeats 800000 in
theorem validMarks_any (vn : Value) (An : Option Addr) (nn cn lo hi lf cf : Nat) (Af : Option Addr) (fs : List Flw) (lo' hi' n' c' : Nat) (A' : Option Addr) (ms : List Int) (w : World)
    (hf : fs.length = lf) (hv : Rd w lo' hi' 1 A' n' (ivs ms)) (hB' : hi' ≤ w.heap.size) (hn' : n' ≤ 1048576) :
    Calls Tryz.prog 113 #[.agg #[.slice An nn cn, .slice Af lf cf], .slice A' n' c'] w fun e w' => e = .returned (.bool (vMarks fs ms)) ∧ Below w.heap.size w w' := by
  have hb1 := up_alloc (Below.refl _ w) (.cells #[.slice An nn cn, .slice Af lf cf] 40)
  have HB := Lib.hid hb1
  have HL := Lib.hid hv.len1
  by_cases hne : n' = lf
  · subst hne
    have HA := Lib.hid (allIn_any lo' hi' n' c' A' ms 0 3 _ (hv.keep hb1 hB') (by omega))
    have HX := Lib.hid (show vMarks fs ms = allR ms 0 3 by simp [vMarks, allR, HL.out, hf])
    go_enter Tryz.func113, Tryz.ntmps113
    go_wp2_with (fail)
    (with_reducible refine HA.out.mono ?_)
    rintro e w2 ⟨rfl, rfl⟩
    go_wp2
    go_ret
    exact ⟨ret_bool HX.out.symm, HB.out⟩
  · have hne' : ((n' : Int) == (lf : Int)) = false := by rw [beq_eq_false_iff_ne]; omega
    have HX := Lib.hid (show vMarks fs ms = false by
      have : ¬ ms.length = fs.length := by have := HL.out; omega
      simp [vMarks, this])
    go_enter Tryz.func113, Tryz.ntmps113
    go_wp2
    go_ret
    exact ⟨ret_bool HX.out.symm, HB.out⟩

set_option maxRecDepth 100000 in
set_option maxHeartbeats 1600000 in
theorem readyS_any (lo hi nn cn : Nat) (An : Option Addr) (ns : List (Int × Int)) (lo1 hi1 lf cf : Nat) (Af : Option Addr) (fs : List Flw) (lo' hi' n' c' : Nat) (A' : Option Addr) (ms : List Int) (k : Nat) (x y : Int) (w : World)
    (hrn : Rd w lo hi 2 An nn (pvs ns)) (hB : hi ≤ w.heap.size) (hnn : nn ≤ 1048576) (hr : Fls w lo1 hi1 Af lf fs) (hB1 : hi1 ≤ w.heap.size) (hn : lf ≤ 1048576) (hv : Rd w lo' hi' 1 A' n' (ivs ms)) (hB' : hi' ≤ w.heap.size) (hlen : ms.length = fs.length) (hms : ∀ z ∈ ms, 0 ≤ z) (hk : k < nn) (hkx : ns[k]? = some (x, y)) :
    Calls Tryz.prog 117 #[.agg #[.slice An nn cn, .slice Af lf cf], .slice A' n' c', .int .i64 (k : Int)] w fun e w' => e = .returned (.bool (readyB x ms (flOf fs false (k : Int)))) ∧ Below w.heap.size w w' := by
  have hb1 := up_alloc (Below.refl _ w) (.cells #[.slice An nn cn, .slice Af lf cf] 40)
  have hbk := Blk.new w 40 #[.slice An nn cn, .slice Af lf cf]
  have hs1 : (w.alloc (.cells #[.slice An nn cn, .slice Af lf cf] 40)).heap.size = w.heap.size + 1 := by simp
  have HL := Lib.hid hv.len1
  have HMEM := Lib.hid (show ∀ (j : Nat) (z : Int), (flOf fs false (k : Int))[j]? = some z → ∃ (q : Nat), z = (q : Int) ∧ q < n' from fun j z h => by
    obtain ⟨q, f, rfl, hf, _⟩ := flOf_mem.1 (List.mem_of_getElem? h)
    exact ⟨q, rfl, by have := (List.getElem?_eq_some_iff.1 hf).1; have := HL.out; omega⟩)
  have HFO := Lib.hid (flowsOf_any lo1 hi1 lf cf Af (.slice An nn cn) fs (k : Int) false _ (hr.keep hb1 hB1) (by omega) hn)
  have hml : (flOf fs false (k : Int)).length ≤ 1048576 := Nat.le_trans (flUp_le fs false (k : Int) fs.length) (by rw [hr.1]; exact hn)
  have HMS := Lib.hid hms
  generalize flOf fs false (k : Int) = ids at *
  clear hms hlen
  go_enter Tryz.func117, Tryz.ntmps117
  go_wp2_with (fail)
  (with_reducible refine HFO.out.mono ?_)
  rintro e w1 ⟨Ai, ci, rfl, _, hri, _, hb2⟩
  have HB := Lib.hid (up hb1 hb2)
  have HK := Lib.hid (hbk.below hb2 (by omega))
  have HRI := Lib.hid hri
  clear hb1 hb2 hbk hri HFO
  by_cases h0 : ids.length = 0
  · have hnil : ids = [] := List.eq_nil_of_length_eq_zero h0
    subst hnil
    have h0' : ((([] : List Int).length : Int) == 0) = true := rfl
    have HX := Lib.hid (readyB_nil x ms)
    go_wp2
    go_ret
    exact ⟨ret_bool HX.out.symm, HB.out⟩
  have h0' : ((ids.length : Int) == 0) = false := by simpa using h0
  have hk1 : (k : Int) < (nn : Int) := by omega
  have hk0 : (0 : Int) ≤ (k : Int) := by omega
  obtain ⟨bn, off, xx, yy, rfl, _, _, hgn, hn0, _⟩ := (hrn.keep HB.out hB).pair hk
  have hxx : xx = x := by rw [hkx] at hgn; injection hgn with hgn; injection hgn with h1 _; exact h1.symm
  subst hxx
  have k0 : w1.cell? ⟨w.heap.size, 0, none⟩ = some (.slice (some ⟨bn, off, none⟩) nn cn) := HK.out.cell 0
  clear hgn
  have HH0 := Lib.hid h0
  clear h0
  go_wp2
  go_loop [8] (fun iv => ∃ (j : Nat), j ≤ ids.length ∧ iv = .int .i64 j ∧ Hid (SoFar xx ms ids j))
     (fun iv => ids.length - (intOf iv).toNat)
  case atStart => exact ⟨0, by omega, rfl, by show SoFar xx ms ids 0; unfold SoFar; split <;> rfl⟩
  case round =>
    obtain ⟨j, hj, rfl, HS⟩ := hrel
    by_cases hlt : j < ids.length
    · obtain ⟨b, off2, z, rfl, _, _, hg, hc0⟩ := HRI.out.one hlt
      obtain ⟨q, rfl, hq⟩ := HMEM.out j z hg
      obtain ⟨bm, off3, mq, rfl, _, _, hgm, hcm⟩ := (hv.keep HB.out hB').one hq
      have hmq : ms.getD ((q : Int)).toNat 0 = mq := by rw [Int.toNat_natCast, List.getD_eq_getElem?_getD, hgm]; rfl
      have hmq0 := HMS.out mq (List.mem_of_getElem? hgm)
      have hj1 : (j : Int) < (ids.length : Int) := by omega
      have hj0 : (0 : Int) ≤ (j : Int) := by omega
      have hq1 : (q : Int) < (n' : Int) := by omega
      have hq0 : (0 : Int) ≤ (q : Int) := by omega
      have HG := Lib.hid hg
      have HMQ := Lib.hid hmq
      clear hg hgm hmq
      by_cases hx : xx = 8
      · subst hx
        by_cases hm : mq = 0
        · have HX := Lib.hid (readyB_no8 HG.out (by rw [HMQ.out]; omega))
          have hm' : (mq == 0) = true := by simpa using hm
          clear hm
          go_wp2
          go_ret
          exact ⟨ret_bool HX.out.symm, HB.out⟩
        · have hm' : (mq == 0) = false := by simpa using hm
          have HS2 := Lib.hid (soFar_next HS.out HG.out (fun _ => by rw [HMQ.out]; omega) (fun h => absurd rfl h))
          clear hm HS
          go_wp2
          go_round
          case rel => exact ⟨j + 1, by omega, by go_num, HS2⟩
          case measure => simp [intOf]; omega
      · have hx1 : (xx == 8) = false := by simpa using hx
        have hx2 : (xx != 8) = true := by simpa using hx
        by_cases hm : 0 < mq
        · have HX := Lib.hid (readyB_yes hx HG.out (by rw [HMQ.out]; exact hm))
          have hm' : decide (0 < mq) = true := decide_eq_true hm
          clear hx
          go_wp2
          go_ret
          exact ⟨ret_bool HX.out.symm, HB.out⟩
        · have hm' : decide (0 < mq) = false := decide_eq_false hm
          have HS2 := Lib.hid (soFar_next HS.out HG.out (fun h => absurd h hx) (fun _ => by rw [HMQ.out]; exact hm))
          clear hx HS
          go_wp2
          go_round
          case rel => exact ⟨j + 1, by omega, by go_num, HS2⟩
          case measure => simp [intOf]; omega
    · obtain rfl : j = ids.length := by omega
      have HX := Lib.hid (soFar_end HS.out HH0.out)
      go_wp2
      go_ret
      exact ⟨ret_bool HX.out, HB.out⟩

end Go.Proofs.YtknphikoikdcjaaGreat
