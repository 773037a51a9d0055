/- spec.TokenCount. -/
import Derived.Test.YtcckmabdflhfmaaTokReadyS
import Derived.Test.YtcckmabdflhfmaaTokSumA
namespace Go.Proofs.Ytcckmabdflhfmaa
open Go.RowKit

theorem sum_bd : ∀ (ms : List Int), (∀ z ∈ ms, 0 ≤ z ∧ z ≤ 3) → 0 ≤ ms.sum ∧ ms.sum ≤ 3 * (ms.length : Int)
  | [], _ => by simp
  | m :: ms, h => by
    have h1 := sum_bd ms (fun z hz => h z (by simp [hz]))
    have h2 := h m (by simp)
    rw [List.sum_cons]
    simp only [List.length_cons]
    omega
theorem sum_snoc {ms : List Int} {k : Nat} {v : Int} (h : ms[k]? = some v) : (ms.take (k + 1)).sum = (ms.take k).sum + v := by
  rw [take_snoc h, List.sum_append]; simp

set_option maxRecDepth 100000 in
set_option maxHeartbeats 800000 in
theorem TokenCountS_any (lo hi nn cn : Nat) (An : Option Addr) (ns : List (Int × Int)) (lo1 hi1 lf cf : Nat) (Af : Option Addr) (fs : List Flw) (lo' hi' n' c' : Nat) (A' : Option Addr) (ms : List Int) (w : World) (hrn : Rd w lo hi 2 An nn (pvs ns)) (hB : hi ≤ w.heap.size) (hnn : nn ≤ 1048576)
    (hr : Fls w lo1 hi1 Af lf fs) (hB1 : hi1 ≤ w.heap.size) (hn : lf ≤ 1048576) (hv : Rd w lo' hi' 1 A' n' (ivs ms)) (hB' : hi' ≤ w.heap.size) (hn' : n' ≤ 1048576) :
    Calls Try.prog 45 #[.agg #[.slice An nn cn, .slice Af lf cf], .slice A' n' c'] w fun e w' => e = .returned (.int .i64 (countOf ns fs ms)) ∧ Below w.heap.size w w' := by
  have hb1 := up_alloc (Below.refl _ w) (.cells #[.slice An nn cn, .slice Af lf cf] 33)
  have hbk := Blk.new w 33 #[.slice An nn cn, .slice Af lf cf]
  have hs1 : (w.alloc (.cells #[.slice An nn cn, .slice Af lf cf] 33)).heap.size = w.heap.size + 1 := by simp
  have HF := Lib.hid hr.1
  have HL := Lib.hid hv.len1
  have HC := Lib.hid (validProcessS_any lo hi nn cn An ns lo1 hi1 lf cf Af fs _ (hrn.keep hb1 hB) (by omega) hnn (hr.keep hb1 hB1) (by omega) hn)
  go_enter Try.func45, Try.ntmps45
  go_wp2_with (fail)
  (with_reducible refine HC.out.mono ?_)
  clear HC
  rintro e w1 ⟨rfl, hb2⟩
  have HB := Lib.hid (up hb1 hb2)
  have hs2 := hb2.size
  rw [hs1] at hs2
  have HK := Lib.hid (hbk.below hb2 (by omega))
  have k0 : w1.cell? ⟨w.heap.size, 0, none⟩ = some (.slice An nn cn) := HK.out.cell 0
  have k1 : w1.cell? ⟨w.heap.size, 1, none⟩ = some (.slice Af lf cf) := HK.out.cell 1
  clear hb1 hb2 hbk
  cases hV : vProc ns fs with
  | false =>
    have HX := Lib.hid (show countOf ns fs ms = -1 by simp only [countOf, hV]; rfl)
    clear hV
    go_wp2
    go_ret
    rw [HX.out]
    exact ⟨rfl, HB.out⟩
  | true =>
    have HV := Lib.hid hV
    have H14 := Lib.hid (vProc_len hV).2.2
    clear hV
    have HM := Lib.hid (validMarks_any (.slice An nn cn) An nn cn lo1 hi1 lf cf Af fs lo' hi' n' c' A' ms w1 HF.out (hv.keep HB.out hB') (Nat.le_trans hB' HB.out.size) hn')
    go_wp2_with (fail)
    (with_reducible refine HM.out.mono ?_)
    clear HM
    rintro e w2 ⟨rfl, hb3⟩
    have HB2 := Lib.hid (up HB.out hb3)
    clear hb3 HK k0 k1
    cases hM : vMarks fs ms with
    | false =>
      have HX := Lib.hid (show countOf ns fs ms = -1 by simp only [countOf, hM]; simp)
      clear hM
      go_wp2
      go_ret
      rw [HX.out]
      exact ⟨rfl, HB2.out⟩
    | true =>
      have HX := Lib.hid (show countOf ns fs ms = ms.sum by simp only [countOf, HV.out, hM]; rfl)
      have hlen : ms.length = fs.length := by
        simp only [vMarks, Bool.and_eq_true] at hM
        simpa using hM.1
      have HMS := Lib.hid (show ∀ z ∈ ms, 0 ≤ z ∧ z ≤ 3 from fun z hz => by
        simp only [vMarks, Bool.and_eq_true] at hM
        exact inR_iff.1 (List.all_eq_true.1 hM.2 z hz))
      have hl14 : n' ≤ 14 := by have := HL.out; have := H14.out; omega
      clear hM hlen
      go_wp2
      go_loop [5, 6] (fun sv iv => ∃ (j : Nat), j ≤ n' ∧ iv = .int .i64 j ∧ sv = .int .i64 (ms.take j).sum)
         (fun _ iv => n' - (intOf iv).toNat)
      case atStart => exact ⟨0, by omega, rfl, by simp⟩
      case round =>
        obtain ⟨j, hj, rfl, rfl⟩ := hrel
        by_cases hlt : j < n'
        · obtain ⟨bz, oz, v, rfl, _, _, hg, hc0⟩ := (hv.keep HB2.out hB').one hlt
          have HS := Lib.hid (sum_snoc hg)
          have hbd := sum_bd (ms.take j) (fun z hz => HMS.out z (List.mem_of_mem_take hz))
          have hv3 := HMS.out v (List.mem_of_getElem? hg)
          have htl : (ms.take j).length = j := by rw [List.length_take]; have := HL.out; omega
          rw [htl] at hbd
          have hj1 : (j : Int) < (n' : Int) := by omega
          have hj0 : (0 : Int) ≤ (j : Int) := by omega
          clear hg htl
          generalize (ms.take j).sum = S at *
          obtain ⟨hbd1, hbd2⟩ := hbd
          obtain ⟨hv1, hv2⟩ := hv3
          go_wp2
          go_round
          case rel => exact ⟨j + 1, by omega, by go_num, by rw [HS.out]⟩
          case measure => simp [intOf]; omega
        · obtain rfl : j = n' := by omega
          have HT := Lib.hid (show (ms.take j).sum = ms.sum by rw [List.take_of_length_le (by rw [HL.out]; exact Nat.le_refl _)])
          go_wp2
          go_ret
          rw [HX.out, HT.out]
          exact ⟨rfl, HB2.out⟩
end Go.Proofs.Ytcckmabdflhfmaa
