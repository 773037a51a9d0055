/- The law FnCommitPointGreatest, walked: it returns true. (Written by a program over gen/lawlib.py.) -/
import Derived.Test.YtfpiejcfhdnjiaaDrawCm
import Derived.Test.YtfpiejcfhdnjiaaCommitI
import Derived.Test.YtfpiejcfhdnjiaaCommitS
import Derived.Test.YtfpiejcfhdnjiaaLawCommitM
import Derived.BigQuiet
set_option linter.unusedSimpArgs false
set_option linter.unusedVariables false
namespace Go.Proofs.Ytfpiejcfhdnjiaa
open Go.RowKit

set_option maxRecDepth 100000 in
set_option maxHeartbeats 6400000 in
theorem lawCommitPointGreatest_any (n c : Nat) (A : Option Addr) (xs : List Int) (w : World) (hr : Rd w 0 w.heap.size 1 A n (bvs xs)) (hby : Bytes xs) (hc : n ≤ c) (hc2 : c ≤ 9223372036854775807) :
    Calls Try.prog 5 #[.slice A n c] w fun e w' => e = .returned (.bool true) ∧ Below w.heap.size w w' := by
  by_cases hbig : (1048576 : Int) < n
  · go_enter Try.func5, Try.ntmps5
    go_wp2
    go_ret
    exact ⟨rfl, Below.refl _ _⟩
  go_enter Try.func5, Try.ntmps5
  go_wp2_with (fail)
  (with_reducible refine (drawCommitPoint_any n c A xs w hr hby (by omega) hc hc2).mono ?_)
  rintro e w1 ⟨A1, m, c1, ps, A2, m2, c3, has, t, rfl, hm, hk1, hrd, hm2, hk2, hrd2, ⟨ht0, ht1⟩, hsm, hb1⟩
  clear hbig hr hsm
  have HB_0 := Lib.hid hb1
  have hz_1 := hb1.size
  clear hb1
  have HPL := Lib.hid hrd.len2
  have HQL := Lib.hid hrd2.len1
  have ht64 : in64 t := by unfold in64; omega
  have HL_1 := Lib.hid (hrd.wide (Nat.zero_le _) (Nat.le_refl _))
  clear hrd
  have HC_2 := Lib.hid (hrd2.wide (Nat.zero_le _) (Nat.le_refl _))
  clear hrd2
  rcases commit_cases ps has t with hU | ⟨k, hU, hC⟩
  · have HU := Lib.hid hU
    clear hU
    go_wp2_with (fail)
    (with_reducible refine (CommitPointI_any 0 _ m c1 A1 ps 0 _ m2 c3 A2 has t _ HL_1.out (by omega) (by omega) (by omega) HC_2.out (by omega) (by omega) ht64).mono ?_)
    rintro e w2 ⟨rfl, hbt⟩
    rw [HU.out]
    have HL_3 := Lib.hid (HL_1.out.keep hbt (by omega))
    have HC_4 := Lib.hid (HC_2.out.keep hbt (by omega))
    have HB_5 := Lib.hid (up HB_0.out hbt)
    have hz_2 := hbt.size
    clear HL_1 HC_2 HB_0
    clear hbt
    go_wp2_with (fail)
    (with_reducible refine (CommitPointS_any 0 _ m c1 A1 ps 0 _ m2 c3 A2 has t _ HL_3.out (by omega) (by omega) HC_4.out (by omega) (by omega) ht64).mono ?_)
    rintro e w3 ⟨rfl, hbt⟩
    rw [HU.out]
    have HL_6 := Lib.hid (HL_3.out.keep hbt (by omega))
    have HC_7 := Lib.hid (HC_4.out.keep hbt (by omega))
    have HB_8 := Lib.hid (up HB_5.out hbt)
    have hz_3 := hbt.size
    clear HL_3 HC_4 HB_5
    clear hbt
    go_wp2_with (fail)
    (with_reducible refine (CommitPointS_any 0 _ m c1 A1 ps 0 _ m2 c3 A2 has t _ HL_6.out (by omega) (by omega) HC_7.out (by omega) (by omega) ht64).mono ?_)
    rintro e w4 ⟨rfl, hbt⟩
    rw [HU.out]
    have HL_9 := Lib.hid (HL_6.out.keep hbt (by omega))
    have HC_10 := Lib.hid (HC_7.out.keep hbt (by omega))
    have HB_11 := Lib.hid (up HB_8.out hbt)
    have hz_4 := hbt.size
    clear HL_6 HC_7 HB_8
    clear hbt
    go_wp2
    go_ret
    exact ⟨rfl, HB_11.out⟩
  have HU := Lib.hid hU
  have HC := Lib.hid hC
  have hkm : k ≤ m := by have := hC.le; have := HPL.out; omega
  obtain ⟨m20, m21⟩ := (vHas_iff.1 hC.has').1
  rw [HQL.out] at m20 m21
  have hm16 : m ≤ 16 := by have := vLog_len hC.log; have := HPL.out; omega
  clear hU hC
  have bkk : ((k : Int) != (k : Int)) = false := by simp
  have bk0 : decide ((k : Int) < 0) = false := decide_eq_false (by omega)
  have bm2 : (m2 == 0) = false := by rw [beq_eq_false_iff_ne]; omega
  have bm3 : ((m2 : Int) == 0) = false := by rw [beq_eq_false_iff_ne]; omega
  have bkm : decide ((m : Int) < (k : Int)) = false := decide_eq_false (by omega)
  have bkm2 : decide (m < k) = false := decide_eq_false (by omega)
  go_wp2_with (fail)
  (with_reducible refine (CommitPointI_any 0 _ m c1 A1 ps 0 _ m2 c3 A2 has t _ HL_1.out (by omega) (by omega) (by omega) HC_2.out (by omega) (by omega) ht64).mono ?_)
  rintro e w2 ⟨rfl, hbt⟩
  rw [HU.out]
  have HL_12 := Lib.hid (HL_1.out.keep hbt (by omega))
  have HC_13 := Lib.hid (HC_2.out.keep hbt (by omega))
  have HB_14 := Lib.hid (up HB_0.out hbt)
  have hz_2 := hbt.size
  clear HL_1 HC_2 HB_0
  clear hbt
  go_wp2_with (fail)
  (with_reducible refine (CommitPointS_any 0 _ m c1 A1 ps 0 _ m2 c3 A2 has t _ HL_12.out (by omega) (by omega) HC_13.out (by omega) (by omega) ht64).mono ?_)
  rintro e w3 ⟨rfl, hbt⟩
  rw [HU.out]
  have HL_15 := Lib.hid (HL_12.out.keep hbt (by omega))
  have HC_16 := Lib.hid (HC_13.out.keep hbt (by omega))
  have HB_17 := Lib.hid (up HB_14.out hbt)
  have hz_3 := hbt.size
  clear HL_12 HC_13 HB_14
  clear hbt
  have hwk : IntKind.i64.wrap ((k : Int) + 1) = (k : Int) + 1 := IntWalk.i64_in _ (by omega)
  go_wp2
  go_loop [7] (fun zv => ∃ z : Nat, k < z ∧ z ≤ m + 1 ∧ zv = .int .i64 z) (fun zv => m + 1 - (intOf zv).toNat)
  case atStart => exact ⟨k + 1, by omega, by omega, by first | rfl | go_num⟩
  case round =>
    obtain ⟨z, hz0, hz1, rfl⟩ := hrel
    by_cases hzm : m < z
    case pos =>
      have dz : decide ((z : Int) ≤ (m : Int)) = false := decide_eq_false (by omega)
      have dz2 : decide (z ≤ m) = false := decide_eq_false (by omega)
      clear hzm
      go_wp2
      go_ret
      exact ⟨rfl, HB_17.out⟩
    have dz : decide ((z : Int) ≤ (m : Int)) = true := decide_eq_true (by omega)
    have dz2 : decide (z ≤ m) = true := decide_eq_true (by omega)
    obtain ⟨j, hj⟩ : ∃ j, z = j + 1 := ⟨z - 1, by omega⟩
    have HJ := Lib.hid hj
    clear hj
    have HNO := Lib.hid (HC.out.max z hz0 (by rw [HPL.out]; omega))
    go_wp2
    go_loop [8, 9] (fun cv iv => ∃ (i q : Nat), i ≤ m2 ∧ iv = .int .i64 i ∧ cv = .int .i64 q ∧ Hid (haveUp has (z : Nat) i = q)) (fun _ iv => m2 - (intOf iv).toNat)
    case atStart => exact ⟨0, 0, by omega, rfl, rfl, rfl⟩
    case round =>
      obtain ⟨i, q, hi, rfl, rfl, hS⟩ := hrel
      have hqi : q ≤ i := by have := haveUp_le has (z : Nat) i; have := hS.out; omega
      by_cases hlt : i < m2
      case pos =>
        obtain ⟨b, off, x, hA, _, _, hg, hc0⟩ := HC_16.out.one hlt
        have HSN := Lib.hid (haveUp_snoc (z := (z : Nat)) hg)
        rw [hS.out] at HSN
        have hlt2 : (i : Int) < (m2 : Int) := by omega
        clear hg
        by_cases hzx : (z : Int) ≤ x
        · have dz : decide ((z : Int) ≤ x) = true := decide_eq_true hzx
          have hq1 : Hid (haveUp has (z : Nat) (i + 1) = q + 1) := by have := HSN.out; rw [if_pos dz] at this; exact this
          subst hA
          go_wp2
          go_round
          case rel => exact ⟨i + 1, q + 1, by omega, by go_num, by go_num, hq1⟩
          case measure => simp [intOf]; omega
        · have dz : decide ((z : Int) ≤ x) = false := decide_eq_false hzx
          have hq1 : Hid (haveUp has (z : Nat) (i + 1) = q) := by have := HSN.out; rw [if_neg (by rw [dz]; decide)] at this; exact this
          subst hA
          go_wp2
          go_round
          case rel => exact ⟨i + 1, q, by omega, by go_num, rfl, hq1⟩
          case measure => simp [intOf]; omega
      obtain rfl : i = m2 := by omega
      have HF := Lib.hid ((haveUp_full (z := (z : Nat)) HQL.out).symm.trans hS.out)
      clear hS
      have hno := HNO.out
      rw [HQL.out, HF.out] at hno
      have hw1 : IntKind.i64.wrap (2 * (q : Int)) = 2 * (q : Int) := IntWalk.i64_in _ (by omega)
      have hw2 : IntKind.i64.wrap ((z : Int) - 1) = (j : Int) := by have := HJ.out; rw [IntWalk.i64_in _ (by omega)]; omega
      have hw3 : IntKind.i64.wrap ((z : Int) + 1) = (z : Int) + 1 := IntWalk.i64_in _ (by omega)
      by_cases h2q : i < 2 * q
      · have d1 : decide ((i : Int) < 2 * (q : Int)) = true := decide_eq_true (by omega)
        have d2 : decide (i < 2 * q) = true := decide_eq_true (by omega)
        obtain ⟨b, off, x, y, hA, _, _, hg, hc0, _⟩ := HL_15.out.pair (k := j) (by have := HJ.out; omega)
        have hxt : ¬ x = t := fun e => hno ⟨by rw [HJ.out, termOf_get hg]; exact e, h2q⟩
        have bxt : (x == t) = false := by rw [beq_eq_false_iff_ne]; exact hxt
        have hj0 : (0 : Int) ≤ (j : Int) := by omega
        have hj1 : (j : Int) < (m : Int) := by have := HJ.out; omega
        clear hg hxt hno h2q HNO HF
        subst hA
        go_wp2
        go_round
        case rel => exact ⟨z + 1, by omega, by omega, by go_num⟩
        case measure => simp [intOf]; omega
      · have d1 : decide ((i : Int) < 2 * (q : Int)) = false := decide_eq_false (by omega)
        have d2 : decide (i < 2 * q) = false := decide_eq_false (by omega)
        clear hno h2q HNO HF
        go_wp2
        go_round
        case rel => exact ⟨z + 1, by omega, by omega, by go_num⟩
        case measure => simp [intOf]; omega
end Go.Proofs.Ytfpiejcfhdnjiaa
