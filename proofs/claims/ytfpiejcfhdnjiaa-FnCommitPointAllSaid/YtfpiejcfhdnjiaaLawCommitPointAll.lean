/- The law FnCommitPointAll, walked: it returns true. (Written by a program over gen/lawlib.py.) -/
import Derived.Laws.OwnMore
import Derived.Test.YtfpiejcfhdnjiaaDrawCm
import Derived.Test.YtfpiejcfhdnjiaaCommitI
import Derived.Test.YtfpiejcfhdnjiaaCommitS
import Derived.Test.YtfpiejcfhdnjiaaLawCommitM
import Derived.BigQuiet
set_option linter.unusedSimpArgs false
set_option linter.unusedVariables false
namespace Go.Proofs.Ytfpiejcfhdnjiaa
open Go.RowKit

set_option maxRecDepth 100000 in
set_option maxHeartbeats 6400000 in
theorem lawCommitPointAll_any (n c : Nat) (A : Option Addr) (xs : List Int) (w : World) (hr : Rd w 0 w.heap.size 1 A n (bvs xs)) (hby : Bytes xs) (hc : n ≤ c) (hc2 : c ≤ 9223372036854775807) :
    Calls Try.prog 7 #[.slice A n c] w fun e w' => e = .returned (.bool true) ∧ Below w.heap.size w w' := by
  by_cases hbig : (1048576 : Int) < n
  · go_enter Try.func7, Try.ntmps7
    go_wp2
    go_ret
    exact ⟨rfl, Below.refl _ _⟩
  go_enter Try.func7, Try.ntmps7
  go_wp2_with (fail)
  (with_reducible refine (drawCommitPoint_any n c A xs w hr hby (by omega) hc hc2).mono ?_)
  rintro e w1 ⟨A1, m, c1, ps, A2, m2, c3, has, t, rfl, hm, hk1, hrd, hm2, hk2, hrd2, ⟨ht0, ht1⟩, hsm, hb1⟩
  clear hbig hr hsm
  have HB_0 := Lib.hid hb1
  have hz_1 := hb1.size
  clear hb1
  have HPL := Lib.hid hrd.len2
  have HQL := Lib.hid hrd2.len1
  have ht64 : in64 t := by unfold in64; omega
  have HL_1 := Lib.hid (hrd.wide (Nat.zero_le _) (Nat.le_refl _))
  clear hrd
  have HC_2 := Lib.hid (hrd2.wide (Nat.zero_le _) (Nat.le_refl _))
  clear hrd2
  rcases commit_cases ps has t with hU | ⟨k, hU, hC⟩
  · have HU := Lib.hid hU
    clear hU
    go_wp2_with (fail)
    (with_reducible refine (CommitPointI_any 0 _ m c1 A1 ps 0 _ m2 c3 A2 has t _ HL_1.out (by omega) (by omega) (by omega) HC_2.out (by omega) (by omega) ht64).mono ?_)
    rintro e w2 ⟨rfl, hbt⟩
    rw [HU.out]
    have HL_3 := Lib.hid (HL_1.out.keep hbt (by omega))
    have HC_4 := Lib.hid (HC_2.out.keep hbt (by omega))
    have HB_5 := Lib.hid (up HB_0.out hbt)
    have hz_2 := hbt.size
    clear HL_1 HC_2 HB_0
    clear hbt
    go_wp2_with (fail)
    (with_reducible refine (CommitPointS_any 0 _ m c1 A1 ps 0 _ m2 c3 A2 has t _ HL_3.out (by omega) (by omega) HC_4.out (by omega) (by omega) ht64).mono ?_)
    rintro e w3 ⟨rfl, hbt⟩
    rw [HU.out]
    have HL_6 := Lib.hid (HL_3.out.keep hbt (by omega))
    have HC_7 := Lib.hid (HC_4.out.keep hbt (by omega))
    have HB_8 := Lib.hid (up HB_5.out hbt)
    have hz_3 := hbt.size
    clear HL_3 HC_4 HB_5
    clear hbt
    go_wp2_with (fail)
    (with_reducible refine (CommitPointS_any 0 _ m c1 A1 ps 0 _ m2 c3 A2 has t _ HL_6.out (by omega) (by omega) HC_7.out (by omega) (by omega) ht64).mono ?_)
    rintro e w4 ⟨rfl, hbt⟩
    rw [HU.out]
    have HL_9 := Lib.hid (HL_6.out.keep hbt (by omega))
    have HC_10 := Lib.hid (HC_7.out.keep hbt (by omega))
    have HB_11 := Lib.hid (up HB_8.out hbt)
    have hz_4 := hbt.size
    clear HL_6 HC_7 HB_8
    clear hbt
    go_wp2
    go_ret
    exact ⟨rfl, HB_11.out⟩
  have HU := Lib.hid hU
  have HC := Lib.hid hC
  have hkm : k ≤ m := by have := hC.le; have := HPL.out; omega
  obtain ⟨m20, m21⟩ := (vHas_iff.1 hC.has').1
  rw [HQL.out] at m20 m21
  have hm16 : m ≤ 16 := by have := vLog_len hC.log; have := HPL.out; omega
  clear hU hC
  have bkk : ((k : Int) != (k : Int)) = false := by simp
  have bk0 : decide ((k : Int) < 0) = false := decide_eq_false (by omega)
  have bm2 : (m2 == 0) = false := by rw [beq_eq_false_iff_ne]; omega
  have bm3 : ((m2 : Int) == 0) = false := by rw [beq_eq_false_iff_ne]; omega
  have bkm : decide ((m : Int) < (k : Int)) = false := decide_eq_false (by omega)
  have bkm2 : decide (m < k) = false := decide_eq_false (by omega)
  obtain ⟨i0, hi0, hz0, hz1, hz2⟩ := info_parts infoIntD
  by_cases hm0 : m = 0
  case pos =>
    have dm : ((m : Int) == 0) = true := by simp [hm0]
    have dm2 : (m == 0) = true := by simp [hm0]
    have beq : ((k : Int) == (k : Int)) = true := by simp
    clear hm0
    go_wp2_with (fail)
    (with_reducible refine (CommitPointI_any 0 _ m c1 A1 ps 0 _ m2 c3 A2 has t _ HL_1.out (by omega) (by omega) (by omega) HC_2.out (by omega) (by omega) ht64).mono ?_)
    rintro e w2 ⟨rfl, hbt⟩
    rw [HU.out]
    have HL_12 := Lib.hid (HL_1.out.keep hbt (by omega))
    have HC_13 := Lib.hid (HC_2.out.keep hbt (by omega))
    have HB_14 := Lib.hid (up HB_0.out hbt)
    have hz_2 := hbt.size
    clear HL_1 HC_2 HB_0
    clear hbt
    go_wp2_with (fail)
    (with_reducible refine (CommitPointS_any 0 _ m c1 A1 ps 0 _ m2 c3 A2 has t _ HL_12.out (by omega) (by omega) HC_13.out (by omega) (by omega) ht64).mono ?_)
    rintro e w3 ⟨rfl, hbt⟩
    rw [HU.out]
    have HL_15 := Lib.hid (HL_12.out.keep hbt (by omega))
    have HC_16 := Lib.hid (HC_13.out.keep hbt (by omega))
    have HB_17 := Lib.hid (up HB_14.out hbt)
    have hz_3 := hbt.size
    clear HL_12 HC_13 HB_14
    clear hbt
    go_wp2_with (fail)
    (with_reducible refine (CommitPointS_any 0 _ m c1 A1 ps 0 _ m2 c3 A2 has t _ HL_15.out (by omega) (by omega) HC_16.out (by omega) (by omega) ht64).mono ?_)
    rintro e w4 ⟨rfl, hbt⟩
    rw [HU.out]
    have HL_18 := Lib.hid (HL_15.out.keep hbt (by omega))
    have HC_19 := Lib.hid (HC_16.out.keep hbt (by omega))
    have HB_20 := Lib.hid (up HB_17.out hbt)
    have hz_4 := hbt.size
    clear HL_15 HC_16 HB_17
    clear hbt
    go_wp2
    go_ret
    exact ⟨rfl, HB_20.out⟩
  have dm : ((m : Int) == 0) = false := by rw [beq_eq_false_iff_ne]; omega
  have dm2 : (m == 0) = false := by rw [beq_eq_false_iff_ne]; omega
  obtain ⟨j, hj⟩ : ∃ j, m = j + 1 := ⟨m - 1, by omega⟩
  have HJ := Lib.hid hj
  clear hj
  obtain ⟨T, hT⟩ : ∃ T, termOf ps m = T := ⟨_, rfl⟩
  have HA := Lib.hid (commit_all HC.out.log m20 m21 (by rw [HPL.out]; omega))
  rw [HPL.out, hT] at HA
  have HZ := Lib.hid (commit_zero HC.out.log m20 m21 t)
  have HT := Lib.hid hT
  clear hT
  go_wp2_with (fail)
  (with_reducible refine (CommitPointI_any 0 _ m c1 A1 ps 0 _ m2 c3 A2 has t _ HL_1.out (by omega) (by omega) (by omega) HC_2.out (by omega) (by omega) ht64).mono ?_)
  rintro e w2 ⟨rfl, hbt⟩
  rw [HU.out]
  have HL_21 := Lib.hid (HL_1.out.keep hbt (by omega))
  have HC_22 := Lib.hid (HC_2.out.keep hbt (by omega))
  have HB_23 := Lib.hid (up HB_0.out hbt)
  have hz_2 := hbt.size
  clear HL_1 HC_2 HB_0
  clear hbt
  go_wp2_with (fail)
  (with_reducible refine (CommitPointS_any 0 _ m c1 A1 ps 0 _ m2 c3 A2 has t _ HL_21.out (by omega) (by omega) HC_22.out (by omega) (by omega) ht64).mono ?_)
  rintro e w3 ⟨rfl, hbt⟩
  rw [HU.out]
  have HL_24 := Lib.hid (HL_21.out.keep hbt (by omega))
  have HC_25 := Lib.hid (HC_22.out.keep hbt (by omega))
  have HB_26 := Lib.hid (up HB_23.out hbt)
  have hz_3 := hbt.size
  clear HL_21 HC_22 HB_23
  clear hbt
  have HO0 := Lib.hid (show (w3.alloc (.cells #[] 3)).ownsRow w3.heap.size 3 1 (.slice (some ⟨w3.heap.size, 0, none⟩) 0 0) 0 (ivs (List.replicate 0 (m : Int))) from World.ownsRow_made w3 #[] 0 (Nat.le_refl _) (by unfold maxLen; omega) (by simp [ivs]))
  have HG0 := Lib.hid (up_alloc (Below.refl _ w3) (.cells #[] 3))
  go_wp2
  go_loopw [7, 8] (fun v iv wr => ∃ i : Nat, i ≤ m2 ∧ iv = .int .i64 i ∧ Hid (wr.ownsRow w3.heap.size 3 1 v i (ivs (List.replicate i (m : Int)))) ∧ Hid (Below w3.heap.size w3 wr))
     (fun _ iv _ => m2 - (intOf iv).toNat)
  case atStart => exact ⟨0, by omega, rfl, HO0.out, HG0.out⟩
  case round =>
    clear HO0 HG0
    obtain ⟨i, hi, rfl, hO, hG⟩ := hrel
    by_cases hlt : i < m2
    case pos =>
      have hlt2 : (i : Int) < (m2 : Int) := by omega
      have hgs := hG.out.size
      go_wp2_with (at_builtin; refine wpList_append_own _ rfl _ _ 24 rfl w3.heap.size 3 i0 _ 1 8 Try.underlying24 hi0 hz0 hz1 hz2 rfl (by decide) _ _ _ rfl (hO.out.alloc _) _ 1 1 [.int .i64 (m : Int)] rfl rfl (World.news_of_block (heap_alloc_new _ _)) ?d2 ?d3 ?d4 ?d5 ?_)
      case d2 => first | (intro v hv; simp at hv; subst hv; rfl) | rfl
      case d3 => unfold maxLen; omega
      case d4 => omega
      case d5 => first | omega | (simp; omega)
      intro v3 w6 hown6 hg6 _
      have HG6 := Lib.hid (up_grown (up hG.out (up_alloc (Below.refl _ wr) _)) (hO.out.alloc _) hg6 (Nat.le_refl _))
      have HO6 := Lib.hid (show w6.ownsRow w3.heap.size 3 1 v3 (i + 1) (ivs (List.replicate (i + 1) (m : Int))) by rw [List.replicate_succ', ivs_append]; exact hown6)
      clear hown6 hg6 hO hG
      go_wp2
      go_roundw
      case rel => exact ⟨i + 1, by omega, by first | rfl | go_num, HO6, HG6⟩
      case measure => simp [intOf]; omega
    obtain ⟨w4, hwr⟩ : ∃ x : World, x = wr := ⟨_, rfl⟩
    subst hwr
    obtain rfl : i = m2 := by omega
    obtain ⟨A4, c4, rfl, hk4, _⟩ := own_cap hO.out
    have hrn := Rd.of_own hO.out
    have hbt := hG.out
    clear hO hG
    have HN_27 := Lib.hid (hrn.wide (Nat.zero_le _) (Nat.le_refl _))
    clear hrn
    have HL_28 := Lib.hid (HL_24.out.keep hbt (by omega))
    have HC_29 := Lib.hid (HC_25.out.keep hbt (by omega))
    have HB_30 := Lib.hid (up HB_26.out hbt)
    have hz_4 := hbt.size
    clear HL_24 HC_25 HB_26
    clear hbt
    obtain ⟨b, off, x, y, hA, _, _, hg, hc0, _⟩ := HL_28.out.pair (k := j) (by have := HJ.out; omega)
    have hxT : x = T := by rw [← HT.out, HJ.out, termOf_get hg]
    subst hxT
    have hj0 : (0 : Int) ≤ (j : Int) := by omega
    have hj1 : (j : Int) < (m : Int) := by have := HJ.out; omega
    have hw2 : IntKind.i64.wrap ((m : Int) - 1) = (j : Int) := by have := HJ.out; rw [IntWalk.i64_in _ (by omega)]; omega
    have hx64 : in64 x := by
      have := vLog_ok HC.out.log (List.mem_of_getElem? hg)
      have := this.1
      dsimp only at this
      unfold in64
      omega
    clear hg
    subst hA
    have bmm : ((m : Int) == (m : Int)) = true := by simp
    go_wp2_with (fail)
    (with_reducible refine (CommitPointI_any 0 _ m c1 (some ⟨b, off, none⟩) ps 0 _ i c4 A4 (List.replicate i (m : Int)) x _ HL_28.out (by omega) (by omega) (by omega) HN_27.out (by omega) (by omega) hx64).mono ?_)
    rintro e w5 ⟨rfl, hbt⟩
    rw [HA.out]
    have HL_31 := Lib.hid (HL_28.out.keep hbt (by omega))
    have HC_32 := Lib.hid (HC_29.out.keep hbt (by omega))
    have HN_33 := Lib.hid (HN_27.out.keep hbt (by omega))
    have HB_34 := Lib.hid (up HB_30.out hbt)
    have hz_5 := hbt.size
    clear HL_28 HC_29 HN_27 HB_30
    clear hbt
    obtain ⟨wm, hmk, hown, hgr⟩ := run_make_full (P := Try.prog) w5 w5.heap.size 24 3 i0 _ 1 Try.underlying24 hi0 hz0 hz1 .i64 .i64 i (by rw [hz2]; omega) (by unfold maxLen; omega) (Nat.le_refl _)
    have hbt : Below w5.heap.size w5 wm := (Below.refl _ _).grown hgr (Nat.le_refl _) (by simp)
    have hrz : Rd wm w5.heap.size wm.heap.size 1 (some ⟨w5.heap.size, 0, none⟩) i (ivs (List.replicate i 0)) := by
      have := Rd.of_own hown
      rwa [show (madeCells (Value.int .i64 0).cells (i * 1)).toList = ivs (List.replicate i 0) from by show (madeCells #[.int .i64 0] (i * 1)).toList = _; rw [toList_madeCells_one, Nat.mul_one]; simp [ivs]] at this
    clear hown hgr
    have bzz : ((0 : Int) == 0) = true := by simp
    go_wp2_with (fail)
    clear hmk
    obtain ⟨w6, hww⟩ : ∃ x : World, x = wm := ⟨_, rfl⟩
    subst hww
    have HZ_35 := Lib.hid (hrz.wide (Nat.zero_le _) (Nat.le_refl _))
    clear hrz
    have HL_36 := Lib.hid (HL_31.out.keep hbt (by omega))
    have HC_37 := Lib.hid (HC_32.out.keep hbt (by omega))
    have HN_38 := Lib.hid (HN_33.out.keep hbt (by omega))
    have HB_39 := Lib.hid (up HB_34.out hbt)
    have hz_6 := hbt.size
    clear HL_31 HC_32 HN_33 HB_34
    clear hbt
    (with_reducible refine (CommitPointI_any 0 _ m c1 (some ⟨b, off, none⟩) ps 0 _ i i (some ⟨w5.heap.size, 0, none⟩) (List.replicate i 0) t _ HL_36.out (by omega) (by omega) (by omega) HZ_35.out (by omega) (by omega) ht64).mono ?_)
    rintro e w7 ⟨rfl, hbt⟩
    rw [HZ.out]
    have HL_40 := Lib.hid (HL_36.out.keep hbt (by omega))
    have HC_41 := Lib.hid (HC_37.out.keep hbt (by omega))
    have HN_42 := Lib.hid (HN_38.out.keep hbt (by omega))
    have HZ_43 := Lib.hid (HZ_35.out.keep hbt (by omega))
    have HB_44 := Lib.hid (up HB_39.out hbt)
    have hz_7 := hbt.size
    clear HL_36 HC_37 HN_38 HZ_35 HB_39
    clear hbt
    go_wp2
    go_ret
    exact ⟨rfl, HB_44.out⟩
end Go.Proofs.Ytfpiejcfhdnjiaa
