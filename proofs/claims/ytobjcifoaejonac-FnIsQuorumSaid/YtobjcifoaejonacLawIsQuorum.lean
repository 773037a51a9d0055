/- The law FnIsQuorum, walked: it returns true. (Written by a program over gen/lawlib.py.) -/
import Derived.Test.YtobjcifoaejonacDrawG
import Derived.Test.YtobjcifoaejonacVoteI
import Derived.Test.YtobjcifoaejonacVoteS
import Derived.Test.YtobjcifoaejonacLawLists
import Derived.Test.YtobjcifoaejonacLawVoteM
import Derived.BigQuiet
import Derived.Deep.RegionLaw
set_option linter.unusedSimpArgs false
set_option linter.unusedVariables false
namespace Go.Proofs.Ytobjcifoaejonac
open Go.RowKit

set_option maxRecDepth 100000 in
set_option maxHeartbeats 6400000 in
theorem lawIsQuorum_any (n c : Nat) (A : Option Addr) (xs : List Int) (w : World) (hr : Rd w 0 w.heap.size 1 A n (bvs xs)) (hby : Bytes xs) (hc : n ≤ c) (hc2 : c ≤ 9223372036854775807) :
    Calls Try.prog 6 #[.slice A n c] w fun e w' => e = .returned (.bool true) ∧ Below w.heap.size w w' := by
  by_cases hbig : (1048576 : Int) < n
  · go_enter Try.func6, Try.ntmps6
    go_wp2
    go_ret
    exact ⟨rfl, Below.refl _ _⟩
  go_enter Try.func6, Try.ntmps6
  go_wp2_with (fail)
  (with_reducible refine (drawIsQuorum_any n c A xs w hr hby (by omega) hc hc2).mono ?_)
  rintro e w1 ⟨A1, m, c1, ga, A2, m2, c2, gb, rfl, hm, hc1, hrd, hm2, hc2', hrd2, hb1⟩
  clear hbig hr
  have HB_0 := Lib.hid hb1
  have hz_1 := hb1.size
  clear hb1
  have HPL := Lib.hid hrd.len1
  have HQL := Lib.hid hrd2.len1
  have HL_1 := Lib.hid (hrd.wide (Nat.zero_le _) (Nat.le_refl _))
  clear hrd
  have HR_2 := Lib.hid (hrd2.wide (Nat.zero_le _) (Nat.le_refl _))
  clear hrd2
  cases hU : quorumOf ga gb with
  | false =>
    have HU := Lib.hid hU
    clear hU
    go_wp2_with (fail)
    (with_reducible refine (IsQuorumI_any 0 _ m c1 A1 ga 0 _ m2 c2 A2 gb _ HL_1.out (by omega) (by omega) HR_2.out (by omega) (by omega)).mono ?_)
    rintro e w2 ⟨rfl, hbt⟩
    rw [HU.out]
    have HL_3 := Lib.hid (HL_1.out.keep hbt (by omega))
    have HR_4 := Lib.hid (HR_2.out.keep hbt (by omega))
    have HB_5 := Lib.hid (up HB_0.out hbt)
    have hz_2 := hbt.size
    clear HL_1 HR_2 HB_0
    clear hbt
    go_wp2_with (fail)
    (with_reducible refine (IsQuorumS_any 0 _ m c1 A1 ga 0 _ m2 c2 A2 gb _ HL_3.out (by omega) (by omega) HR_4.out (by omega) (by omega)).mono ?_)
    rintro e w3 ⟨rfl, hbt⟩
    rw [HU.out]
    have HL_6 := Lib.hid (HL_3.out.keep hbt (by omega))
    have HR_7 := Lib.hid (HR_4.out.keep hbt (by omega))
    have HB_8 := Lib.hid (up HB_5.out hbt)
    have hz_3 := hbt.size
    clear HL_3 HR_4 HB_5
    clear hbt
    go_wp2_with (fail)
    (with_reducible refine (IsQuorumS_any 0 _ m c1 A1 ga 0 _ m2 c2 A2 gb _ HL_6.out (by omega) (by omega) HR_7.out (by omega) (by omega)).mono ?_)
    rintro e w4 ⟨rfl, hbt⟩
    rw [HU.out]
    have HL_9 := Lib.hid (HL_6.out.keep hbt (by omega))
    have HR_10 := Lib.hid (HR_7.out.keep hbt (by omega))
    have HB_11 := Lib.hid (up HB_8.out hbt)
    have hz_4 := hbt.size
    clear HL_6 HR_7 HB_8
    clear hbt
    go_wp2
    go_ret
    exact ⟨rfl, HB_11.out⟩
  | true =>
    have HU := Lib.hid hU
    clear hU
    go_wp2_with (fail)
    (with_reducible refine (IsQuorumI_any 0 _ m c1 A1 ga 0 _ m2 c2 A2 gb _ HL_1.out (by omega) (by omega) HR_2.out (by omega) (by omega)).mono ?_)
    rintro e w2 ⟨rfl, hbt⟩
    rw [HU.out]
    have HL_12 := Lib.hid (HL_1.out.keep hbt (by omega))
    have HR_13 := Lib.hid (HR_2.out.keep hbt (by omega))
    have HB_14 := Lib.hid (up HB_0.out hbt)
    have hz_2 := hbt.size
    clear HL_1 HR_2 HB_0
    clear hbt
    go_wp2_with (fail)
    (with_reducible refine (IsQuorumS_any 0 _ m c1 A1 ga 0 _ m2 c2 A2 gb _ HL_12.out (by omega) (by omega) HR_13.out (by omega) (by omega)).mono ?_)
    rintro e w3 ⟨rfl, hbt⟩
    rw [HU.out]
    have HL_15 := Lib.hid (HL_12.out.keep hbt (by omega))
    have HR_16 := Lib.hid (HR_13.out.keep hbt (by omega))
    have HB_17 := Lib.hid (up HB_14.out hbt)
    have hz_3 := hbt.size
    clear HL_12 HR_13 HB_14
    clear hbt
    obtain ⟨hv, _⟩ := quorum_v HU.out
    have HQS := Lib.hid (quorum_self hv)
    clear hv
    obtain ⟨i0, hi0, hq0, hq1, hq2⟩ := info_parts infoIntD
    have HO0 := Lib.hid (show (w3.alloc (.cells #[] 3)).ownsRow w3.heap.size 3 1 (.slice (some ⟨w3.heap.size, 0, none⟩) 0 0) 0 (ivs []) from World.ownsRow_made w3 #[] 0 (Nat.le_refl _) (by unfold maxLen; omega) (by simp [ivs]))
    have HU0 := Lib.hid (up_alloc (Below.refl _ w3) (.cells #[] 3))
    go_wp2
    go_loopw [6, 7] (fun v iv wr => ∃ (k q : Nat) (ms : List Int), iv = .int .i64 k ∧ k ≤ m ∧ q ≤ k ∧ Hid (ms = (ga.take k).filter fun x => !gb.contains x) ∧ Hid (wr.ownsRow w3.heap.size 3 1 v q (ivs ms)) ∧ Hid (Below w3.heap.size w3 wr))
       (fun _ iv _ => m - (intOf iv).toNat)
    case atStart => exact ⟨0, 0, [], rfl, by omega, by omega, by simp [Hid], HO0.out, HU0.out⟩
    case round =>
      clear HO0 HU0
      obtain ⟨k, q, ms, rfl, hk, hqk, hM, hO, hB⟩ := hrel
      have hsz := hB.out.size
      have HLW := Lib.hid (HL_15.out.keep hB.out (by omega))
      have HRW := Lib.hid (HR_16.out.keep hB.out (by omega))
      by_cases hlt : k < m
      case pos =>
        obtain ⟨b, off, x, hA, _, _, hg, hc0⟩ := HLW.out.one hlt
        subst hA
        have hkn : (k : Int) < (m : Int) := by omega
        have hk0 : (0 : Int) ≤ (k : Int) := by omega
        have HT := Lib.hid (take_snoc hg)
        clear hg
        go_wp2_with (fail)
        (with_reducible refine (isIn_any 0 _ m2 c2 A2 gb x _ HRW.out (by omega)).mono ?_)
        rintro e w8 ⟨rfl, rfl⟩
        cases hx : inL gb x with
        | true =>
          have HM2 := Lib.hid (show ms = (ga.take (k + 1)).filter fun x => !gb.contains x by
            rw [HT.out, List.filter_append, ← hM.out]
            have hx : gb.contains x = true := hx
            simp at hx ⊢; exact hx)
          clear hx
          go_wp2
          go_roundw
          case rel => exact ⟨k + 1, q, ms, by go_num, by omega, by omega, HM2, hO, hB⟩
          case measure => simp [intOf]; omega
        | false =>
          have HM2 := Lib.hid (show ms ++ [x] = (ga.take (k + 1)).filter fun x => !gb.contains x by
            rw [HT.out, List.filter_append, ← hM.out]
            have hx : gb.contains x = false := hx
            simp at hx ⊢; simp [hx])
          clear hx
          go_wp2_with (at_builtin; refine wpList_append_own _ rfl _ _ 33 rfl w3.heap.size 3 i0 _ 1 8 Try.underlying33 hi0 hq0 hq1 hq2 rfl (by decide) _ _ _ rfl (hO.out.alloc _) _ 1 1 [.int .i64 x] rfl rfl (World.news_of_block (heap_alloc_new _ _)) ?d2 ?d3 ?d4 ?d5 ?_)
          case d2 => first | (intro v hv; simp at hv; subst hv; rfl) | rfl
          case d3 => unfold maxLen; omega
          case d4 => omega
          case d5 => first | omega | (simp; omega)
          intro v9 w9 hown9 hg9 _
          have HU9 := Lib.hid (up_grown (up_alloc hB.out _) (hO.out.alloc _) hg9 (Nat.le_refl _))
          have HO9 := Lib.hid (show w9.ownsRow w3.heap.size 3 1 v9 (q + 1) (ivs (ms ++ [x])) by rw [ivs_append]; exact hown9)
          clear hown9 hg9
          go_wp2
          go_roundw
          case rel => exact ⟨k + 1, q + 1, _, by go_num, by omega, by omega, HM2, HO9, HU9⟩
          case measure => simp [intOf]; omega
      obtain rfl : k = m := by omega
      obtain ⟨A9, c9, rfl, hk9, _⟩ := own_cap hO.out
      have HX9 := Lib.hid ((Rd.of_own hO.out).wide (lo' := 0) (Nat.zero_le _) (Nat.le_refl _))
      have HQR := Lib.hid (quorum_rest (rest := ms) HU.out (by have := hM.out; rwa [List.take_of_length_le (by rw [HPL.out]; exact Nat.le_refl _)] at this))
      go_wp2_with (fail)
      (with_reducible refine (IsQuorumI_any 0 _ k c1 A1 ga 0 _ k c1 A1 ga _ HLW.out (by omega) (by omega) HLW.out (by omega) (by omega)).mono ?_)
      rintro e y1 ⟨rfl, hb2⟩
      rw [HQS.out]
      have HL2 := Lib.hid (HLW.out.keep hb2 (by omega))
      have HX2 := Lib.hid (HX9.out.keep hb2 (by omega))
      have HB2 := Lib.hid (up hB.out hb2)
      have hz2 := hb2.size
      clear hb2
      go_wp2_with (fail)
      (with_reducible refine (IsQuorumI_any 0 _ k c1 A1 ga 0 _ q c9 A9 ms _ HL2.out (by omega) (by omega) HX2.out (by omega) (by omega)).mono ?_)
      rintro e y2 ⟨rfl, hb3⟩
      rw [HQR.out]
      have HL3 := Lib.hid (HL2.out.keep hb3 (by omega))
      have HB3 := Lib.hid (up HB2.out hb3)
      have hz3 := hb3.size
      clear hb3
      go_wp2_with (fail)
      (with_reducible refine (IsQuorumI_any 0 _ k c1 A1 ga 0 0 0 0 none [] _ HL3.out (by omega) (by omega) (show Rd _ 0 0 1 none 0 (ivs []) from Rd.nil _ _ _ _ _) (Nat.zero_le _) (by omega)).mono ?_)
      rintro e y3 ⟨rfl, hb4⟩
      rw [quorum_nil]
      have HB4 := Lib.hid (up HB3.out hb4)
      clear hb4
      go_wp2
      go_ret
      exact ⟨rfl, up HB_17.out HB4.out⟩
end Go.Proofs.Ytobjcifoaejonac
