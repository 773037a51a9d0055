/- The law FnNotConditionTwice, walked: it returns true. -/
import Derived.Test.YtakpjhiodmgccaaDraw5
import Derived.Test.YtakpjhiodmgccaaEvalS
import Derived.Test.YtakpjhiodmgccaaEvalI
import Derived.Test.YtakpjhiodmgccaaCondNot
import Derived.Test.YtakpjhiodmgccaaJoinMath
namespace Go.Proofs.Ytakpjhiodmgccaa
open Go.RowKit

set_option maxRecDepth 100000 in
set_option maxHeartbeats 1600000 in
theorem lawNotTwice_any (n c : Nat) (A : Option Addr) (xs : List Int) (w : World) (hr : Rd w 0 w.heap.size 1 A n (bvs xs)) (hby : Bytes xs) (hc : n ≤ c) (hc2 : c ≤ 9223372036854775807) :
    Calls Try.prog 13 #[.slice A n c] w fun e w' => e = .returned (.bool true) ∧ Below w.heap.size w w' := by
  by_cases hbig : (1048576 : Int) < n
  · go_enter Try.func13, Try.ntmps13
    go_wp2
    go_ret
    exact ⟨rfl, Below.refl _ _⟩
  go_enter Try.func13, Try.ntmps13
  go_wp2_with (fail)
  (with_reducible refine (drawEval_any n c A xs w hr hby (by omega) hc hc2).mono ?_)
  clear hbig
  rintro e w1 ⟨A1, n1, c1, ps, A2, n2, c2, vs, rfl, hn1, _, _, hr1, hn2, _, _, hr2, hb1⟩
  have HL := Lib.hid hr1.len2
  go_wp2_with (fail)
  (with_reducible refine (EvalConditionI_any _ _ n1 c1 _ _ n2 c2 A1 A2 ps vs w1 hr1 (Nat.le_refl _) (by omega) hr2 (Nat.le_refl _) (by omega)).mono ?_)
  rintro e w2 ⟨rfl, hb2⟩
  have hr1' := hr1.keep hb2 (Nat.le_refl _)
  have hr2' := hr2.keep hb2 (Nat.le_refl _)
  have hsz2 := hb2.size
  have hb02 := up hb1 hb2
  clear hb1
  go_wp2_with (fail)
  (with_reducible refine (EvalConditionS_any _ _ n1 c1 _ _ n2 c2 A1 A2 ps vs w2 hr1' hsz2 (by omega) hr2' hsz2 (by omega)).mono ?_)
  rintro e w3 ⟨rfl, hb3⟩
  generalize hm : evalOf ps vs = m
  have HM := Lib.hid hm
  clear hm
  have hr13 := hr1'.keep (up (Below.refl _ _) hb3) hsz2
  have hr23 := hr2'.keep (up (Below.refl _ _) hb3) hsz2
  have hsz3 := hb3.size
  have hb03 := up hb02 hb3
  clear hb2 hb3 hb02 hr1 hr2 hr1' hr2'
  go_wp2_with (fail)
  (with_reducible refine (ValidConditionI_any _ _ n1 c1 A1 ps w3 hr13 (Nat.le_trans hsz2 hsz3) (by omega)).mono ?_)
  rintro e w4 ⟨rfl, hb4⟩
  have hr14 := hr13.keep hb4 (Nat.le_trans hsz2 hsz3)
  have hr24 := hr23.keep hb4 (Nat.le_trans hsz2 hsz3)
  have hsz4 := hb4.size
  have hb04 := up hb03 hb4
  clear hb4 hb03 hr13 hr23
  by_cases hV : vCond ps = true
  · have HV := Lib.hid hV
    rw [hV]
    clear hV
    go_wp2_with (fail)
    have hblk := Blk.new w4 29 #[.int .i64 0, .int .i64 1]
    (with_reducible refine (EvalConditionI_any w4.heap.size (w4.heap.size + 1) 1 1 _ _ n2 c2 _ A2 [(0, 1)] vs _ (Rd.of_blk hblk rfl) (by simp) (by omega) (hr24.keep (up_alloc (Below.refl _ _) _) (Nat.le_trans (Nat.le_trans hsz2 hsz3) hsz4)) (by simp; omega) (by omega)).mono ?_)
    rintro e w5 ⟨rfl, hb5⟩
    rw [evalOf_num (by omega) (by omega)]
    have hb05 := up (up_alloc hb04 _) hb5
    have hr15 := hr14.keep (up (up_alloc (Below.refl _ _) _) hb5) (Nat.le_trans (Nat.le_trans hsz2 hsz3) hsz4)
    have hr25 := hr24.keep (up (up_alloc (Below.refl _ _) _) hb5) (Nat.le_trans (Nat.le_trans hsz2 hsz3) hsz4)
    have hsz5 := hb5.size
    simp at hsz5
    clear hb5 hblk hb04 hr14 hr24
    by_cases hvs : vVals vs = true
    · have HVS := Lib.hid hvs
      rw [if_pos hvs]
      clear hvs
      go_wp2_with (fail)
      (with_reducible refine (notI_any _ _ n1 c1 A1 ps w5 hr15 (by omega) (by omega)).mono ?_)
      rintro e w6 (⟨hN, rfl, hb6⟩ | ⟨A3, c3, hN, rfl, _, hr3, _, hb6⟩)
      · have hr26 := hr25.keep hb6 (by omega)
        have hsz6 := hb6.size
        have hb06 := up hb05 hb6
        clear hb6 hN hr25
        go_wp2_with (fail)
        (with_reducible refine (notI_any 0 0 0 0 none [] w6 (Rd.nil _ _ _ _ _) (by omega) (by omega)).mono ?_)
        rintro e w7 (⟨_, rfl, hb7⟩ | ⟨_, _, hN2, _⟩)
        case inr => simp [notOf, vCond, inR] at hN2
        have hr27 := hr26.keep hb7 (by omega)
        have hsz7 := hb7.size
        go_wp2_with (fail)
        (with_reducible refine (EvalConditionI_any 0 0 0 0 _ _ n2 c2 none A2 [] vs w7 (Rd.nil _ _ _ _ _) (by omega) (by omega) hr27 (by omega) (by omega)).mono ?_)
        rintro e w8 ⟨rfl, hb8⟩
        go_wp2
        go_ret
        exact ⟨by simp, up (up hb06 hb7) hb8⟩
      · have hr26 := hr25.keep hb6 (by omega)
        have hsz6 := hb6.size
        have hb06 := up hb05 hb6
        have hl12 : ps.length ≠ 12 := by
          intro h12
          rw [notOf, if_neg (fun h => h.2 h12)] at hN
          cases hN
        rw [HL.out] at hr3
        rw [HL.out]
        have HE1 := Lib.hid (evalOf_not HV.out HVS.out hl12)
        have HLL : Hid ((ps ++ [(2, 0)]).length = n1 + 1) := by rw [Hid, List.length_append, HL.out]; rfl
        clear hb6 hN hr25
        go_wp2_with (fail)
        (with_reducible refine (notI_any _ _ _ c3 A3 (ps ++ [(2, 0)]) w6 hr3 (Nat.le_refl _) (by omega)).mono ?_)
        rintro e w7 (⟨_, rfl, hb7⟩ | ⟨A4, c4, hN2, rfl, _, hr4, _, hb7⟩)
        · have hr27 := hr26.keep hb7 (by omega)
          have hsz7 := hb7.size
          clear hl12
          go_wp2_with (fail)
          (with_reducible refine (EvalConditionI_any 0 0 0 0 _ _ n2 c2 none A2 [] vs w7 (Rd.nil _ _ _ _ _) (by omega) (by omega) hr27 (by omega) (by omega)).mono ?_)
          rintro e w8 ⟨rfl, hb8⟩
          go_wp2
          go_ret
          exact ⟨by simp, up (up hb06 hb7) hb8⟩
        · have hr27 := hr26.keep hb7 (by omega)
          have hsz7 := hb7.size
          have hl12' : (ps ++ [(2, 0)]).length ≠ 12 := by
            intro h12
            rw [notOf, if_neg (fun h => h.2 h12)] at hN2
            cases hN2
          have HE2 := Lib.hid (evalOf_not HE1.out.1 HVS.out hl12').2
          clear hN2 hl12 hl12'
          rw [HLL.out] at hr4
          rw [HLL.out]
          have hlb : n1 + 1 + 1 ≤ 1048576 := by omega
          go_wp2_with (fail)
          (with_reducible refine (EvalConditionI_any _ _ _ c4 _ _ n2 c2 A4 A2 _ vs w7 hr4 (Nat.le_refl _) hlb hr27 (by omega) (by omega)).mono ?_)
          rintro e w8 ⟨rfl, hb8⟩
          rw [HE2.out, HE1.out.2, HM.out]
          by_cases hm0 : m = 0
          · subst hm0
            have ht : tr (tr ((0 : Int) == 0) == 0) = 0 := by simp [tr]
            rw [ht]
            go_wp2
            go_ret
            exact ⟨by simp, up (up hb06 hb7) hb8⟩
          · have hm1 : (m == 0) = false := by simpa using hm0
            have hm2 : (m != 0) = true := by simpa using hm0
            have ht : tr (tr (m == 0) == 0) = 1 := by rw [hm1]; simp [tr]
            rw [ht]
            go_wp2
            go_ret
            exact ⟨by simp, up (up hb06 hb7) hb8⟩
    · rw [if_neg hvs]
      clear hvs
      go_wp2_with (fail)
      (with_reducible refine (EvalConditionS_any _ _ n1 c1 _ _ n2 c2 A1 A2 ps vs w5 hr15 (by omega) (by omega) hr25 (by omega) (by omega)).mono ?_)
      rintro e w9 ⟨rfl, hb9⟩
      rw [HM.out]
      go_wp2
      go_ret
      exact ⟨by simp, up hb05 hb9⟩
  · have hV' : vCond ps = false := by simpa using hV
    rw [hV']
    clear hV
    go_wp2_with (fail)
    (with_reducible refine (EvalConditionS_any _ _ n1 c1 _ _ n2 c2 A1 A2 ps vs w4 hr14 (by omega) (by omega) hr24 (by omega) (by omega)).mono ?_)
    rintro e w9 ⟨rfl, hb9⟩
    rw [HM.out]
    go_wp2
    go_ret
    exact ⟨by simp, up hb04 hb9⟩
end Go.Proofs.Ytakpjhiodmgccaa
