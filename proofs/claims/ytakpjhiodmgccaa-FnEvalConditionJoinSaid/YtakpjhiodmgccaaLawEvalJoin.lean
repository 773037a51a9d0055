/- The law FnEvalConditionJoin, walked: it returns true. -/
import Derived.Test.YtakpjhiodmgccaaDraw5
import Derived.Test.YtakpjhiodmgccaaEvalS
import Derived.Test.YtakpjhiodmgccaaEvalI
import Derived.Test.YtakpjhiodmgccaaJoinMath
namespace Go.Proofs.Ytakpjhiodmgccaa
open Go.RowKit

set_option maxRecDepth 100000 in
set_option maxHeartbeats 3200000 in
theorem lawEvalJoin_any (n c : Nat) (A : Option Addr) (xs : List Int) (w : World) (hr : Rd w 0 w.heap.size 1 A n (bvs xs)) (hby : Bytes xs) (hc : n ≤ c) (hc2 : c ≤ 9223372036854775807) :
    Calls Try.prog 4 #[.slice A n c] w fun e w' => e = .returned (.bool true) ∧ Below w.heap.size w w' := by
  obtain ⟨i0, hi0, hz0, hz1, hz2⟩ := info_parts infoPartD
  by_cases hbig : (1048576 : Int) < n
  · go_enter Try.func4, Try.ntmps4
    go_wp2
    go_ret
    exact ⟨rfl, Below.refl _ _⟩
  go_enter Try.func4, Try.ntmps4
  go_wp2_with (fail)
  (with_reducible refine (drawEval_any n c A xs w hr hby (by omega) hc hc2).mono ?_)
  clear hbig
  rintro e w1 ⟨A1, n1, c1, ps, A2, n2, c2, vs, rfl, hn1, _, _, hr1, hn2, _, _, hr2, hb1⟩
  have HL := Lib.hid hr1.len2
  go_wp2_with (fail)
  (with_reducible refine (EvalConditionI_any _ _ n1 c1 _ _ n2 c2 A1 A2 ps vs w1 hr1 (Nat.le_refl _) (by omega) hr2 (Nat.le_refl _) (by omega)).mono ?_)
  rintro e w2 ⟨rfl, hb2⟩
  have hr1' := hr1.keep hb2 (Nat.le_refl _)
  have hr2' := hr2.keep hb2 (Nat.le_refl _)
  have hsz2 := hb2.size
  have hb02 := up hb1 hb2
  clear hb1
  go_wp2_with (fail)
  (with_reducible refine (EvalConditionS_any _ _ n1 c1 _ _ n2 c2 A1 A2 ps vs w2 hr1' hsz2 (by omega) hr2' hsz2 (by omega)).mono ?_)
  rintro e w3 ⟨rfl, hb3⟩
  have hms := evalOf_small ps vs
  generalize hm : evalOf ps vs = m
  rw [hm] at hms
  obtain ⟨hm0, hm1⟩ := hms
  have HM := Lib.hid hm
  clear hm
  have hr13 := hr1'.keep hb3 hsz2
  have hr23 := hr2'.keep hb3 hsz2
  have hsz3 := hb3.size
  have hb03 := up hb02 hb3
  clear hb2 hb3 hb02 hr1 hr2 hr1' hr2'
  by_cases h12 : (12 : Int) < (n1 : Int) + 2
  · go_wp2_with (fail)
    (with_reducible refine (EvalConditionS_any _ _ n1 c1 _ _ n2 c2 A1 A2 ps vs w3 hr13 (by omega) (by omega) hr23 (by omega) (by omega)).mono ?_)
    rintro e w9 ⟨rfl, hb9⟩
    rw [HM.out]
    go_wp2
    go_ret
    exact ⟨by simp, up hb03 hb9⟩
  have h10 : n1 ≤ 10 := by omega
  have h12' : (n1 : Int) + 2 ≤ 12 := by omega
  clear h12
  go_wp2_with (fail)
  (with_reducible refine (ValidConditionI_any _ _ n1 c1 A1 ps w3 hr13 (Nat.le_trans hsz2 hsz3) (by omega)).mono ?_)
  rintro e w4 ⟨rfl, hb4⟩
  have hr14 := hr13.keep hb4 (Nat.le_trans hsz2 hsz3)
  have hr24 := hr23.keep hb4 (Nat.le_trans hsz2 hsz3)
  have hsz4 := hb4.size
  have hb04 := up hb03 hb4
  clear hb4 hb03 hr13 hr23
  by_cases hV : vCond ps = true
  · have HV := Lib.hid hV
    have hvl := vCond_len hV
    rw [HL.out] at hvl
    obtain ⟨hn11, _⟩ := hvl
    rw [hV]
    clear hV
    obtain ⟨b, off, rfl, _, _⟩ := hr14.form (by omega)
    have hownN : (w4.alloc (.cells #[] 29)).ownsRow w4.heap.size 29 2 (.slice (some ⟨w4.heap.size, 0, none⟩) 0 0) 0 [] := World.ownsRow_made w4 #[] 0 (Nat.le_refl _) (by unfold maxLen; omega) (by simp)
    have hbm := up_alloc (Below.refl _ w4) (.cells #[] 29)
    have hrm := hr14.keep hbm (by omega)
    go_wp2_with (at_builtin; refine wpList_append_own _ rfl (.tmp 40) (.tmp 41) 23 rfl w4.heap.size 29 i0 _ 2 16 Try.underlying23 hi0 hz0 hz1 hz2 rfl (by decide) _ _ _ rfl hownN ⟨b, off, none⟩ n1 c1 (pvs ps) rfl hrm.1 hrm.src (pvs_one ps) ?d3 ?d4 ?d5 ?_)
    case d3 => unfold maxLen; omega
    case d4 => omega
    case d5 => simp
    intro vap wap howna hga _
    have hba := up_grown hbm hownN hga (Nat.le_refl _)
    try simp only [Nat.zero_add, List.nil_append] at howna
    clear hownN hga hrm hbm
    go_wp2_with (at_builtin; refine wpList_append_own _ rfl (.tmp 42) (.tmp 45) 23 rfl w4.heap.size 29 i0 _ 2 16 Try.underlying23 hi0 hz0 hz1 hz2 rfl (by decide) _ _ _ rfl (howna.alloc _) _ 2 2 [.int .i64 0, .int .i64 3, .int .i64 3, .int .i64 0] rfl rfl (World.news_of_block (heap_alloc_new _ _)) ?c2 ?c3 ?c4 ?c5 ?_)
    case c2 => intro u hu; simp at hu; rcases hu with rfl | rfl | rfl | rfl <;> rfl
    case c3 => unfold maxLen; omega
    case c4 => omega
    case c5 => have := hba.size; simp; omega
    intro vbp wbp hownb hgb _
    have hbb := up_grown (up_alloc hba _) (howna.alloc _) hgb (Nat.le_refl _)
    obtain ⟨Axp, cxp, rfl, _, hrx, _⟩ := own_form hownb
    have hpvp : pvs ps ++ [.int .i64 0, .int .i64 3, .int .i64 3, .int .i64 0] = pvs (ps ++ [(0, 3), (3, 0)]) := by rw [pvs_append]; rfl
    rw [hpvp] at hrx
    have hrxp := hrx
    have hr1p := hr14.keep hbb (by omega)
    have hr2p := hr24.keep hbb (by omega)

    have hszp := hbb.size
    have hbp := up hb04 hbb
    clear howna hgb hba hownb hrx hpvp hbb hr14 hr24
    have hownN : (wbp.alloc (.cells #[] 29)).ownsRow wbp.heap.size 29 2 (.slice (some ⟨wbp.heap.size, 0, none⟩) 0 0) 0 [] := World.ownsRow_made wbp #[] 0 (Nat.le_refl _) (by unfold maxLen; omega) (by simp)
    have hbm := up_alloc (Below.refl _ wbp) (.cells #[] 29)
    have hrm := hr1p.keep hbm (by omega)
    go_wp2_with (at_builtin; refine wpList_append_own _ rfl (.tmp 47) (.tmp 48) 23 rfl wbp.heap.size 29 i0 _ 2 16 Try.underlying23 hi0 hz0 hz1 hz2 rfl (by decide) _ _ _ rfl hownN ⟨b, off, none⟩ n1 c1 (pvs ps) rfl hrm.1 hrm.src (pvs_one ps) ?d3 ?d4 ?d5 ?_)
    case d3 => unfold maxLen; omega
    case d4 => omega
    case d5 => simp
    intro vaq waq howna hga _
    have hba := up_grown hbm hownN hga (Nat.le_refl _)
    try simp only [Nat.zero_add, List.nil_append] at howna
    clear hownN hga hrm hbm
    go_wp2_with (at_builtin; refine wpList_append_own _ rfl (.tmp 49) (.tmp 53) 23 rfl wbp.heap.size 29 i0 _ 2 16 Try.underlying23 hi0 hz0 hz1 hz2 rfl (by decide) _ _ _ rfl (howna.alloc _) _ 2 2 [.int .i64 0, .int .i64 m, .int .i64 8, .int .i64 0] rfl rfl (World.news_of_block (heap_alloc_new _ _)) ?c2 ?c3 ?c4 ?c5 ?_)
    case c2 => intro u hu; simp at hu; rcases hu with rfl | rfl | rfl | rfl <;> rfl
    case c3 => unfold maxLen; omega
    case c4 => omega
    case c5 => have := hba.size; simp; omega
    intro vbq wbq hownb hgb _
    have hbb := up_grown (up_alloc hba _) (howna.alloc _) hgb (Nat.le_refl _)
    obtain ⟨Axq, cxq, rfl, _, hrx, _⟩ := own_form hownb
    have hpvq : pvs ps ++ [.int .i64 0, .int .i64 m, .int .i64 8, .int .i64 0] = pvs (ps ++ [(0, m), (8, 0)]) := by rw [pvs_append]; rfl
    rw [hpvq] at hrx
    have hrxq := hrx
    have hr1q := hr1p.keep hbb (by omega)
    have hr2q := hr2p.keep hbb (by omega)
    have hrxp_q := hrxp.keep hbb (by omega)
    have hszq := hbb.size
    have hbq := up hbp hbb
    clear howna hgb hba hownb hrx hpvq hbb hr1p hr2p

    have HL2 := Lib.hid hr2q.len1
    by_cases hvs : vVals vs = true
    · have HVS := Lib.hid hvs
      have hl4 := vVals_len hvs
      rw [HL2.out] at hl4
      have hl4' : ((n2 : Int) != 4) = false := by simp; omega
      clear hl4
      have HE6 : Hid (evalOf (ps ++ [(0, 3), (3, 0)]) vs = min (m + 3) 9999) := by
        rw [Hid, evalOf_two HV.out HVS.out (by rw [HL.out]; omega) (by omega) (by omega) (by omega) (by omega), HM.out]
        simp only [opv, lim, if_true]
        split <;> (try split) <;> omega
      have HE7 : Hid (evalOf (ps ++ [(0, m), (8, 0)]) vs = 1) := by
        rw [Hid, evalOf_two HV.out HVS.out (by rw [HL.out]; omega) (by omega) (by omega) (by omega) (by omega), HM.out]; simp [opv, tr]
      go_wp2_with (fail)
      have hblk := Blk.new wbq 29 #[.int .i64 0, .int .i64 1]
      (with_reducible refine (EvalConditionI_any wbq.heap.size (wbq.heap.size + 1) 1 1 _ _ n2 c2 _ A2 [(0, 1)] vs _ (Rd.of_blk hblk rfl) (by simp) (by omega) (hr2q.keep (up_alloc (Below.refl _ _) _) (by omega)) (by simp; omega) (by omega)).mono ?_)
      rintro e w5 ⟨rfl, hb5⟩
      rw [evalOf_num (by omega) (by omega)]
      have hb05 := up (up_alloc hbq _) hb5
      have hr15 := hr1q.keep (up (up_alloc (Below.refl _ _) _) hb5) (by omega)
      have hr25 := hr2q.keep (up (up_alloc (Below.refl _ _) _) hb5) (by omega)
      have hrxp_q_5 := hrxp_q.keep (up (up_alloc (Below.refl _ _) _) hb5) (by omega)
      have hrxq_5 := hrxq.keep (up (up_alloc (Below.refl _ _) _) hb5) (by omega)
      have hsz5 := hb5.size
      simp at hsz5
      clear hb5 hblk hbq hr1q hr2q
      rw [if_pos hvs]
      clear hvs
      go_wp2_with (fail)
      (with_reducible refine (EvalConditionI_any _ _ (n1 + 2) cxp _ _ n2 c2 Axp A2 (ps ++ [(0, 3), (3, 0)]) vs w5 hrxp_q_5 (by omega) (by omega) hr25 (by omega) (by omega)).mono ?_)
      rintro e w6 ⟨rfl, hb6⟩
      rw [HE6.out]
      have hr26 := hr25.keep hb6 (by omega)
      have hrxq_56 := hrxq_5.keep hb6 (by omega)
      have hsz6 := hb6.size
      have hb06 := up hb05 hb6
      clear hb6 hb05 hr25
      go_wp2_with (fail)
      (with_reducible refine (EvalConditionI_any _ _ (n1 + 2) cxq _ _ n2 c2 Axq A2 (ps ++ [(0, m), (8, 0)]) vs w6 hrxq_56 (by omega) (by omega) hr26 (by omega) (by omega)).mono ?_)
      rintro e w7 ⟨rfl, hb7⟩
      rw [HE7.out]
      have hr27 := hr26.keep hb7 (by omega)

      have hsz7 := hb7.size
      have hb07 := up hb06 hb7
      clear hb7 hb06 hr26

      go_wp2
      go_ret
      exact ⟨by simp, hb07⟩
    · have hvs' : vVals vs = false := by simpa using hvs
      have hm' : m = 0 := by rw [← HM.out]; exact evalOf_bad hvs'
      subst hm'
      by_cases hl4 : (n2 : Int) = 4
      · have hl4' : ((n2 : Int) != 4) = false := by simpa using hl4
        clear hl4
        go_wp2_with (fail)
        have hblk := Blk.new wbq 29 #[.int .i64 0, .int .i64 1]
        (with_reducible refine (EvalConditionI_any wbq.heap.size (wbq.heap.size + 1) 1 1 _ _ n2 c2 _ A2 [(0, 1)] vs _ (Rd.of_blk hblk rfl) (by simp) (by omega) (hr2q.keep (up_alloc (Below.refl _ _) _) (by omega)) (by simp; omega) (by omega)).mono ?_)
        rintro e w5 ⟨rfl, hb5⟩
        rw [evalOf_num (by omega) (by omega)]
        have hb05 := up (up_alloc hbq _) hb5
        have hr15 := hr1q.keep (up (up_alloc (Below.refl _ _) _) hb5) (by omega)
        have hr25 := hr2q.keep (up (up_alloc (Below.refl _ _) _) hb5) (by omega)

        have hsz5 := hb5.size
        simp at hsz5
        clear hb5 hblk hbq hr1q hr2q
        rw [if_neg hvs]
        clear hvs hvs'
        go_wp2
        go_ret
        exact ⟨by simp, hb05⟩
      · have hl4' : ((n2 : Int) != 4) = true := by simpa using hl4
        clear hl4 hvs hvs'
        go_wp2
        go_ret
        exact ⟨by simp, hbq⟩
  · have hV' : vCond ps = false := by simpa using hV
    rw [hV']
    clear hV
    go_wp2_with (fail)
    (with_reducible refine (EvalConditionS_any _ _ n1 c1 _ _ n2 c2 A1 A2 ps vs w4 hr14 (by omega) (by omega) hr24 (by omega) (by omega)).mono ?_)
    rintro e w9 ⟨rfl, hb9⟩
    rw [HM.out]
    go_wp2
    go_ret
    exact ⟨by simp, up hb04 hb9⟩
end Go.Proofs.Ytakpjhiodmgccaa
