/- The law FnUsedVariablesJoin, walked: it returns true. -/
import Derived.Test.YtakpjhiodmgccabDraw4
import Derived.Test.YtakpjhiodmgccabCondUsedS
import Derived.Test.YtakpjhiodmgccabCondUsedI
import Derived.Test.YtakpjhiodmgccabLawLists
import Derived.Test.YtakpjhiodmgccabJoinMath
import Derived.Test.YtakpjhiodmgccabSetMath
namespace Go.Proofs.Ytakpjhiodmgccab
open Go.RowKit

theorem used_join {ps : List (Int × Int)} {k : Int} (h : vCond ps = true) (hl : ps.length + 2 ≤ 12) (h0 : 0 ≤ k) (h4 : k < 4) {v : Nat} (hv : v < 4) :
    inL (usedOf (ps ++ [(1, k), (3, 0)])) (v : Int) = (inL (usedOf ps) (v : Int) || k == (v : Int)) := by
  have hk : vPart 1 k = true := by
    have : inR k 0 3 = true := inR_iff.2 ⟨h0, by omega⟩
    simp [vPart, this]
  have h3 : vPart 3 0 = true := by simp [vPart, inR]
  have n1 : needs1 1 = 0 := by simp [needs1]
  have n3 : needs1 3 = 2 := by simp [needs1]
  have hq : scanD [(1, k), (3, 0)] 1 = some 1 := by simp [scanD, hk, h3, n1, n3]
  have hc : vCond (ps ++ [(1, k), (3, 0)]) = true := vCond_join h (by simpa using hl) hq
  rw [used_in hc hv, used_in h hv]
  simp [hasV]

set_option maxRecDepth 100000 in
set_option maxHeartbeats 3200000 in
theorem lawUsedJoin_any (n c : Nat) (A : Option Addr) (xs : List Int) (w : World) (hr : Rd w 0 w.heap.size 1 A n (bvs xs)) (hby : Bytes xs) (hc : n ≤ c) (hc2 : c ≤ 9223372036854775807) :
    Calls Try.prog 6 #[.slice A n c] w fun e w' => e = .returned (.bool true) ∧ Below w.heap.size w w' := by
  obtain ⟨i0, hi0, hz0, hz1, hz2⟩ := info_parts infoPartD
  by_cases hbig : (1048576 : Int) < n
  · go_enter Try.func6, Try.ntmps6
    go_wp2
    go_ret
    exact ⟨rfl, Below.refl _ _⟩
  have hnb : n ≤ 1048576 := by omega
  go_enter Try.func6, Try.ntmps6
  go_wp2_with (fail)
  (with_reducible refine (drawUsed_any n c A xs w hr hby (by omega) hc hc2).mono ?_)
  clear hbig
  rintro e w1 ⟨A1, n1, c1, ps, rfl, hn1, _, _, hr1, hb1⟩
  have HL := Lib.hid hr1.len2
  have hul := used_le ps
  generalize hU : usedOf ps = us at hul
  have HU := Lib.hid hU
  clear hU
  go_wp2_with (fail)
  (with_reducible refine (usedI_any _ _ n1 c1 A1 ps w1 hr1 (Nat.le_refl _) (by omega)).mono ?_)
  rw [HU.out]
  rintro e w2 ⟨A2, c2, rfl, _, hr2, _, hb2⟩
  have hr12 := hr1.keep hb2 (Nat.le_refl _)
  have hsz2 := hb2.size
  have hb02 := up hb1 hb2
  clear hb1 hb2 hr1
  go_wp2_with (fail)
  (with_reducible refine (usedS_any _ _ n1 c1 A1 ps w2 hr12 hsz2 (by omega)).mono ?_)
  rw [HU.out]
  rintro e w3 ⟨A3, c3, rfl, _, hr3, _, hb3⟩
  have hr13 := hr12.keep hb3 hsz2
  have hr23 := hr2.keep hb3 (Nat.le_refl _)
  have hsz3 := hb3.size
  have hb03 := up hb02 hb3
  clear hb02 hb3 hr12 hr2
  go_wp2_with (fail)
  (with_reducible refine (equalInts_any _ _ _ c2 _ _ _ c3 A2 A3 us us w3 hr23 (by omega) (by omega) hr3 (Nat.le_refl _) (by omega)).mono ?_)
  rintro e w4 ⟨rfl, hb4⟩
  rw [beq_self_eq_true]
  have hr14 := hr13.keep hb4 (by omega)
  have hr24 := hr23.keep hb4 (by omega)
  have hsz4 := hb4.size
  have hb04 := up hb03 hb4
  clear hb03 hb4 hr13 hr23 hr3
  go_wp2_with (fail)
  (with_reducible refine (ValidConditionI_any _ _ n1 c1 A1 ps w4 hr14 (by omega) (by omega)).mono ?_)
  rintro e w5 ⟨rfl, hb5⟩
  have hr15 := hr14.keep hb5 (by omega)
  have hr25 := hr24.keep hb5 (by omega)
  have hsz5 := hb5.size
  have hb05 := up hb04 hb5
  clear hb04 hb5 hr14 hr24
  by_cases hV : vCond ps = true
  · have HV := Lib.hid hV
    have hvl := vCond_len hV
    rw [HL.out] at hvl
    obtain ⟨hn11, _⟩ := hvl
    rw [hV]
    clear hV
    by_cases h12 : (12 : Int) < (n1 : Int) + 2
    · go_wp2_with (fail)
      (with_reducible refine (usedS_any _ _ n1 c1 A1 ps w5 hr15 (by omega) (by omega)).mono ?_)
      rw [HU.out]
      rintro e w8 ⟨A8, c8, rfl, _, hr8, _, hb8⟩
      have hsz8 := hb8.size
      go_wp2_with (fail)
      (with_reducible refine (equalInts_any _ _ _ c2 _ _ _ c8 A2 A8 us us w8 (hr25.keep hb8 (by omega)) (by omega) (by omega) hr8 (Nat.le_refl _) (by omega)).mono ?_)
      rintro e w9 ⟨rfl, hb9⟩
      rw [beq_self_eq_true]
      go_wp2
      go_ret
      exact ⟨rfl, up (up hb05 hb8) hb9⟩
    · have h10 : n1 ≤ 10 := by omega
      have h12' : (n1 : Int) + 2 ≤ 12 := by omega
      clear h12
      have hk0 : 0 ≤ (n : Int) % 4 := by omega
      have hk4 : (n : Int) % 4 < 4 := by omega
      obtain ⟨b, off, rfl, _, _⟩ := hr15.form (by omega)
      have hownN : (w5.alloc (.cells #[] 46)).ownsRow w5.heap.size 46 2 (.slice (some ⟨w5.heap.size, 0, none⟩) 0 0) 0 [] := World.ownsRow_made w5 #[] 0 (Nat.le_refl _) (by unfold maxLen; omega) (by simp)
      have hbm := up_alloc (Below.refl _ w5) (.cells #[] 46)
      have hrm := hr15.keep hbm (by omega)
      go_wp2_with (at_builtin; refine wpList_append_own _ rfl (.tmp 38) (.tmp 39) 34 rfl w5.heap.size 46 i0 _ 2 16 Try.underlying34 hi0 hz0 hz1 hz2 rfl (by decide) _ _ _ rfl hownN ⟨b, off, none⟩ n1 c1 (pvs ps) rfl hrm.1 hrm.src (pvs_one ps) ?d3 ?d4 ?d5 ?_)
      case d3 => unfold maxLen; omega
      case d4 => omega
      case d5 => simp
      intro vap wap howna hga _
      have hba := up_grown hbm hownN hga (Nat.le_refl _)
      try simp only [Nat.zero_add, List.nil_append] at howna
      clear hownN hga hrm hbm
      go_wp2_with (at_builtin; refine wpList_append_own _ rfl (.tmp 40) (.tmp 44) 34 rfl w5.heap.size 46 i0 _ 2 16 Try.underlying34 hi0 hz0 hz1 hz2 rfl (by decide) _ _ _ rfl (howna.alloc _) _ 2 2 [.int .i64 1, .int .i64 ((n : Int) % 4), .int .i64 3, .int .i64 0] rfl rfl (World.news_of_block (heap_alloc_new _ _)) ?c2 ?c3 ?c4 ?c5 ?_)
      case c2 => intro u hu; simp at hu; rcases hu with rfl | rfl | rfl | rfl <;> rfl
      case c3 => unfold maxLen; omega
      case c4 => omega
      case c5 => have := hba.size; simp; omega
      intro vbp wbp hownb hgb _
      have hbb := up_grown (up_alloc hba _) (howna.alloc _) hgb (Nat.le_refl _)
      obtain ⟨Axp, cxp, rfl, _, hrx, _⟩ := own_form hownb
      have hpvp : pvs ps ++ [.int .i64 1, .int .i64 ((n : Int) % 4), .int .i64 3, .int .i64 0] = pvs (ps ++ [(1, ((n : Int) % 4)), (3, 0)]) := by rw [pvs_append]; rfl
      rw [hpvp] at hrx
      have hrxp := hrx
      have hr1p := hr15.keep hbb (by omega)
      have hr2p := hr25.keep hbb (by omega)

      have hszp := hbb.size
      have hbp := up hb05 hbb
      clear howna hgb hba hownb hrx hpvp hbb hr15 hr25
      have HJ : Hid (∀ v : Nat, v < 4 → inL (usedOf (ps ++ [(1, (n : Int) % 4), (3, 0)])) (v : Int) = (inL us (v : Int) || (n : Int) % 4 == (v : Int))) := fun v hv => by
        rw [← HU.out]; exact used_join HV.out (by rw [HL.out]; omega) (by omega) (by omega) hv
      have hul2 := used_le (ps ++ [(1, (n : Int) % 4), (3, 0)])
      go_wp2_with (fail)
      (with_reducible refine (usedI_any _ _ (n1 + 2) cxp Axp (ps ++ [(1, (n : Int) % 4), (3, 0)]) wbp hrxp (Nat.le_refl _) (by omega)).mono ?_)
      rintro e w6 ⟨A6, c6, rfl, _, hr6, _, hb6⟩
      generalize usedOf (ps ++ [(1, (n : Int) % 4), (3, 0)]) = ms at HJ hul2 hr6
      have hr26 := hr2p.keep hb6 (by omega)
      have hb06 := up hbp hb6
      clear hb6 hr2p hr1p hrxp hbp
      go_wp2
      go_loop [7] (fun kv => ∃ (v : Nat), v ≤ 4 ∧ kv = .int .i64 v)
         (fun kv => 4 - (intOf kv).toNat)
      case atStart => exact ⟨0, by omega, rfl⟩
      case round =>
        obtain ⟨v, hv4, rfl⟩ := hrel
        by_cases hlt : v < 4
        · have hj := HJ.out v hlt
          go_wp2_with (fail)
          (with_reducible refine (isIn_any _ _ _ c6 A6 ms (v : Int) w6 hr6 (by omega)).mono ?_)
          rintro e w7 ⟨rfl, rfl⟩
          rw [hj]
          clear hj
          go_wp2_with (fail)
          (with_reducible refine (isIn_any _ _ _ c2 A2 us (v : Int) w6 hr26 (by omega)).mono ?_)
          rintro e w7 ⟨rfl, rfl⟩
          cases inL us (v : Int)
          · by_cases hvk : (v : Int) = (n : Int) % 4
            · have hvk1 : ((v : Int) == (n : Int) % 4) = true := by simpa using hvk
              have hvk2 : ((n : Int) % 4 == (v : Int)) = true := by simpa using hvk.symm
              clear hvk
              go_wp2
              go_round
              case rel => exact ⟨v + 1, by omega, by go_num⟩
              case measure => simp [intOf]; omega
            · have hvk1 : ((v : Int) == (n : Int) % 4) = false := by simpa using hvk
              have hvk2 : ((n : Int) % 4 == (v : Int)) = false := by simpa using fun e => hvk e.symm
              clear hvk
              go_wp2
              go_round
              case rel => exact ⟨v + 1, by omega, by go_num⟩
              case measure => simp [intOf]; omega
          · go_wp2
            go_round
            case rel => exact ⟨v + 1, by omega, by go_num⟩
            case measure => simp [intOf]; omega
        · go_wp2
          go_ret
          exact ⟨rfl, hb06⟩
  · have hV' : vCond ps = false := by simpa using hV
    rw [hV']
    clear hV
    go_wp2_with (fail)
    (with_reducible refine (usedS_any _ _ n1 c1 A1 ps w5 hr15 (by omega) (by omega)).mono ?_)
    rw [HU.out]
    rintro e w8 ⟨A8, c8, rfl, _, hr8, _, hb8⟩
    have hsz8 := hb8.size
    go_wp2_with (fail)
    (with_reducible refine (equalInts_any _ _ _ c2 _ _ _ c8 A2 A8 us us w8 (hr25.keep hb8 (by omega)) (by omega) (by omega) hr8 (Nat.le_refl _) (by omega)).mono ?_)
    rintro e w9 ⟨rfl, hb9⟩
    rw [beq_self_eq_true]
    go_wp2
    go_ret
    exact ⟨rfl, up (up hb05 hb8) hb9⟩
end Go.Proofs.Ytakpjhiodmgccab
