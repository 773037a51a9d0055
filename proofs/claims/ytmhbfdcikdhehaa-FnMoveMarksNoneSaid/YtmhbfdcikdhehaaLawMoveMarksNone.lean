/- The law FnMoveMarksNone, walked: it returns true. (Written by gen/lawmove.py.) -/
import Derived.Test.YtmhbfdcikdhehaaLawMv0
import Derived.BigQuiet
import Derived.Deep.RegionLaw
set_option linter.unusedSimpArgs false
set_option linter.unusedVariables false
namespace Go.Proofs.Ytmhbfdcikdhehaa
open Go.RowKit

set_option maxRecDepth 100000 in
set_option maxHeartbeats 6400000 in
theorem lawMoveMarksNone_any (n c : Nat) (A : Option Addr) (xs : List Int) (w : World) (hr : Rd w 0 w.heap.size 1 A n (bvs xs)) (hby : Bytes xs) (hc : n ≤ c) (hc2 : c ≤ 9223372036854775807) :
    Calls Try.prog 6 #[.slice A n c] w fun e w' => e = .returned (.bool true) ∧ Below w.heap.size w w' := by
  by_cases hbig : (1048576 : Int) < n
  · go_enter Try.func6, Try.ntmps6
    go_wp2
    go_ret
    exact ⟨rfl, Below.refl _ _⟩
  go_enter Try.func6, Try.ntmps6
  go_wp2_with (fail)
  (with_reducible refine (drawMoveMarks_any n c A xs w hr hby (by omega) hc hc2).mono ?_)
  clear hbig hr hby
  rintro e w1 ⟨An, nn, cn, Af, lf, cf, ns, fs, Aq, nq, cq, Ag, lg, cg, nsq, gs, A2, n2, c2, fl, A3, n3, c3, ms, rfl, hn2, hn3, hP, hQ, hF, hM, hb1⟩
  have hba := up_alloc (Below.refl _ w1) (.cells #[.slice An nn cn, .slice Af lf cf] 26)
  have hbb := up_alloc (Below.refl _ (w1.alloc (.cells #[.slice An nn cn, .slice Af lf cf] 26))) (.cells #[.slice Aq nq cq, .slice Ag lg cg] 26)
  have hbc := up_alloc hba (.cells #[.slice Aq nq cq, .slice Ag lg cg] 26)
  have hs1 : (w1.alloc (.cells #[.slice An nn cn, .slice Af lf cf] 26)).heap.size = w1.heap.size + 1 := by simp
  have hQ1 : Pc ((w1.alloc (.cells #[.slice An nn cn, .slice Af lf cf] 26)).alloc (.cells #[.slice Aq nq cq, .slice Ag lg cg] 26)) (w1.heap.size + 1) Aq nq cq Ag lg cg nsq gs := by
    have := Pc.new (w := (w1.alloc (.cells #[.slice An nn cn, .slice Af lf cf] 26))) (((hQ.wide (Nat.zero_le _) (Nat.le_refl _)).keep hba (Nat.le_refl _)).wide (Nat.le_refl _) hba.size)
    rwa [hs1] at this
  have HS0 : Hid (Mv w w1.heap.size An nn cn Af lf cf ns fs (w1.heap.size + 1) Aq nq cq Ag lg cg nsq gs A2 n2 fl A3 n3 ms ((w1.alloc (.cells #[.slice An nn cn, .slice Af lf cf] 26)).alloc (.cells #[.slice Aq nq cq, .slice Ag lg cg] 26))) := ⟨(Pc.new (hP.wide (Nat.zero_le _) (Nat.le_refl _))).below hbb, hQ1, Rm.of (hF.keep hbc (Nat.le_refl _)) hbc.size, Rm.of (hM.keep hbc (Nat.le_refl _)) hbc.size, up hb1 hbc⟩
  clear hP hQ hF hM hb1 hba hbb hbc hs1 hQ1
  have HLF := Lib.hid HS0.out.p.flen
  have HLG := Lib.hid HS0.out.q.flen
  have HLM := Lib.hid HS0.out.m.len
  have HL2 := Lib.hid HS0.out.f.len
  have hf21 := HS0.out.p.prs.f21
  have hg21 := HS0.out.q.prs.f21
  obtain ⟨l, b, hU, hBB, hll⟩ : ∃ l b, (moveOf ns fs nsq gs fl ms).getD [] = l ∧ (moveOf ns fs nsq gs fl ms).isSome = b ∧ l.length ≤ 1048576 := ⟨_, _, rfl, rfl, by
    have h1 := move_len ns fs nsq gs fl ms
    have := HLG.out; omega⟩
  have HU := Lib.hid hU
  have HBU := Lib.hid hBB
  clear hU hBB
  have hne : (b != b) = false := by simp
  have heq : (b == b) = true := by simp
  have k_1 := HS0.out.p.k0
  have k_2 := HS0.out.p.k1
  have k_3 := HS0.out.q.k0
  have k_4 := HS0.out.q.k1
  go_wp2_with (fail)
  (with_reducible refine (HS0.out.p.moveI HS0.out.q HS0.out.f HS0.out.m (by omega) (by omega) c2 c3).mono ?_)
  rw [HU.out, HBU.out]
  rintro e w2 ⟨AM, cM, rfl, _, hM, _, hbt⟩
  clear k_1 k_2 k_3 k_4
  have HS_5 := Lib.hid (HS0.out.below hbt)
  clear HS0
  have HM_6 := Lib.hid (Rm.of hM (Nat.le_refl _))
  clear hM
  clear hbt
  have k_7 := HS_5.out.p.k0
  have k_8 := HS_5.out.p.k1
  have k_9 := HS_5.out.q.k0
  have k_10 := HS_5.out.q.k1
  go_wp2_with (fail)
  (with_reducible refine (HS_5.out.p.moveS HS_5.out.q HS_5.out.f HS_5.out.m (by omega) (by omega) c2 c3).mono ?_)
  rw [HU.out, HBU.out]
  rintro e w3 ⟨AW, cW, rfl, _, hW, _, hbt⟩
  clear k_7 k_8 k_9 k_10
  have HS_11 := Lib.hid (HS_5.out.below hbt)
  have HM_12 := Lib.hid (HM_6.out.below hbt)
  clear HS_5 HM_6
  have HW_13 := Lib.hid (Rm.of hW (Nat.le_refl _))
  clear hW
  clear hbt
  have k_14 := HS_11.out.p.k0
  have k_15 := HS_11.out.p.k1
  have k_16 := HS_11.out.q.k0
  have k_17 := HS_11.out.q.k1
  have HE := Lib.hid (eqRm HM_12.out HW_13.out (by omega) (by omega) cM cW)
  go_wp2_with (fail)
  (with_reducible refine HE.out.mono ?_)
  clear HE k_14 k_15 k_16 k_17
  rintro e w4 ⟨rfl, hbt⟩
  rw [beq_self_eq_true]
  have HS_18 := Lib.hid (HS_11.out.below hbt)
  have HM_19 := Lib.hid (HM_12.out.below hbt)
  have HW_20 := Lib.hid (HW_13.out.below hbt)
  clear HS_11 HM_12 HW_13
  clear hbt
  have HVI := Lib.hid HS_18.out.q.validI
  cases hV : vProc nsq gs with
  | false =>
    rw [hV] at HVI
    clear hV
    have k_21 := HS_18.out.p.k0
    have k_22 := HS_18.out.p.k1
    have k_23 := HS_18.out.q.k0
    have k_24 := HS_18.out.q.k1
    go_wp2_with (fail)
    (with_reducible refine (HVI.out).mono ?_)
    rintro e w5 ⟨rfl, hbt⟩
    clear k_21 k_22 k_23 k_24
    have HS_25 := Lib.hid (HS_18.out.below hbt)
    have HM_26 := Lib.hid (HM_19.out.below hbt)
    have HW_27 := Lib.hid (HW_20.out.below hbt)
    clear HS_18 HM_19 HW_20
    clear hbt
    have k_28 := HS_25.out.p.k0
    have k_29 := HS_25.out.p.k1
    have k_30 := HS_25.out.q.k0
    have k_31 := HS_25.out.q.k1
    have HE := Lib.hid (eqRm HM_26.out HW_27.out (by omega) (by omega) cM cW)
    go_wp2_with (fail)
    (with_reducible refine HE.out.mono ?_)
    clear HE k_28 k_29 k_30 k_31
    rintro e w6 ⟨rfl, hbt⟩
    rw [beq_self_eq_true]
    have HS_32 := Lib.hid (HS_25.out.below hbt)
    have HM_33 := Lib.hid (HM_26.out.below hbt)
    have HW_34 := Lib.hid (HW_27.out.below hbt)
    clear HS_25 HM_26 HW_27
    clear hbt
    go_wp2
    go_ret
    exact ⟨rfl, HS_32.out.b⟩
  | true =>
  rw [hV] at HVI
  have HV := Lib.hid hV
  clear hV
  have k_35 := HS_18.out.p.k0
  have k_36 := HS_18.out.p.k1
  have k_37 := HS_18.out.q.k0
  have k_38 := HS_18.out.q.k1
  go_wp2_with (fail)
  (with_reducible refine (HVI.out).mono ?_)
  rintro e w5 ⟨rfl, hbt⟩
  clear k_35 k_36 k_37 k_38
  have HS_39 := Lib.hid (HS_18.out.below hbt)
  have HM_40 := Lib.hid (HM_19.out.below hbt)
  have HW_41 := Lib.hid (HW_20.out.below hbt)
  clear HS_18 HM_19 HW_20
  clear hbt
  clear HVI
  have HCI := Lib.hid (HS_39.out.p.countM HS_39.out.m (by omega) c3)
  by_cases hc : countOf ns fs ms < 0
  · have hcd : decide (countOf ns fs ms < 0) = true := decide_eq_true hc
    have k_42 := HS_39.out.p.k0
    have k_43 := HS_39.out.p.k1
    have k_44 := HS_39.out.q.k0
    have k_45 := HS_39.out.q.k1
    go_wp2_with (fail)
    (with_reducible refine (HCI.out).mono ?_)
    rintro e w6 ⟨rfl, hbt⟩
    clear k_42 k_43 k_44 k_45
    have HS_46 := Lib.hid (HS_39.out.below hbt)
    have HM_47 := Lib.hid (HM_40.out.below hbt)
    have HW_48 := Lib.hid (HW_41.out.below hbt)
    clear HS_39 HM_40 HW_41
    clear hbt
    have k_49 := HS_46.out.p.k0
    have k_50 := HS_46.out.p.k1
    have k_51 := HS_46.out.q.k0
    have k_52 := HS_46.out.q.k1
    have HE := Lib.hid (eqRm HM_47.out HW_48.out (by omega) (by omega) cM cW)
    go_wp2_with (fail)
    (with_reducible refine HE.out.mono ?_)
    clear HE k_49 k_50 k_51 k_52
    rintro e w7 ⟨rfl, hbt⟩
    rw [beq_self_eq_true]
    have HS_53 := Lib.hid (HS_46.out.below hbt)
    have HM_54 := Lib.hid (HM_47.out.below hbt)
    have HW_55 := Lib.hid (HW_48.out.below hbt)
    clear HS_46 HM_47 HW_48
    clear hbt
    go_wp2
    go_ret
    exact ⟨rfl, HS_53.out.b⟩
  have hcd : decide (countOf ns fs ms < 0) = false := decide_eq_false hc
  have HPM := Lib.hid (show vProc ns fs = true ∧ vMarks fs ms = true from by
    rw [count_neg] at hc
    rw [← Bool.and_eq_true]; cases hh : (vProc ns fs && vMarks fs ms)
    · exact absurd hh hc
    · rfl)
  clear hc
  have k_56 := HS_39.out.p.k0
  have k_57 := HS_39.out.p.k1
  have k_58 := HS_39.out.q.k0
  have k_59 := HS_39.out.q.k1
  go_wp2_with (fail)
  (with_reducible refine (HCI.out).mono ?_)
  rintro e w6 ⟨rfl, hbt⟩
  clear k_56 k_57 k_58 k_59
  have HS_60 := Lib.hid (HS_39.out.below hbt)
  have HM_61 := Lib.hid (HM_40.out.below hbt)
  have HW_62 := Lib.hid (HW_41.out.below hbt)
  clear HS_39 HM_40 HW_41
  clear hbt
  clear HCI
  clear HW_62
  clear HM_61
  clear hll HU HBU
  obtain ⟨i0, hi0, hz0, hz1, hz2⟩ := info_parts infoInt
  have hownE := World.ownsRow_made w6 (base := w6.heap.size) (e := 3) (size := 1) #[] 0 (Nat.le_refl _) (by unfold maxLen; omega) (by simp)
  have HO0 := Lib.hid (show (w6.alloc (.cells #[] 3)).ownsRow w6.heap.size 3 1 (.slice (some ⟨w6.heap.size, 0, none⟩) 0 0) 0 (ivs (noneL 0)) from hownE)
  clear hownE
  have HB0 := Lib.hid (up_alloc (Below.refl _ w6) (.cells #[] 3))
  go_wp2
  clear hcd hne heq
  go_loopw [11, 12] (fun ov iv wr => ∃ (k : Nat), k ≤ lf ∧ iv = .int .i64 k ∧ Hid (wr.ownsRow w6.heap.size 3 1 ov k (ivs (noneL k))) ∧ Hid (Below w6.heap.size w6 wr))
    (fun _ iv _ => lf - (intOf iv).toNat)
  case atStart => exact ⟨0, by omega, rfl, HO0, HB0⟩
  case round =>
    clear HO0 HB0
    obtain ⟨k, hk, rfl, HO, HB⟩ := hrel
    have HSr := Lib.hid (HS_60.out.below HB.out)
    have hszr := HB.out.size
    have k_63 := HSr.out.p.k0
    have k_64 := HSr.out.p.k1
    have k_65 := HSr.out.q.k0
    have k_66 := HSr.out.q.k1
    by_cases hlt : k < lf
    · have hkn : (k : Int) < (lf : Int) := by omega
      have hkn0 : (0 : Int) ≤ (k : Int) := by omega
      have hown9 := HO.out.alloc (.cells #[.int .i64 (-1)] 3)
      go_wp2_with (at_builtin; refine wpList_append_own _ rfl _ _ 27 rfl (w6.heap.size) 3 i0 (.int .i64 0) 1 8 Try.underlying27 hi0 hz0 hz1 hz2 rfl (by decide) _ _ _ rfl hown9 _ 1 1 [.int .i64 (-1)] rfl rfl (cell_one_new _ _ _) ?c2 ?c3 ?c4 ?c5 ?_)
      case c2 => first | rfl | (intro u hu; simp at hu; subst hu; rfl)
      case c3 => unfold maxLen; omega
      case c4 => omega
      case c5 => first | omega | (simp; omega)
      intro v' w4 hown4 hg4 _
      have HB4 := Lib.hid (up_grown (up_alloc HB.out (.cells #[.int .i64 (-1)] 3)) hown9 hg4 (Nat.le_refl _))
      have HO4 := Lib.hid (show w4.ownsRow w6.heap.size 3 1 v' (k + 1) (ivs (noneL (k + 1))) by
        have := hown4
        rw [← noneL_snoc, show ivs (noneL k ++ [(-1)]) = ivs (noneL k) ++ [.int .i64 (-1)] by simp [ivs]]
        exact this)
      clear hown4 hg4 hown9
      clear k_63 k_64 k_65 k_66
      go_wp2
      go_roundw
      case rel => exact ⟨k + 1, by omega, by go_num, HO4, HB4⟩
      case measure => simp [intOf]; omega
    · obtain rfl : lf = k := by omega
      obtain ⟨AZ, cZ, rfl, hcz, hcm⟩ := own_cap HO.out
      have HZ := Lib.hid (Rm.of (Rd.of_own HO.out) (Nat.le_refl _))
      clear HO HB k_63 k_64 k_65 k_66
      have HIS := Lib.hid (move_none (ns := ns) (nsq := nsq) (gs := gs) HPM.out.1 HV.out HPM.out.2)
      rw [HLF.out] at HIS
      have HSU := Lib.hid (show Calls Try.prog 21 #[.slice A3 n3 c3] wr fun e w' => e = .returned (.int .i64 ms.sum) ∧ wr = w' from by
        obtain ⟨u3, hm3, hu3⟩ := HSr.out.m
        exact sum_any 0 u3 n3 c3 A3 ms wr hm3 (by omega) (fun z hz => by have := (vMarks_in HPM.out.2).2 z hz; omega))
      have hM3 := Lib.hid (show ∀ wx, Below wr.heap.size wr wx → Calls Try.prog 21 #[.slice A3 n3 c3] wx fun e w' => e = .returned (.int .i64 ms.sum) ∧ wx = w' from fun wx hbx => by
        obtain ⟨u3, hm3, hu3⟩ := HSr.out.m.below hbx
        exact sum_any 0 u3 n3 c3 A3 ms wx hm3 (by omega) (fun z hz => by have := (vMarks_in HPM.out.2).2 z hz; omega))
      obtain ⟨l, hU, hll⟩ : ∃ l, (moveOf ns fs nsq gs (noneL lf) ms).getD [] = l ∧ l.length ≤ 1048576 := ⟨_, rfl, by
        have h1 := move_len ns fs nsq gs (noneL lf) ms
        have := HLG.out; omega⟩
      have HU := Lib.hid hU
      clear hU
      have k_67 := HSr.out.p.k0
      have k_68 := HSr.out.p.k1
      have k_69 := HSr.out.q.k0
      have k_70 := HSr.out.q.k1
      go_wp2_with (fail)
      (with_reducible refine (HSr.out.p.moveI HSr.out.q HZ.out HSr.out.m (by omega) (by omega) cZ c3).mono ?_)
      rw [HU.out, HIS.out]
      rintro e w9 ⟨AM, cM, rfl, _, _, _, hbt⟩
      clear k_67 k_68 k_69 k_70
      have HSM := Lib.hid (hM3.out w9 hbt)
      have HBN := Lib.hid (up HSr.out.b hbt)
      clear hbt HZ HSU hM3
      have hfin : (decide (ms.sum = 0) == (ms.sum == 0)) = true := by
        by_cases h0 : ms.sum = 0 <;> simp [h0]
      generalize ms.sum = sm at *
      generalize hds : decide (sm = 0) = ds at *
      go_wp2_with (fail)
      (with_reducible refine HSM.out.mono ?_)
      rintro e w10 ⟨rfl, rfl⟩
      go_wp2
      go_ret
      first | exact ⟨rfl, HBN.out⟩ | exact ⟨ret_bool hfin, HBN.out⟩
end Go.Proofs.Ytmhbfdcikdhehaa
