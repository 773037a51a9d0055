/- The law FnMoveMarksSame, walked: it returns true. (Written by gen/lawmove.py.) -/
import Derived.Test.YtmhbfdcikdhehaaLawMv0
import Derived.BigQuiet
import Derived.Deep.RegionLaw
set_option linter.unusedSimpArgs false
set_option linter.unusedVariables false
namespace Go.Proofs.Ytmhbfdcikdhehaa
open Go.RowKit

set_option maxRecDepth 100000 in
set_option maxHeartbeats 6400000 in
theorem lawMoveMarksSame_any (n c : Nat) (A : Option Addr) (xs : List Int) (w : World) (hr : Rd w 0 w.heap.size 1 A n (bvs xs)) (hby : Bytes xs) (hc : n ≤ c) (hc2 : c ≤ 9223372036854775807) :
    Calls Try.prog 4 #[.slice A n c] w fun e w' => e = .returned (.bool true) ∧ Below w.heap.size w w' := by
  by_cases hbig : (1048576 : Int) < n
  · go_enter Try.func4, Try.ntmps4
    go_wp2
    go_ret
    exact ⟨rfl, Below.refl _ _⟩
  go_enter Try.func4, Try.ntmps4
  go_wp2_with (fail)
  (with_reducible refine (drawReadyNodes_any n c A xs w hr hby (by omega) hc hc2).mono ?_)
  clear hbig hr hby
  rintro e w1 ⟨An, nn, cn, Af, lf, cf, ns, fs, A3, n3, c3, ms, rfl, hn3, hP, hM, hb1⟩
  have hba := up_alloc (Below.refl _ w1) (.cells #[.slice An nn cn, .slice Af lf cf] 26)
  have hPP := Pc.new (hP.wide (Nat.zero_le _) (Nat.le_refl _))
  have hMM := Rm.of (hM.keep hba (Nat.le_refl _)) hba.size
  have HS0 : Hid (Mv w w1.heap.size An nn cn Af lf cf ns fs w1.heap.size An nn cn Af lf cf ns fs A3 n3 ms A3 n3 ms (w1.alloc (.cells #[.slice An nn cn, .slice Af lf cf] 26))) := ⟨hPP, hPP, hMM, hMM, up hb1 hba⟩
  clear hP hM hb1 hba hPP hMM
  have HLF := Lib.hid HS0.out.p.flen
  have HLG := Lib.hid HS0.out.q.flen
  have HLM := Lib.hid HS0.out.m.len
  have HL2 := Lib.hid HS0.out.f.len
  have hf21 := HS0.out.p.prs.f21
  have hg21 := HS0.out.q.prs.f21
  obtain ⟨rd, hU, hll⟩ : ∃ rd, readyOf ns fs ms = rd ∧ rd.length ≤ 1048576 := ⟨_, rfl, by
    unfold readyOf
    split
    · have := readyUp_le ns fs ms ns.length; have := HS0.out.p.nlen; have := HS0.out.p.prs.n21; omega
    · simp⟩
  have HU := Lib.hid hU
  clear hU
  have k_1 := HS0.out.p.k0
  have k_2 := HS0.out.p.k1
  go_wp2_with (fail)
  (with_reducible refine (HS0.out.p.readyMI HS0.out.m (by omega) c3).mono ?_)
  rw [HU.out]
  rintro e w2 ⟨AM, cM, rfl, _, hM, _, hbt⟩
  clear k_1 k_2
  have HS_3 := Lib.hid (HS0.out.below hbt)
  clear HS0
  have HM_4 := Lib.hid (Rm.of hM (Nat.le_refl _))
  clear hM
  clear hbt
  have k_5 := HS_3.out.p.k0
  have k_6 := HS_3.out.p.k1
  go_wp2_with (fail)
  (with_reducible refine (HS_3.out.p.readyMS HS_3.out.m (by omega) c3).mono ?_)
  rw [HU.out]
  rintro e w3 ⟨AW, cW, rfl, _, hW, _, hbt⟩
  clear k_5 k_6
  have HS_7 := Lib.hid (HS_3.out.below hbt)
  have HM_8 := Lib.hid (HM_4.out.below hbt)
  clear HS_3 HM_4
  have HW_9 := Lib.hid (Rm.of hW (Nat.le_refl _))
  clear hW
  clear hbt
  have k_10 := HS_7.out.p.k0
  have k_11 := HS_7.out.p.k1
  have HE := Lib.hid (eqRm HM_8.out HW_9.out (by omega) (by omega) cM cW)
  go_wp2_with (fail)
  (with_reducible refine HE.out.mono ?_)
  clear HE k_10 k_11
  rintro e w4 ⟨rfl, hbt⟩
  rw [beq_self_eq_true]
  have HS_12 := Lib.hid (HS_7.out.below hbt)
  have HM_13 := Lib.hid (HM_8.out.below hbt)
  have HW_14 := Lib.hid (HW_9.out.below hbt)
  clear HS_7 HM_8 HW_9
  clear hbt
  clear HW_14
  have HCI := Lib.hid (HS_12.out.p.countM HS_12.out.m (by omega) c3)
  by_cases hc : countOf ns fs ms < 0
  · have hcd : decide (countOf ns fs ms < 0) = true := decide_eq_true hc
    have k_15 := HS_12.out.p.k0
    have k_16 := HS_12.out.p.k1
    go_wp2_with (fail)
    (with_reducible refine (HCI.out).mono ?_)
    rintro e w5 ⟨rfl, hbt⟩
    clear k_15 k_16
    have HS_17 := Lib.hid (HS_12.out.below hbt)
    have HM_18 := Lib.hid (HM_13.out.below hbt)
    clear HS_12 HM_13
    clear hbt
    have k_19 := HS_17.out.p.k0
    have k_20 := HS_17.out.p.k1
    go_wp2_with (fail)
    (with_reducible refine (HS_17.out.p.readyMS HS_17.out.m (by omega) c3).mono ?_)
    rw [HU.out]
    rintro e w6 ⟨AV, cV, rfl, _, hV, _, hbt⟩
    clear k_19 k_20
    have HS_21 := Lib.hid (HS_17.out.below hbt)
    have HM_22 := Lib.hid (HM_18.out.below hbt)
    clear HS_17 HM_18
    have HV_23 := Lib.hid (Rm.of hV (Nat.le_refl _))
    clear hV
    clear hbt
    have k_24 := HS_21.out.p.k0
    have k_25 := HS_21.out.p.k1
    have HE := Lib.hid (eqRm HM_22.out HV_23.out (by omega) (by omega) cM cV)
    go_wp2_with (fail)
    (with_reducible refine HE.out.mono ?_)
    clear HE k_24 k_25
    rintro e w7 ⟨rfl, hbt⟩
    rw [beq_self_eq_true]
    have HS_26 := Lib.hid (HS_21.out.below hbt)
    have HM_27 := Lib.hid (HM_22.out.below hbt)
    have HV_28 := Lib.hid (HV_23.out.below hbt)
    clear HS_21 HM_22 HV_23
    clear hbt
    go_wp2
    go_ret
    exact ⟨rfl, HS_26.out.b⟩
  have hcd : decide (countOf ns fs ms < 0) = false := decide_eq_false hc
  have HPM := Lib.hid (show vProc ns fs = true ∧ vMarks fs ms = true from by
    rw [count_neg] at hc
    rw [← Bool.and_eq_true]; cases hh : (vProc ns fs && vMarks fs ms)
    · exact absurd hh hc
    · rfl)
  clear hc
  have k_29 := HS_12.out.p.k0
  have k_30 := HS_12.out.p.k1
  go_wp2_with (fail)
  (with_reducible refine (HCI.out).mono ?_)
  rintro e w5 ⟨rfl, hbt⟩
  clear k_29 k_30
  have HS_31 := Lib.hid (HS_12.out.below hbt)
  have HM_32 := Lib.hid (HM_13.out.below hbt)
  clear HS_12 HM_13
  clear hbt
  clear HCI
  clear HM_32
  clear hll HU
  obtain ⟨i0, hi0, hz0, hz1, hz2⟩ := info_parts infoInt
  have hownE := World.ownsRow_made w5 (base := w5.heap.size) (e := 3) (size := 1) #[] 0 (Nat.le_refl _) (by unfold maxLen; omega) (by simp)
  have HO0 := Lib.hid (show (w5.alloc (.cells #[] 3)).ownsRow w5.heap.size 3 1 (.slice (some ⟨w5.heap.size, 0, none⟩) 0 0) 0 (ivs (sameL 0)) from hownE)
  clear hownE
  have HB0 := Lib.hid (up_alloc (Below.refl _ w5) (.cells #[] 3))
  go_wp2
  clear hcd
  go_loopw [6, 7] (fun ov iv wr => ∃ (k : Nat), k ≤ lf ∧ iv = .int .i64 k ∧ Hid (wr.ownsRow w5.heap.size 3 1 ov k (ivs (sameL k))) ∧ Hid (Below w5.heap.size w5 wr))
    (fun _ iv _ => lf - (intOf iv).toNat)
  case atStart => exact ⟨0, by omega, rfl, HO0, HB0⟩
  case round =>
    clear HO0 HB0
    obtain ⟨k, hk, rfl, HO, HB⟩ := hrel
    have HSr := Lib.hid (HS_31.out.below HB.out)
    have hszr := HB.out.size
    have k_33 := HSr.out.p.k0
    have k_34 := HSr.out.p.k1
    by_cases hlt : k < lf
    · have hkn : (k : Int) < (lf : Int) := by omega
      have hkn0 : (0 : Int) ≤ (k : Int) := by omega
      have hown9 := HO.out.alloc (.cells #[.int .i64 (k : Int)] 3)
      go_wp2_with (at_builtin; refine wpList_append_own _ rfl _ _ 27 rfl (w5.heap.size) 3 i0 (.int .i64 0) 1 8 Try.underlying27 hi0 hz0 hz1 hz2 rfl (by decide) _ _ _ rfl hown9 _ 1 1 [.int .i64 (k : Int)] rfl rfl (cell_one_new _ _ _) ?c2 ?c3 ?c4 ?c5 ?_)
      case c2 => first | rfl | (intro u hu; simp at hu; subst hu; rfl)
      case c3 => unfold maxLen; omega
      case c4 => omega
      case c5 => first | omega | (simp; omega)
      intro v' w4 hown4 hg4 _
      have HB4 := Lib.hid (up_grown (up_alloc HB.out (.cells #[.int .i64 (k : Int)] 3)) hown9 hg4 (Nat.le_refl _))
      have HO4 := Lib.hid (show w4.ownsRow w5.heap.size 3 1 v' (k + 1) (ivs (sameL (k + 1))) by
        have := hown4
        rw [← sameL_snoc, show ivs (sameL k ++ [(k : Int)]) = ivs (sameL k) ++ [.int .i64 (k : Int)] by simp [ivs]]
        exact this)
      clear hown4 hg4 hown9
      clear k_33 k_34
      go_wp2
      go_roundw
      case rel => exact ⟨k + 1, by omega, by go_num, HO4, HB4⟩
      case measure => simp [intOf]; omega
    · obtain rfl : lf = k := by omega
      obtain ⟨AZ, cZ, rfl, hcz, hcm⟩ := own_cap HO.out
      have HZ := Lib.hid (Rm.of (Rd.of_own HO.out) (Nat.le_refl _))
      clear HO HB k_33 k_34
      have HIS := Lib.hid (move_same HPM.out.1 HPM.out.2)
      rw [HLF.out] at HIS
      have HIF := Lib.hid (faith_same HPM.out.1)
      rw [HLF.out] at HIF
      have k_35 := HSr.out.p.k0
      have k_36 := HSr.out.p.k1
      go_wp2_with (fail)
      (with_reducible refine (HSr.out.p.moveI HSr.out.q HZ.out HSr.out.m (by omega) (by omega) cZ c3).mono ?_)
      rw [HIS.out, Option.getD_some, Option.isSome_some]
      rintro e w9 ⟨AM, cM, rfl, _, hM, _, hbt⟩
      rw [HLM.out] at hM ⊢
      clear k_35 k_36
      have HS9 := Lib.hid (HSr.out.below hbt)
      have HZ9 := Lib.hid (HZ.out.below hbt)
      have HM9 := Lib.hid (Rm.of hM (Nat.le_refl _))
      clear hbt hM HZ HSr
      have k_37 := HS9.out.p.k0
      have k_38 := HS9.out.p.k1
      go_wp2_with (fail)
      (with_reducible refine (eqRm HM9.out HS9.out.m (by omega) (by omega) cM c3).mono ?_)
      clear k_37 k_38
      rintro e w10 ⟨rfl, hbt⟩
      rw [beq_self_eq_true]
      have HS10 := Lib.hid (HS9.out.below hbt)
      have HZ10 := Lib.hid (HZ9.out.below hbt)
      clear hbt HM9 HZ9 HS9
      have k_39 := HS10.out.p.k0
      have k_40 := HS10.out.p.k1
      go_wp2_with (fail)
      (with_reducible refine (HS10.out.p.faithI HS10.out.q HZ10.out (by omega) cZ).mono ?_)
      rw [HIF.out]
      clear k_39 k_40
      rintro e w11 ⟨rfl, hbt⟩
      have HBN := Lib.hid (up HS10.out.b hbt)
      clear hbt HZ10
      go_wp2
      go_ret
      exact ⟨rfl, HBN.out⟩
end Go.Proofs.Ytmhbfdcikdhehaa
