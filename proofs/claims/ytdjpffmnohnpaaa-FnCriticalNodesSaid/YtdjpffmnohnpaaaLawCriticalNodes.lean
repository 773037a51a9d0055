/- The law FnCriticalNodes, walked: it returns true. (Written by gen/lawplan.py.) -/
import Derived.Test.YtdjpffmnohnpaaaLawPlan0
import Derived.Test.YtdjpffmnohnpaaaPlanSum
import Derived.Deep.RegionLaw
import Derived.Deep.RegionHeld3
import Derived.BigQuiet
import Derived.BigRegion
import Derived.Lib.MinMax
set_option linter.unusedSimpArgs false
set_option linter.unusedVariables false
namespace Go.Proofs.Ytdjpffmnohnpaaa
open Go.RowKit

set_option maxRecDepth 100000 in
set_option maxHeartbeats 6400000 in
theorem lawCriticalNodes_any (n c : Nat) (A : Option Addr) (xs : List Int) (w : World) (hr : Rd w 0 w.heap.size 1 A n (bvs xs)) (hby : Bytes xs) (hc : n ≤ c) (hc2 : c ≤ 9223372036854775807) :
    Calls Try.prog 13 #[.slice A n c] w fun e w' => e = .returned (.bool true) ∧ Below w.heap.size w w' := by
  by_cases hbig : (1048576 : Int) < n
  · go_enter Try.func13, Try.ntmps13
    go_wp2
    go_ret
    exact ⟨rfl, Below.refl _ _⟩
  go_enter Try.func13, Try.ntmps13
  go_wp2_with (fail)
  (with_reducible refine (drawCriticalNodes_any n c A xs w hr hby (by omega) hc hc2).mono ?_)
  have hn9 : n ≤ 1048576 := by omega
  clear hbig
  rintro e w1 ⟨An, nn, cn, Af, lf, cf, ns, fs, A1, n1, c1, ts, rfl, hn1, hP, hM, hb1⟩
  have hn21 := hP.n21
  have hf21 := hP.f21
  have hba := up_alloc (Below.refl _ w1) (.cells #[.slice An nn cn, .slice Af lf cf] 32)
  have HPC0 := Lib.hid (Pc.new (hP.wide (Nat.zero_le _) (Nat.le_refl _)))
  have HT0 := Lib.hid (show Rb (w1.alloc (.cells #[.slice An nn cn, .slice Af lf cf] 32)) A1 n1 ts from ⟨w1.heap.size, (hM.wide (Nat.zero_le _) (Nat.le_refl _)).keep hba (Nat.le_refl _), hba.size⟩)
  have HBL0 := Lib.hid (up hb1 hba)
  clear hP hM hb1 hba
  have hlf := HPC0.out.flen
  have hln := HPC0.out.nlen
  have HLF := Lib.hid hlf
  have HLN := Lib.hid hln
  clear hlf hln
  cases hU : planOk ns fs ts with
  | false =>
    have HR := Lib.hid (critR_no hU)
    clear hU
    have k_1 := HPC0.out.k0
    have k_2 := HPC0.out.k1
    go_wp2_with (fail)
    (with_reducible refine (HPC0.out.critI HT0.out (by omega)).mono ?_)
    rw [HR.out]
    rintro e w2 ⟨AR, cR, rfl, hrw, hbt⟩
    rw [List.length_nil] at hrw ⊢
    clear k_1 k_2
    have HT_3 := Lib.hid (HT0.out.below hbt)
    have HPC_4 := Lib.hid (HPC0.out.below hbt)
    have HBL_5 := Lib.hid (up HBL0.out hbt)
    clear HT0 HPC0 HBL0
    have HR_6 := Lib.hid hrw
    clear hrw hbt
    have k_7 := HPC_4.out.k0
    have k_8 := HPC_4.out.k1
    go_wp2_with (fail)
    (with_reducible refine (HPC_4.out.critS HT_3.out (by omega)).mono ?_)
    rw [HR.out]
    rintro e w3 ⟨AS, cS, rfl, hrw, hbt⟩
    rw [List.length_nil] at hrw ⊢
    clear k_7 k_8
    have HT_9 := Lib.hid (HT_3.out.below hbt)
    have HR_10 := Lib.hid (HR_6.out.below hbt)
    have HPC_11 := Lib.hid (HPC_4.out.below hbt)
    have HBL_12 := Lib.hid (up HBL_5.out hbt)
    clear HT_3 HR_6 HPC_4 HBL_5
    have HS_13 := Lib.hid hrw
    clear hrw hbt
    have HE_14 := Lib.hid (eqRb HR_10.out HS_13.out (by omega) (by omega) cR cS)
    go_wp2_with (fail)
    (with_reducible refine HE_14.out.mono ?_)
    clear HE_14
    rintro e w4 ⟨rfl, hbt⟩
    rw [beq_self_eq_true]
    have HT_15 := Lib.hid (HT_9.out.below hbt)
    have HR_16 := Lib.hid (HR_10.out.below hbt)
    have HS_17 := Lib.hid (HS_13.out.below hbt)
    have HPC_18 := Lib.hid (HPC_11.out.below hbt)
    have HBL_19 := Lib.hid (up HBL_12.out hbt)
    clear HT_9 HR_10 HS_13 HPC_11 HBL_12
    clear hbt
    clear HS_17
    have k_20 := HPC_18.out.k0
    have k_21 := HPC_18.out.k1
    go_wp2_with (fail)
    (with_reducible refine (HPC_18.out.critS HT_15.out (by omega)).mono ?_)
    rw [HR.out]
    rintro e w5 ⟨AS2, cS2, rfl, hrw, hbt⟩
    rw [List.length_nil] at hrw ⊢
    clear k_20 k_21
    have HT_22 := Lib.hid (HT_15.out.below hbt)
    have HR_23 := Lib.hid (HR_16.out.below hbt)
    have HPC_24 := Lib.hid (HPC_18.out.below hbt)
    have HBL_25 := Lib.hid (up HBL_19.out hbt)
    clear HT_15 HR_16 HPC_18 HBL_19
    have HS2_26 := Lib.hid hrw
    clear hrw hbt
    have HE_27 := Lib.hid (eqRb HR_23.out HS2_26.out (by omega) (by omega) cR cS2)
    go_wp2_with (fail)
    (with_reducible refine HE_27.out.mono ?_)
    clear HE_27
    rintro e w6 ⟨rfl, hbt⟩
    rw [beq_self_eq_true]
    have HT_28 := Lib.hid (HT_22.out.below hbt)
    have HR_29 := Lib.hid (HR_23.out.below hbt)
    have HS2_30 := Lib.hid (HS2_26.out.below hbt)
    have HPC_31 := Lib.hid (HPC_24.out.below hbt)
    have HBL_32 := Lib.hid (up HBL_25.out hbt)
    clear HT_22 HR_23 HS2_26 HPC_24 HBL_25
    clear hbt
    go_wp2
    go_ret
    exact ⟨rfl, HBL_32.out⟩
  | true =>
  have HR := Lib.hid (critR_yes hU)
  have HP := Lib.hid (plan_of hU)
  have hnt : n1 = nn := by have h1 := vTimes_len HP.out.t; have h2 := HT0.out.len; have h3 := HLN.out; omega
  subst hnt
  have hn10 : n1 ≤ 10 := by have := (vProc_len HP.out.v).2.1; have := HLN.out; omega
  have hn2 : 2 ≤ n1 := by have := (vProc_len HP.out.v).1; have := HLN.out; omega
  have HSR := Lib.hid (slackR_yes hU)
  have HTR := Lib.hid (totalR_yes hU)
  clear hU
  have hsl : (slackOf ns fs ts).length = n1 := by rw [slackOf_len]; exact HLN.out
  have hcl : ∃ m, (critOf ns fs ts).length = m ∧ 1 ≤ m ∧ m ≤ n1 := by
    refine ⟨_, rfl, ?_, ?_⟩
    · obtain ⟨v, hv, h0⟩ := HP.out.someCrit
      exact critUp_pos hv h0
    · have := critUp_le (slackOf ns fs ts) ns.length
      have h2 := HLN.out
      unfold critOf; omega
  obtain ⟨m, hcl, hm1, hm2⟩ := hcl
  have HIS := Lib.hid (show ∀ v, v < n1 → inL (critOf ns fs ts) (v : Int) = (beg (slackOf ns fs ts) v == 0) from fun v hv => critUp_isIn (by have := HLN.out; omega))
  have HCS := Lib.hid (show totalOf ns fs ts ≤ pickSum ts (fun v => beg (slackOf ns fs ts) v == 0) n1 from by have := HP.out.critSum; rwa [HLN.out] at this)
  have k_33 := HPC0.out.k0
  have k_34 := HPC0.out.k1
  go_wp2_with (fail)
  (with_reducible refine (HPC0.out.critI HT0.out (by omega)).mono ?_)
  rw [HR.out]
  rintro e w2 ⟨AR, cR, rfl, hrw, hbt⟩
  rw [hcl] at hrw ⊢
  clear k_33 k_34
  have HT_35 := Lib.hid (HT0.out.below hbt)
  have HPC_36 := Lib.hid (HPC0.out.below hbt)
  have HBL_37 := Lib.hid (up HBL0.out hbt)
  clear HT0 HPC0 HBL0
  have HR_38 := Lib.hid hrw
  clear hrw hbt
  have k_39 := HPC_36.out.k0
  have k_40 := HPC_36.out.k1
  go_wp2_with (fail)
  (with_reducible refine (HPC_36.out.critS HT_35.out (by omega)).mono ?_)
  rw [HR.out]
  rintro e w3 ⟨AS, cS, rfl, hrw, hbt⟩
  rw [hcl] at hrw ⊢
  clear k_39 k_40
  have HT_41 := Lib.hid (HT_35.out.below hbt)
  have HR_42 := Lib.hid (HR_38.out.below hbt)
  have HPC_43 := Lib.hid (HPC_36.out.below hbt)
  have HBL_44 := Lib.hid (up HBL_37.out hbt)
  clear HT_35 HR_38 HPC_36 HBL_37
  have HS_45 := Lib.hid hrw
  clear hrw hbt
  have HE_46 := Lib.hid (eqRb HR_42.out HS_45.out (by omega) (by omega) cR cS)
  go_wp2_with (fail)
  (with_reducible refine HE_46.out.mono ?_)
  clear HE_46
  rintro e w4 ⟨rfl, hbt⟩
  rw [beq_self_eq_true]
  have HT_47 := Lib.hid (HT_41.out.below hbt)
  have HR_48 := Lib.hid (HR_42.out.below hbt)
  have HS_49 := Lib.hid (HS_45.out.below hbt)
  have HPC_50 := Lib.hid (HPC_43.out.below hbt)
  have HBL_51 := Lib.hid (up HBL_44.out hbt)
  clear HT_41 HR_42 HS_45 HPC_43 HBL_44
  clear hbt
  clear HS_49
  have hq0 : ((m : Int) == 0) = false := by simp; omega
  clear hcl
  have k_52 := HPC_50.out.k0
  have k_53 := HPC_50.out.k1
  go_wp2_with (fail)
  (with_reducible refine (HPC_50.out.slackI HT_47.out (by omega)).mono ?_)
  rw [HSR.out]
  rintro e w5 ⟨AL, cL, rfl, hrw, hbt⟩
  rw [hsl] at hrw ⊢
  clear k_52 k_53
  have HT_54 := Lib.hid (HT_47.out.below hbt)
  have HR_55 := Lib.hid (HR_48.out.below hbt)
  have HPC_56 := Lib.hid (HPC_50.out.below hbt)
  have HBL_57 := Lib.hid (up HBL_51.out hbt)
  clear HT_47 HR_48 HPC_50 HBL_51
  have HL_58 := Lib.hid hrw
  clear hrw hbt
  clear hsl
  go_wp2
  have HALL := Lib.hid (show Rb w5 A1 n1 (ts) ∧ Rb w5 AR m ((critOf ns fs ts)) ∧ Rb w5 AL n1 ((slackOf ns fs ts)) ∧ Pc w5 w1.heap.size An n1 cn Af lf cf ns fs ∧ Below w.heap.size w w5 from ⟨HT_54.out, HR_55.out, HL_58.out, HPC_56.out, HBL_57.out⟩)
  clear HT_54 HR_55 HL_58 HPC_56 HBL_57
  go_loopw [7, 8] (fun sv iv wr => ∃ (k : Nat), k ≤ n1 ∧ iv = .int .i64 k ∧ sv = .int .i64 (pickSum ts (fun v => beg (slackOf ns fs ts) v == 0) k) ∧ Hid (Rb wr A1 n1 (ts) ∧ Rb wr AR m ((critOf ns fs ts)) ∧ Rb wr AL n1 ((slackOf ns fs ts)) ∧ Pc wr w1.heap.size An n1 cn Af lf cf ns fs ∧ Below w.heap.size w wr))
    (fun _ iv _ => n1 - (intOf iv).toNat)
  case atStart => exact ⟨0, by omega, rfl, rfl, HALL⟩
  case round =>
    clear HALL
    obtain ⟨k, hk, rfl, rfl, HALL⟩ := hrel
    have HT_59 := Lib.hid HALL.out.1
    have HR_60 := Lib.hid HALL.out.2.1
    have HL_61 := Lib.hid HALL.out.2.2.1
    have HPC_62 := Lib.hid HALL.out.2.2.2.1
    have HBL_63 := Lib.hid HALL.out.2.2.2.2
    clear HALL
    by_cases hkn : k < n1
    · skip
      have HST := Lib.hid (show pickSum ts (fun v => beg (slackOf ns fs ts) v == 0) (k + 1) = pickSum ts (fun v => beg (slackOf ns fs ts) v == 0) k + if (beg (slackOf ns fs ts) k == 0) = true then beg ts k else 0 from rfl)
      have hps := pickSum_in (fun v => vTimes_at HP.out.t v) (fun v => beg (slackOf ns fs ts) v == 0) k
      have HI := Lib.hid (HIS.out k hkn)
      generalize pickSum ts (fun v => beg (slackOf ns fs ts) v == 0) k = ps at *
      obtain ⟨b1, o1, hA1, hb1, hc1⟩ := HL_61.out.one hkn
      subst hA1
      obtain ⟨b2, o2, hA2, hb2, hc2⟩ := HT_59.out.one hkn
      subst hA2
      have ht := vTimes_at HP.out.t k
      generalize beg ts k = tv at *
      generalize beg (slackOf ns fs ts) k = sv at *
      have hwr : IntKind.i64.wrap (ps + tv) = ps + tv := IntWalk.i64_in _ (by omega)
      have h0k : (0 : Int) ≤ (k : Int) := by omega
      have h1k : (k : Int) < (n1 : Int) := by omega
      have HX : Hid (∀ j : Nat, Rb (wr.drewN j) (some ⟨b2, o2, none⟩) n1 (ts) ∧ Rb (wr.drewN j) AR m ((critOf ns fs ts)) ∧ Rb (wr.drewN j) (some ⟨b1, o1, none⟩) n1 ((slackOf ns fs ts)) ∧ Pc (wr.drewN j) w1.heap.size An n1 cn Af lf cf ns fs ∧ Below w.heap.size w (wr.drewN j)) := fun j => ⟨HT_59.out.below (up_drewN (Below.refl _ wr) j), HR_60.out.below (up_drewN (Below.refl _ wr) j), HL_61.out.below (up_drewN (Below.refl _ wr) j), HPC_62.out.below (up_drewN (Below.refl _ wr) j), up HBL_63.out (up_drewN (Below.refl _ wr) j)⟩
      have HIC := Lib.hid (show ∀ j : Nat, Calls Try.prog 37 #[.slice AR m cR, .int .i64 (k : Int)] (wr.drewN j) fun e w' => e = .returned (.bool (inL (critOf ns fs ts) (k : Int))) ∧ w' = wr.drewN j from fun j => (inRb (HR_60.out.below (up_drewN (Below.refl _ wr) j)) (by omega) (k : Int) cR).mono fun _ _ h => ⟨h.1, h.2.symm⟩)
      clear HT_59 HR_60 HL_61 HPC_62 HBL_63
      by_cases hs0 : sv = 0
      · have hb : (sv == 0) = true := by simpa using hs0
        rw [hb] at HST HI
        rw [HI.out] at HIC
        have hxx : (true != true) = false := rfl
        clear hs0
        go_wp2_with (fail)
        go_quiet ((go_at_call 37; with_reducible exact Calls.quiet_of_same (HIC.out _)))
        go_wp2
        go_roundw
        case rel => exact ⟨k + 1, by omega, by go_num, by rw [HST.out]; simp, HX.out _⟩
        case measure => simp [intOf]; omega
      · have hb : (sv == 0) = false := by simpa using hs0
        rw [hb] at HST HI
        rw [HI.out] at HIC
        have hxx : (false != false) = false := rfl
        clear hs0
        go_wp2_with (fail)
        go_quiet ((go_at_call 37; with_reducible exact Calls.quiet_of_same (HIC.out _)))
        go_wp2
        go_roundw
        case rel => exact ⟨k + 1, by omega, by go_num, by rw [HST.out]; simp, HX.out _⟩
        case measure => simp [intOf]; omega
    · obtain rfl : k = n1 := by omega
      have hfin := HCS.out
      generalize pickSum ts (fun v => beg (slackOf ns fs ts) v == 0) k = ps at *
      generalize totalOf ns fs ts = M at *
      have hge : decide (M ≤ ps) = true := decide_eq_true hfin
      have k_64 := HPC_62.out.k0
      have k_65 := HPC_62.out.k1
      go_wp2_with (fail)
      (with_reducible refine (HPC_62.out.totalI HT_59.out (by omega)).mono ?_)
      rintro e w6 ⟨rfl, hbt⟩
      rw [HTR.out]
      clear k_64 k_65
      have HT_66 := Lib.hid (HT_59.out.below hbt)
      have HR_67 := Lib.hid (HR_60.out.below hbt)
      have HL_68 := Lib.hid (HL_61.out.below hbt)
      have HPC_69 := Lib.hid (HPC_62.out.below hbt)
      have HBL_70 := Lib.hid (up HBL_63.out hbt)
      clear HT_59 HR_60 HL_61 HPC_62 HBL_63
      clear hbt
      go_wp2
      go_ret
      exact ⟨rfl, HBL_70.out⟩
end Go.Proofs.Ytdjpffmnohnpaaa
