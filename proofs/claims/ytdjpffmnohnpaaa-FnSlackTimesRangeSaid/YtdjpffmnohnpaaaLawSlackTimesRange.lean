/- The law FnSlackTimesRange, walked: it returns true. (Written by gen/lawplan.py.) -/
import Derived.Test.YtdjpffmnohnpaaaLawPlan0
import Derived.Deep.RegionLaw
import Derived.Deep.RegionHeld3
import Derived.BigQuiet
import Derived.BigRegion
import Derived.Lib.MinMax
set_option linter.unusedSimpArgs false
set_option linter.unusedVariables false
namespace Go.Proofs.Ytdjpffmnohnpaaa
open Go.RowKit

set_option maxRecDepth 100000 in
set_option maxHeartbeats 6400000 in
theorem lawSlackTimesRange_any (n c : Nat) (A : Option Addr) (xs : List Int) (w : World) (hr : Rd w 0 w.heap.size 1 A n (bvs xs)) (hby : Bytes xs) (hc : n ≤ c) (hc2 : c ≤ 9223372036854775807) :
    Calls Try.prog 14 #[.slice A n c] w fun e w' => e = .returned (.bool true) ∧ Below w.heap.size w w' := by
  by_cases hbig : (1048576 : Int) < n
  · go_enter Try.func14, Try.ntmps14
    go_wp2
    go_ret
    exact ⟨rfl, Below.refl _ _⟩
  go_enter Try.func14, Try.ntmps14
  go_wp2_with (fail)
  (with_reducible refine (drawSlackTimes_any n c A xs w hr hby (by omega) hc hc2).mono ?_)
  have hn9 : n ≤ 1048576 := by omega
  clear hbig
  rintro e w1 ⟨An, nn, cn, Af, lf, cf, ns, fs, A1, n1, c1, ts, rfl, hn1, hP, hM, hb1⟩
  have hn21 := hP.n21
  have hf21 := hP.f21
  have hba := up_alloc (Below.refl _ w1) (.cells #[.slice An nn cn, .slice Af lf cf] 32)
  have HPC0 := Lib.hid (Pc.new (hP.wide (Nat.zero_le _) (Nat.le_refl _)))
  have HT0 := Lib.hid (show Rb (w1.alloc (.cells #[.slice An nn cn, .slice Af lf cf] 32)) A1 n1 ts from ⟨w1.heap.size, (hM.wide (Nat.zero_le _) (Nat.le_refl _)).keep hba (Nat.le_refl _), hba.size⟩)
  have HBL0 := Lib.hid (up hb1 hba)
  clear hP hM hb1 hba
  have hlf := HPC0.out.flen
  have hln := HPC0.out.nlen
  have HLF := Lib.hid hlf
  have HLN := Lib.hid hln
  clear hlf hln
  cases hU : planOk ns fs ts with
  | false =>
    have HR := Lib.hid (slackR_no hU)
    clear hU
    have k_1 := HPC0.out.k0
    have k_2 := HPC0.out.k1
    go_wp2_with (fail)
    (with_reducible refine (HPC0.out.slackI HT0.out (by omega)).mono ?_)
    rw [HR.out]
    rintro e w2 ⟨AR, cR, rfl, hrw, hbt⟩
    rw [List.length_nil] at hrw ⊢
    clear k_1 k_2
    have HT_3 := Lib.hid (HT0.out.below hbt)
    have HPC_4 := Lib.hid (HPC0.out.below hbt)
    have HBL_5 := Lib.hid (up HBL0.out hbt)
    clear HT0 HPC0 HBL0
    have HR_6 := Lib.hid hrw
    clear hrw hbt
    have k_7 := HPC_4.out.k0
    have k_8 := HPC_4.out.k1
    go_wp2_with (fail)
    (with_reducible refine (HPC_4.out.slackS HT_3.out (by omega)).mono ?_)
    rw [HR.out]
    rintro e w3 ⟨AS, cS, rfl, hrw, hbt⟩
    rw [List.length_nil] at hrw ⊢
    clear k_7 k_8
    have HT_9 := Lib.hid (HT_3.out.below hbt)
    have HR_10 := Lib.hid (HR_6.out.below hbt)
    have HPC_11 := Lib.hid (HPC_4.out.below hbt)
    have HBL_12 := Lib.hid (up HBL_5.out hbt)
    clear HT_3 HR_6 HPC_4 HBL_5
    have HS_13 := Lib.hid hrw
    clear hrw hbt
    have HE_14 := Lib.hid (eqRb HR_10.out HS_13.out (by omega) (by omega) cR cS)
    go_wp2_with (fail)
    (with_reducible refine HE_14.out.mono ?_)
    clear HE_14
    rintro e w4 ⟨rfl, hbt⟩
    rw [beq_self_eq_true]
    have HT_15 := Lib.hid (HT_9.out.below hbt)
    have HR_16 := Lib.hid (HR_10.out.below hbt)
    have HS_17 := Lib.hid (HS_13.out.below hbt)
    have HPC_18 := Lib.hid (HPC_11.out.below hbt)
    have HBL_19 := Lib.hid (up HBL_12.out hbt)
    clear HT_9 HR_10 HS_13 HPC_11 HBL_12
    clear hbt
    clear HS_17
    have k_20 := HPC_18.out.k0
    have k_21 := HPC_18.out.k1
    go_wp2_with (fail)
    (with_reducible refine (HPC_18.out.slackS HT_15.out (by omega)).mono ?_)
    rw [HR.out]
    rintro e w5 ⟨AS2, cS2, rfl, hrw, hbt⟩
    rw [List.length_nil] at hrw ⊢
    clear k_20 k_21
    have HT_22 := Lib.hid (HT_15.out.below hbt)
    have HR_23 := Lib.hid (HR_16.out.below hbt)
    have HPC_24 := Lib.hid (HPC_18.out.below hbt)
    have HBL_25 := Lib.hid (up HBL_19.out hbt)
    clear HT_15 HR_16 HPC_18 HBL_19
    have HS2_26 := Lib.hid hrw
    clear hrw hbt
    have HE_27 := Lib.hid (eqRb HR_23.out HS2_26.out (by omega) (by omega) cR cS2)
    go_wp2_with (fail)
    (with_reducible refine HE_27.out.mono ?_)
    clear HE_27
    rintro e w6 ⟨rfl, hbt⟩
    rw [beq_self_eq_true]
    have HT_28 := Lib.hid (HT_22.out.below hbt)
    have HR_29 := Lib.hid (HR_23.out.below hbt)
    have HS2_30 := Lib.hid (HS2_26.out.below hbt)
    have HPC_31 := Lib.hid (HPC_24.out.below hbt)
    have HBL_32 := Lib.hid (up HBL_25.out hbt)
    clear HT_22 HR_23 HS2_26 HPC_24 HBL_25
    clear hbt
    go_wp2
    go_ret
    exact ⟨rfl, HBL_32.out⟩
  | true =>
  have HR := Lib.hid (slackR_yes hU)
  have HP := Lib.hid (plan_of hU)
  have hnt : n1 = nn := by have h1 := vTimes_len HP.out.t; have h2 := HT0.out.len; have h3 := HLN.out; omega
  subst hnt
  have hn10 : n1 ≤ 10 := by have := (vProc_len HP.out.v).2.1; have := HLN.out; omega
  have hn2 : 2 ≤ n1 := by have := (vProc_len HP.out.v).1; have := HLN.out; omega
  have hsl : (slackOf ns fs ts).length = n1 := by rw [slackOf_len]; exact HLN.out
  have HSA := Lib.hid (show ∀ k, k < n1 → 0 ≤ beg (slackOf ns fs ts) k ∧ beg (slackOf ns fs ts) k ≤ totalOf ns fs ts - beg ts k from fun k hk => by
    have hk' : k < ns.length := by have := HLN.out; omega
    rw [slackOf_at hk']
    have h1 := HP.out.slack0 hk'
    have h2 := HP.out.pulled.top k hk'
    have h3 := HP.out.early k
    omega)
  have hM := HP.out.totalOf
  have HTR := Lib.hid (totalR_yes hU)
  clear hU
  have k_1 := HPC0.out.k0
  have k_2 := HPC0.out.k1
  go_wp2_with (fail)
  (with_reducible refine (HPC0.out.slackI HT0.out (by omega)).mono ?_)
  rw [HR.out]
  rintro e w2 ⟨AR, cR, rfl, hrw, hbt⟩
  rw [hsl] at hrw ⊢
  clear k_1 k_2
  have HT_3 := Lib.hid (HT0.out.below hbt)
  have HPC_4 := Lib.hid (HPC0.out.below hbt)
  have HBL_5 := Lib.hid (up HBL0.out hbt)
  clear HT0 HPC0 HBL0
  have HR_6 := Lib.hid hrw
  clear hrw hbt
  have k_7 := HPC_4.out.k0
  have k_8 := HPC_4.out.k1
  go_wp2_with (fail)
  (with_reducible refine (HPC_4.out.slackS HT_3.out (by omega)).mono ?_)
  rw [HR.out]
  rintro e w3 ⟨AS, cS, rfl, hrw, hbt⟩
  rw [hsl] at hrw ⊢
  clear k_7 k_8
  have HT_9 := Lib.hid (HT_3.out.below hbt)
  have HR_10 := Lib.hid (HR_6.out.below hbt)
  have HPC_11 := Lib.hid (HPC_4.out.below hbt)
  have HBL_12 := Lib.hid (up HBL_5.out hbt)
  clear HT_3 HR_6 HPC_4 HBL_5
  have HS_13 := Lib.hid hrw
  clear hrw hbt
  have HE_14 := Lib.hid (eqRb HR_10.out HS_13.out (by omega) (by omega) cR cS)
  go_wp2_with (fail)
  (with_reducible refine HE_14.out.mono ?_)
  clear HE_14
  rintro e w4 ⟨rfl, hbt⟩
  rw [beq_self_eq_true]
  have HT_15 := Lib.hid (HT_9.out.below hbt)
  have HR_16 := Lib.hid (HR_10.out.below hbt)
  have HS_17 := Lib.hid (HS_13.out.below hbt)
  have HPC_18 := Lib.hid (HPC_11.out.below hbt)
  have HBL_19 := Lib.hid (up HBL_12.out hbt)
  clear HT_9 HR_10 HS_13 HPC_11 HBL_12
  clear hbt
  clear HS_17
  have hq0 : ((n1 : Int) == 0) = false := by simp; omega
  clear hsl
  have k_20 := HPC_18.out.k0
  have k_21 := HPC_18.out.k1
  go_wp2_with (fail)
  (with_reducible refine (HPC_18.out.totalI HT_15.out (by omega)).mono ?_)
  rintro e w5 ⟨rfl, hbt⟩
  rw [HTR.out]
  clear k_20 k_21
  have HT_22 := Lib.hid (HT_15.out.below hbt)
  have HR_23 := Lib.hid (HR_16.out.below hbt)
  have HPC_24 := Lib.hid (HPC_18.out.below hbt)
  have HBL_25 := Lib.hid (up HBL_19.out hbt)
  clear HT_15 HR_16 HPC_18 HBL_19
  clear hbt
  generalize hM0 : totalOf ns fs ts = M at *
  clear hM0
  go_wp2
  have HALL := Lib.hid (show Rb w5 A1 n1 (ts) ∧ Rb w5 AR n1 ((slackOf ns fs ts)) ∧ Pc w5 w1.heap.size An n1 cn Af lf cf ns fs ∧ Below w.heap.size w w5 from ⟨HT_22.out, HR_23.out, HPC_24.out, HBL_25.out⟩)
  clear HT_22 HR_23 HPC_24 HBL_25
  go_loopw [7] (fun iv wr => ∃ (k : Nat), k ≤ n1 ∧ iv = .int .i64 k ∧ Hid (Rb wr A1 n1 (ts) ∧ Rb wr AR n1 ((slackOf ns fs ts)) ∧ Pc wr w1.heap.size An n1 cn Af lf cf ns fs ∧ Below w.heap.size w wr))
    (fun iv _ => n1 - (intOf iv).toNat)
  case atStart => exact ⟨0, by omega, rfl, HALL⟩
  case round =>
    clear HALL
    obtain ⟨k, hk, rfl, HALL⟩ := hrel
    have HT_26 := Lib.hid HALL.out.1
    have HR_27 := Lib.hid HALL.out.2.1
    have HPC_28 := Lib.hid HALL.out.2.2.1
    have HBL_29 := Lib.hid HALL.out.2.2.2
    clear HALL
    by_cases hkn : k < n1
    · skip
      obtain ⟨b1, o1, hA1, hb1, hc1⟩ := HR_27.out.one hkn
      subst hA1
      obtain ⟨b2, o2, hA2, hb2, hc2⟩ := HT_26.out.one hkn
      subst hA2
      have hs := HSA.out k hkn
      have ht := vTimes_at HP.out.t k
      generalize beg (slackOf ns fs ts) k = sv at *
      generalize beg ts k = tv at *
      obtain ⟨s0, s1⟩ := hs
      obtain ⟨t0, t1⟩ := ht
      have hwr : IntKind.i64.wrap (M - tv) = M - tv := IntWalk.i64_in _ (by omega)
      have g1 : decide ((n1 : Int) ≤ (k : Int)) = false := decide_eq_false (by omega)
      have g1' : decide (n1 ≤ k) = false := decide_eq_false (by omega)
      have g2 : decide (sv < 0) = false := decide_eq_false (by omega)
      have g3 : decide (M - tv < sv) = false := decide_eq_false (by omega)
      have hk0 : (0 : Int) ≤ (k : Int) := by omega
      have hk1 : (k : Int) < (n1 : Int) := by omega
      have HX : Hid (∀ j : Nat, Rb (wr.drewN j) (some ⟨b2, o2, none⟩) n1 (ts) ∧ Rb (wr.drewN j) (some ⟨b1, o1, none⟩) n1 ((slackOf ns fs ts)) ∧ Pc (wr.drewN j) w1.heap.size An n1 cn Af lf cf ns fs ∧ Below w.heap.size w (wr.drewN j)) := fun j => ⟨HT_26.out.below (up_drewN (Below.refl _ wr) j), HR_27.out.below (up_drewN (Below.refl _ wr) j), HPC_28.out.below (up_drewN (Below.refl _ wr) j), up_drewN HBL_29.out j⟩
      clear HT_26 HR_27 HPC_28 HBL_29
      go_wp2_with (fail)
      go_quiet (fail)
      go_wp2
      go_roundw
      case rel => exact ⟨k + 1, by omega, by go_num, HX.out _⟩
      case measure => simp [intOf]; omega
    · obtain rfl : k = n1 := by omega
      have hkk : ((k : Int) == (k : Int)) = true := by simp
      go_wp2
      go_ret
      exact ⟨rfl, HBL_29.out⟩
end Go.Proofs.Ytdjpffmnohnpaaa
