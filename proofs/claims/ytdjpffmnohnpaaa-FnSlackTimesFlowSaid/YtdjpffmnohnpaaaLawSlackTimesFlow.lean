/- The law FnSlackTimesFlow, walked: it returns true. (Written by gen/lawplan.py.) -/
import Derived.Test.YtdjpffmnohnpaaaLawPlan0
import Derived.Deep.RegionLaw
import Derived.Deep.RegionHeld3
import Derived.BigQuiet
import Derived.BigRegion
import Derived.Lib.MinMax
set_option linter.unusedSimpArgs false
set_option linter.unusedVariables false
namespace Go.Proofs.Ytdjpffmnohnpaaa
open Go.RowKit

set_option maxRecDepth 100000 in
set_option maxHeartbeats 6400000 in
theorem lawSlackTimesFlow_any (n c : Nat) (A : Option Addr) (xs : List Int) (w : World) (hr : Rd w 0 w.heap.size 1 A n (bvs xs)) (hby : Bytes xs) (hc : n ≤ c) (hc2 : c ≤ 9223372036854775807) :
    Calls Try.prog 12 #[.slice A n c] w fun e w' => e = .returned (.bool true) ∧ Below w.heap.size w w' := by
  by_cases hbig : (1048576 : Int) < n
  · go_enter Try.func12, Try.ntmps12
    go_wp2
    go_ret
    exact ⟨rfl, Below.refl _ _⟩
  go_enter Try.func12, Try.ntmps12
  go_wp2_with (fail)
  (with_reducible refine (drawSlackTimes_any n c A xs w hr hby (by omega) hc hc2).mono ?_)
  have hn9 : n ≤ 1048576 := by omega
  clear hbig
  rintro e w1 ⟨An, nn, cn, Af, lf, cf, ns, fs, A1, n1, c1, ts, rfl, hn1, hP, hM, hb1⟩
  have hn21 := hP.n21
  have hf21 := hP.f21
  have hba := up_alloc (Below.refl _ w1) (.cells #[.slice An nn cn, .slice Af lf cf] 32)
  have HPC0 := Lib.hid (Pc.new (hP.wide (Nat.zero_le _) (Nat.le_refl _)))
  have HT0 := Lib.hid (show Rb (w1.alloc (.cells #[.slice An nn cn, .slice Af lf cf] 32)) A1 n1 ts from ⟨w1.heap.size, (hM.wide (Nat.zero_le _) (Nat.le_refl _)).keep hba (Nat.le_refl _), hba.size⟩)
  have HBL0 := Lib.hid (up hb1 hba)
  clear hP hM hb1 hba
  have hlf := HPC0.out.flen
  have hln := HPC0.out.nlen
  have HLF := Lib.hid hlf
  have HLN := Lib.hid hln
  clear hlf hln
  cases hU : planOk ns fs ts with
  | false =>
    have HR := Lib.hid (slackR_no hU)
    clear hU
    have k_1 := HPC0.out.k0
    have k_2 := HPC0.out.k1
    go_wp2_with (fail)
    (with_reducible refine (HPC0.out.slackI HT0.out (by omega)).mono ?_)
    rw [HR.out]
    rintro e w2 ⟨AR, cR, rfl, hrw, hbt⟩
    rw [List.length_nil] at hrw ⊢
    clear k_1 k_2
    have HT_3 := Lib.hid (HT0.out.below hbt)
    have HPC_4 := Lib.hid (HPC0.out.below hbt)
    have HBL_5 := Lib.hid (up HBL0.out hbt)
    clear HT0 HPC0 HBL0
    have HR_6 := Lib.hid hrw
    clear hrw hbt
    have k_7 := HPC_4.out.k0
    have k_8 := HPC_4.out.k1
    go_wp2_with (fail)
    (with_reducible refine (HPC_4.out.slackS HT_3.out (by omega)).mono ?_)
    rw [HR.out]
    rintro e w3 ⟨AS, cS, rfl, hrw, hbt⟩
    rw [List.length_nil] at hrw ⊢
    clear k_7 k_8
    have HT_9 := Lib.hid (HT_3.out.below hbt)
    have HR_10 := Lib.hid (HR_6.out.below hbt)
    have HPC_11 := Lib.hid (HPC_4.out.below hbt)
    have HBL_12 := Lib.hid (up HBL_5.out hbt)
    clear HT_3 HR_6 HPC_4 HBL_5
    have HS_13 := Lib.hid hrw
    clear hrw hbt
    have HE_14 := Lib.hid (eqRb HR_10.out HS_13.out (by omega) (by omega) cR cS)
    go_wp2_with (fail)
    (with_reducible refine HE_14.out.mono ?_)
    clear HE_14
    rintro e w4 ⟨rfl, hbt⟩
    rw [beq_self_eq_true]
    have HT_15 := Lib.hid (HT_9.out.below hbt)
    have HR_16 := Lib.hid (HR_10.out.below hbt)
    have HS_17 := Lib.hid (HS_13.out.below hbt)
    have HPC_18 := Lib.hid (HPC_11.out.below hbt)
    have HBL_19 := Lib.hid (up HBL_12.out hbt)
    clear HT_9 HR_10 HS_13 HPC_11 HBL_12
    clear hbt
    clear HS_17
    have k_20 := HPC_18.out.k0
    have k_21 := HPC_18.out.k1
    go_wp2_with (fail)
    (with_reducible refine (HPC_18.out.slackS HT_15.out (by omega)).mono ?_)
    rw [HR.out]
    rintro e w5 ⟨AS2, cS2, rfl, hrw, hbt⟩
    rw [List.length_nil] at hrw ⊢
    clear k_20 k_21
    have HT_22 := Lib.hid (HT_15.out.below hbt)
    have HR_23 := Lib.hid (HR_16.out.below hbt)
    have HPC_24 := Lib.hid (HPC_18.out.below hbt)
    have HBL_25 := Lib.hid (up HBL_19.out hbt)
    clear HT_15 HR_16 HPC_18 HBL_19
    have HS2_26 := Lib.hid hrw
    clear hrw hbt
    have HE_27 := Lib.hid (eqRb HR_23.out HS2_26.out (by omega) (by omega) cR cS2)
    go_wp2_with (fail)
    (with_reducible refine HE_27.out.mono ?_)
    clear HE_27
    rintro e w6 ⟨rfl, hbt⟩
    rw [beq_self_eq_true]
    have HT_28 := Lib.hid (HT_22.out.below hbt)
    have HR_29 := Lib.hid (HR_23.out.below hbt)
    have HS2_30 := Lib.hid (HS2_26.out.below hbt)
    have HPC_31 := Lib.hid (HPC_24.out.below hbt)
    have HBL_32 := Lib.hid (up HBL_25.out hbt)
    clear HT_22 HR_23 HS2_26 HPC_24 HBL_25
    clear hbt
    go_wp2
    go_ret
    exact ⟨rfl, HBL_32.out⟩
  | true =>
  have HR := Lib.hid (slackR_yes hU)
  have HP := Lib.hid (plan_of hU)
  have hnt : n1 = nn := by have h1 := vTimes_len HP.out.t; have h2 := HT0.out.len; have h3 := HLN.out; omega
  subst hnt
  have hn10 : n1 ≤ 10 := by have := (vProc_len HP.out.v).2.1; have := HLN.out; omega
  have hn2 : 2 ≤ n1 := by have := (vProc_len HP.out.v).1; have := HLN.out; omega
  have hsl : (slackOf ns fs ts).length = n1 := by rw [slackOf_len]; exact HLN.out
  have hel : (earlyOf ns fs ts).length = n1 := by rw [earlyOf_len]; exact HLN.out
  have HIN := Lib.hid (show Inside fs n1 from by have := vProc_inside HP.out.v; rwa [HLN.out] at this)
  have HSA := Lib.hid (show ∀ u v, (u, v) ∈ esOf fs → u < n1 → v < n1 → (beg (slackOf ns fs ts) u ≤ beg (earlyOf ns fs ts) v - beg (earlyOf ns fs ts) u - beg ts u + beg (slackOf ns fs ts) v) ∧ -6000 ≤ beg (slackOf ns fs ts) v ∧ beg (slackOf ns fs ts) v ≤ 6000 from fun u v he hu hv => by
    have hu' : u < ns.length := by have := HLN.out; omega
    have hv' : v < ns.length := by have := HLN.out; omega
    rw [slackOf_at hu', slackOf_at hv']
    have h1 := HP.out.pulled.keep _ he
    have h2 := HP.out.slack0 hv'
    have h3 := HP.out.late v hv'
    have h4 := HP.out.early v
    simp only at h1
    omega)
  have HER := Lib.hid (earlyR_yes hU)
  clear hU
  have k_33 := HPC0.out.k0
  have k_34 := HPC0.out.k1
  go_wp2_with (fail)
  (with_reducible refine (HPC0.out.slackI HT0.out (by omega)).mono ?_)
  rw [HR.out]
  rintro e w2 ⟨AR, cR, rfl, hrw, hbt⟩
  rw [hsl] at hrw ⊢
  clear k_33 k_34
  have HT_35 := Lib.hid (HT0.out.below hbt)
  have HPC_36 := Lib.hid (HPC0.out.below hbt)
  have HBL_37 := Lib.hid (up HBL0.out hbt)
  clear HT0 HPC0 HBL0
  have HR_38 := Lib.hid hrw
  clear hrw hbt
  have k_39 := HPC_36.out.k0
  have k_40 := HPC_36.out.k1
  go_wp2_with (fail)
  (with_reducible refine (HPC_36.out.slackS HT_35.out (by omega)).mono ?_)
  rw [HR.out]
  rintro e w3 ⟨AS, cS, rfl, hrw, hbt⟩
  rw [hsl] at hrw ⊢
  clear k_39 k_40
  have HT_41 := Lib.hid (HT_35.out.below hbt)
  have HR_42 := Lib.hid (HR_38.out.below hbt)
  have HPC_43 := Lib.hid (HPC_36.out.below hbt)
  have HBL_44 := Lib.hid (up HBL_37.out hbt)
  clear HT_35 HR_38 HPC_36 HBL_37
  have HS_45 := Lib.hid hrw
  clear hrw hbt
  have HE_46 := Lib.hid (eqRb HR_42.out HS_45.out (by omega) (by omega) cR cS)
  go_wp2_with (fail)
  (with_reducible refine HE_46.out.mono ?_)
  clear HE_46
  rintro e w4 ⟨rfl, hbt⟩
  rw [beq_self_eq_true]
  have HT_47 := Lib.hid (HT_41.out.below hbt)
  have HR_48 := Lib.hid (HR_42.out.below hbt)
  have HS_49 := Lib.hid (HS_45.out.below hbt)
  have HPC_50 := Lib.hid (HPC_43.out.below hbt)
  have HBL_51 := Lib.hid (up HBL_44.out hbt)
  clear HT_41 HR_42 HS_45 HPC_43 HBL_44
  clear hbt
  clear HS_49
  have hq0 : ((n1 : Int) == 0) = false := by simp; omega
  have k_52 := HPC_50.out.k0
  have k_53 := HPC_50.out.k1
  go_wp2_with (fail)
  (with_reducible refine (HPC_50.out.earlyI HT_47.out (by omega)).mono ?_)
  rw [HER.out]
  rintro e w5 ⟨AE, cE, rfl, hrw, hbt⟩
  rw [hel] at hrw ⊢
  clear k_52 k_53
  have HT_54 := Lib.hid (HT_47.out.below hbt)
  have HR_55 := Lib.hid (HR_48.out.below hbt)
  have HPC_56 := Lib.hid (HPC_50.out.below hbt)
  have HBL_57 := Lib.hid (up HBL_51.out hbt)
  clear HT_47 HR_48 HPC_50 HBL_51
  have HE_58 := Lib.hid hrw
  clear hrw hbt
  clear hsl hel
  go_wp2
  have HALL := Lib.hid (show Rb w5 A1 n1 (ts) ∧ Rb w5 AR n1 ((slackOf ns fs ts)) ∧ Rb w5 AE n1 ((earlyOf ns fs ts)) ∧ Pc w5 w1.heap.size An n1 cn Af lf cf ns fs ∧ Below w.heap.size w w5 from ⟨HT_54.out, HR_55.out, HE_58.out, HPC_56.out, HBL_57.out⟩)
  clear HT_54 HR_55 HE_58 HPC_56 HBL_57
  go_loopw [7] (fun iv wr => ∃ (k : Nat), k ≤ lf ∧ iv = .int .i64 k ∧ Hid (Rb wr A1 n1 (ts) ∧ Rb wr AR n1 ((slackOf ns fs ts)) ∧ Rb wr AE n1 ((earlyOf ns fs ts)) ∧ Pc wr w1.heap.size An n1 cn Af lf cf ns fs ∧ Below w.heap.size w wr))
    (fun iv _ => lf - (intOf iv).toNat)
  case atStart => exact ⟨0, by omega, rfl, HALL⟩
  case round =>
    clear HALL
    obtain ⟨k, hk, rfl, HALL⟩ := hrel
    have HT_59 := Lib.hid HALL.out.1
    have HR_60 := Lib.hid HALL.out.2.1
    have HE_61 := Lib.hid HALL.out.2.2.1
    have HPC_62 := Lib.hid HALL.out.2.2.2.1
    have HBL_63 := Lib.hid HALL.out.2.2.2.2
    clear HALL
    have k_64 := HPC_62.out.k0
    have k_65 := HPC_62.out.k1
    by_cases hkn : k < lf
    · skip
      obtain ⟨bf, off, x, y, ps, Aw, mw, cw, hAf, hbf, _, hgf, hfx, hfy, hfz, _, _⟩ := HPC_62.out.prs.flows.at hkn
      subst hAf
      obtain ⟨hi1, hi2, hi3, hi4⟩ := HIN.out _ (List.mem_of_getElem? hgf)
      simp only at hi1 hi2 hi3 hi4
      obtain ⟨kx, rfl⟩ := Int.eq_ofNat_of_zero_le hi1
      obtain ⟨ky, rfl⟩ := Int.eq_ofNat_of_zero_le hi3
      have hkx : kx < n1 := by omega
      have hky : ky < n1 := by omega
      have HES := Lib.hid (show (kx, ky) ∈ esOf fs from by
        have := List.mem_of_getElem? (esOf_at hgf)
        simpa using this)
      have hFB := Blk.new wr 46 #[.int .i64 (kx : Int), .int .i64 (ky : Int), .slice Aw mw cw]
      have hf0 := hFB.cell 0
      have hf1 := hFB.cell 1
      simp only [List.getElem?_toArray, List.getElem?_cons_zero, List.getElem?_cons_succ] at hf0 hf1
      clear hFB
      obtain ⟨hsa, hsv0, hsv1⟩ := HSA.out kx ky HES.out hkx hky
      have hea := HP.out.early ky
      have hex := HP.out.early kx
      have ht := vTimes_at HP.out.t kx
      have hal := up_alloc (Below.refl _ wr) (.cells #[.int .i64 (kx : Int), .int .i64 (ky : Int), .slice Aw mw cw] 46)
      have HT_66 := Lib.hid (HT_59.out.below hal)
      have HR_67 := Lib.hid (HR_60.out.below hal)
      have HE_68 := Lib.hid (HE_61.out.below hal)
      have HPC_69 := Lib.hid (HPC_62.out.below hal)
      have HBL_70 := Lib.hid (up HBL_63.out hal)
      clear HT_59 HR_60 HE_61 HPC_62 HBL_63
      clear hal
      obtain ⟨b1, o1, hA1, hb1, hc1⟩ := HR_67.out.one hkx
      subst hA1
      obtain ⟨b2, o2, hA2, hb2, hc2⟩ := HE_68.out.one hky
      subst hA2
      obtain ⟨b4, o4, hA4, hb4, hc4⟩ := HT_66.out.one hkx
      subst hA4
      obtain ⟨_, _, hA5, _, hc5⟩ := HR_67.out.one hky
      injection hA5 with hA5; injection hA5 with e1 e2 _
      subst e1; subst e2
      obtain ⟨_, _, hA6, _, hc6⟩ := HE_68.out.one hkx
      injection hA6 with hA6; injection hA6 with e1 e2 _
      subst e1; subst e2
      generalize beg (slackOf ns fs ts) kx = sx at *
      generalize beg (slackOf ns fs ts) ky = sy at *
      generalize beg (earlyOf ns fs ts) kx = ex at *
      generalize beg (earlyOf ns fs ts) ky = ey at *
      generalize beg ts kx = tx at *
      have hw1 : IntKind.i64.wrap (ey - ex) = ey - ex := IntWalk.i64_in _ (by omega)
      have hw2 : IntKind.i64.wrap (ey - ex - tx) = ey - ex - tx := IntWalk.i64_in _ (by omega)
      have hw3 : IntKind.i64.wrap (ey - ex - tx + sy) = ey - ex - tx + sy := IntWalk.i64_in _ (by omega)
      have hgt : decide (ey - ex - tx + sy < sx) = false := decide_eq_false (by omega)
      have h0k : (0 : Int) ≤ (k : Int) := by omega
      have h1k : (k : Int) < (lf : Int) := by omega
      have h0kx : (0 : Int) ≤ (kx : Int) := by omega
      have h1kx : (kx : Int) < (n1 : Int) := by omega
      have h0ky : (0 : Int) ≤ (ky : Int) := by omega
      have h1ky : (ky : Int) < (n1 : Int) := by omega
      have HX : Hid (∀ j : Nat, Rb ((wr.alloc (.cells #[.int .i64 (kx : Int), .int .i64 (ky : Int), .slice Aw mw cw] 46)).drewN j) (some ⟨b4, o4, none⟩) n1 (ts) ∧ Rb ((wr.alloc (.cells #[.int .i64 (kx : Int), .int .i64 (ky : Int), .slice Aw mw cw] 46)).drewN j) (some ⟨b1, o1, none⟩) n1 ((slackOf ns fs ts)) ∧ Rb ((wr.alloc (.cells #[.int .i64 (kx : Int), .int .i64 (ky : Int), .slice Aw mw cw] 46)).drewN j) (some ⟨b2, o2, none⟩) n1 ((earlyOf ns fs ts)) ∧ Pc ((wr.alloc (.cells #[.int .i64 (kx : Int), .int .i64 (ky : Int), .slice Aw mw cw] 46)).drewN j) w1.heap.size An n1 cn (some ⟨bf, off, none⟩) lf cf ns fs ∧ Below w.heap.size w ((wr.alloc (.cells #[.int .i64 (kx : Int), .int .i64 (ky : Int), .slice Aw mw cw] 46)).drewN j)) := fun j => ⟨HT_66.out.below (up_drewN (Below.refl _ (wr.alloc (.cells #[.int .i64 (kx : Int), .int .i64 (ky : Int), .slice Aw mw cw] 46))) j), HR_67.out.below (up_drewN (Below.refl _ (wr.alloc (.cells #[.int .i64 (kx : Int), .int .i64 (ky : Int), .slice Aw mw cw] 46))) j), HE_68.out.below (up_drewN (Below.refl _ (wr.alloc (.cells #[.int .i64 (kx : Int), .int .i64 (ky : Int), .slice Aw mw cw] 46))) j), HPC_69.out.below (up_drewN (Below.refl _ (wr.alloc (.cells #[.int .i64 (kx : Int), .int .i64 (ky : Int), .slice Aw mw cw] 46))) j), up HBL_70.out (up_drewN (Below.refl _ (wr.alloc (.cells #[.int .i64 (kx : Int), .int .i64 (ky : Int), .slice Aw mw cw] 46))) j)⟩
      clear HT_66 HR_67 HE_68 HPC_69 HBL_70
      clear hgf
      go_wp2_with (fail)
      go_quiet (fail)
      go_wp2
      go_roundw
      case rel => exact ⟨k + 1, by omega, by go_num, HX.out _⟩
      case measure => simp [intOf]; omega
    · obtain rfl : k = lf := by omega
      go_wp2
      go_ret
      exact ⟨rfl, HBL_63.out⟩
end Go.Proofs.Ytdjpffmnohnpaaa
