/- The law FnCriticalNodesWay, walked: it returns true. (Written by gen/lawplan.py.) -/
import Derived.Test.YtonlkodenfiljaaLawPlan0
import Derived.Test.YtonlkodenfiljaaTokTakenS1
import Derived.Test.YtonlkodenfiljaaPlanSum
import Derived.Deep.RegionLaw
import Derived.Deep.RegionHeld3
import Derived.BigQuiet
import Derived.BigRegion
import Derived.Lib.MinMax
set_option linter.unusedSimpArgs false
set_option linter.unusedVariables false
namespace Go.Proofs.Ytonlkodenfiljaa
open Go.RowKit

/-- Whether the way to o is asked for, by the first k flows. -/
def wayB (fs : List Flw) (L at_ ts : List Int) (o k : Nat) : Bool := (beg at_ o == 0) || (fs.take k).any fun f => ((f.2.1 == (o : Int)) && inL L f.1) && (beg at_ f.1.toNat + beg ts f.1.toNat == beg at_ o)
theorem wayB_step {fs : List Flw} {L at_ ts : List Int} {o k : Nat} {f : Flw} (h : fs[k]? = some f) : wayB fs L at_ ts o (k + 1) = (wayB fs L at_ ts o k || (((f.2.1 == (o : Int)) && inL L f.1) && (beg at_ f.1.toNat + beg ts f.1.toNat == beg at_ o))) := by
  unfold wayB; rw [take_snoc h, List.any_append, Bool.or_assoc]; simp
theorem wayB_all {ns : List (Int × Int)} {fs : List Flw} {ts : List Int} (h : Plan ns fs ts) {o : Nat} (ho : o < ns.length) (h0 : beg (slackOf ns fs ts) o = 0) : wayB fs (critOf ns fs ts) (earlyOf ns fs ts) ts o fs.length = true := by
  unfold wayB
  rw [List.take_length]
  rw [slackOf_at ho] at h0
  rcases h.way ho (by omega) with h1 | ⟨u, hu, he, hl⟩
  · rw [h1]; rfl
  · rw [Bool.or_eq_true]; right
    obtain ⟨f, hf, e⟩ := List.mem_map.1 hu
    injection e with e1 e2
    have hin := vProc_inside h.v f hf
    have hu' : u < ns.length := (esOf_ins (vProc_inside h.v) _ hu).1
    refine List.any_eq_true.2 ⟨f, hf, ?_⟩
    have h2 : f.2.1 = (o : Int) := by omega
    have h3 : f.1 = (u : Int) := by omega
    have h4 : inL (critOf ns fs ts) (u : Int) = true := by
      rw [show critOf ns fs ts = critUp (slackOf ns fs ts) ns.length from rfl, critUp_isIn hu', slackOf_at hu']
      simp; omega
    rw [h2, h3, Int.toNat_natCast, h4, he]; simp
theorem crit_at {ns : List (Int × Int)} {fs : List Flw} {ts : List Int} (h : Plan ns fs ts) {i : Nat} (hi : i < (critOf ns fs ts).length) : ∃ o : Nat, beg (critOf ns fs ts) i = (o : Int) ∧ o < ns.length ∧ wayB fs (critOf ns fs ts) (earlyOf ns fs ts) ts o fs.length = true := by
  obtain ⟨o, h1, h2, h3⟩ := critUp_mem.1 (show (critOf ns fs ts)[i] ∈ critUp (slackOf ns fs ts) ns.length from List.getElem_mem hi)
  exact ⟨o, (beg_at (List.getElem?_eq_getElem hi)).trans h1, h2, wayB_all h h2 h3⟩

set_option maxRecDepth 100000 in
set_option maxHeartbeats 6400000 in
theorem lawCriticalNodesWay_any (n c : Nat) (A : Option Addr) (xs : List Int) (w : World) (hr : Rd w 0 w.heap.size 1 A n (bvs xs)) (hby : Bytes xs) (hc : n ≤ c) (hc2 : c ≤ 9223372036854775807) :
    Calls Try.prog 5 #[.slice A n c] w fun e w' => e = .returned (.bool true) ∧ Below w.heap.size w w' := by
  by_cases hbig : (1048576 : Int) < n
  · go_enter Try.func5, Try.ntmps5
    go_wp2
    go_ret
    exact ⟨rfl, Below.refl _ _⟩
  go_enter Try.func5, Try.ntmps5
  go_wp2_with (fail)
  (with_reducible refine (drawCriticalNodes_any n c A xs w hr hby (by omega) hc hc2).mono ?_)
  have hn9 : n ≤ 1048576 := by omega
  clear hbig
  rintro e w1 ⟨An, nn, cn, Af, lf, cf, ns, fs, A1, n1, c1, ts, rfl, hn1, hP, hM, hb1⟩
  have hn21 := hP.n21
  have hf21 := hP.f21
  have hba := up_alloc (Below.refl _ w1) (.cells #[.slice An nn cn, .slice Af lf cf] 26)
  have HPC0 := Lib.hid (Pc.new (hP.wide (Nat.zero_le _) (Nat.le_refl _)))
  have HT0 := Lib.hid (show Rb (w1.alloc (.cells #[.slice An nn cn, .slice Af lf cf] 26)) A1 n1 ts from ⟨w1.heap.size, (hM.wide (Nat.zero_le _) (Nat.le_refl _)).keep hba (Nat.le_refl _), hba.size⟩)
  have HBL0 := Lib.hid (up hb1 hba)
  clear hP hM hb1 hba
  have hlf := HPC0.out.flen
  have hln := HPC0.out.nlen
  have HLF := Lib.hid hlf
  have HLN := Lib.hid hln
  clear hlf hln
  cases hU : planOk ns fs ts with
  | false =>
    have HR := Lib.hid (critR_no hU)
    clear hU
    have k_1 := HPC0.out.k0
    have k_2 := HPC0.out.k1
    go_wp2_with (fail)
    (with_reducible refine (HPC0.out.critI HT0.out (by omega)).mono ?_)
    rw [HR.out]
    rintro e w2 ⟨AR, cR, rfl, hrw, hbt⟩
    rw [List.length_nil] at hrw ⊢
    clear k_1 k_2
    have HT_3 := Lib.hid (HT0.out.below hbt)
    have HPC_4 := Lib.hid (HPC0.out.below hbt)
    have HBL_5 := Lib.hid (up HBL0.out hbt)
    clear HT0 HPC0 HBL0
    have HR_6 := Lib.hid hrw
    clear hrw hbt
    have k_7 := HPC_4.out.k0
    have k_8 := HPC_4.out.k1
    go_wp2_with (fail)
    (with_reducible refine (HPC_4.out.critS HT_3.out (by omega)).mono ?_)
    rw [HR.out]
    rintro e w3 ⟨AS, cS, rfl, hrw, hbt⟩
    rw [List.length_nil] at hrw ⊢
    clear k_7 k_8
    have HT_9 := Lib.hid (HT_3.out.below hbt)
    have HR_10 := Lib.hid (HR_6.out.below hbt)
    have HPC_11 := Lib.hid (HPC_4.out.below hbt)
    have HBL_12 := Lib.hid (up HBL_5.out hbt)
    clear HT_3 HR_6 HPC_4 HBL_5
    have HS_13 := Lib.hid hrw
    clear hrw hbt
    have HE_14 := Lib.hid (eqRb HR_10.out HS_13.out (by omega) (by omega) cR cS)
    go_wp2_with (fail)
    (with_reducible refine HE_14.out.mono ?_)
    clear HE_14
    rintro e w4 ⟨rfl, hbt⟩
    rw [beq_self_eq_true]
    have HT_15 := Lib.hid (HT_9.out.below hbt)
    have HR_16 := Lib.hid (HR_10.out.below hbt)
    have HS_17 := Lib.hid (HS_13.out.below hbt)
    have HPC_18 := Lib.hid (HPC_11.out.below hbt)
    have HBL_19 := Lib.hid (up HBL_12.out hbt)
    clear HT_9 HR_10 HS_13 HPC_11 HBL_12
    clear hbt
    clear HS_17
    have k_20 := HPC_18.out.k0
    have k_21 := HPC_18.out.k1
    go_wp2_with (fail)
    (with_reducible refine (HPC_18.out.critS HT_15.out (by omega)).mono ?_)
    rw [HR.out]
    rintro e w5 ⟨AS2, cS2, rfl, hrw, hbt⟩
    rw [List.length_nil] at hrw ⊢
    clear k_20 k_21
    have HT_22 := Lib.hid (HT_15.out.below hbt)
    have HR_23 := Lib.hid (HR_16.out.below hbt)
    have HPC_24 := Lib.hid (HPC_18.out.below hbt)
    have HBL_25 := Lib.hid (up HBL_19.out hbt)
    clear HT_15 HR_16 HPC_18 HBL_19
    have HS2_26 := Lib.hid hrw
    clear hrw hbt
    have HE_27 := Lib.hid (eqRb HR_23.out HS2_26.out (by omega) (by omega) cR cS2)
    go_wp2_with (fail)
    (with_reducible refine HE_27.out.mono ?_)
    clear HE_27
    rintro e w6 ⟨rfl, hbt⟩
    rw [beq_self_eq_true]
    have HT_28 := Lib.hid (HT_22.out.below hbt)
    have HR_29 := Lib.hid (HR_23.out.below hbt)
    have HS2_30 := Lib.hid (HS2_26.out.below hbt)
    have HPC_31 := Lib.hid (HPC_24.out.below hbt)
    have HBL_32 := Lib.hid (up HBL_25.out hbt)
    clear HT_22 HR_23 HS2_26 HPC_24 HBL_25
    clear hbt
    go_wp2
    go_ret
    exact ⟨rfl, HBL_32.out⟩
  | true =>
  have HR := Lib.hid (critR_yes hU)
  have HP := Lib.hid (plan_of hU)
  have hnt : n1 = nn := by have h1 := vTimes_len HP.out.t; have h2 := HT0.out.len; have h3 := HLN.out; omega
  subst hnt
  have hn10 : n1 ≤ 10 := by have := (vProc_len HP.out.v).2.1; have := HLN.out; omega
  have hn2 : 2 ≤ n1 := by have := (vProc_len HP.out.v).1; have := HLN.out; omega
  have HER := Lib.hid (earlyR_yes hU)
  clear hU
  have hel : (earlyOf ns fs ts).length = n1 := by rw [earlyOf_len]; exact HLN.out
  have hcl : ∃ m, (critOf ns fs ts).length = m ∧ 1 ≤ m ∧ m ≤ n1 := by
    refine ⟨_, rfl, ?_, ?_⟩
    · obtain ⟨v, hv, h0⟩ := HP.out.someCrit
      exact critUp_pos hv h0
    · have := critUp_le (slackOf ns fs ts) ns.length
      have h2 := HLN.out
      unfold critOf; omega
  obtain ⟨m, hcl, hm1, hm2⟩ := hcl
  have HIN := Lib.hid (show Inside fs n1 from by have := vProc_inside HP.out.v; rwa [HLN.out] at this)
  have HCM := Lib.hid (show ∀ i, i < m → ∃ o : Nat, beg (critOf ns fs ts) i = (o : Int) ∧ o < n1 ∧ wayB fs (critOf ns fs ts) (earlyOf ns fs ts) ts o fs.length = true from fun i hi => by
    have := crit_at HP.out (i := i) (by omega)
    rwa [HLN.out] at this)
  have k_33 := HPC0.out.k0
  have k_34 := HPC0.out.k1
  go_wp2_with (fail)
  (with_reducible refine (HPC0.out.critI HT0.out (by omega)).mono ?_)
  rw [HR.out]
  rintro e w2 ⟨AR, cR, rfl, hrw, hbt⟩
  rw [hcl] at hrw ⊢
  clear k_33 k_34
  have HT_35 := Lib.hid (HT0.out.below hbt)
  have HPC_36 := Lib.hid (HPC0.out.below hbt)
  have HBL_37 := Lib.hid (up HBL0.out hbt)
  clear HT0 HPC0 HBL0
  have HR_38 := Lib.hid hrw
  clear hrw hbt
  have k_39 := HPC_36.out.k0
  have k_40 := HPC_36.out.k1
  go_wp2_with (fail)
  (with_reducible refine (HPC_36.out.critS HT_35.out (by omega)).mono ?_)
  rw [HR.out]
  rintro e w3 ⟨AS, cS, rfl, hrw, hbt⟩
  rw [hcl] at hrw ⊢
  clear k_39 k_40
  have HT_41 := Lib.hid (HT_35.out.below hbt)
  have HR_42 := Lib.hid (HR_38.out.below hbt)
  have HPC_43 := Lib.hid (HPC_36.out.below hbt)
  have HBL_44 := Lib.hid (up HBL_37.out hbt)
  clear HT_35 HR_38 HPC_36 HBL_37
  have HS_45 := Lib.hid hrw
  clear hrw hbt
  have HE_46 := Lib.hid (eqRb HR_42.out HS_45.out (by omega) (by omega) cR cS)
  go_wp2_with (fail)
  (with_reducible refine HE_46.out.mono ?_)
  clear HE_46
  rintro e w4 ⟨rfl, hbt⟩
  rw [beq_self_eq_true]
  have HT_47 := Lib.hid (HT_41.out.below hbt)
  have HR_48 := Lib.hid (HR_42.out.below hbt)
  have HS_49 := Lib.hid (HS_45.out.below hbt)
  have HPC_50 := Lib.hid (HPC_43.out.below hbt)
  have HBL_51 := Lib.hid (up HBL_44.out hbt)
  clear HT_41 HR_42 HS_45 HPC_43 HBL_44
  clear hbt
  clear HS_49
  have hq0 : ((m : Int) == 0) = false := by simp; omega
  clear hcl
  have k_52 := HPC_50.out.k0
  have k_53 := HPC_50.out.k1
  go_wp2_with (fail)
  (with_reducible refine (HPC_50.out.earlyI HT_47.out (by omega)).mono ?_)
  rw [HER.out]
  rintro e w5 ⟨AE, cE, rfl, hrw, hbt⟩
  rw [hel] at hrw ⊢
  clear k_52 k_53
  have HT_54 := Lib.hid (HT_47.out.below hbt)
  have HR_55 := Lib.hid (HR_48.out.below hbt)
  have HPC_56 := Lib.hid (HPC_50.out.below hbt)
  have HBL_57 := Lib.hid (up HBL_51.out hbt)
  clear HT_47 HR_48 HPC_50 HBL_51
  have HE_58 := Lib.hid hrw
  clear hrw hbt
  clear hel
  go_wp2
  have HALL := Lib.hid (show Rb w5 A1 n1 (ts) ∧ Rb w5 AR m ((critOf ns fs ts)) ∧ Rb w5 AE n1 ((earlyOf ns fs ts)) ∧ Pc w5 w1.heap.size An n1 cn Af lf cf ns fs ∧ Below w.heap.size w w5 from ⟨HT_54.out, HR_55.out, HE_58.out, HPC_56.out, HBL_57.out⟩)
  clear HT_54 HR_55 HE_58 HPC_56 HBL_57
  go_loopw [7] (fun iv wr => ∃ (i : Nat), i ≤ m ∧ iv = .int .i64 i ∧ Hid (Rb wr A1 n1 (ts) ∧ Rb wr AR m ((critOf ns fs ts)) ∧ Rb wr AE n1 ((earlyOf ns fs ts)) ∧ Pc wr w1.heap.size An n1 cn Af lf cf ns fs ∧ Below w.heap.size w wr))
    (fun iv _ => m - (intOf iv).toNat)
  case atStart => exact ⟨0, by omega, rfl, HALL⟩
  case round =>
    clear HALL
    obtain ⟨i, hi, rfl, HALL⟩ := hrel
    have HT_59 := Lib.hid HALL.out.1
    have HR_60 := Lib.hid HALL.out.2.1
    have HE_61 := Lib.hid HALL.out.2.2.1
    have HPC_62 := Lib.hid HALL.out.2.2.2.1
    have HBL_63 := Lib.hid HALL.out.2.2.2.2
    clear HALL
    by_cases hin : i < m
    · skip
      obtain ⟨o, hco, hon, hwa⟩ := HCM.out i hin
      have HCO := Lib.hid hco
      have HWA := Lib.hid hwa
      clear hco hwa
      have HEi := Lib.hid (show wayB fs (critOf ns fs ts) (earlyOf ns fs ts) ts o 0 = (beg (earlyOf ns fs ts) o == 0) from by unfold wayB; simp)
      obtain ⟨b1, o1, hA1, hb1, hc1⟩ := HR_60.out.one hin
      subst hA1
      obtain ⟨b2, o2, hA2, hb2, hc2⟩ := HE_61.out.one hon
      subst hA2
      rw [HCO.out] at hc1
      have gl0 : decide ((o : Int) < 0) = false := decide_eq_false (by omega)
      have gl1 : decide ((n1 : Int) ≤ (o : Int)) = false := decide_eq_false (by omega)
      have gl2 : decide (n1 ≤ o) = false := decide_eq_false (by omega)
      have h0i : (0 : Int) ≤ (i : Int) := by omega
      have h1i : (i : Int) < (m : Int) := by omega
      have h0o : (0 : Int) ≤ (o : Int) := by omega
      have h1o : (o : Int) < (n1 : Int) := by omega
      have HALL := Lib.hid (show Rb wr A1 n1 (ts) ∧ Rb wr (some ⟨b1, o1, none⟩) m ((critOf ns fs ts)) ∧ Rb wr (some ⟨b2, o2, none⟩) n1 ((earlyOf ns fs ts)) ∧ Pc wr w1.heap.size An n1 cn Af lf cf ns fs ∧ Below w.heap.size w wr from ⟨HT_59.out, HR_60.out, HE_61.out, HPC_62.out, HBL_63.out⟩)
      clear HT_59 HR_60 HE_61 HPC_62 HBL_63
      go_wp2
      clear hc1 hc2
      rw [← HEi.out]
      generalize wr = wo at *
      go_loopw [8, 9] (fun sv jv wr => ∃ (j : Nat), j ≤ lf ∧ jv = .int .i64 j ∧ sv = .bool (wayB fs (critOf ns fs ts) (earlyOf ns fs ts) ts o j) ∧ Hid (Rb wr A1 n1 (ts) ∧ Rb wr (some ⟨b1, o1, none⟩) m ((critOf ns fs ts)) ∧ Rb wr (some ⟨b2, o2, none⟩) n1 ((earlyOf ns fs ts)) ∧ Pc wr w1.heap.size An n1 cn Af lf cf ns fs ∧ Below w.heap.size w wr))
        (fun _ jv _ => lf - (intOf jv).toNat)
      case atStart => exact ⟨0, by omega, rfl, rfl, HALL⟩
      case round =>
        clear HALL
        obtain ⟨j, hj, rfl, rfl, HALL⟩ := hrel
        have HT_64 := Lib.hid HALL.out.1
        have HR_65 := Lib.hid HALL.out.2.1
        have HE_66 := Lib.hid HALL.out.2.2.1
        have HPC_67 := Lib.hid HALL.out.2.2.2.1
        have HBL_68 := Lib.hid HALL.out.2.2.2.2
        clear HALL
        have k_69 := HPC_67.out.k0
        have k_70 := HPC_67.out.k1
        by_cases hjn : j < lf
        · skip
          obtain ⟨bf, off, x, y, ps, Aw, mw, cw, hAf, hbf, _, hgf, hfx, hfy, hfz, _, _⟩ := HPC_67.out.prs.flows.at hjn
          subst hAf
          obtain ⟨hi1, hi2, hi3, hi4⟩ := HIN.out _ (List.mem_of_getElem? hgf)
          simp only at hi1 hi2 hi3 hi4
          obtain ⟨kx, rfl⟩ := Int.eq_ofNat_of_zero_le hi1
          obtain ⟨ky, rfl⟩ := Int.eq_ofNat_of_zero_le hi3
          have hkx : kx < n1 := by omega
          have hky : ky < n1 := by omega
          have HES := Lib.hid (show (kx, ky) ∈ esOf fs from by
            have := List.mem_of_getElem? (esOf_at hgf)
            simpa using this)
          have hFB := Blk.new wr 37 #[.int .i64 (kx : Int), .int .i64 (ky : Int), .slice Aw mw cw]
          have hf0 := hFB.cell 0
          have hf1 := hFB.cell 1
          simp only [List.getElem?_toArray, List.getElem?_cons_zero, List.getElem?_cons_succ] at hf0 hf1
          clear hFB
          have HST := Lib.hid (wayB_step (L := critOf ns fs ts) (at_ := earlyOf ns fs ts) (ts := ts) (o := o) hgf)
          simp only [Int.toNat_natCast] at HST
          generalize wayB fs (critOf ns fs ts) (earlyOf ns fs ts) ts o j = sb at *
          have hex := HP.out.early kx
          have ht := vTimes_at HP.out.t kx
          have hal := up_alloc (Below.refl _ wr) (.cells #[.int .i64 (kx : Int), .int .i64 (ky : Int), .slice Aw mw cw] 37)
          have HT_71 := Lib.hid (HT_64.out.below hal)
          have HR_72 := Lib.hid (HR_65.out.below hal)
          have HE_73 := Lib.hid (HE_66.out.below hal)
          have HPC_74 := Lib.hid (HPC_67.out.below hal)
          have HBL_75 := Lib.hid (up HBL_68.out hal)
          clear HT_64 HR_65 HE_66 HPC_67 HBL_68
          clear hal
          obtain ⟨_, _, hA5, _, hc5⟩ := HE_73.out.one hkx
          injection hA5 with hA5; injection hA5 with e1 e2 _
          subst e1; subst e2
          obtain ⟨_, _, hA6, _, hc6⟩ := HE_73.out.one hon
          injection hA6 with hA6; injection hA6 with e1 e2 _
          subst e1; subst e2
          obtain ⟨_, _, hA7, _, hc7⟩ := HR_72.out.one hin
          injection hA7 with hA7; injection hA7 with e1 e2 _
          subst e1; subst e2
          rw [HCO.out] at hc7
          obtain ⟨b3, o3, hA3, hb3, hc3⟩ := HT_71.out.one hkx
          subst hA3
          have h0j : (0 : Int) ≤ (j : Int) := by omega
          have h1j : (j : Int) < (lf : Int) := by omega
          have h0kx : (0 : Int) ≤ (kx : Int) := by omega
          have h1kx : (kx : Int) < (n1 : Int) := by omega
          have h0ky : (0 : Int) ≤ (ky : Int) := by omega
          have h1ky : (ky : Int) < (n1 : Int) := by omega
          have HX : Hid (∀ j : Nat, Rb ((wr.alloc (.cells #[.int .i64 (kx : Int), .int .i64 (ky : Int), .slice Aw mw cw] 37)).drewN j) (some ⟨b3, o3, none⟩) n1 (ts) ∧ Rb ((wr.alloc (.cells #[.int .i64 (kx : Int), .int .i64 (ky : Int), .slice Aw mw cw] 37)).drewN j) (some ⟨b1, o1, none⟩) m ((critOf ns fs ts)) ∧ Rb ((wr.alloc (.cells #[.int .i64 (kx : Int), .int .i64 (ky : Int), .slice Aw mw cw] 37)).drewN j) (some ⟨b2, o2, none⟩) n1 ((earlyOf ns fs ts)) ∧ Pc ((wr.alloc (.cells #[.int .i64 (kx : Int), .int .i64 (ky : Int), .slice Aw mw cw] 37)).drewN j) w1.heap.size An n1 cn (some ⟨bf, off, none⟩) lf cf ns fs ∧ Below w.heap.size w ((wr.alloc (.cells #[.int .i64 (kx : Int), .int .i64 (ky : Int), .slice Aw mw cw] 37)).drewN j)) := fun j => ⟨HT_71.out.below (up_drewN (Below.refl _ (wr.alloc (.cells #[.int .i64 (kx : Int), .int .i64 (ky : Int), .slice Aw mw cw] 37))) j), HR_72.out.below (up_drewN (Below.refl _ (wr.alloc (.cells #[.int .i64 (kx : Int), .int .i64 (ky : Int), .slice Aw mw cw] 37))) j), HE_73.out.below (up_drewN (Below.refl _ (wr.alloc (.cells #[.int .i64 (kx : Int), .int .i64 (ky : Int), .slice Aw mw cw] 37))) j), HPC_74.out.below (up_drewN (Below.refl _ (wr.alloc (.cells #[.int .i64 (kx : Int), .int .i64 (ky : Int), .slice Aw mw cw] 37))) j), up HBL_75.out (up_drewN (Below.refl _ (wr.alloc (.cells #[.int .i64 (kx : Int), .int .i64 (ky : Int), .slice Aw mw cw] 37))) j)⟩
          have HIC := Lib.hid (show ∀ j : Nat, Calls Try.prog 15 #[.slice (some ⟨b1, o1, none⟩) m cR, .int .i64 (kx : Int)] ((wr.alloc (.cells #[.int .i64 (kx : Int), .int .i64 (ky : Int), .slice Aw mw cw] 37)).drewN j) fun e w' => e = .returned (.bool (inL (critOf ns fs ts) (kx : Int))) ∧ w' = (wr.alloc (.cells #[.int .i64 (kx : Int), .int .i64 (ky : Int), .slice Aw mw cw] 37)).drewN j from fun j => (inRb (HR_72.out.below (up_drewN (Below.refl _ (wr.alloc (.cells #[.int .i64 (kx : Int), .int .i64 (ky : Int), .slice Aw mw cw] 37))) j)) (by omega) (kx : Int) cR).mono fun _ _ h => ⟨h.1, h.2.symm⟩)
          clear HT_71 HR_72 HE_73 HPC_74 HBL_75
          clear hgf
          generalize inL (critOf ns fs ts) (kx : Int) = ib at *
          generalize beg (earlyOf ns fs ts) kx = ex at *
          generalize beg (earlyOf ns fs ts) o = eo at *
          generalize beg ts kx = tx at *
          have hwr : IntKind.i64.wrap (ex + tx) = ex + tx := IntWalk.i64_in _ (by omega)
          cases sb with
          | true =>
            go_wp2_with (fail)
            go_quiet ((go_at_call 15; with_reducible exact Calls.quiet_of_same (HIC.out _)))
            go_wp2
            go_roundw
            case rel => exact ⟨j + 1, by omega, by go_num, by rw [HST.out]; rfl, HX.out _⟩
            case measure => simp [intOf]; omega
          | false =>
            by_cases hyi : ky = o
            · have hyy : ((ky : Int) == (o : Int)) = true := by subst hyi; simp
              rw [hyy, Bool.true_and] at HST
              clear hyi
              cases ib with
              | true =>
                by_cases hem : ex + tx = eo
                · have hb : (ex + tx == eo) = true := by simpa using hem
                  rw [hb] at HST
                  clear hem
                  go_wp2_with (fail)
                  go_quiet ((go_at_call 15; with_reducible exact Calls.quiet_of_same (HIC.out _)))
                  go_wp2
                  go_roundw
                  case rel => exact ⟨j + 1, by omega, by go_num, by rw [HST.out]; rfl, HX.out _⟩
                  case measure => simp [intOf]; omega
                · have hb : (ex + tx == eo) = false := by simpa using hem
                  rw [hb] at HST
                  clear hem
                  go_wp2_with (fail)
                  go_quiet ((go_at_call 15; with_reducible exact Calls.quiet_of_same (HIC.out _)))
                  go_wp2
                  go_roundw
                  case rel => exact ⟨j + 1, by omega, by go_num, by rw [HST.out]; rfl, HX.out _⟩
                  case measure => simp [intOf]; omega
              | false =>
                rw [Bool.false_and] at HST
                go_wp2_with (fail)
                go_quiet ((go_at_call 15; with_reducible exact Calls.quiet_of_same (HIC.out _)))
                go_wp2
                go_roundw
                case rel => exact ⟨j + 1, by omega, by go_num, by rw [HST.out]; rfl, HX.out _⟩
                case measure => simp [intOf]; omega
            · have hyy : ((ky : Int) == (o : Int)) = false := by simp; omega
              rw [hyy, Bool.false_and, Bool.false_and] at HST
              clear hyi
              go_wp2_with (fail)
              go_quiet ((go_at_call 15; with_reducible exact Calls.quiet_of_same (HIC.out _)))
              go_wp2
              go_roundw
              case rel => exact ⟨j + 1, by omega, by go_num, by rw [HST.out]; rfl, HX.out _⟩
              case measure => simp [intOf]; omega
        · have hjl : lf = j := by omega
          subst hjl
          have hta := HWA.out
          rw [HLF.out] at hta
          rw [hta]
          clear hta
          have HALL := Lib.hid (show Rb wr A1 n1 (ts) ∧ Rb wr (some ⟨b1, o1, none⟩) m ((critOf ns fs ts)) ∧ Rb wr (some ⟨b2, o2, none⟩) n1 ((earlyOf ns fs ts)) ∧ Pc wr w1.heap.size An n1 cn Af lf cf ns fs ∧ Below w.heap.size w wr from ⟨HT_64.out, HR_65.out, HE_66.out, HPC_67.out, HBL_68.out⟩)
          clear HT_64 HR_65 HE_66 HPC_67 HBL_68
          go_wp2
          go_roundw
          case rel => exact ⟨i + 1, by omega, by go_num, HALL⟩
          case measure => simp [intOf]; omega
    · obtain rfl : i = m := by omega
      have k_76 := HPC_62.out.k0
      have k_77 := HPC_62.out.k1
      go_wp2
      go_ret
      exact ⟨rfl, HBL_63.out⟩
end Go.Proofs.Ytonlkodenfiljaa
