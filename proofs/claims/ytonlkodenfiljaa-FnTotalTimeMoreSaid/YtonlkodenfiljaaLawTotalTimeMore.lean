/- The law FnTotalTimeMore, walked: it returns true. (Written by gen/lawplan.py.) -/
import Derived.Test.YtonlkodenfiljaaLawPlan0
import Derived.Test.YtonlkodenfiljaaTokTakenS1
import Derived.Test.YtonlkodenfiljaaPlanSum
import Derived.Deep.RegionLaw
import Derived.Deep.RegionHeld3
import Derived.BigQuiet
import Derived.BigRegion
import Derived.Lib.MinMax
set_option linter.unusedSimpArgs false
set_option linter.unusedVariables false
namespace Go.Proofs.Ytonlkodenfiljaa
open Go.RowKit

/-- Other times of one node: the plan stands. -/
theorem set_ok {ns : List (Int × Int)} {fs : List Flw} {ts : List Int} {k : Nat} {x : Int} (hU : planOk ns fs ts = true) (h0 : 0 ≤ x) (h5 : x ≤ 500) : planOk ns fs (ts.set k x) = true := by
  have h := plan_of hU
  have hv : vTimes ns (ts.set k x) = true := by
    have := h.t
    unfold vTimes at this ⊢
    rw [Bool.and_eq_true, List.all_eq_true] at this ⊢
    refine ⟨by rw [List.length_set]; exact this.1, fun z hz => ?_⟩
    rcases List.mem_or_eq_of_mem_set hz with hz | rfl
    · exact this.2 z hz
    · exact inR_iff.2 ⟨h0, h5⟩
  unfold planOk at hU ⊢
  rw [Bool.and_eq_true] at hU ⊢
  exact ⟨hU.1, hv⟩

set_option maxRecDepth 100000 in
set_option maxHeartbeats 6400000 in
theorem lawTotalTimeMore_any (n c : Nat) (A : Option Addr) (xs : List Int) (w : World) (hr : Rd w 0 w.heap.size 1 A n (bvs xs)) (hby : Bytes xs) (hc : n ≤ c) (hc2 : c ≤ 9223372036854775807) :
    Calls Try.prog 4 #[.slice A n c] w fun e w' => e = .returned (.bool true) ∧ Below w.heap.size w w' := by
  by_cases hbig : (1048576 : Int) < n
  · go_enter Try.func4, Try.ntmps4
    go_wp2
    go_ret
    exact ⟨rfl, Below.refl _ _⟩
  go_enter Try.func4, Try.ntmps4
  go_wp2_with (fail)
  (with_reducible refine (drawTotalTime_any n c A xs w hr hby (by omega) hc hc2).mono ?_)
  have hn9 : n ≤ 1048576 := by omega
  clear hbig
  rintro e w1 ⟨An, nn, cn, Af, lf, cf, ns, fs, A1, n1, c1, ts, rfl, hn1, hP, hM, hb1⟩
  have hn21 := hP.n21
  have hf21 := hP.f21
  have hba := up_alloc (Below.refl _ w1) (.cells #[.slice An nn cn, .slice Af lf cf] 26)
  have HPC0 := Lib.hid (Pc.new (hP.wide (Nat.zero_le _) (Nat.le_refl _)))
  have HT0 := Lib.hid (show Rb (w1.alloc (.cells #[.slice An nn cn, .slice Af lf cf] 26)) A1 n1 ts from ⟨w1.heap.size, (hM.wide (Nat.zero_le _) (Nat.le_refl _)).keep hba (Nat.le_refl _), hba.size⟩)
  have HBL0 := Lib.hid (up hb1 hba)
  clear hP hM hb1 hba
  have hlf := HPC0.out.flen
  have hln := HPC0.out.nlen
  have HLF := Lib.hid hlf
  have HLN := Lib.hid hln
  clear hlf hln
  cases hU : planOk ns fs ts with
  | false =>
    have HR := Lib.hid (totalR_no hU)
    clear hU
    have k_1 := HPC0.out.k0
    have k_2 := HPC0.out.k1
    go_wp2_with (fail)
    (with_reducible refine (HPC0.out.totalI HT0.out (by omega)).mono ?_)
    rintro e w2 ⟨rfl, hbt⟩
    rw [HR.out]
    clear k_1 k_2
    have HT_3 := Lib.hid (HT0.out.below hbt)
    have HPC_4 := Lib.hid (HPC0.out.below hbt)
    have HBL_5 := Lib.hid (up HBL0.out hbt)
    clear HT0 HPC0 HBL0
    clear hbt
    have k_6 := HPC_4.out.k0
    have k_7 := HPC_4.out.k1
    go_wp2_with (fail)
    (with_reducible refine (HPC_4.out.totalS HT_3.out (by omega)).mono ?_)
    rintro e w3 ⟨rfl, hbt⟩
    rw [HR.out]
    clear k_6 k_7
    have HT_8 := Lib.hid (HT_3.out.below hbt)
    have HPC_9 := Lib.hid (HPC_4.out.below hbt)
    have HBL_10 := Lib.hid (up HBL_5.out hbt)
    clear HT_3 HPC_4 HBL_5
    clear hbt
    have k_11 := HPC_9.out.k0
    have k_12 := HPC_9.out.k1
    go_wp2_with (fail)
    (with_reducible refine (HPC_9.out.totalS HT_8.out (by omega)).mono ?_)
    rintro e w4 ⟨rfl, hbt⟩
    rw [HR.out]
    clear k_11 k_12
    have HT_13 := Lib.hid (HT_8.out.below hbt)
    have HPC_14 := Lib.hid (HPC_9.out.below hbt)
    have HBL_15 := Lib.hid (up HBL_10.out hbt)
    clear HT_8 HPC_9 HBL_10
    clear hbt
    go_wp2
    go_ret
    exact ⟨rfl, HBL_15.out⟩
  | true =>
  have HTR := Lib.hid (totalR_yes hU)
  have HP := Lib.hid (plan_of hU)
  have hnt : n1 = nn := by have h1 := vTimes_len HP.out.t; have h2 := HT0.out.len; have h3 := HLN.out; omega
  subst hnt
  have hn10 : n1 ≤ 10 := by have := (vProc_len HP.out.v).2.1; have := HLN.out; omega
  have hn2 : 2 ≤ n1 := by have := (vProc_len HP.out.v).1; have := HLN.out; omega
  have hM := HP.out.totalOf
  have HGE := Lib.hid (show ∀ v, v < n1 → beg (earlyOf ns fs ts) v + beg ts v ≤ totalOf ns fs ts from fun v hv => HP.out.ge (by have := HLN.out; omega))
  have HCR := Lib.hid (critR_yes hU)
  have HU := Lib.hid hU
  clear hU
  have hcl : ∃ m, (critOf ns fs ts).length = m ∧ m ≤ n1 := by
    refine ⟨_, rfl, ?_⟩
    have := critUp_le (slackOf ns fs ts) ns.length
    have h2 := HLN.out
    unfold critOf; omega
  obtain ⟨m, hcl, hm2⟩ := hcl
  have HIS := Lib.hid (show ∀ v, v < n1 → inL (critOf ns fs ts) (v : Int) = (beg (slackOf ns fs ts) v == 0) from fun v hv => critUp_isIn (by have := HLN.out; omega))
  have HBU := Lib.hid (show ∀ k, k < n1 → beg ts k + 1 ≤ 500 → 0 ≤ beg (slackOf ns fs ts) k ∧ totalR ns fs (ts.set k (beg ts k + 1)) = max (totalOf ns fs ts) (totalOf ns fs ts - beg (slackOf ns fs ts) k + 1) from fun k hk h5 => by
    have hk' : k < ns.length := by have := HLN.out; omega
    have h0 := vTimes_at HP.out.t k
    have hs := set_ok (k := k) (x := beg ts k + 1) HU.out (by omega) h5
    rw [totalR_yes hs, HP.out.bump hk' (by omega) (plan_of hs), slackOf_at hk']
    exact ⟨by have := HP.out.slack0 hk'; omega, rfl⟩)
  generalize hM0 : totalOf ns fs ts = M at *
  clear hM0
  obtain ⟨M0, M1⟩ := hM
  have hne : (M != M) = false := by simp
  have hlt : decide (M < 0) = false := decide_eq_false (by omega)
  have htl : ts.length = n1 := HT0.out.len
  have k_16 := HPC0.out.k0
  have k_17 := HPC0.out.k1
  go_wp2_with (fail)
  (with_reducible refine (HPC0.out.totalI HT0.out (by omega)).mono ?_)
  rintro e w2 ⟨rfl, hbt⟩
  rw [HTR.out]
  clear k_16 k_17
  have HT_18 := Lib.hid (HT0.out.below hbt)
  have HPC_19 := Lib.hid (HPC0.out.below hbt)
  have HBL_20 := Lib.hid (up HBL0.out hbt)
  clear HT0 HPC0 HBL0
  clear hbt
  have k_21 := HPC_19.out.k0
  have k_22 := HPC_19.out.k1
  go_wp2_with (fail)
  (with_reducible refine (HPC_19.out.totalS HT_18.out (by omega)).mono ?_)
  rintro e w3 ⟨rfl, hbt⟩
  rw [HTR.out]
  clear k_21 k_22
  have HT_23 := Lib.hid (HT_18.out.below hbt)
  have HPC_24 := Lib.hid (HPC_19.out.below hbt)
  have HBL_25 := Lib.hid (up HBL_20.out hbt)
  clear HT_18 HPC_19 HBL_20
  clear hbt
  go_wp2
  have HALL := Lib.hid (show Rb w3 A1 n1 (ts) ∧ Pc w3 w1.heap.size An n1 cn Af lf cf ns fs ∧ Below w.heap.size w w3 from ⟨HT_23.out, HPC_24.out, HBL_25.out⟩)
  clear HT_23 HPC_24 HBL_25
  go_loopw [6] (fun iv wr => ∃ (k : Nat), k ≤ n1 ∧ iv = .int .i64 k ∧ Hid (Rb wr A1 n1 (ts) ∧ Pc wr w1.heap.size An n1 cn Af lf cf ns fs ∧ Below w.heap.size w wr))
    (fun iv _ => n1 - (intOf iv).toNat)
  case atStart => exact ⟨0, by omega, rfl, HALL⟩
  case round =>
    clear HALL
    obtain ⟨k, hk, rfl, HALL⟩ := hrel
    have HT_26 := Lib.hid HALL.out.1
    have HPC_27 := Lib.hid HALL.out.2.1
    have HBL_28 := Lib.hid HALL.out.2.2
    clear HALL
    by_cases hkn : k < n1
    · skip
      obtain ⟨b1, o1, hA1, hb1, hc1⟩ := HT_26.out.one hkn
      subst hA1
      have h0k : (0 : Int) ≤ (k : Int) := by omega
      have h1k : (k : Int) < (n1 : Int) := by omega
      have ht := vTimes_at HP.out.t k
      have HI := Lib.hid (HIS.out k hkn)
      have hbu := HBU.out k hkn
      obtain ⟨tv, htv⟩ : ∃ tv, beg ts k = tv := ⟨_, rfl⟩
      rw [htv] at hbu ht hc1
      obtain ⟨t0, t1⟩ := ht
      by_cases h500 : tv = 500
      · have hq5 : (tv == 500) = true := by simpa using h500
        clear h500 hbu HI
        have HX := Lib.hid (show Rb wr (some ⟨b1, o1, none⟩) n1 (ts) ∧ Pc wr w1.heap.size An n1 cn Af lf cf ns fs ∧ Below w.heap.size w wr from ⟨HT_26.out, HPC_27.out, HBL_28.out⟩)
        clear HT_26 HPC_27 HBL_28
        go_wp2
        go_roundw
        case rel => exact ⟨k + 1, by omega, by go_num, HX⟩
        case measure => simp [intOf]; omega
      · have hq5 : (tv == 500) = false := by simpa using h500
        obtain ⟨s0, hbu⟩ := hbu (by omega)
        have HBT := Lib.hid hbu
        clear hbu h500
        have hw1 : IntKind.i64.wrap (tv + 1) = tv + 1 := IntWalk.i64_in _ (by omega)
        have hw3 : IntKind.i64.wrap (M + 1) = M + 1 := IntWalk.i64_in _ (by omega)
        obtain ⟨i0, hi0, hz0, hz1, hz2⟩ := info_parts infoInt
        obtain ⟨hiT, hrT, hleT⟩ := HT_26.out
        obtain ⟨bT, oT, hAT, hbT0, hbT1⟩ := hrT.form (by omega)
        injection hAT with hAT; injection hAT with e1 e2 _
        subst e1; subst e2
        have hownE : (wr.alloc (.cells #[] 3)).ownsRow wr.heap.size 3 1 (.slice (some ⟨wr.heap.size, 0, none⟩) 0 0) 0 [] := World.ownsRow_made wr #[] 0 (Nat.le_refl _) (by unfold maxLen; omega) (by simp)
        have hrT1 := hrT.keep (up_alloc (Below.refl _ wr) (.cells #[] 3)) hleT
        go_wp2_with (at_builtin; refine wpList_append_own _ rfl _ _ 27 rfl wr.heap.size 3 i0 (.int .i64 0) 1 8 Try.underlying27 hi0 hz0 hz1 hz2 rfl (by decide) _ _ _ rfl hownE ⟨b1, o1, none⟩ n1 c1 (ivs ts) rfl hrT1.1 hrT1.src (ivs_one ts) (by unfold maxLen; omega) (by omega) (by first | omega | simp) ?_)
        intro vm wm hownM hgM _
        have hBX := up_grown (up_alloc (Below.refl _ wr) (.cells #[] 3)) hownE hgM (Nat.le_refl _)
        try simp only [Nat.zero_add, List.nil_append] at hownM
        obtain ⟨gm, cm, rfl, hgm1, hgm2, _⟩ := own_first hownM (by omega)
        have HOW := Lib.hid hownM
        have HBX := Lib.hid hBX
        clear hownE hownM hgM hBX hrT hrT1 hi0 hz0 hz1 hz2
        have hmk := HOW.out.cellAt k (by omega)
        rw [ivs_atD (by omega)] at hmk
        have hbk : ts.getD k 0 = tv := htv
        rw [hbk] at hmk
        have hmf := HOW.out.frozenAt k
        clear hbk
        have HTV := Lib.hid htv
        clear htv
        have hst := (HOW.out.stored k (.int .i64 (tv + 1))).1
        rw [ivs_put] at hst
        have HOW2 := Lib.hid hst
        have HBX2 := Lib.hid (HBX.out.setCell (p := ⟨gm, k, none⟩) hgm1 (.int .i64 (tv + 1)))
        clear hst HOW HBX
        have k0 := (HPC_27.out.below HBX2.out).k0
        have k1 := (HPC_27.out.below HBX2.out).k1
        have HCT := Lib.hid ((HPC_27.out.below HBX2.out).totalI (c' := cm) (show Rb (wm.setCell ⟨gm, k, none⟩ (.int .i64 (tv + 1))) (some ⟨gm, 0, none⟩) n1 (ts.set k (tv + 1)) from ⟨_, (Rd.of_own HOW2.out).wide (Nat.zero_le _) (Nat.le_refl _), Nat.le_refl _⟩) (by omega))
        rw [HBT.out] at HCT
        generalize beg (slackOf ns fs ts) k = sv at *
        by_cases hs0 : sv = 0
        · have hb : (sv == 0) = true := by simpa using hs0
          rw [hb] at HI
          rw [show max M (M - sv + 1) = (M + 1) by omega] at HCT
          clear hs0 hb
          have e1 : (M + 1 != M) = true := by simp; omega
          have e2 : (M + 1 != M + 1) = false := by simp
          have e3 : (M + 1 == M + 1) = true := by simp
          go_wp2_with (fail)
          (with_reducible refine HCT.out.mono ?_)
          clear HCT k0 k1
          rintro e wo ⟨rfl, hbo⟩
          have hbt := up HBX2.out hbo
          clear hbo HOW2 HBX2 hmk hmf
          have HT_29 := Lib.hid (HT_26.out.below hbt)
          have HPC_30 := Lib.hid (HPC_27.out.below hbt)
          have HBL_31 := Lib.hid (up HBL_28.out hbt)
          clear HT_26 HPC_27 HBL_28
          clear hbt
          have k_32 := HPC_30.out.k0
          have k_33 := HPC_30.out.k1
          go_wp2_with (fail)
          (with_reducible refine (HPC_30.out.critI HT_29.out (by omega)).mono ?_)
          rw [HCR.out]
          rintro e w4 ⟨AC, cC, rfl, hrw, hbt⟩
          rw [hcl] at hrw ⊢
          clear k_32 k_33
          have HT_34 := Lib.hid (HT_29.out.below hbt)
          have HPC_35 := Lib.hid (HPC_30.out.below hbt)
          have HBL_36 := Lib.hid (up HBL_31.out hbt)
          clear HT_29 HPC_30 HBL_31
          have HC_37 := Lib.hid hrw
          clear hrw hbt
          have HIC := Lib.hid (inRb HC_37.out (by omega) (k : Int) cC)
          go_wp2_with (fail)
          (with_reducible refine HIC.out.mono ?_)
          clear HIC
          rintro e wz ⟨rfl, rfl⟩
          rw [HI.out]
          clear HC_37
          have HX := Lib.hid (show Rb w4 (some ⟨b1, o1, none⟩) n1 (ts) ∧ Pc w4 w1.heap.size An n1 cn Af lf cf ns fs ∧ Below w.heap.size w w4 from ⟨HT_34.out, HPC_35.out, HBL_36.out⟩)
          clear HT_34 HPC_35 HBL_36
          have e4 : (true != true) = false := rfl
          go_wp2
          go_roundw
          case rel => exact ⟨k + 1, by omega, by go_num, HX⟩
          case measure => simp [intOf]; omega
        · have hb : (sv == 0) = false := by simpa using hs0
          rw [hb] at HI
          rw [show max M (M - sv + 1) = M by omega] at HCT
          clear hs0 hb
          have e1 : (M != M) = false := by simp
          have e3 : (M == M + 1) = false := by simp; omega
          go_wp2_with (fail)
          (with_reducible refine HCT.out.mono ?_)
          clear HCT k0 k1
          rintro e wo ⟨rfl, hbo⟩
          have hbt := up HBX2.out hbo
          clear hbo HOW2 HBX2 hmk hmf
          have HT_38 := Lib.hid (HT_26.out.below hbt)
          have HPC_39 := Lib.hid (HPC_27.out.below hbt)
          have HBL_40 := Lib.hid (up HBL_28.out hbt)
          clear HT_26 HPC_27 HBL_28
          clear hbt
          have k_41 := HPC_39.out.k0
          have k_42 := HPC_39.out.k1
          go_wp2_with (fail)
          (with_reducible refine (HPC_39.out.critI HT_38.out (by omega)).mono ?_)
          rw [HCR.out]
          rintro e w4 ⟨AC, cC, rfl, hrw, hbt⟩
          rw [hcl] at hrw ⊢
          clear k_41 k_42
          have HT_43 := Lib.hid (HT_38.out.below hbt)
          have HPC_44 := Lib.hid (HPC_39.out.below hbt)
          have HBL_45 := Lib.hid (up HBL_40.out hbt)
          clear HT_38 HPC_39 HBL_40
          have HC_46 := Lib.hid hrw
          clear hrw hbt
          have HIC := Lib.hid (inRb HC_46.out (by omega) (k : Int) cC)
          go_wp2_with (fail)
          (with_reducible refine HIC.out.mono ?_)
          clear HIC
          rintro e wz ⟨rfl, rfl⟩
          rw [HI.out]
          clear HC_46
          have HX := Lib.hid (show Rb w4 (some ⟨b1, o1, none⟩) n1 (ts) ∧ Pc w4 w1.heap.size An n1 cn Af lf cf ns fs ∧ Below w.heap.size w w4 from ⟨HT_43.out, HPC_44.out, HBL_45.out⟩)
          clear HT_43 HPC_44 HBL_45
          have e4 : (false != false) = false := rfl
          go_wp2
          go_roundw
          case rel => exact ⟨k + 1, by omega, by go_num, HX⟩
          case measure => simp [intOf]; omega
    · obtain rfl : k = n1 := by omega
      go_wp2
      go_ret
      exact ⟨rfl, HBL_28.out⟩
end Go.Proofs.Ytonlkodenfiljaa
