/- The law FnHasCircle, walked: it returns true. (Written by gen/lawplan.py.) -/
import Derived.Test.YtonlkodenfiljaaLawPlan0
import Derived.Test.YtonlkodenfiljaaTokTakenS1
import Derived.Deep.RegionLaw
import Derived.Deep.RegionHeld3
import Derived.BigQuiet
import Derived.BigRegion
import Derived.Lib.MinMax
set_option linter.unusedSimpArgs false
set_option linter.unusedVariables false
namespace Go.Proofs.Ytonlkodenfiljaa
open Go.RowKit

theorem beg_ones {N v : Nat} (h : v < N) : beg (List.replicate N 1) v = 1 := by
  unfold beg; rw [List.getD_eq_getElem?_getD, List.getElem?_replicate, if_pos h]; rfl
/-- Each node takes one. -/
theorem ones_ok {ns : List (Int × Int)} {fs : List Flw} {N : Nat} (hv : vProc ns fs = true) (hc : circOf ns fs = false) (hN : ns.length = N) :
    earlyR ns fs (List.replicate N 1) = earlyOf ns fs (List.replicate N 1) ∧ ∀ u v, (u, v) ∈ esOf fs → u < N → beg (earlyOf ns fs (List.replicate N 1)) u < beg (earlyOf ns fs (List.replicate N 1)) v := by
  have ht : vTimes ns (List.replicate N 1) = true := by
    unfold vTimes
    rw [Bool.and_eq_true, List.all_eq_true]
    exact ⟨by simp [hN], fun z hz => by rw [(List.mem_replicate.1 hz).2]; rfl⟩
  have hU : planOk ns fs (List.replicate N 1) = true := by
    unfold planOk; rw [hv, hc, ht]; rfl
  refine ⟨earlyR_yes hU, fun u v he hu => ?_⟩
  have h1 := (plan_of hU).keeps.2 _ he
  simp only at h1
  rw [beg_ones hu] at h1
  omega
theorem circ_none {ns : List (Int × Int)} {fs : List Flw} {ts : List Int} (hc : circOf ns fs = true) : earlyR ns fs ts = [] := by
  unfold earlyR planOk; rw [hc]; simp
theorem vProc_posC {ns : List (Int × Int)} {fs : List Flw} (h : vProc ns fs = true) : 0 < fs.length := by
  have h1 := vProc_starts h
  obtain ⟨j, y, hj, hs⟩ := startAt_spec ns 0 (by omega)
  have hk := (vProc_node h hj).2
  have ho : (flOf fs true (j : Int)).length = 1 := by
    simp only [vKind, if_true, Bool.and_eq_true, decide_eq_true_eq] at hk
    omega
  have hl := flUp_le fs true (j : Int) fs.length
  have : (flOf fs true (j : Int)).length ≤ fs.length := hl
  omega
theorem circ_valid {ns : List (Int × Int)} {fs : List Flw} (hv : vProc ns fs = false) : circOf ns fs = false := by
  unfold circOf; rw [hv]; rfl

set_option maxRecDepth 100000 in
set_option maxHeartbeats 6400000 in
theorem lawHasCircle_any (n c : Nat) (A : Option Addr) (xs : List Int) (w : World) (hr : Rd w 0 w.heap.size 1 A n (bvs xs)) (hby : Bytes xs) (hc : n ≤ c) (hc2 : c ≤ 9223372036854775807) :
    Calls Try.prog 6 #[.slice A n c] w fun e w' => e = .returned (.bool true) ∧ Below w.heap.size w w' := by
  by_cases hbig : (1048576 : Int) < n
  · go_enter Try.func6, Try.ntmps6
    go_wp2
    go_ret
    exact ⟨rfl, Below.refl _ _⟩
  go_enter Try.func6, Try.ntmps6
  go_wp2_with (fail)
  (with_reducible refine (drawHasCircle_any n c A xs w hr hby (by omega) hc hc2).mono ?_)
  clear hbig
  rintro e w1 ⟨An, nn, cn, Af, lf, cf, ns, fs, rfl, hP, hb1⟩
  have hn21 := hP.n21
  have hf21 := hP.f21
  have HPC0 := Lib.hid (Pc.new hP)
  have HBL0 := Lib.hid (up_alloc hb1 (.cells #[.slice An nn cn, .slice Af lf cf] 26))
  clear hP hb1
  have HLF := Lib.hid HPC0.out.flen
  have HLN := Lib.hid HPC0.out.nlen
  cases hv : vProc ns fs with
  | false =>
    have HV := Lib.hid hv
    have HC := Lib.hid (circ_valid hv)
    clear hv
    have k_1 := HPC0.out.k0
    have k_2 := HPC0.out.k1
    go_wp2_with (fail)
    (with_reducible refine (HPC0.out.circI).mono ?_)
    rintro e w2 ⟨rfl, hbt⟩
    rw [HC.out]
    clear k_1 k_2
    have HPC_3 := Lib.hid (HPC0.out.below hbt)
    have HBL_4 := Lib.hid (up HBL0.out hbt)
    clear HPC0 HBL0
    clear hbt
    have k_5 := HPC_3.out.k0
    have k_6 := HPC_3.out.k1
    go_wp2_with (fail)
    (with_reducible refine (HPC_3.out.circS).mono ?_)
    rintro e w3 ⟨rfl, hbt⟩
    rw [HC.out]
    clear k_5 k_6
    have HPC_7 := Lib.hid (HPC_3.out.below hbt)
    have HBL_8 := Lib.hid (up HBL_4.out hbt)
    clear HPC_3 HBL_4
    clear hbt
    have k_9 := HPC_7.out.k0
    have k_10 := HPC_7.out.k1
    go_wp2_with (fail)
    (with_reducible refine (HPC_7.out.validI).mono ?_)
    rintro e w4 ⟨rfl, hbt⟩
    rw [HV.out]
    clear k_9 k_10
    have HPC_11 := Lib.hid (HPC_7.out.below hbt)
    have HBL_12 := Lib.hid (up HBL_8.out hbt)
    clear HPC_7 HBL_8
    clear hbt
    have k_13 := HPC_11.out.k0
    have k_14 := HPC_11.out.k1
    go_wp2_with (fail)
    (with_reducible refine (HPC_11.out.circS).mono ?_)
    rintro e w5 ⟨rfl, hbt⟩
    rw [HC.out]
    clear k_13 k_14
    have HPC_15 := Lib.hid (HPC_11.out.below hbt)
    have HBL_16 := Lib.hid (up HBL_12.out hbt)
    clear HPC_11 HBL_12
    clear hbt
    go_wp2
    go_ret
    exact ⟨rfl, HBL_16.out⟩
  | true =>
    have HV := Lib.hid hv
    have hln := vProc_len hv
    have HIN := Lib.hid (show Inside fs nn from by have := vProc_inside hv; rwa [HLN.out] at this)
    clear hv
    have hn2 : 2 ≤ nn := by have := hln.1; have := HLN.out; omega
    have hlf : 1 ≤ lf := by have := vProc_posC HV.out; have := HLF.out; omega
    clear hln
    cases hcc : circOf ns fs with
    | true =>
      have HC := Lib.hid hcc
      have HER := Lib.hid (fun ts => circ_none (ts := ts) hcc)
      clear hcc
      have k_17 := HPC0.out.k0
      have k_18 := HPC0.out.k1
      go_wp2_with (fail)
      (with_reducible refine (HPC0.out.circI).mono ?_)
      rintro e w2 ⟨rfl, hbt⟩
      rw [HC.out]
      clear k_17 k_18
      have HPC_19 := Lib.hid (HPC0.out.below hbt)
      have HBL_20 := Lib.hid (up HBL0.out hbt)
      clear HPC0 HBL0
      clear hbt
      have k_21 := HPC_19.out.k0
      have k_22 := HPC_19.out.k1
      go_wp2_with (fail)
      (with_reducible refine (HPC_19.out.circS).mono ?_)
      rintro e w3 ⟨rfl, hbt⟩
      rw [HC.out]
      clear k_21 k_22
      have HPC_23 := Lib.hid (HPC_19.out.below hbt)
      have HBL_24 := Lib.hid (up HBL_20.out hbt)
      clear HPC_19 HBL_20
      clear hbt
      have k_25 := HPC_23.out.k0
      have k_26 := HPC_23.out.k1
      go_wp2_with (fail)
      (with_reducible refine (HPC_23.out.validI).mono ?_)
      rintro e w4 ⟨rfl, hbt⟩
      rw [HV.out]
      clear k_25 k_26
      have HPC_27 := Lib.hid (HPC_23.out.below hbt)
      have HBL_28 := Lib.hid (up HBL_24.out hbt)
      clear HPC_23 HBL_24
      clear hbt
      have k_29 := HPC_27.out.k0
      have k_30 := HPC_27.out.k1
      obtain ⟨i0, hi0, hz0, hz1, hz2⟩ := info_parts infoInt
      have HOW0 := Lib.hid (show (w4.alloc (.cells #[] 3)).ownsRow w4.heap.size 3 1 (.slice (some ⟨w4.heap.size, 0, none⟩) 0 0) 0 (ivs (List.replicate 0 1)) ∧ Below w4.heap.size w4 (w4.alloc (.cells #[] 3)) from ⟨World.ownsRow_made w4 #[] 0 (Nat.le_refl _) (by unfold maxLen; omega) (by simp [ivs]), up_alloc (Below.refl _ _) _⟩)
      clear k_29 k_30
      go_wp2
      go_loopw [5, 6] (fun ov iv wr => ∃ (k : Nat), k ≤ nn ∧ iv = .int .i64 k ∧ Hid (wr.ownsRow w4.heap.size 3 1 ov k (ivs (List.replicate k 1)) ∧ Below w4.heap.size w4 wr))
        (fun _ iv _ => nn - (intOf iv).toNat)
      case atStart => exact ⟨0, by omega, rfl, HOW0⟩
      case round =>
        clear HOW0
        obtain ⟨k, hk, rfl, HO⟩ := hrel
        have k0 := (HPC_27.out.below HO.out.2).k0
        have k1 := (HPC_27.out.below HO.out.2).k1
        have hsw := HO.out.2.size
        by_cases hkn : k < nn
        · skip
          go_wp2_with (at_builtin; refine wpList_append_own_at _ rfl _ _ 27 rfl w4.heap.size 3 i0 (.int .i64 0) 1 8 Try.underlying27 hi0 hz0 hz1 hz2 rfl (by decide) _ _ _ rfl (HO.out.1.alloc _) ⟨wr.heap.size, 0, none⟩ 1 1 [.int .i64 1] rfl rfl (cell_one_new _ _ _) ?c2 ?c3 ?c4 ?c5 ?_)
          case c2 => first | rfl | (intro u hu; simp at hu; subst hu; rfl)
          case c3 => unfold maxLen; omega
          case c4 => omega
          case c5 => first | omega | (simp; omega)
          intro v' w9 hown4 hg4 _ _
          have hlow := HO.out.1.lt
          have hbl4 := (up_alloc HO.out.2 (.cells #[.int .i64 1] 3)).grown hg4 (up_alloc HO.out.2 (.cells #[.int .i64 1] 3)).size (fun i hi => by have := (hlow i hi).1; omega)
          have HX : Hid (w9.ownsRow w4.heap.size 3 1 v' (k + 1) (ivs (List.replicate (k + 1) 1)) ∧ Below w4.heap.size w4 w9) := ⟨by
            rw [List.replicate_succ', ivs_append]
            exact hown4, hbl4⟩
          clear hown4 hg4 hbl4 HO hlow k0 k1
          go_wp2
          go_roundw
          case rel => exact ⟨k + 1, by omega, by go_num, HX⟩
          case measure => simp [intOf]; omega
        · obtain rfl : k = nn := by omega
          obtain ⟨how, hbw⟩ := HO.out
          have HBW := Lib.hid hbw
          have HOW := Lib.hid how
          obtain ⟨gm, cm, rfl, hgm1, hgm2, _⟩ := own_first how (by omega)
          clear how hbw HO
          have HCT := Lib.hid ((HPC_27.out.below HBW.out).earlyI (c' := cm) (show Rb wr (some ⟨gm, 0, none⟩) k (List.replicate k 1) from ⟨_, (Rd.of_own HOW.out).wide (Nat.zero_le _) (Nat.le_refl _), Nat.le_refl _⟩) (by omega))
          go_wp2_with (fail)
          (with_reducible refine HCT.out.mono ?_)
          clear HCT k0 k1
          rw [HER.out (List.replicate k 1)]
          rintro e wo ⟨AE, cE, rfl, hrE, hbo⟩
          rw [List.length_nil] at hrE ⊢
          have hbt := up HBW.out hbo
          clear hbo HOW HBW
          have HPC_31 := Lib.hid (HPC_27.out.below hbt)
          have HBL_32 := Lib.hid (up HBL_28.out hbt)
          clear HPC_27 HBL_28
          have k_33 := HPC_31.out.k0
          have k_34 := HPC_31.out.k1
          clear hbt hrE
          have hlf0 : decide ((0 : Int) < (lf : Int)) = true := decide_eq_true (by omega)
          go_wp2
          go_loopw [8] (fun iv wr => iv = .int .i64 0 ∧ wr = wo) (fun _ _ => 0)
          case atStart => exact ⟨rfl, rfl⟩
          case round =>
            obtain ⟨rfl, rfl⟩ := hrel
            go_wp2
            go_ret
            exact ⟨rfl, HBL_32.out⟩
    | false =>
      have HC := Lib.hid hcc
      obtain ⟨her, hst⟩ := ones_ok HV.out hcc HLN.out
      have HER := Lib.hid her
      have HST := Lib.hid hst
      have hel : (earlyOf ns fs (List.replicate nn 1)).length = nn := by rw [earlyOf_len]; exact HLN.out
      clear her hst
      clear hcc
      have k_35 := HPC0.out.k0
      have k_36 := HPC0.out.k1
      go_wp2_with (fail)
      (with_reducible refine (HPC0.out.circI).mono ?_)
      rintro e w2 ⟨rfl, hbt⟩
      rw [HC.out]
      clear k_35 k_36
      have HPC_37 := Lib.hid (HPC0.out.below hbt)
      have HBL_38 := Lib.hid (up HBL0.out hbt)
      clear HPC0 HBL0
      clear hbt
      have k_39 := HPC_37.out.k0
      have k_40 := HPC_37.out.k1
      go_wp2_with (fail)
      (with_reducible refine (HPC_37.out.circS).mono ?_)
      rintro e w3 ⟨rfl, hbt⟩
      rw [HC.out]
      clear k_39 k_40
      have HPC_41 := Lib.hid (HPC_37.out.below hbt)
      have HBL_42 := Lib.hid (up HBL_38.out hbt)
      clear HPC_37 HBL_38
      clear hbt
      have k_43 := HPC_41.out.k0
      have k_44 := HPC_41.out.k1
      go_wp2_with (fail)
      (with_reducible refine (HPC_41.out.validI).mono ?_)
      rintro e w4 ⟨rfl, hbt⟩
      rw [HV.out]
      clear k_43 k_44
      have HPC_45 := Lib.hid (HPC_41.out.below hbt)
      have HBL_46 := Lib.hid (up HBL_42.out hbt)
      clear HPC_41 HBL_42
      clear hbt
      have k_47 := HPC_45.out.k0
      have k_48 := HPC_45.out.k1
      obtain ⟨i0, hi0, hz0, hz1, hz2⟩ := info_parts infoInt
      have HOW0 := Lib.hid (show (w4.alloc (.cells #[] 3)).ownsRow w4.heap.size 3 1 (.slice (some ⟨w4.heap.size, 0, none⟩) 0 0) 0 (ivs (List.replicate 0 1)) ∧ Below w4.heap.size w4 (w4.alloc (.cells #[] 3)) from ⟨World.ownsRow_made w4 #[] 0 (Nat.le_refl _) (by unfold maxLen; omega) (by simp [ivs]), up_alloc (Below.refl _ _) _⟩)
      clear k_47 k_48
      go_wp2
      go_loopw [5, 6] (fun ov iv wr => ∃ (k : Nat), k ≤ nn ∧ iv = .int .i64 k ∧ Hid (wr.ownsRow w4.heap.size 3 1 ov k (ivs (List.replicate k 1)) ∧ Below w4.heap.size w4 wr))
        (fun _ iv _ => nn - (intOf iv).toNat)
      case atStart => exact ⟨0, by omega, rfl, HOW0⟩
      case round =>
        clear HOW0
        obtain ⟨k, hk, rfl, HO⟩ := hrel
        have k0 := (HPC_45.out.below HO.out.2).k0
        have k1 := (HPC_45.out.below HO.out.2).k1
        have hsw := HO.out.2.size
        by_cases hkn : k < nn
        · skip
          go_wp2_with (at_builtin; refine wpList_append_own_at _ rfl _ _ 27 rfl w4.heap.size 3 i0 (.int .i64 0) 1 8 Try.underlying27 hi0 hz0 hz1 hz2 rfl (by decide) _ _ _ rfl (HO.out.1.alloc _) ⟨wr.heap.size, 0, none⟩ 1 1 [.int .i64 1] rfl rfl (cell_one_new _ _ _) ?c2 ?c3 ?c4 ?c5 ?_)
          case c2 => first | rfl | (intro u hu; simp at hu; subst hu; rfl)
          case c3 => unfold maxLen; omega
          case c4 => omega
          case c5 => first | omega | (simp; omega)
          intro v' w9 hown4 hg4 _ _
          have hlow := HO.out.1.lt
          have hbl4 := (up_alloc HO.out.2 (.cells #[.int .i64 1] 3)).grown hg4 (up_alloc HO.out.2 (.cells #[.int .i64 1] 3)).size (fun i hi => by have := (hlow i hi).1; omega)
          have HX : Hid (w9.ownsRow w4.heap.size 3 1 v' (k + 1) (ivs (List.replicate (k + 1) 1)) ∧ Below w4.heap.size w4 w9) := ⟨by
            rw [List.replicate_succ', ivs_append]
            exact hown4, hbl4⟩
          clear hown4 hg4 hbl4 HO hlow k0 k1
          go_wp2
          go_roundw
          case rel => exact ⟨k + 1, by omega, by go_num, HX⟩
          case measure => simp [intOf]; omega
        · obtain rfl : k = nn := by omega
          obtain ⟨how, hbw⟩ := HO.out
          have HBW := Lib.hid hbw
          have HOW := Lib.hid how
          obtain ⟨gm, cm, rfl, hgm1, hgm2, _⟩ := own_first how (by omega)
          clear how hbw HO
          have HCT := Lib.hid ((HPC_45.out.below HBW.out).earlyI (c' := cm) (show Rb wr (some ⟨gm, 0, none⟩) k (List.replicate k 1) from ⟨_, (Rd.of_own HOW.out).wide (Nat.zero_le _) (Nat.le_refl _), Nat.le_refl _⟩) (by omega))
          go_wp2_with (fail)
          (with_reducible refine HCT.out.mono ?_)
          clear HCT k0 k1
          rw [HER.out]
          rintro e wo ⟨AE, cE, rfl, hrE, hbo⟩
          rw [hel] at hrE ⊢
          clear hel
          have hbt := up HBW.out hbo
          clear hbo HOW HBW
          have HPC_49 := Lib.hid (HPC_45.out.below hbt)
          have HBL_50 := Lib.hid (up HBL_46.out hbt)
          clear HPC_45 HBL_46
          have k_51 := HPC_49.out.k0
          have k_52 := HPC_49.out.k1
          have HE0 := Lib.hid hrE
          clear hrE hbt
          have hq0 : ((k : Int) == 0) = false := by simp; omega
          have hne : ((k : Int) != (k : Int)) = false := by simp
          clear k_51 k_52
          have k_53 := HPC_49.out.k0
          have k_54 := HPC_49.out.k1
          go_wp2
          clear k_53 k_54
          have HALL := Lib.hid (show Rb wo AE k (earlyOf ns fs (List.replicate k 1)) ∧ Pc wo w1.heap.size An k cn Af lf cf ns fs ∧ Below w.heap.size w wo from ⟨HE0.out, HPC_49.out, HBL_50.out⟩)
          clear HE0 HPC_49 HBL_50
          go_loopw [8] (fun iv wr => ∃ (j : Nat), j ≤ lf ∧ iv = .int .i64 j ∧ Hid (Rb wr AE k (earlyOf ns fs (List.replicate k 1)) ∧ Pc wr w1.heap.size An k cn Af lf cf ns fs ∧ Below w.heap.size w wr))
            (fun iv _ => lf - (intOf iv).toNat)
          case atStart => exact ⟨0, by omega, rfl, HALL⟩
          case round =>
            clear HALL
            obtain ⟨j, hj, rfl, HALL⟩ := hrel
            have HE_55 := Lib.hid HALL.out.1
            have HPC_56 := Lib.hid HALL.out.2.1
            have HBL_57 := Lib.hid HALL.out.2.2
            clear HALL
            have k_58 := HPC_56.out.k0
            have k_59 := HPC_56.out.k1
            by_cases hjn : j < lf
            · skip
              obtain ⟨bf, off, x, y, ps, Aw, mw, cw, hAf, hbf, _, hgf, hfx, hfy, hfz, _, _⟩ := HPC_56.out.prs.flows.at hjn
              subst hAf
              obtain ⟨hi1, hi2, hi3, hi4⟩ := HIN.out _ (List.mem_of_getElem? hgf)
              simp only at hi1 hi2 hi3 hi4
              obtain ⟨kx, rfl⟩ := Int.eq_ofNat_of_zero_le hi1
              obtain ⟨ky, rfl⟩ := Int.eq_ofNat_of_zero_le hi3
              have hkx : kx < k := by omega
              have hky : ky < k := by omega
              have HES := Lib.hid (show (kx, ky) ∈ esOf fs from by
                have := List.mem_of_getElem? (esOf_at hgf)
                simpa using this)
              have hFB := Blk.new wr 37 #[.int .i64 (kx : Int), .int .i64 (ky : Int), .slice Aw mw cw]
              have hf0 := hFB.cell 0
              have hf1 := hFB.cell 1
              simp only [List.getElem?_toArray, List.getElem?_cons_zero, List.getElem?_cons_succ] at hf0 hf1
              clear hFB
              have hgt : decide (beg (earlyOf ns fs (List.replicate k 1)) ky ≤ beg (earlyOf ns fs (List.replicate k 1)) kx) = false := decide_eq_false (by have := HST.out kx ky HES.out hkx; omega)
              clear hf0 hf1 hgf
              obtain ⟨b1, o1, hA1, hb1, hc1⟩ := HE_55.out.one hkx
              subst hA1
              obtain ⟨_, _, hA5, _, hc5⟩ := HE_55.out.one hky
              injection hA5 with hA5; injection hA5 with e1 e2 _
              subst e1; subst e2
              generalize beg (earlyOf ns fs (List.replicate k 1)) kx = ex at *
              generalize beg (earlyOf ns fs (List.replicate k 1)) ky = ey at *
              have h0j : (0 : Int) ≤ (j : Int) := by omega
              have h1j : (j : Int) < (lf : Int) := by omega
              have h0kx : (0 : Int) ≤ (kx : Int) := by omega
              have h1kx : (kx : Int) < (k : Int) := by omega
              have h0ky : (0 : Int) ≤ (ky : Int) := by omega
              have h1ky : (ky : Int) < (k : Int) := by omega
              have HX : Hid (∀ j : Nat, Rb (wr.drewN j) (some ⟨b1, o1, none⟩) k (earlyOf ns fs (List.replicate k 1)) ∧ Pc (wr.drewN j) w1.heap.size An k cn (some ⟨bf, off, none⟩) lf cf ns fs ∧ Below w.heap.size w (wr.drewN j)) := fun j => ⟨HE_55.out.below (up_drewN (Below.refl _ wr) j), HPC_56.out.below (up_drewN (Below.refl _ wr) j), up HBL_57.out (up_drewN (Below.refl _ wr) j)⟩
              clear HE_55 HPC_56 HBL_57
              go_wp2_with (fail)
              go_quiet (fail)
              go_wp2
              go_roundw
              case rel => exact ⟨j + 1, by omega, by go_num, HX.out _⟩
              case measure => simp [intOf]; omega
            · obtain rfl : j = lf := by omega
              go_wp2
              go_ret
              exact ⟨rfl, HBL_57.out⟩
end Go.Proofs.Ytonlkodenfiljaa
