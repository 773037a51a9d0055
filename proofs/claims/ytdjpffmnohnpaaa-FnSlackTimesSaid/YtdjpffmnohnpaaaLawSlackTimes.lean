/- The law FnSlackTimes, walked: it returns true. (Written by gen/lawplan.py.) -/
import Derived.Test.YtdjpffmnohnpaaaLawPlan0
import Derived.Test.YtdjpffmnohnpaaaTokTakenS1
import Derived.Deep.RegionLaw
import Derived.Deep.RegionHeld3
import Derived.BigQuiet
import Derived.BigRegion
import Derived.Lib.MinMax
set_option linter.unusedSimpArgs false
set_option linter.unusedVariables false
namespace Go.Proofs.Ytdjpffmnohnpaaa
open Go.RowKit

/-- A longer node: the plan stands, and its end is this. -/
theorem bump_ok {ns : List (Int × Int)} {fs : List Flw} {ts : List Int} {k : Nat} {d : Int} (hU : planOk ns fs ts = true) (hk : k < ns.length) (hd : 0 ≤ d) (h5 : beg ts k + d ≤ 500) :
    planOk ns fs (ts.set k (beg ts k + d)) = true ∧ totalOf ns fs (ts.set k (beg ts k + d)) = max (totalOf ns fs ts) (totalOf ns fs ts - beg (slackOf ns fs ts) k + d) := by
  have h := plan_of hU
  have ht := vTimes_at h.t k
  have hv : vTimes ns (ts.set k (beg ts k + d)) = true := by
    have := h.t
    unfold vTimes at this ⊢
    rw [Bool.and_eq_true, List.all_eq_true] at this ⊢
    refine ⟨by rw [List.length_set]; exact this.1, fun z hz => ?_⟩
    rcases List.mem_or_eq_of_mem_set hz with hz | rfl
    · exact this.2 z hz
    · exact inR_iff.2 ⟨by omega, by omega⟩
  have hU' : planOk ns fs (ts.set k (beg ts k + d)) = true := by
    unfold planOk at hU ⊢
    rw [Bool.and_eq_true] at hU ⊢
    exact ⟨hU.1, hv⟩
  refine ⟨hU', ?_⟩
  rw [h.bump hk hd (plan_of hU'), slackOf_at hk]

set_option maxRecDepth 100000 in
set_option maxHeartbeats 6400000 in
theorem lawSlackTimes_any (n c : Nat) (A : Option Addr) (xs : List Int) (w : World) (hr : Rd w 0 w.heap.size 1 A n (bvs xs)) (hby : Bytes xs) (hc : n ≤ c) (hc2 : c ≤ 9223372036854775807) :
    Calls Try.prog 11 #[.slice A n c] w fun e w' => e = .returned (.bool true) ∧ Below w.heap.size w w' := by
  by_cases hbig : (1048576 : Int) < n
  · go_enter Try.func11, Try.ntmps11
    go_wp2
    go_ret
    exact ⟨rfl, Below.refl _ _⟩
  go_enter Try.func11, Try.ntmps11
  go_wp2_with (fail)
  (with_reducible refine (drawSlackTimes_any n c A xs w hr hby (by omega) hc hc2).mono ?_)
  have hn9 : n ≤ 1048576 := by omega
  clear hbig
  rintro e w1 ⟨An, nn, cn, Af, lf, cf, ns, fs, A1, n1, c1, ts, rfl, hn1, hP, hM, hb1⟩
  have hn21 := hP.n21
  have hf21 := hP.f21
  have hba := up_alloc (Below.refl _ w1) (.cells #[.slice An nn cn, .slice Af lf cf] 32)
  have HPC0 := Lib.hid (Pc.new (hP.wide (Nat.zero_le _) (Nat.le_refl _)))
  have HT0 := Lib.hid (show Rb (w1.alloc (.cells #[.slice An nn cn, .slice Af lf cf] 32)) A1 n1 ts from ⟨w1.heap.size, (hM.wide (Nat.zero_le _) (Nat.le_refl _)).keep hba (Nat.le_refl _), hba.size⟩)
  have HBL0 := Lib.hid (up hb1 hba)
  clear hP hM hb1 hba
  have hlf := HPC0.out.flen
  have hln := HPC0.out.nlen
  have HLF := Lib.hid hlf
  have HLN := Lib.hid hln
  clear hlf hln
  cases hU : planOk ns fs ts with
  | false =>
    have HR := Lib.hid (slackR_no hU)
    clear hU
    have k_1 := HPC0.out.k0
    have k_2 := HPC0.out.k1
    go_wp2_with (fail)
    (with_reducible refine (HPC0.out.slackI HT0.out (by omega)).mono ?_)
    rw [HR.out]
    rintro e w2 ⟨AR, cR, rfl, hrw, hbt⟩
    rw [List.length_nil] at hrw ⊢
    clear k_1 k_2
    have HT_3 := Lib.hid (HT0.out.below hbt)
    have HPC_4 := Lib.hid (HPC0.out.below hbt)
    have HBL_5 := Lib.hid (up HBL0.out hbt)
    clear HT0 HPC0 HBL0
    have HR_6 := Lib.hid hrw
    clear hrw hbt
    have k_7 := HPC_4.out.k0
    have k_8 := HPC_4.out.k1
    go_wp2_with (fail)
    (with_reducible refine (HPC_4.out.slackS HT_3.out (by omega)).mono ?_)
    rw [HR.out]
    rintro e w3 ⟨AS, cS, rfl, hrw, hbt⟩
    rw [List.length_nil] at hrw ⊢
    clear k_7 k_8
    have HT_9 := Lib.hid (HT_3.out.below hbt)
    have HR_10 := Lib.hid (HR_6.out.below hbt)
    have HPC_11 := Lib.hid (HPC_4.out.below hbt)
    have HBL_12 := Lib.hid (up HBL_5.out hbt)
    clear HT_3 HR_6 HPC_4 HBL_5
    have HS_13 := Lib.hid hrw
    clear hrw hbt
    have HE_14 := Lib.hid (eqRb HR_10.out HS_13.out (by omega) (by omega) cR cS)
    go_wp2_with (fail)
    (with_reducible refine HE_14.out.mono ?_)
    clear HE_14
    rintro e w4 ⟨rfl, hbt⟩
    rw [beq_self_eq_true]
    have HT_15 := Lib.hid (HT_9.out.below hbt)
    have HR_16 := Lib.hid (HR_10.out.below hbt)
    have HS_17 := Lib.hid (HS_13.out.below hbt)
    have HPC_18 := Lib.hid (HPC_11.out.below hbt)
    have HBL_19 := Lib.hid (up HBL_12.out hbt)
    clear HT_9 HR_10 HS_13 HPC_11 HBL_12
    clear hbt
    clear HS_17
    have k_20 := HPC_18.out.k0
    have k_21 := HPC_18.out.k1
    go_wp2_with (fail)
    (with_reducible refine (HPC_18.out.slackS HT_15.out (by omega)).mono ?_)
    rw [HR.out]
    rintro e w5 ⟨AS2, cS2, rfl, hrw, hbt⟩
    rw [List.length_nil] at hrw ⊢
    clear k_20 k_21
    have HT_22 := Lib.hid (HT_15.out.below hbt)
    have HR_23 := Lib.hid (HR_16.out.below hbt)
    have HPC_24 := Lib.hid (HPC_18.out.below hbt)
    have HBL_25 := Lib.hid (up HBL_19.out hbt)
    clear HT_15 HR_16 HPC_18 HBL_19
    have HS2_26 := Lib.hid hrw
    clear hrw hbt
    have HE_27 := Lib.hid (eqRb HR_23.out HS2_26.out (by omega) (by omega) cR cS2)
    go_wp2_with (fail)
    (with_reducible refine HE_27.out.mono ?_)
    clear HE_27
    rintro e w6 ⟨rfl, hbt⟩
    rw [beq_self_eq_true]
    have HT_28 := Lib.hid (HT_22.out.below hbt)
    have HR_29 := Lib.hid (HR_23.out.below hbt)
    have HS2_30 := Lib.hid (HS2_26.out.below hbt)
    have HPC_31 := Lib.hid (HPC_24.out.below hbt)
    have HBL_32 := Lib.hid (up HBL_25.out hbt)
    clear HT_22 HR_23 HS2_26 HPC_24 HBL_25
    clear hbt
    go_wp2
    go_ret
    exact ⟨rfl, HBL_32.out⟩
  | true =>
  have HR := Lib.hid (slackR_yes hU)
  have HP := Lib.hid (plan_of hU)
  have hnt : n1 = nn := by have h1 := vTimes_len HP.out.t; have h2 := HT0.out.len; have h3 := HLN.out; omega
  subst hnt
  have hn10 : n1 ≤ 10 := by have := (vProc_len HP.out.v).2.1; have := HLN.out; omega
  have hn2 : 2 ≤ n1 := by have := (vProc_len HP.out.v).1; have := HLN.out; omega
  have hsl : (slackOf ns fs ts).length = n1 := by rw [slackOf_len]; exact HLN.out
  have HTR := Lib.hid (totalR_yes hU)
  have HU := Lib.hid hU
  clear hU
  have hM := HP.out.totalOf
  have k_33 := HPC0.out.k0
  have k_34 := HPC0.out.k1
  go_wp2_with (fail)
  (with_reducible refine (HPC0.out.slackI HT0.out (by omega)).mono ?_)
  rw [HR.out]
  rintro e w2 ⟨AR, cR, rfl, hrw, hbt⟩
  rw [hsl] at hrw ⊢
  clear k_33 k_34
  have HT_35 := Lib.hid (HT0.out.below hbt)
  have HPC_36 := Lib.hid (HPC0.out.below hbt)
  have HBL_37 := Lib.hid (up HBL0.out hbt)
  clear HT0 HPC0 HBL0
  have HR_38 := Lib.hid hrw
  clear hrw hbt
  have k_39 := HPC_36.out.k0
  have k_40 := HPC_36.out.k1
  go_wp2_with (fail)
  (with_reducible refine (HPC_36.out.slackS HT_35.out (by omega)).mono ?_)
  rw [HR.out]
  rintro e w3 ⟨AS, cS, rfl, hrw, hbt⟩
  rw [hsl] at hrw ⊢
  clear k_39 k_40
  have HT_41 := Lib.hid (HT_35.out.below hbt)
  have HR_42 := Lib.hid (HR_38.out.below hbt)
  have HPC_43 := Lib.hid (HPC_36.out.below hbt)
  have HBL_44 := Lib.hid (up HBL_37.out hbt)
  clear HT_35 HR_38 HPC_36 HBL_37
  have HS_45 := Lib.hid hrw
  clear hrw hbt
  have HE_46 := Lib.hid (eqRb HR_42.out HS_45.out (by omega) (by omega) cR cS)
  go_wp2_with (fail)
  (with_reducible refine HE_46.out.mono ?_)
  clear HE_46
  rintro e w4 ⟨rfl, hbt⟩
  rw [beq_self_eq_true]
  have HT_47 := Lib.hid (HT_41.out.below hbt)
  have HR_48 := Lib.hid (HR_42.out.below hbt)
  have HS_49 := Lib.hid (HS_45.out.below hbt)
  have HPC_50 := Lib.hid (HPC_43.out.below hbt)
  have HBL_51 := Lib.hid (up HBL_44.out hbt)
  clear HT_41 HR_42 HS_45 HPC_43 HBL_44
  clear hbt
  clear HS_49
  have hq0 : ((n1 : Int) == 0) = false := by simp; omega
  clear hsl
  have k_52 := HPC_50.out.k0
  have k_53 := HPC_50.out.k1
  go_wp2_with (fail)
  (with_reducible refine (HPC_50.out.totalI HT_47.out (by omega)).mono ?_)
  rintro e w5 ⟨rfl, hbt⟩
  rw [HTR.out]
  clear k_52 k_53
  have HT_54 := Lib.hid (HT_47.out.below hbt)
  have HR_55 := Lib.hid (HR_48.out.below hbt)
  have HPC_56 := Lib.hid (HPC_50.out.below hbt)
  have HBL_57 := Lib.hid (up HBL_51.out hbt)
  clear HT_47 HR_48 HPC_50 HBL_51
  clear hbt
  obtain ⟨kk, hkk⟩ : ∃ kk, n % n1 = kk := ⟨_, rfl⟩
  have hkl : kk < n1 := by rw [← hkk]; exact Nat.mod_lt _ (by omega)
  have htm : ((n : Nat) : Int).tmod ((n1 : Nat) : Int) = (kk : Int) := by rw [Int.tmod_eq_emod_of_nonneg (by omega), ← hkk]; exact (Int.natCast_emod n n1).symm
  have htm' : ((n : Nat) : Int) % ((n1 : Nat) : Int) = (kk : Int) := by rw [← hkk]; exact (Int.natCast_emod n n1).symm
  clear hkk
  have HB1 := Lib.hid (show ∀ d, 0 ≤ d → beg ts kk + d ≤ 500 → planOk ns fs (ts.set kk (beg ts kk + d)) = true ∧ totalOf ns fs (ts.set kk (beg ts kk + d)) = max (totalOf ns fs ts) (totalOf ns fs ts - beg (slackOf ns fs ts) kk + d) from fun d h0 h5 => bump_ok HU.out (by have := HLN.out; omega) h0 h5)
  have hs0 : 0 ≤ beg (slackOf ns fs ts) kk ∧ beg (slackOf ns fs ts) kk ≤ 5500 := by
    have hk' : kk < ns.length := by have := HLN.out; omega
    rw [slackOf_at hk']
    have h1 := HP.out.slack0 hk'
    have h2 := HP.out.late kk hk'
    have h3 := HP.out.early kk
    omega
  have ht := vTimes_at HP.out.t kk
  obtain ⟨b1, o1, hA1, hb1, hc1⟩ := HR_55.out.one hkl
  subst hA1
  obtain ⟨b2, o2, hA2, hb2, hc2⟩ := HT_54.out.one hkl
  subst hA2
  have htl : ts.length = n1 := HT_54.out.len
  have h0kk : (0 : Int) ≤ (kk : Int) := by omega
  have h1kk : (kk : Int) < (n1 : Int) := by omega
  obtain ⟨M, hMM⟩ : ∃ M, totalOf ns fs ts = M := ⟨_, rfl⟩
  rw [hMM] at HB1 hM HTR
  rw [hMM]
  clear hMM
  obtain ⟨sv, hsv⟩ : ∃ sv, beg (slackOf ns fs ts) kk = sv := ⟨_, rfl⟩
  rw [hsv] at HB1 hs0 hc1
  clear hsv
  obtain ⟨tv, htv⟩ : ∃ tv, beg ts kk = tv := ⟨_, rfl⟩
  rw [htv] at HB1 ht hc2
  clear htv
  obtain ⟨s0, s1⟩ := hs0
  obtain ⟨t0, t1⟩ := ht
  obtain ⟨M0, M1⟩ := hM
  have hd0 : decide (sv < 0) = false := decide_eq_false (by omega)
  have hw1 : IntKind.i64.wrap (tv + sv) = tv + sv := IntWalk.i64_in _ (by omega)
  have hw2 : IntKind.i64.wrap (tv + sv + 1) = tv + sv + 1 := IntWalk.i64_in _ (by omega)
  have HX : Hid (∀ j : Nat, Rb (w5.drewN j) (some ⟨b2, o2, none⟩) n1 (ts) ∧ Rb (w5.drewN j) (some ⟨b1, o1, none⟩) n1 ((slackOf ns fs ts)) ∧ Pc (w5.drewN j) w1.heap.size An n1 cn Af lf cf ns fs ∧ Below w.heap.size w (w5.drewN j)) := fun j => ⟨HT_54.out.below (up_drewN (Below.refl _ w5) j), HR_55.out.below (up_drewN (Below.refl _ w5) j), HPC_56.out.below (up_drewN (Below.refl _ w5) j), up HBL_57.out (up_drewN (Below.refl _ w5) j)⟩
  by_cases hbig5 : 500 < tv + sv + 1
  · skip
    have hd1 : decide (500 < tv + sv + 1) = true := decide_eq_true hbig5
    have hge : decide (0 ≤ sv) = true := decide_eq_true s0
    clear HT_54 HR_55 HPC_56 HBL_57
    go_wp2_with (fail)
    go_quiet (fail)
    have HX0 := Lib.hid (HX.out (nq + 1))
    go_wp2
    go_ret
    exact ⟨rfl, by first | exact (HX.out _).2.2.2 | exact HX0.out.2.2.2⟩
  have hd1 : decide (500 < tv + sv + 1) = false := decide_eq_false hbig5
  clear HT_54 HR_55 HPC_56 HBL_57
  go_wp2_with (fail)
  go_quiet (fail)
  obtain ⟨wq, hwq⟩ : ∃ wq, w5.drewN nq = wq := ⟨_, rfl⟩
  have hbq1 : b1 < wq.heap.size := by rw [← hwq]; exact hb1
  have HALL := Lib.hid (HX.out nq)
  rw [hwq] at HALL ⊢
  have hcq1 : wq.cell? ⟨b1, o1 + kk, none⟩ = some (.int .i64 sv) := by rw [← hwq]; exact hc1
  have hcq2 : wq.cell? ⟨b2, o2 + kk, none⟩ = some (.int .i64 tv) := by rw [← hwq]; exact hc2
  clear HX hc1 hc2 hwq
  have HT_58 := Lib.hid HALL.out.1
  have HR_59 := Lib.hid HALL.out.2.1
  have HPC_60 := Lib.hid HALL.out.2.2.1
  have HBL_61 := Lib.hid HALL.out.2.2.2
  clear HALL
  obtain ⟨i0, hi0, hz0, hz1, hz2⟩ := info_parts infoInt
  obtain ⟨hiT, hrT, hleT⟩ := HT_58.out
  obtain ⟨bT, oT, hAT, hbT0, hbT1⟩ := hrT.form (by omega)
  injection hAT with hAT; injection hAT with e1 e2 _
  subst e1; subst e2
  have hownE : (wq.alloc (.cells #[] 3)).ownsRow wq.heap.size 3 1 (.slice (some ⟨wq.heap.size, 0, none⟩) 0 0) 0 [] := World.ownsRow_made wq #[] 0 (Nat.le_refl _) (by unfold maxLen; omega) (by simp)
  have hrT1 := hrT.keep (up_alloc (Below.refl _ wq) (.cells #[] 3)) hleT
  go_wp2_with (at_builtin; refine wpList_append_own _ rfl _ _ 26 rfl wq.heap.size 3 i0 (.int .i64 0) 1 8 Try.underlying26 hi0 hz0 hz1 hz2 rfl (by decide) _ _ _ rfl hownE ⟨b2, o2, none⟩ n1 c1 (ivs ts) rfl hrT1.1 hrT1.src (ivs_one ts) (by unfold maxLen; omega) (by omega) (by first | omega | simp) ?_)
  intro vm wm hownM hgM _
  have hBX := up_grown (up_alloc (Below.refl _ wq) (.cells #[] 3)) hownE hgM (Nat.le_refl _)
  try simp only [Nat.zero_add, List.nil_append] at hownM
  obtain ⟨gm, cm, rfl, hgm1, hgm2, _⟩ := own_first hownM (by omega)
  have HOW := Lib.hid hownM
  have HBX := Lib.hid hBX
  clear hownE hownM hgM hBX hrT hrT1 hi0 hz0 hz1 hz2
  have q1 := (HBX.out.cell (p := ⟨b1, o1 + kk, none⟩) (by show b1 < wq.heap.size; exact hbq1)).trans hcq1
  have q2 := (HBX.out.cell (p := ⟨b2, o2 + kk, none⟩) (by show b2 < wq.heap.size; omega)).trans hcq2
  have hmk := HOW.out.cellAt kk (by omega)
  rw [ivs_atD (by omega)] at hmk
  have hmf := HOW.out.frozenAt kk
  have hst := (HOW.out.stored kk (.int .i64 (tv + sv))).1
  rw [ivs_put] at hst
  have hsm := HBX.out.size
  have HOW2 := Lib.hid (show World.ownsRow (wm.setCell ⟨gm, kk, none⟩ (.int .i64 (tv + sv))).drew wq.heap.size 3 1 (.slice (some ⟨gm, 0, none⟩) n1 cm) n1 (ivs (ts.set kk (tv + sv))) from hst)
  have HBX2 := Lib.hid (up_drew (HBX.out.setCell (p := ⟨gm, kk, none⟩) hgm1 (.int .i64 (tv + sv))))
  clear hst HOW HBX
  obtain ⟨ok1, tot1⟩ := HB1.out sv s0 (by omega)
  obtain ⟨ok2, tot2⟩ := HB1.out (sv + 1) (by omega) (by omega)
  have HT1 := Lib.hid (show totalR ns fs (ts.set kk (tv + sv)) = M from by rw [totalR_yes ok1, tot1]; omega)
  have HT2 := Lib.hid (show totalR ns fs (ts.set kk (tv + (sv + 1))) = M + 1 from by rw [totalR_yes ok2, tot2]; omega)
  clear ok1 tot1 ok2 tot2 HB1
  go_wp2_with (fail)
  go_region
  obtain ⟨wn, hwn⟩ : ∃ wn, (wm.setCell ⟨gm, kk, none⟩ (.int .i64 (tv + sv))).drew = wn := ⟨_, rfl⟩
  rw [hwn] at HOW2 HBX2 ⊢
  have hgn : gm < wn.heap.size := by rw [← hwn]; simpa [World.drew, World.setCell] using hgm2
  clear hwn q1 q2 hmk hmf
  have k0 := (HPC_60.out.below HBX2.out).k0
  have k1 := (HPC_60.out.below HBX2.out).k1
  have HCT := Lib.hid ((HPC_60.out.below HBX2.out).totalI (c' := cm) (show Rb wn (some ⟨gm, 0, none⟩) n1 (ts.set kk (tv + sv)) from ⟨wn.heap.size, (Rd.of_own HOW2.out).wide (Nat.zero_le _) (Nat.le_refl _), Nat.le_refl _⟩) (by omega))
  go_wp2_with (fail)
  (with_reducible refine HCT.out.mono ?_)
  clear HCT k0 k1
  rintro e wo ⟨rfl, hbo⟩
  rw [HT1.out]
  have HOW3 := Lib.hid (own_keep HOW2.out hbo)
  have HBX3 := Lib.hid (up HBX2.out hbo)
  have hmk := HOW3.out.cellAt kk (by omega)
  rw [ivs_atD (by rw [List.length_set]; omega), List.getD_eq_getElem?_getD, List.getElem?_set, if_pos rfl, if_pos (by omega)] at hmk
  simp only [Option.getD_some] at hmk
  have hmf := HOW3.out.frozenAt kk
  have hst := (HOW3.out.stored kk (.int .i64 (tv + sv + 1))).1
  rw [ivs_put, List.set_set] at hst
  have HOW4 := Lib.hid (show World.ownsRow (wo.setCell ⟨gm, kk, none⟩ (.int .i64 (tv + sv + 1))) wq.heap.size 3 1 (.slice (some ⟨gm, 0, none⟩) n1 cm) n1 (ivs (ts.set kk (tv + (sv + 1)))) from by rw [show tv + (sv + 1) = tv + sv + 1 by omega]; exact hst)
  have HBX4 := Lib.hid (HBX3.out.setCell (p := ⟨gm, kk, none⟩) hgm1 (.int .i64 (tv + sv + 1)))
  clear hbo hst HOW2 HBX2 HOW3 HBX3
  have k0 := (HPC_60.out.below HBX4.out).k0
  have k1 := (HPC_60.out.below HBX4.out).k1
  have HCT := Lib.hid ((HPC_60.out.below HBX4.out).totalI (c' := cm) (show Rb (wo.setCell ⟨gm, kk, none⟩ (.int .i64 (tv + sv + 1))) (some ⟨gm, 0, none⟩) n1 (ts.set kk (tv + (sv + 1))) from ⟨_, (Rd.of_own HOW4.out).wide (Nat.zero_le _) (Nat.le_refl _), Nat.le_refl _⟩) (by omega))
  have hmm : (M == M) = true := by simp
  have hmm1 : (M + 1 == M + 1) = true := by simp
  have hw3 : IntKind.i64.wrap (M + 1) = M + 1 := IntWalk.i64_in _ (by omega)
  go_wp2_with (fail)
  (with_reducible refine HCT.out.mono ?_)
  clear HCT k0 k1
  rintro e wp ⟨rfl, hbp⟩
  rw [HT2.out]
  have HBZ := Lib.hid (up (up HBL_61.out HBX4.out) hbp)
  clear hbp HOW4 HBX4
  go_wp2
  go_ret
  exact ⟨rfl, HBZ.out⟩
end Go.Proofs.Ytdjpffmnohnpaaa
