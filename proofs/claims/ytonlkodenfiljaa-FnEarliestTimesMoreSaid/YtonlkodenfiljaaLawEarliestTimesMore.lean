/- The law FnEarliestTimesMore, walked: it returns true. (Written by gen/lawplan.py.) -/
import Derived.Test.YtonlkodenfiljaaLawPlan0
import Derived.Test.YtonlkodenfiljaaTokTakenS1
import Derived.Deep.RegionLaw
import Derived.Deep.RegionHeld3
import Derived.BigQuiet
import Derived.BigRegion
import Derived.Lib.MinMax
set_option linter.unusedSimpArgs false
set_option linter.unusedVariables false
namespace Go.Proofs.Ytonlkodenfiljaa
open Go.RowKit

/-- Other times of one node: the plan stands. -/
theorem set_ok {ns : List (Int × Int)} {fs : List Flw} {ts : List Int} {k : Nat} {x : Int} (hU : planOk ns fs ts = true) (h0 : 0 ≤ x) (h5 : x ≤ 500) : planOk ns fs (ts.set k x) = true := by
  have h := plan_of hU
  have hv : vTimes ns (ts.set k x) = true := by
    have := h.t
    unfold vTimes at this ⊢
    rw [Bool.and_eq_true, List.all_eq_true] at this ⊢
    refine ⟨by rw [List.length_set]; exact this.1, fun z hz => ?_⟩
    rcases List.mem_or_eq_of_mem_set hz with hz | rfl
    · exact this.2 z hz
    · exact inR_iff.2 ⟨h0, h5⟩
  unfold planOk at hU ⊢
  rw [Bool.and_eq_true] at hU ⊢
  exact ⟨hU.1, hv⟩

set_option maxRecDepth 100000 in
set_option maxHeartbeats 6400000 in
theorem lawEarliestTimesMore_any (n c : Nat) (A : Option Addr) (xs : List Int) (w : World) (hr : Rd w 0 w.heap.size 1 A n (bvs xs)) (hby : Bytes xs) (hc : n ≤ c) (hc2 : c ≤ 9223372036854775807) :
    Calls Try.prog 3 #[.slice A n c] w fun e w' => e = .returned (.bool true) ∧ Below w.heap.size w w' := by
  by_cases hbig : (1048576 : Int) < n
  · go_enter Try.func3, Try.ntmps3
    go_wp2
    go_ret
    exact ⟨rfl, Below.refl _ _⟩
  go_enter Try.func3, Try.ntmps3
  go_wp2_with (fail)
  (with_reducible refine (drawEarliestTimes_any n c A xs w hr hby (by omega) hc hc2).mono ?_)
  have hn9 : n ≤ 1048576 := by omega
  clear hbig
  rintro e w1 ⟨An, nn, cn, Af, lf, cf, ns, fs, A1, n1, c1, ts, rfl, hn1, hP, hM, hb1⟩
  have hn21 := hP.n21
  have hf21 := hP.f21
  have hba := up_alloc (Below.refl _ w1) (.cells #[.slice An nn cn, .slice Af lf cf] 26)
  have HPC0 := Lib.hid (Pc.new (hP.wide (Nat.zero_le _) (Nat.le_refl _)))
  have HT0 := Lib.hid (show Rb (w1.alloc (.cells #[.slice An nn cn, .slice Af lf cf] 26)) A1 n1 ts from ⟨w1.heap.size, (hM.wide (Nat.zero_le _) (Nat.le_refl _)).keep hba (Nat.le_refl _), hba.size⟩)
  have HBL0 := Lib.hid (up hb1 hba)
  clear hP hM hb1 hba
  have hlf := HPC0.out.flen
  have hln := HPC0.out.nlen
  have HLF := Lib.hid hlf
  have HLN := Lib.hid hln
  clear hlf hln
  cases hU : planOk ns fs ts with
  | false =>
    have HR := Lib.hid (earlyR_no hU)
    clear hU
    have k_1 := HPC0.out.k0
    have k_2 := HPC0.out.k1
    go_wp2_with (fail)
    (with_reducible refine (HPC0.out.earlyI HT0.out (by omega)).mono ?_)
    rw [HR.out]
    rintro e w2 ⟨AR, cR, rfl, hrw, hbt⟩
    rw [List.length_nil] at hrw ⊢
    clear k_1 k_2
    have HT_3 := Lib.hid (HT0.out.below hbt)
    have HPC_4 := Lib.hid (HPC0.out.below hbt)
    have HBL_5 := Lib.hid (up HBL0.out hbt)
    clear HT0 HPC0 HBL0
    have HR_6 := Lib.hid hrw
    clear hrw hbt
    have k_7 := HPC_4.out.k0
    have k_8 := HPC_4.out.k1
    go_wp2_with (fail)
    (with_reducible refine (HPC_4.out.earlyS HT_3.out (by omega)).mono ?_)
    rw [HR.out]
    rintro e w3 ⟨AS, cS, rfl, hrw, hbt⟩
    rw [List.length_nil] at hrw ⊢
    clear k_7 k_8
    have HT_9 := Lib.hid (HT_3.out.below hbt)
    have HR_10 := Lib.hid (HR_6.out.below hbt)
    have HPC_11 := Lib.hid (HPC_4.out.below hbt)
    have HBL_12 := Lib.hid (up HBL_5.out hbt)
    clear HT_3 HR_6 HPC_4 HBL_5
    have HS_13 := Lib.hid hrw
    clear hrw hbt
    have HE_14 := Lib.hid (eqRb HR_10.out HS_13.out (by omega) (by omega) cR cS)
    go_wp2_with (fail)
    (with_reducible refine HE_14.out.mono ?_)
    clear HE_14
    rintro e w4 ⟨rfl, hbt⟩
    rw [beq_self_eq_true]
    have HT_15 := Lib.hid (HT_9.out.below hbt)
    have HR_16 := Lib.hid (HR_10.out.below hbt)
    have HS_17 := Lib.hid (HS_13.out.below hbt)
    have HPC_18 := Lib.hid (HPC_11.out.below hbt)
    have HBL_19 := Lib.hid (up HBL_12.out hbt)
    clear HT_9 HR_10 HS_13 HPC_11 HBL_12
    clear hbt
    clear HS_17
    have k_20 := HPC_18.out.k0
    have k_21 := HPC_18.out.k1
    go_wp2_with (fail)
    (with_reducible refine (HPC_18.out.earlyS HT_15.out (by omega)).mono ?_)
    rw [HR.out]
    rintro e w5 ⟨AS2, cS2, rfl, hrw, hbt⟩
    rw [List.length_nil] at hrw ⊢
    clear k_20 k_21
    have HT_22 := Lib.hid (HT_15.out.below hbt)
    have HR_23 := Lib.hid (HR_16.out.below hbt)
    have HPC_24 := Lib.hid (HPC_18.out.below hbt)
    have HBL_25 := Lib.hid (up HBL_19.out hbt)
    clear HT_15 HR_16 HPC_18 HBL_19
    have HS2_26 := Lib.hid hrw
    clear hrw hbt
    have HE_27 := Lib.hid (eqRb HR_23.out HS2_26.out (by omega) (by omega) cR cS2)
    go_wp2_with (fail)
    (with_reducible refine HE_27.out.mono ?_)
    clear HE_27
    rintro e w6 ⟨rfl, hbt⟩
    rw [beq_self_eq_true]
    have HT_28 := Lib.hid (HT_22.out.below hbt)
    have HR_29 := Lib.hid (HR_23.out.below hbt)
    have HS2_30 := Lib.hid (HS2_26.out.below hbt)
    have HPC_31 := Lib.hid (HPC_24.out.below hbt)
    have HBL_32 := Lib.hid (up HBL_25.out hbt)
    clear HT_22 HR_23 HS2_26 HPC_24 HBL_25
    clear hbt
    go_wp2
    go_ret
    exact ⟨rfl, HBL_32.out⟩
  | true =>
  have HR := Lib.hid (earlyR_yes hU)
  have HP := Lib.hid (plan_of hU)
  have hnt : n1 = nn := by have h1 := vTimes_len HP.out.t; have h2 := HT0.out.len; have h3 := HLN.out; omega
  subst hnt
  have hn10 : n1 ≤ 10 := by have := (vProc_len HP.out.v).2.1; have := HLN.out; omega
  have hn2 : 2 ≤ n1 := by have := (vProc_len HP.out.v).1; have := HLN.out; omega
  have hel : (earlyOf ns fs ts).length = n1 := by rw [earlyOf_len]; exact HLN.out
  have k_33 := HPC0.out.k0
  have k_34 := HPC0.out.k1
  go_wp2_with (fail)
  (with_reducible refine (HPC0.out.earlyI HT0.out (by omega)).mono ?_)
  rw [HR.out]
  rintro e w2 ⟨AE, cE, rfl, hrw, hbt⟩
  rw [hel] at hrw ⊢
  clear k_33 k_34
  have HT_35 := Lib.hid (HT0.out.below hbt)
  have HPC_36 := Lib.hid (HPC0.out.below hbt)
  have HBL_37 := Lib.hid (up HBL0.out hbt)
  clear HT0 HPC0 HBL0
  have HE_38 := Lib.hid hrw
  clear hrw hbt
  have k_39 := HPC_36.out.k0
  have k_40 := HPC_36.out.k1
  go_wp2_with (fail)
  (with_reducible refine (HPC_36.out.earlyS HT_35.out (by omega)).mono ?_)
  rw [HR.out]
  rintro e w3 ⟨AS, cS, rfl, hrw, hbt⟩
  rw [hel] at hrw ⊢
  clear k_39 k_40
  have HT_41 := Lib.hid (HT_35.out.below hbt)
  have HE_42 := Lib.hid (HE_38.out.below hbt)
  have HPC_43 := Lib.hid (HPC_36.out.below hbt)
  have HBL_44 := Lib.hid (up HBL_37.out hbt)
  clear HT_35 HE_38 HPC_36 HBL_37
  have HS_45 := Lib.hid hrw
  clear hrw hbt
  have HE_46 := Lib.hid (eqRb HE_42.out HS_45.out (by omega) (by omega) cE cS)
  go_wp2_with (fail)
  (with_reducible refine HE_46.out.mono ?_)
  clear HE_46
  rintro e w4 ⟨rfl, hbt⟩
  rw [beq_self_eq_true]
  have HT_47 := Lib.hid (HT_41.out.below hbt)
  have HE_48 := Lib.hid (HE_42.out.below hbt)
  have HS_49 := Lib.hid (HS_45.out.below hbt)
  have HPC_50 := Lib.hid (HPC_43.out.below hbt)
  have HBL_51 := Lib.hid (up HBL_44.out hbt)
  clear HT_41 HE_42 HS_45 HPC_43 HBL_44
  clear hbt
  clear HS_49
  have hq0 : ((n1 : Int) == 0) = false := by simp; omega
  clear hel
  obtain ⟨kk, hkk⟩ : ∃ kk, n % n1 = kk := ⟨_, rfl⟩
  have hkl : kk < n1 := by rw [← hkk]; exact Nat.mod_lt _ (by omega)
  have htm : ((n : Nat) : Int).tmod ((n1 : Nat) : Int) = (kk : Int) := by rw [Int.tmod_eq_emod_of_nonneg (by omega), ← hkk]; exact (Int.natCast_emod n n1).symm
  have htm' : ((n : Nat) : Int) % ((n1 : Nat) : Int) = (kk : Int) := by rw [← hkk]; exact (Int.natCast_emod n n1).symm
  clear hkk
  have h0kk : (0 : Int) ≤ (kk : Int) := by omega
  have h1kk : (kk : Int) < (n1 : Int) := by omega
  have htl : ts.length = n1 := HT_47.out.len
  have ht := vTimes_at HP.out.t kk
  obtain ⟨i0, hi0, hz0, hz1, hz2⟩ := info_parts infoInt
  obtain ⟨hiT, hrT, hleT⟩ := HT_47.out
  obtain ⟨bT, oT, hAT, hbT0, hbT1⟩ := hrT.form (by omega)
  subst hAT
  have hownE : (w4.alloc (.cells #[] 3)).ownsRow w4.heap.size 3 1 (.slice (some ⟨w4.heap.size, 0, none⟩) 0 0) 0 [] := World.ownsRow_made w4 #[] 0 (Nat.le_refl _) (by unfold maxLen; omega) (by simp)
  have hrT1 := hrT.keep (up_alloc (Below.refl _ w4) (.cells #[] 3)) hleT
  go_wp2_with (at_builtin; refine wpList_append_own _ rfl _ _ 27 rfl w4.heap.size 3 i0 (.int .i64 0) 1 8 Try.underlying27 hi0 hz0 hz1 hz2 rfl (by decide) _ _ _ rfl hownE ⟨bT, oT, none⟩ n1 c1 (ivs ts) rfl hrT1.1 hrT1.src (ivs_one ts) (by unfold maxLen; omega) (by omega) (by first | omega | simp) ?_)
  intro vm wm hownM hgM _
  have hBX := up_grown (up_alloc (Below.refl _ w4) (.cells #[] 3)) hownE hgM (Nat.le_refl _)
  try simp only [Nat.zero_add, List.nil_append] at hownM
  obtain ⟨gm, cm, rfl, hgm1, hgm2, _⟩ := own_first hownM (by omega)
  have HOW := Lib.hid hownM
  have HBX := Lib.hid hBX
  clear hownE hownM hgM hBX hrT hrT1 hi0 hz0 hz1 hz2
  have hmk := HOW.out.cellAt kk (by omega)
  rw [ivs_atD (by omega)] at hmk
  have hbk : ts.getD kk 0 = beg ts kk := rfl
  rw [hbk] at hmk
  have hmf := HOW.out.frozenAt kk
  have HSET := Lib.hid (set_ok (k := kk) (x := min (beg ts kk + 9) 500) hU (by omega) (by omega))
  have HMO := Lib.hid (HP.out.mono (plan_of HSET.out) (fun v => by
    show beg ts v ≤ beg (ts.set kk (min (beg ts kk + 9) 500)) v
    rw [beg_set ts kk v _ (by omega)]
    have := vTimes_at HP.out.t v
    split
    · rename_i hv; subst hv; omega
    · omega))
  have HER2 := Lib.hid (earlyR_yes HSET.out)
  have hel2 : (earlyOf ns fs (ts.set kk (min (beg ts kk + 9) 500))).length = n1 := by rw [earlyOf_len]; exact HLN.out
  clear hU hbk
  generalize beg ts kk = tv at *
  have hw1 : IntKind.i64.wrap (tv + 9) = tv + 9 := IntWalk.i64_in _ (by omega)
  have hst := (HOW.out.stored kk (.int .i64 (min (tv + 9) 500))).1
  rw [ivs_put] at hst
  have HOW2 := Lib.hid hst
  have HBX2 := Lib.hid (HBX.out.setCell (p := ⟨gm, kk, none⟩) hgm1 (.int .i64 (min (tv + 9) 500)))
  clear hst HOW HBX
  generalize ts.set kk (min (tv + 9) 500) = more at *
  have k0 := (HPC_50.out.below HBX2.out).k0
  have k1 := (HPC_50.out.below HBX2.out).k1
  have HCT := Lib.hid ((HPC_50.out.below HBX2.out).earlyI (c' := cm) (show Rb (wm.setCell ⟨gm, kk, none⟩ (.int .i64 (min (tv + 9) 500))) (some ⟨gm, 0, none⟩) n1 more from ⟨_, (Rd.of_own HOW2.out).wide (Nat.zero_le _) (Nat.le_refl _), Nat.le_refl _⟩) (by omega))
  go_wp2_with (fail)
  (with_reducible refine HCT.out.mono ?_)
  clear HCT k0 k1
  rw [HER2.out]
  rintro e wo ⟨AL, cL, rfl, hrL, hbo⟩
  rw [hel2] at hrL ⊢
  have hbt := up HBX2.out hbo
  clear hbo HOW2 HBX2 hel2 hmk hmf
  have HT_52 := Lib.hid (HT_47.out.below hbt)
  have HE_53 := Lib.hid (HE_48.out.below hbt)
  have HPC_54 := Lib.hid (HPC_50.out.below hbt)
  have HBL_55 := Lib.hid (up HBL_51.out hbt)
  clear HT_47 HE_48 HPC_50 HBL_51
  have HL0 := Lib.hid hrL
  clear hrL hbt
  go_wp2
  have HALL := Lib.hid (show Rb wo (some ⟨bT, oT, none⟩) n1 (ts) ∧ Rb wo AE n1 ((earlyOf ns fs ts)) ∧ Rb wo AL n1 (earlyOf ns fs more) ∧ Pc wo w1.heap.size An n1 cn Af lf cf ns fs ∧ Below w.heap.size w wo from ⟨HT_52.out, HE_53.out, HL0.out, HPC_54.out, HBL_55.out⟩)
  clear HT_52 HE_53 HL0 HPC_54 HBL_55
  go_loopw [9] (fun iv wr => ∃ (k : Nat), k ≤ n1 ∧ iv = .int .i64 k ∧ Hid (Rb wr (some ⟨bT, oT, none⟩) n1 (ts) ∧ Rb wr AE n1 ((earlyOf ns fs ts)) ∧ Rb wr AL n1 (earlyOf ns fs more) ∧ Pc wr w1.heap.size An n1 cn Af lf cf ns fs ∧ Below w.heap.size w wr))
    (fun iv _ => n1 - (intOf iv).toNat)
  case atStart => exact ⟨0, by omega, rfl, HALL⟩
  case round =>
    clear HALL
    obtain ⟨k, hk, rfl, HALL⟩ := hrel
    have HT_56 := Lib.hid HALL.out.1
    have HE_57 := Lib.hid HALL.out.2.1
    have HL_58 := Lib.hid HALL.out.2.2.1
    have HPC_59 := Lib.hid HALL.out.2.2.2.1
    have HBL_60 := Lib.hid HALL.out.2.2.2.2
    clear HALL
    by_cases hkn : k < n1
    · skip
      obtain ⟨b1, o1, hA1, hb1, hc1⟩ := HE_57.out.one hkn
      subst hA1
      obtain ⟨b2, o2, hA2, hb2, hc2⟩ := HL_58.out.one hkn
      subst hA2
      have hle := HMO.out k
      generalize beg (earlyOf ns fs ts) k = ev at *
      generalize beg (earlyOf ns fs more) k = lv at *
      have hgt : decide (lv < ev) = false := decide_eq_false (by omega)
      have g1 : decide ((n1 : Int) ≤ (k : Int)) = false := decide_eq_false (by omega)
      have g1' : decide (n1 ≤ k) = false := decide_eq_false (by omega)
      have h0k : (0 : Int) ≤ (k : Int) := by omega
      have h1k : (k : Int) < (n1 : Int) := by omega
      have HX : Hid (∀ j : Nat, Rb (wr.drewN j) (some ⟨bT, oT, none⟩) n1 (ts) ∧ Rb (wr.drewN j) (some ⟨b1, o1, none⟩) n1 ((earlyOf ns fs ts)) ∧ Rb (wr.drewN j) (some ⟨b2, o2, none⟩) n1 (earlyOf ns fs more) ∧ Pc (wr.drewN j) w1.heap.size An n1 cn Af lf cf ns fs ∧ Below w.heap.size w (wr.drewN j)) := fun j => ⟨HT_56.out.below (up_drewN (Below.refl _ wr) j), HE_57.out.below (up_drewN (Below.refl _ wr) j), HL_58.out.below (up_drewN (Below.refl _ wr) j), HPC_59.out.below (up_drewN (Below.refl _ wr) j), up HBL_60.out (up_drewN (Below.refl _ wr) j)⟩
      clear HT_56 HE_57 HL_58 HPC_59 HBL_60
      go_wp2_with (fail)
      go_quiet (fail)
      go_wp2
      go_roundw
      case rel => exact ⟨k + 1, by omega, by go_num, HX.out _⟩
      case measure => simp [intOf]; omega
    · obtain rfl : k = n1 := by omega
      go_wp2
      go_ret
      exact ⟨rfl, HBL_60.out⟩
end Go.Proofs.Ytonlkodenfiljaa
