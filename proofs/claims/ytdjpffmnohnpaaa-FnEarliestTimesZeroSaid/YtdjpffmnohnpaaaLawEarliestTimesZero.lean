/- The law FnEarliestTimesZero, walked: it returns true. (Written by gen/lawplan.py.) -/
import Derived.Test.YtdjpffmnohnpaaaLawPlan0
import Derived.Test.YtdjpffmnohnpaaaTokTakenS1
import Derived.Deep.RegionLaw
import Derived.Deep.RegionHeld3
import Derived.BigQuiet
import Derived.BigRegion
import Derived.Lib.MinMax
set_option linter.unusedSimpArgs false
set_option linter.unusedVariables false
namespace Go.Proofs.Ytdjpffmnohnpaaa
open Go.RowKit

/-- Without times everything begins at once. -/
theorem zero_ok {ns : List (Int × Int)} {fs : List Flw} {ts : List Int} {N : Nat} (hU : planOk ns fs ts = true) (hN : ns.length = N) :
    (earlyR ns fs (List.replicate N 0)).length = N ∧ (∀ z ∈ earlyR ns fs (List.replicate N 0), 0 ≤ z ∧ z ≤ 1000) ∧ (earlyR ns fs (List.replicate N 0)).sum = 0 ∧ totalR ns fs (List.replicate N 0) = 0 := by
  have hv : vTimes ns (List.replicate N 0) = true := by
    unfold vTimes
    rw [Bool.and_eq_true, List.all_eq_true]
    exact ⟨by simp [hN], fun z hz => by rw [(List.mem_replicate.1 hz).2]; rfl⟩
  have hU' : planOk ns fs (List.replicate N 0) = true := by
    unfold planOk at hU ⊢
    rw [Bool.and_eq_true] at hU ⊢
    exact ⟨hU.1, hv⟩
  have h := plan_of hU'
  have hK : Keeps (esOf fs) (List.replicate N 0) (fun _ => 0) := ⟨fun _ => Int.le_refl _, fun e _ => by rw [beg_zeros]; exact Int.le_refl _⟩
  have h0 : ∀ v, beg (earlyOf ns fs (List.replicate N 0)) v = 0 := fun v => by
    have h1 := h.below hK v
    have h2 := (h.early v).1
    have h1 : beg (earlyOf ns fs (List.replicate N 0)) v ≤ 0 := h1
    omega
  have hz : ∀ z ∈ earlyOf ns fs (List.replicate N 0), z = 0 := fun z hz => by
    obtain ⟨i, hi, he⟩ := List.getElem_of_mem hz
    have := h0 i
    rw [beg_at (List.getElem?_eq_getElem hi)] at this
    omega
  have hs : ∀ l : List Int, (∀ z ∈ l, z = 0) → l.sum = 0 := by
    intro l
    induction l with
    | nil => exact fun _ => rfl
    | cons a l ih => intro hl; rw [List.sum_cons, ih fun z hz => hl z (by simp [hz]), hl a (by simp)]; rfl
  rw [earlyR_yes hU', totalR_yes hU']
  refine ⟨by rw [earlyOf_len]; exact hN, fun z hz' => by rw [hz z hz']; omega, hs _ hz, ?_⟩
  have h1 := h.total_le hK (Int.le_refl 0) fun v _ => by rw [beg_zeros]; omega
  have h2 := h.totalOf.1
  omega

set_option maxRecDepth 100000 in
set_option maxHeartbeats 6400000 in
theorem lawEarliestTimesZero_any (n c : Nat) (A : Option Addr) (xs : List Int) (w : World) (hr : Rd w 0 w.heap.size 1 A n (bvs xs)) (hby : Bytes xs) (hc : n ≤ c) (hc2 : c ≤ 9223372036854775807) :
    Calls Try.prog 8 #[.slice A n c] w fun e w' => e = .returned (.bool true) ∧ Below w.heap.size w w' := by
  by_cases hbig : (1048576 : Int) < n
  · go_enter Try.func8, Try.ntmps8
    go_wp2
    go_ret
    exact ⟨rfl, Below.refl _ _⟩
  go_enter Try.func8, Try.ntmps8
  go_wp2_with (fail)
  (with_reducible refine (drawEarliestTimes_any n c A xs w hr hby (by omega) hc hc2).mono ?_)
  have hn9 : n ≤ 1048576 := by omega
  clear hbig
  rintro e w1 ⟨An, nn, cn, Af, lf, cf, ns, fs, A1, n1, c1, ts, rfl, hn1, hP, hM, hb1⟩
  have hn21 := hP.n21
  have hf21 := hP.f21
  have hba := up_alloc (Below.refl _ w1) (.cells #[.slice An nn cn, .slice Af lf cf] 32)
  have HPC0 := Lib.hid (Pc.new (hP.wide (Nat.zero_le _) (Nat.le_refl _)))
  have HT0 := Lib.hid (show Rb (w1.alloc (.cells #[.slice An nn cn, .slice Af lf cf] 32)) A1 n1 ts from ⟨w1.heap.size, (hM.wide (Nat.zero_le _) (Nat.le_refl _)).keep hba (Nat.le_refl _), hba.size⟩)
  have HBL0 := Lib.hid (up hb1 hba)
  clear hP hM hb1 hba
  have hlf := HPC0.out.flen
  have hln := HPC0.out.nlen
  have HLF := Lib.hid hlf
  have HLN := Lib.hid hln
  clear hlf hln
  cases hU : planOk ns fs ts with
  | false =>
    have HR := Lib.hid (earlyR_no hU)
    clear hU
    have k_1 := HPC0.out.k0
    have k_2 := HPC0.out.k1
    go_wp2_with (fail)
    (with_reducible refine (HPC0.out.earlyI HT0.out (by omega)).mono ?_)
    rw [HR.out]
    rintro e w2 ⟨AR, cR, rfl, hrw, hbt⟩
    rw [List.length_nil] at hrw ⊢
    clear k_1 k_2
    have HT_3 := Lib.hid (HT0.out.below hbt)
    have HPC_4 := Lib.hid (HPC0.out.below hbt)
    have HBL_5 := Lib.hid (up HBL0.out hbt)
    clear HT0 HPC0 HBL0
    have HR_6 := Lib.hid hrw
    clear hrw hbt
    have k_7 := HPC_4.out.k0
    have k_8 := HPC_4.out.k1
    go_wp2_with (fail)
    (with_reducible refine (HPC_4.out.earlyS HT_3.out (by omega)).mono ?_)
    rw [HR.out]
    rintro e w3 ⟨AS, cS, rfl, hrw, hbt⟩
    rw [List.length_nil] at hrw ⊢
    clear k_7 k_8
    have HT_9 := Lib.hid (HT_3.out.below hbt)
    have HR_10 := Lib.hid (HR_6.out.below hbt)
    have HPC_11 := Lib.hid (HPC_4.out.below hbt)
    have HBL_12 := Lib.hid (up HBL_5.out hbt)
    clear HT_3 HR_6 HPC_4 HBL_5
    have HS_13 := Lib.hid hrw
    clear hrw hbt
    have HE_14 := Lib.hid (eqRb HR_10.out HS_13.out (by omega) (by omega) cR cS)
    go_wp2_with (fail)
    (with_reducible refine HE_14.out.mono ?_)
    clear HE_14
    rintro e w4 ⟨rfl, hbt⟩
    rw [beq_self_eq_true]
    have HT_15 := Lib.hid (HT_9.out.below hbt)
    have HR_16 := Lib.hid (HR_10.out.below hbt)
    have HS_17 := Lib.hid (HS_13.out.below hbt)
    have HPC_18 := Lib.hid (HPC_11.out.below hbt)
    have HBL_19 := Lib.hid (up HBL_12.out hbt)
    clear HT_9 HR_10 HS_13 HPC_11 HBL_12
    clear hbt
    clear HS_17
    have k_20 := HPC_18.out.k0
    have k_21 := HPC_18.out.k1
    go_wp2_with (fail)
    (with_reducible refine (HPC_18.out.earlyS HT_15.out (by omega)).mono ?_)
    rw [HR.out]
    rintro e w5 ⟨AS2, cS2, rfl, hrw, hbt⟩
    rw [List.length_nil] at hrw ⊢
    clear k_20 k_21
    have HT_22 := Lib.hid (HT_15.out.below hbt)
    have HR_23 := Lib.hid (HR_16.out.below hbt)
    have HPC_24 := Lib.hid (HPC_18.out.below hbt)
    have HBL_25 := Lib.hid (up HBL_19.out hbt)
    clear HT_15 HR_16 HPC_18 HBL_19
    have HS2_26 := Lib.hid hrw
    clear hrw hbt
    have HE_27 := Lib.hid (eqRb HR_23.out HS2_26.out (by omega) (by omega) cR cS2)
    go_wp2_with (fail)
    (with_reducible refine HE_27.out.mono ?_)
    clear HE_27
    rintro e w6 ⟨rfl, hbt⟩
    rw [beq_self_eq_true]
    have HT_28 := Lib.hid (HT_22.out.below hbt)
    have HR_29 := Lib.hid (HR_23.out.below hbt)
    have HS2_30 := Lib.hid (HS2_26.out.below hbt)
    have HPC_31 := Lib.hid (HPC_24.out.below hbt)
    have HBL_32 := Lib.hid (up HBL_25.out hbt)
    clear HT_22 HR_23 HS2_26 HPC_24 HBL_25
    clear hbt
    go_wp2
    go_ret
    exact ⟨rfl, HBL_32.out⟩
  | true =>
  have HR := Lib.hid (earlyR_yes hU)
  have HP := Lib.hid (plan_of hU)
  have hnt : n1 = nn := by have h1 := vTimes_len HP.out.t; have h2 := HT0.out.len; have h3 := HLN.out; omega
  subst hnt
  have hn10 : n1 ≤ 10 := by have := (vProc_len HP.out.v).2.1; have := HLN.out; omega
  have hn2 : 2 ≤ n1 := by have := (vProc_len HP.out.v).1; have := HLN.out; omega
  obtain ⟨zl, zb, zs, zt⟩ := zero_ok hU HLN.out
  have HZB := Lib.hid zb
  have HZS := Lib.hid zs
  have HZT := Lib.hid zt
  clear zb zs zt hU
  have hel : (earlyOf ns fs ts).length = n1 := by rw [earlyOf_len]; exact HLN.out
  have k_33 := HPC0.out.k0
  have k_34 := HPC0.out.k1
  go_wp2_with (fail)
  (with_reducible refine (HPC0.out.earlyI HT0.out (by omega)).mono ?_)
  rw [HR.out]
  rintro e w2 ⟨AE, cE, rfl, hrw, hbt⟩
  rw [hel] at hrw ⊢
  clear k_33 k_34
  have HT_35 := Lib.hid (HT0.out.below hbt)
  have HPC_36 := Lib.hid (HPC0.out.below hbt)
  have HBL_37 := Lib.hid (up HBL0.out hbt)
  clear HT0 HPC0 HBL0
  have HE_38 := Lib.hid hrw
  clear hrw hbt
  have k_39 := HPC_36.out.k0
  have k_40 := HPC_36.out.k1
  go_wp2_with (fail)
  (with_reducible refine (HPC_36.out.earlyS HT_35.out (by omega)).mono ?_)
  rw [HR.out]
  rintro e w3 ⟨AS, cS, rfl, hrw, hbt⟩
  rw [hel] at hrw ⊢
  clear k_39 k_40
  have HT_41 := Lib.hid (HT_35.out.below hbt)
  have HE_42 := Lib.hid (HE_38.out.below hbt)
  have HPC_43 := Lib.hid (HPC_36.out.below hbt)
  have HBL_44 := Lib.hid (up HBL_37.out hbt)
  clear HT_35 HE_38 HPC_36 HBL_37
  have HS_45 := Lib.hid hrw
  clear hrw hbt
  have HE_46 := Lib.hid (eqRb HE_42.out HS_45.out (by omega) (by omega) cE cS)
  go_wp2_with (fail)
  (with_reducible refine HE_46.out.mono ?_)
  clear HE_46
  rintro e w4 ⟨rfl, hbt⟩
  rw [beq_self_eq_true]
  have HT_47 := Lib.hid (HT_41.out.below hbt)
  have HE_48 := Lib.hid (HE_42.out.below hbt)
  have HS_49 := Lib.hid (HS_45.out.below hbt)
  have HPC_50 := Lib.hid (HPC_43.out.below hbt)
  have HBL_51 := Lib.hid (up HBL_44.out hbt)
  clear HT_41 HE_42 HS_45 HPC_43 HBL_44
  clear hbt
  clear HS_49
  clear HE_48
  have hq0 : ((n1 : Int) == 0) = false := by simp; omega
  clear hel
  have k_52 := HPC_50.out.k0
  have k_53 := HPC_50.out.k1
  have HZL := Lib.hid zl
  clear zl
  go_wp2_with (fail)
  obtain ⟨i0, hi0, hz0, hz1, hz2⟩ := info_parts infoInt
  have HMK := Lib.hid (show ∀ wx, Below w4.heap.size w4 wx → ∃ wm, (Instr.makeSlice 26 (.int .i64 (n1 : Int)) (.int .i64 (n1 : Int))).run Try.prog wx = .ok (.slice (some ⟨wx.heap.size, 0, none⟩) n1 n1) wm ∧ Rb wm (some ⟨wx.heap.size, 0, none⟩) n1 (List.replicate n1 0) ∧ Below w4.heap.size w4 wm from fun wx hb => by
    obtain ⟨wm, hmk, hown, hgr⟩ := run_make_full (P := Try.prog) wx wx.heap.size 26 3 i0 _ 1 Try.underlying26 hi0 hz0 hz1 .i64 .i64 n1 (by rw [hz2]; omega) (by unfold maxLen; omega) (Nat.le_refl _)
    have hcell0 : (madeCells (Value.int .i64 0).cells (n1 * 1)).toList = ivs (List.replicate n1 0) := by
      show (madeCells #[.int .i64 0] (n1 * 1)).toList = _
      rw [toList_madeCells_one, Nat.mul_one]; simp [ivs]
    rw [hcell0] at hown
    exact ⟨wm, hmk, ⟨wm.heap.size, (Rd.of_own hown).wide (Nat.zero_le _) (Nat.le_refl _), Nat.le_refl _⟩, hb.grown hgr hb.size (fun j e => by cases e)⟩)
  obtain ⟨wm, hmk, hrm, hbm⟩ := (show ∃ wm, (Instr.makeSlice 26 (.int .i64 (n1 : Int)) (.int .i64 (n1 : Int))).run Try.prog w4.drew = .ok (.slice (some ⟨w4.heap.size, 0, none⟩) n1 n1) wm ∧ Rb wm (some ⟨w4.heap.size, 0, none⟩) n1 (List.replicate n1 0) ∧ Below w4.heap.size w4 wm from HMK.out w4.drew (up_drew (Below.refl _ w4)))
  have HC1 := Lib.hid ((HPC_50.out.below hbm).earlyI (c' := n1) hrm (by omega))
  have HBM := Lib.hid hbm
  clear hrm hbm hi0 hz0 hz1 hz2
  go_region_held3 (fun w' => w'.cell? ⟨w1.heap.size, 0, none⟩ = some (.slice An n1 cn) ∧ w'.cell? ⟨w1.heap.size, 1, none⟩ = some (.slice Af lf cf))
    (first
      | exact ⟨k_52, k_53⟩
      | exact ⟨(HPC_50.out.below HBM.out).k0, (HPC_50.out.below HBM.out).k1⟩
      | exact ⟨(HPC_50.out.below HB2).k0, (HPC_50.out.below HB2).k1⟩
      | exact ⟨(HPC_50.out.below HB3).k0, (HPC_50.out.below HB3).k1⟩
      | exact ⟨(HPC_50.out.below HB4).k0, (HPC_50.out.below HB4).k1⟩)
    ((first
      | (go_at_call 19; (with_reducible refine HC1.out.mono ?_); rintro e wa ⟨Az, cz, rfl, hrz, hbz⟩; have HB2 := up HBM.out hbz; obtain ⟨wb, hmk2, hrm2, HB3⟩ := HMK.out wa HB2; have HRZ := Lib.hid hrz; have HRM2 := Lib.hid hrm2; clear hrz hrm2 hbz)
      | (go_at_call 33; (with_reducible refine (sumRb HRZ.out (by rw [HZL.out]; omega) HZB.out cz).mono ?_); rintro e wc ⟨rfl, rfl⟩; rw [HZS.out])
      | (go_at_call 26; (with_reducible refine ((HPC_50.out.below HB3).totalI (c' := n1) HRM2.out (by omega)).mono ?_); rintro e wd ⟨rfl, hbd⟩; have HB4 := up HB3 hbd; rw [HZT.out])))
  all_goals
    have HBF := Lib.hid (up HBL_51.out HB4)
    clear HB2 HB3 HB4
    go_wp2
    go_ret
    exact ⟨rfl, HBF.out⟩
end Go.Proofs.Ytdjpffmnohnpaaa
