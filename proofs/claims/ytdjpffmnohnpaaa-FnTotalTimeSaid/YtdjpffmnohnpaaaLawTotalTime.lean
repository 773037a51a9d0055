/- The law FnTotalTime, walked: it returns true. (Written by gen/lawplan.py.) -/
import Derived.Test.YtdjpffmnohnpaaaLawPlan0
import Derived.Deep.RegionLaw
import Derived.Deep.RegionHeld3
import Derived.BigQuiet
import Derived.BigRegion
import Derived.Lib.MinMax
set_option linter.unusedSimpArgs false
set_option linter.unusedVariables false
namespace Go.Proofs.Ytdjpffmnohnpaaa
open Go.RowKit

set_option maxRecDepth 100000 in
set_option maxHeartbeats 6400000 in
theorem lawTotalTime_any (n c : Nat) (A : Option Addr) (xs : List Int) (w : World) (hr : Rd w 0 w.heap.size 1 A n (bvs xs)) (hby : Bytes xs) (hc : n ≤ c) (hc2 : c ≤ 9223372036854775807) :
    Calls Try.prog 9 #[.slice A n c] w fun e w' => e = .returned (.bool true) ∧ Below w.heap.size w w' := by
  by_cases hbig : (1048576 : Int) < n
  · go_enter Try.func9, Try.ntmps9
    go_wp2
    go_ret
    exact ⟨rfl, Below.refl _ _⟩
  go_enter Try.func9, Try.ntmps9
  go_wp2_with (fail)
  (with_reducible refine (drawTotalTime_any n c A xs w hr hby (by omega) hc hc2).mono ?_)
  have hn9 : n ≤ 1048576 := by omega
  clear hbig
  rintro e w1 ⟨An, nn, cn, Af, lf, cf, ns, fs, A1, n1, c1, ts, rfl, hn1, hP, hM, hb1⟩
  have hn21 := hP.n21
  have hf21 := hP.f21
  have hba := up_alloc (Below.refl _ w1) (.cells #[.slice An nn cn, .slice Af lf cf] 32)
  have HPC0 := Lib.hid (Pc.new (hP.wide (Nat.zero_le _) (Nat.le_refl _)))
  have HT0 := Lib.hid (show Rb (w1.alloc (.cells #[.slice An nn cn, .slice Af lf cf] 32)) A1 n1 ts from ⟨w1.heap.size, (hM.wide (Nat.zero_le _) (Nat.le_refl _)).keep hba (Nat.le_refl _), hba.size⟩)
  have HBL0 := Lib.hid (up hb1 hba)
  clear hP hM hb1 hba
  have hlf := HPC0.out.flen
  have hln := HPC0.out.nlen
  have HLF := Lib.hid hlf
  have HLN := Lib.hid hln
  clear hlf hln
  cases hU : planOk ns fs ts with
  | false =>
    have HR := Lib.hid (totalR_no hU)
    clear hU
    have k_1 := HPC0.out.k0
    have k_2 := HPC0.out.k1
    go_wp2_with (fail)
    (with_reducible refine (HPC0.out.totalI HT0.out (by omega)).mono ?_)
    rintro e w2 ⟨rfl, hbt⟩
    rw [HR.out]
    clear k_1 k_2
    have HT_3 := Lib.hid (HT0.out.below hbt)
    have HPC_4 := Lib.hid (HPC0.out.below hbt)
    have HBL_5 := Lib.hid (up HBL0.out hbt)
    clear HT0 HPC0 HBL0
    clear hbt
    have k_6 := HPC_4.out.k0
    have k_7 := HPC_4.out.k1
    go_wp2_with (fail)
    (with_reducible refine (HPC_4.out.totalS HT_3.out (by omega)).mono ?_)
    rintro e w3 ⟨rfl, hbt⟩
    rw [HR.out]
    clear k_6 k_7
    have HT_8 := Lib.hid (HT_3.out.below hbt)
    have HPC_9 := Lib.hid (HPC_4.out.below hbt)
    have HBL_10 := Lib.hid (up HBL_5.out hbt)
    clear HT_3 HPC_4 HBL_5
    clear hbt
    have k_11 := HPC_9.out.k0
    have k_12 := HPC_9.out.k1
    go_wp2_with (fail)
    (with_reducible refine (HPC_9.out.totalS HT_8.out (by omega)).mono ?_)
    rintro e w4 ⟨rfl, hbt⟩
    rw [HR.out]
    clear k_11 k_12
    have HT_13 := Lib.hid (HT_8.out.below hbt)
    have HPC_14 := Lib.hid (HPC_9.out.below hbt)
    have HBL_15 := Lib.hid (up HBL_10.out hbt)
    clear HT_8 HPC_9 HBL_10
    clear hbt
    go_wp2
    go_ret
    exact ⟨rfl, HBL_15.out⟩
  | true =>
  have HTR := Lib.hid (totalR_yes hU)
  have HP := Lib.hid (plan_of hU)
  have hnt : n1 = nn := by have h1 := vTimes_len HP.out.t; have h2 := HT0.out.len; have h3 := HLN.out; omega
  subst hnt
  have hn10 : n1 ≤ 10 := by have := (vProc_len HP.out.v).2.1; have := HLN.out; omega
  have hn2 : 2 ≤ n1 := by have := (vProc_len HP.out.v).1; have := HLN.out; omega
  have hM := HP.out.totalOf
  have HGE := Lib.hid (show ∀ v, v < n1 → beg (earlyOf ns fs ts) v + beg ts v ≤ totalOf ns fs ts from fun v hv => HP.out.ge (by have := HLN.out; omega))
  have HER := Lib.hid (earlyR_yes hU)
  clear hU
  have hel : (earlyOf ns fs ts).length = n1 := by rw [earlyOf_len]; exact HLN.out
  obtain ⟨va, hva, hae⟩ := HP.out.at_
  have HAT := Lib.hid (show ((List.range n1).any fun v => beg (earlyOf ns fs ts) v + beg ts v == totalOf ns fs ts) = true from List.any_eq_true.2 ⟨va, List.mem_range.2 (by have := HLN.out; omega), by rw [hae]; simp⟩)
  clear hva hae
  generalize hM0 : totalOf ns fs ts = M at *
  clear hM0
  obtain ⟨M0, M1⟩ := hM
  have hne : (M != M) = false := by simp
  have hlt : decide (M < 0) = false := decide_eq_false (by omega)
  have k_16 := HPC0.out.k0
  have k_17 := HPC0.out.k1
  go_wp2_with (fail)
  (with_reducible refine (HPC0.out.totalI HT0.out (by omega)).mono ?_)
  rintro e w2 ⟨rfl, hbt⟩
  rw [HTR.out]
  clear k_16 k_17
  have HT_18 := Lib.hid (HT0.out.below hbt)
  have HPC_19 := Lib.hid (HPC0.out.below hbt)
  have HBL_20 := Lib.hid (up HBL0.out hbt)
  clear HT0 HPC0 HBL0
  clear hbt
  have k_21 := HPC_19.out.k0
  have k_22 := HPC_19.out.k1
  go_wp2_with (fail)
  (with_reducible refine (HPC_19.out.totalS HT_18.out (by omega)).mono ?_)
  rintro e w3 ⟨rfl, hbt⟩
  rw [HTR.out]
  clear k_21 k_22
  have HT_23 := Lib.hid (HT_18.out.below hbt)
  have HPC_24 := Lib.hid (HPC_19.out.below hbt)
  have HBL_25 := Lib.hid (up HBL_20.out hbt)
  clear HT_18 HPC_19 HBL_20
  clear hbt
  have k_26 := HPC_24.out.k0
  have k_27 := HPC_24.out.k1
  go_wp2_with (fail)
  (with_reducible refine (HPC_24.out.earlyI HT_23.out (by omega)).mono ?_)
  rw [HER.out]
  rintro e w4 ⟨AE, cE, rfl, hrw, hbt⟩
  rw [hel] at hrw ⊢
  clear k_26 k_27
  have HT_28 := Lib.hid (HT_23.out.below hbt)
  have HPC_29 := Lib.hid (HPC_24.out.below hbt)
  have HBL_30 := Lib.hid (up HBL_25.out hbt)
  clear HT_23 HPC_24 HBL_25
  have HE_31 := Lib.hid hrw
  clear hrw hbt
  clear hel
  go_wp2
  have HALL := Lib.hid (show Rb w4 A1 n1 (ts) ∧ Rb w4 AE n1 ((earlyOf ns fs ts)) ∧ Pc w4 w1.heap.size An n1 cn Af lf cf ns fs ∧ Below w.heap.size w w4 from ⟨HT_28.out, HE_31.out, HPC_29.out, HBL_30.out⟩)
  clear HT_28 HE_31 HPC_29 HBL_30
  go_loopw [7, 8] (fun sv iv wr => ∃ (k : Nat), k ≤ n1 ∧ iv = .int .i64 k ∧ sv = .bool ((List.range k).any fun v => beg (earlyOf ns fs ts) v + beg ts v == M) ∧ Hid (Rb wr A1 n1 (ts) ∧ Rb wr AE n1 ((earlyOf ns fs ts)) ∧ Pc wr w1.heap.size An n1 cn Af lf cf ns fs ∧ Below w.heap.size w wr))
    (fun _ iv _ => n1 - (intOf iv).toNat)
  case atStart => exact ⟨0, by omega, rfl, rfl, HALL⟩
  case round =>
    clear HALL
    obtain ⟨k, hk, rfl, rfl, HALL⟩ := hrel
    have HT_32 := Lib.hid HALL.out.1
    have HE_33 := Lib.hid HALL.out.2.1
    have HPC_34 := Lib.hid HALL.out.2.2.1
    have HBL_35 := Lib.hid HALL.out.2.2.2
    clear HALL
    by_cases hkn : k < n1
    · skip
      have HST := Lib.hid (show ((List.range (k + 1)).any fun v => beg (earlyOf ns fs ts) v + beg ts v == M) = (((List.range k).any fun v => beg (earlyOf ns fs ts) v + beg ts v == M) || (beg (earlyOf ns fs ts) k + beg ts k == M)) by rw [List.range_succ, List.any_append]; simp)
      generalize hsb : ((List.range k).any fun v => beg (earlyOf ns fs ts) v + beg ts v == M) = sb at *
      clear hsb
      obtain ⟨b1, o1, hA1, hb1, hc1⟩ := HE_33.out.one hkn
      subst hA1
      obtain ⟨b2, o2, hA2, hb2, hc2⟩ := HT_32.out.one hkn
      subst hA2
      have hle := HGE.out k hkn
      have ht := vTimes_at HP.out.t k
      have he := HP.out.early k
      generalize beg ts k = tv at *
      generalize beg (earlyOf ns fs ts) k = ev at *
      have hwr : IntKind.i64.wrap (ev + tv) = ev + tv := IntWalk.i64_in _ (by omega)
      have hgt : decide (M < ev + tv) = false := decide_eq_false (by omega)
      have g1 : decide ((n1 : Int) ≤ (k : Int)) = false := decide_eq_false (by omega)
      have g1' : decide (n1 ≤ k) = false := decide_eq_false (by omega)
      have h0k : (0 : Int) ≤ (k : Int) := by omega
      have h1k : (k : Int) < (n1 : Int) := by omega
      have HX : Hid (∀ j : Nat, Rb (wr.drewN j) (some ⟨b2, o2, none⟩) n1 (ts) ∧ Rb (wr.drewN j) (some ⟨b1, o1, none⟩) n1 ((earlyOf ns fs ts)) ∧ Pc (wr.drewN j) w1.heap.size An n1 cn Af lf cf ns fs ∧ Below w.heap.size w (wr.drewN j)) := fun j => ⟨HT_32.out.below (up_drewN (Below.refl _ wr) j), HE_33.out.below (up_drewN (Below.refl _ wr) j), HPC_34.out.below (up_drewN (Below.refl _ wr) j), up HBL_35.out (up_drewN (Below.refl _ wr) j)⟩
      clear HT_32 HE_33 HPC_34 HBL_35
      cases sb with
      | true =>
        go_wp2_with (fail)
        go_quiet (fail)
        go_wp2_with (fail)
        go_quiet (fail)
        go_wp2
        go_roundw
        case rel => exact ⟨k + 1, by omega, by go_num, by rw [HST.out]; rfl, by first | exact HX.out _ | (simp only [World.drewN_drewN]; exact HX.out _)⟩
        case measure => simp [intOf]; omega
      | false =>
        by_cases hem : ev + tv = M
        · have hb : (ev + tv == M) = true := by simpa using hem
          rw [hb] at HST
          clear hem
          go_wp2_with (fail)
          go_quiet (fail)
          go_wp2_with (fail)
          go_quiet (fail)
          go_wp2
          go_roundw
          case rel => exact ⟨k + 1, by omega, by go_num, by rw [HST.out]; rfl, by first | exact HX.out _ | (simp only [World.drewN_drewN]; exact HX.out _)⟩
          case measure => simp [intOf]; omega
        · have hb : (ev + tv == M) = false := by simpa using hem
          rw [hb] at HST
          clear hem
          go_wp2_with (fail)
          go_quiet (fail)
          go_wp2_with (fail)
          go_quiet (fail)
          go_wp2
          go_roundw
          case rel => exact ⟨k + 1, by omega, by go_num, by rw [HST.out]; rfl, by first | exact HX.out _ | (simp only [World.drewN_drewN]; exact HX.out _)⟩
          case measure => simp [intOf]; omega
    · obtain rfl : k = n1 := by omega
      rw [HAT.out]
      go_wp2
      go_ret
      exact ⟨rfl, HBL_35.out⟩
end Go.Proofs.Ytdjpffmnohnpaaa
