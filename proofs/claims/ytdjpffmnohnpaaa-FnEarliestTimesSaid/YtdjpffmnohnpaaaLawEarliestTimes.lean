/- The law FnEarliestTimes, walked: it returns true. (Written by gen/lawplan.py.) -/
import Derived.Test.YtdjpffmnohnpaaaLawPlan0
import Derived.Deep.RegionLaw
import Derived.Deep.RegionHeld3
import Derived.BigQuiet
import Derived.BigRegion
import Derived.Lib.MinMax
set_option linter.unusedSimpArgs false
set_option linter.unusedVariables false
namespace Go.Proofs.Ytdjpffmnohnpaaa
open Go.RowKit

/-- Whether a begin is asked for, by the first k flows. -/
def tightB (fs : List Flw) (at_ ts : List Int) (i k : Nat) : Bool := (beg at_ i == 0) || (fs.take k).any fun f => (f.2.1 == (i : Int)) && (beg at_ f.1.toNat + beg ts f.1.toNat == beg at_ i)
theorem tightB_step {fs : List Flw} {at_ ts : List Int} {i k : Nat} {f : Flw} (h : fs[k]? = some f) : tightB fs at_ ts i (k + 1) = (tightB fs at_ ts i k || ((f.2.1 == (i : Int)) && (beg at_ f.1.toNat + beg ts f.1.toNat == beg at_ i))) := by
  unfold tightB; rw [take_snoc h, List.any_append, Bool.or_assoc]; simp
theorem tightB_all {ns : List (Int × Int)} {fs : List Flw} {ts : List Int} (h : Plan ns fs ts) (i : Nat) : tightB fs (earlyOf ns fs ts) ts i fs.length = true := by
  unfold tightB
  rw [List.take_length]
  rcases h.tight i with h0 | ⟨u, hu, he⟩
  · rw [h0]; rfl
  · rw [Bool.or_eq_true]; right
    obtain ⟨f, hf, e⟩ := List.mem_map.1 hu
    injection e with e1 e2
    have hin := vProc_inside h.v f hf
    refine List.any_eq_true.2 ⟨f, hf, ?_⟩
    have h2 : f.2.1 = (i : Int) := by omega
    rw [h2, e1, he]; simp

set_option maxRecDepth 100000 in
set_option maxHeartbeats 6400000 in
theorem lawEarliestTimes_any (n c : Nat) (A : Option Addr) (xs : List Int) (w : World) (hr : Rd w 0 w.heap.size 1 A n (bvs xs)) (hby : Bytes xs) (hc : n ≤ c) (hc2 : c ≤ 9223372036854775807) :
    Calls Try.prog 7 #[.slice A n c] w fun e w' => e = .returned (.bool true) ∧ Below w.heap.size w w' := by
  by_cases hbig : (1048576 : Int) < n
  · go_enter Try.func7, Try.ntmps7
    go_wp2
    go_ret
    exact ⟨rfl, Below.refl _ _⟩
  go_enter Try.func7, Try.ntmps7
  go_wp2_with (fail)
  (with_reducible refine (drawEarliestTimes_any n c A xs w hr hby (by omega) hc hc2).mono ?_)
  have hn9 : n ≤ 1048576 := by omega
  clear hbig
  rintro e w1 ⟨An, nn, cn, Af, lf, cf, ns, fs, A1, n1, c1, ts, rfl, hn1, hP, hM, hb1⟩
  have hn21 := hP.n21
  have hf21 := hP.f21
  have hba := up_alloc (Below.refl _ w1) (.cells #[.slice An nn cn, .slice Af lf cf] 32)
  have HPC0 := Lib.hid (Pc.new (hP.wide (Nat.zero_le _) (Nat.le_refl _)))
  have HT0 := Lib.hid (show Rb (w1.alloc (.cells #[.slice An nn cn, .slice Af lf cf] 32)) A1 n1 ts from ⟨w1.heap.size, (hM.wide (Nat.zero_le _) (Nat.le_refl _)).keep hba (Nat.le_refl _), hba.size⟩)
  have HBL0 := Lib.hid (up hb1 hba)
  clear hP hM hb1 hba
  have hlf := HPC0.out.flen
  have hln := HPC0.out.nlen
  have HLF := Lib.hid hlf
  have HLN := Lib.hid hln
  clear hlf hln
  cases hU : planOk ns fs ts with
  | false =>
    have HR := Lib.hid (earlyR_no hU)
    clear hU
    have k_1 := HPC0.out.k0
    have k_2 := HPC0.out.k1
    go_wp2_with (fail)
    (with_reducible refine (HPC0.out.earlyI HT0.out (by omega)).mono ?_)
    rw [HR.out]
    rintro e w2 ⟨AR, cR, rfl, hrw, hbt⟩
    rw [List.length_nil] at hrw ⊢
    clear k_1 k_2
    have HT_3 := Lib.hid (HT0.out.below hbt)
    have HPC_4 := Lib.hid (HPC0.out.below hbt)
    have HBL_5 := Lib.hid (up HBL0.out hbt)
    clear HT0 HPC0 HBL0
    have HR_6 := Lib.hid hrw
    clear hrw hbt
    have k_7 := HPC_4.out.k0
    have k_8 := HPC_4.out.k1
    go_wp2_with (fail)
    (with_reducible refine (HPC_4.out.earlyS HT_3.out (by omega)).mono ?_)
    rw [HR.out]
    rintro e w3 ⟨AS, cS, rfl, hrw, hbt⟩
    rw [List.length_nil] at hrw ⊢
    clear k_7 k_8
    have HT_9 := Lib.hid (HT_3.out.below hbt)
    have HR_10 := Lib.hid (HR_6.out.below hbt)
    have HPC_11 := Lib.hid (HPC_4.out.below hbt)
    have HBL_12 := Lib.hid (up HBL_5.out hbt)
    clear HT_3 HR_6 HPC_4 HBL_5
    have HS_13 := Lib.hid hrw
    clear hrw hbt
    have HE_14 := Lib.hid (eqRb HR_10.out HS_13.out (by omega) (by omega) cR cS)
    go_wp2_with (fail)
    (with_reducible refine HE_14.out.mono ?_)
    clear HE_14
    rintro e w4 ⟨rfl, hbt⟩
    rw [beq_self_eq_true]
    have HT_15 := Lib.hid (HT_9.out.below hbt)
    have HR_16 := Lib.hid (HR_10.out.below hbt)
    have HS_17 := Lib.hid (HS_13.out.below hbt)
    have HPC_18 := Lib.hid (HPC_11.out.below hbt)
    have HBL_19 := Lib.hid (up HBL_12.out hbt)
    clear HT_9 HR_10 HS_13 HPC_11 HBL_12
    clear hbt
    clear HS_17
    have k_20 := HPC_18.out.k0
    have k_21 := HPC_18.out.k1
    go_wp2_with (fail)
    (with_reducible refine (HPC_18.out.earlyS HT_15.out (by omega)).mono ?_)
    rw [HR.out]
    rintro e w5 ⟨AS2, cS2, rfl, hrw, hbt⟩
    rw [List.length_nil] at hrw ⊢
    clear k_20 k_21
    have HT_22 := Lib.hid (HT_15.out.below hbt)
    have HR_23 := Lib.hid (HR_16.out.below hbt)
    have HPC_24 := Lib.hid (HPC_18.out.below hbt)
    have HBL_25 := Lib.hid (up HBL_19.out hbt)
    clear HT_15 HR_16 HPC_18 HBL_19
    have HS2_26 := Lib.hid hrw
    clear hrw hbt
    have HE_27 := Lib.hid (eqRb HR_23.out HS2_26.out (by omega) (by omega) cR cS2)
    go_wp2_with (fail)
    (with_reducible refine HE_27.out.mono ?_)
    clear HE_27
    rintro e w6 ⟨rfl, hbt⟩
    rw [beq_self_eq_true]
    have HT_28 := Lib.hid (HT_22.out.below hbt)
    have HR_29 := Lib.hid (HR_23.out.below hbt)
    have HS2_30 := Lib.hid (HS2_26.out.below hbt)
    have HPC_31 := Lib.hid (HPC_24.out.below hbt)
    have HBL_32 := Lib.hid (up HBL_25.out hbt)
    clear HT_22 HR_23 HS2_26 HPC_24 HBL_25
    clear hbt
    go_wp2
    go_ret
    exact ⟨rfl, HBL_32.out⟩
  | true =>
  have HR := Lib.hid (earlyR_yes hU)
  have HP := Lib.hid (plan_of hU)
  have hnt : n1 = nn := by have h1 := vTimes_len HP.out.t; have h2 := HT0.out.len; have h3 := HLN.out; omega
  subst hnt
  have hn10 : n1 ≤ 10 := by have := (vProc_len HP.out.v).2.1; have := HLN.out; omega
  have hn2 : 2 ≤ n1 := by have := (vProc_len HP.out.v).1; have := HLN.out; omega
  clear hU
  have hel : (earlyOf ns fs ts).length = n1 := by rw [earlyOf_len]; exact HLN.out
  have HIN := Lib.hid (show Inside fs n1 from by have := vProc_inside HP.out.v; rwa [HLN.out] at this)
  have HTA := Lib.hid (tightB_all HP.out)
  have HKE := Lib.hid HP.out.keeps.2
  have k_33 := HPC0.out.k0
  have k_34 := HPC0.out.k1
  go_wp2_with (fail)
  (with_reducible refine (HPC0.out.earlyI HT0.out (by omega)).mono ?_)
  rw [HR.out]
  rintro e w2 ⟨AE, cE, rfl, hrw, hbt⟩
  rw [hel] at hrw ⊢
  clear k_33 k_34
  have HT_35 := Lib.hid (HT0.out.below hbt)
  have HPC_36 := Lib.hid (HPC0.out.below hbt)
  have HBL_37 := Lib.hid (up HBL0.out hbt)
  clear HT0 HPC0 HBL0
  have HE_38 := Lib.hid hrw
  clear hrw hbt
  have k_39 := HPC_36.out.k0
  have k_40 := HPC_36.out.k1
  go_wp2_with (fail)
  (with_reducible refine (HPC_36.out.earlyS HT_35.out (by omega)).mono ?_)
  rw [HR.out]
  rintro e w3 ⟨AS, cS, rfl, hrw, hbt⟩
  rw [hel] at hrw ⊢
  clear k_39 k_40
  have HT_41 := Lib.hid (HT_35.out.below hbt)
  have HE_42 := Lib.hid (HE_38.out.below hbt)
  have HPC_43 := Lib.hid (HPC_36.out.below hbt)
  have HBL_44 := Lib.hid (up HBL_37.out hbt)
  clear HT_35 HE_38 HPC_36 HBL_37
  have HS_45 := Lib.hid hrw
  clear hrw hbt
  have HE_46 := Lib.hid (eqRb HE_42.out HS_45.out (by omega) (by omega) cE cS)
  go_wp2_with (fail)
  (with_reducible refine HE_46.out.mono ?_)
  clear HE_46
  rintro e w4 ⟨rfl, hbt⟩
  rw [beq_self_eq_true]
  have HT_47 := Lib.hid (HT_41.out.below hbt)
  have HE_48 := Lib.hid (HE_42.out.below hbt)
  have HS_49 := Lib.hid (HS_45.out.below hbt)
  have HPC_50 := Lib.hid (HPC_43.out.below hbt)
  have HBL_51 := Lib.hid (up HBL_44.out hbt)
  clear HT_41 HE_42 HS_45 HPC_43 HBL_44
  clear hbt
  clear HS_49
  have hq0 : ((n1 : Int) == 0) = false := by simp; omega
  clear hel
  go_wp2
  have HALL := Lib.hid (show Rb w4 A1 n1 (ts) ∧ Rb w4 AE n1 ((earlyOf ns fs ts)) ∧ Pc w4 w1.heap.size An n1 cn Af lf cf ns fs ∧ Below w.heap.size w w4 from ⟨HT_47.out, HE_48.out, HPC_50.out, HBL_51.out⟩)
  clear HT_47 HE_48 HPC_50 HBL_51
  go_loopw [6] (fun iv wr => ∃ (i : Nat), i ≤ n1 ∧ iv = .int .i64 i ∧ Hid (Rb wr A1 n1 (ts) ∧ Rb wr AE n1 ((earlyOf ns fs ts)) ∧ Pc wr w1.heap.size An n1 cn Af lf cf ns fs ∧ Below w.heap.size w wr))
    (fun iv _ => n1 - (intOf iv).toNat)
  case atStart => exact ⟨0, by omega, rfl, HALL⟩
  case round =>
    clear HALL
    obtain ⟨i, hi, rfl, HALL⟩ := hrel
    have HT_52 := Lib.hid HALL.out.1
    have HE_53 := Lib.hid HALL.out.2.1
    have HPC_54 := Lib.hid HALL.out.2.2.1
    have HBL_55 := Lib.hid HALL.out.2.2.2
    clear HALL
    by_cases hin : i < n1
    · skip
      have HEi := Lib.hid (show tightB fs (earlyOf ns fs ts) ts i 0 = (beg (earlyOf ns fs ts) i == 0) from by unfold tightB; simp)
      obtain ⟨b1, o1, hA1, hb1, hc1⟩ := HE_53.out.one hin
      subst hA1
      have h0i : (0 : Int) ≤ (i : Int) := by omega
      have h1i : (i : Int) < (n1 : Int) := by omega
      have HALL := Lib.hid (show Rb wr A1 n1 (ts) ∧ Rb wr (some ⟨b1, o1, none⟩) n1 ((earlyOf ns fs ts)) ∧ Pc wr w1.heap.size An n1 cn Af lf cf ns fs ∧ Below w.heap.size w wr from ⟨HT_52.out, HE_53.out, HPC_54.out, HBL_55.out⟩)
      clear HT_52 HE_53 HPC_54 HBL_55
      go_wp2
      clear hc1
      rw [← HEi.out]
      generalize wr = wo at *
      go_loopw [7, 8] (fun sv jv wr => ∃ (j : Nat), j ≤ lf ∧ jv = .int .i64 j ∧ sv = .bool (tightB fs (earlyOf ns fs ts) ts i j) ∧ Hid (Rb wr A1 n1 (ts) ∧ Rb wr (some ⟨b1, o1, none⟩) n1 ((earlyOf ns fs ts)) ∧ Pc wr w1.heap.size An n1 cn Af lf cf ns fs ∧ Below w.heap.size w wr))
        (fun _ jv _ => lf - (intOf jv).toNat)
      case atStart => exact ⟨0, by omega, rfl, rfl, HALL⟩
      case round =>
        clear HALL
        obtain ⟨j, hj, rfl, rfl, HALL⟩ := hrel
        have HT_56 := Lib.hid HALL.out.1
        have HE_57 := Lib.hid HALL.out.2.1
        have HPC_58 := Lib.hid HALL.out.2.2.1
        have HBL_59 := Lib.hid HALL.out.2.2.2
        clear HALL
        have k_60 := HPC_58.out.k0
        have k_61 := HPC_58.out.k1
        by_cases hjn : j < lf
        · skip
          obtain ⟨bf, off, x, y, ps, Aw, mw, cw, hAf, hbf, _, hgf, hfx, hfy, hfz, _, _⟩ := HPC_58.out.prs.flows.at hjn
          subst hAf
          obtain ⟨hi1, hi2, hi3, hi4⟩ := HIN.out _ (List.mem_of_getElem? hgf)
          simp only at hi1 hi2 hi3 hi4
          obtain ⟨kx, rfl⟩ := Int.eq_ofNat_of_zero_le hi1
          obtain ⟨ky, rfl⟩ := Int.eq_ofNat_of_zero_le hi3
          have hkx : kx < n1 := by omega
          have hky : ky < n1 := by omega
          have HES := Lib.hid (show (kx, ky) ∈ esOf fs from by
            have := List.mem_of_getElem? (esOf_at hgf)
            simpa using this)
          have hFB := Blk.new wr 46 #[.int .i64 (kx : Int), .int .i64 (ky : Int), .slice Aw mw cw]
          have hf0 := hFB.cell 0
          have hf1 := hFB.cell 1
          simp only [List.getElem?_toArray, List.getElem?_cons_zero, List.getElem?_cons_succ] at hf0 hf1
          clear hFB
          have HST := Lib.hid (tightB_step (at_ := earlyOf ns fs ts) (ts := ts) (i := i) hgf)
          simp only [Int.toNat_natCast] at HST
          generalize tightB fs (earlyOf ns fs ts) ts i j = sb at *
          have hke := HKE.out _ HES.out
          simp only at hke
          have hex := HP.out.early kx
          have hei := HP.out.early i
          have ht := vTimes_at HP.out.t kx
          have hal := up_alloc (Below.refl _ wr) (.cells #[.int .i64 (kx : Int), .int .i64 (ky : Int), .slice Aw mw cw] 46)
          have HT_62 := Lib.hid (HT_56.out.below hal)
          have HE_63 := Lib.hid (HE_57.out.below hal)
          have HPC_64 := Lib.hid (HPC_58.out.below hal)
          have HBL_65 := Lib.hid (up HBL_59.out hal)
          clear HT_56 HE_57 HPC_58 HBL_59
          clear hal
          obtain ⟨_, _, hA5, _, hc5⟩ := HE_63.out.one hkx
          injection hA5 with hA5; injection hA5 with e1 e2 _
          subst e1; subst e2
          obtain ⟨_, _, hA6, _, hc6⟩ := HE_63.out.one hin
          injection hA6 with hA6; injection hA6 with e1 e2 _
          subst e1; subst e2
          obtain ⟨b3, o3, hA3, hb3, hc3⟩ := HT_62.out.one hkx
          subst hA3
          have h0j : (0 : Int) ≤ (j : Int) := by omega
          have h1j : (j : Int) < (lf : Int) := by omega
          have h0kx : (0 : Int) ≤ (kx : Int) := by omega
          have h1kx : (kx : Int) < (n1 : Int) := by omega
          have h0ky : (0 : Int) ≤ (ky : Int) := by omega
          have h1ky : (ky : Int) < (n1 : Int) := by omega
          have HX : Hid (∀ j : Nat, Rb ((wr.alloc (.cells #[.int .i64 (kx : Int), .int .i64 (ky : Int), .slice Aw mw cw] 46)).drewN j) (some ⟨b3, o3, none⟩) n1 (ts) ∧ Rb ((wr.alloc (.cells #[.int .i64 (kx : Int), .int .i64 (ky : Int), .slice Aw mw cw] 46)).drewN j) (some ⟨b1, o1, none⟩) n1 ((earlyOf ns fs ts)) ∧ Pc ((wr.alloc (.cells #[.int .i64 (kx : Int), .int .i64 (ky : Int), .slice Aw mw cw] 46)).drewN j) w1.heap.size An n1 cn (some ⟨bf, off, none⟩) lf cf ns fs ∧ Below w.heap.size w ((wr.alloc (.cells #[.int .i64 (kx : Int), .int .i64 (ky : Int), .slice Aw mw cw] 46)).drewN j)) := fun j => ⟨HT_62.out.below (up_drewN (Below.refl _ (wr.alloc (.cells #[.int .i64 (kx : Int), .int .i64 (ky : Int), .slice Aw mw cw] 46))) j), HE_63.out.below (up_drewN (Below.refl _ (wr.alloc (.cells #[.int .i64 (kx : Int), .int .i64 (ky : Int), .slice Aw mw cw] 46))) j), HPC_64.out.below (up_drewN (Below.refl _ (wr.alloc (.cells #[.int .i64 (kx : Int), .int .i64 (ky : Int), .slice Aw mw cw] 46))) j), up HBL_65.out (up_drewN (Below.refl _ (wr.alloc (.cells #[.int .i64 (kx : Int), .int .i64 (ky : Int), .slice Aw mw cw] 46))) j)⟩
          clear HT_62 HE_63 HPC_64 HBL_65
          clear hgf
          by_cases hyi : ky = i
          · subst hyi
            generalize beg (earlyOf ns fs ts) kx = ex at *
            generalize beg (earlyOf ns fs ts) ky = ey at *
            generalize beg ts kx = tx at *
            have hwr : IntKind.i64.wrap (ex + tx) = ex + tx := IntWalk.i64_in _ (by omega)
            have hyy : ((ky : Int) == (ky : Int)) = true := by simp
            rw [hyy, Bool.true_and] at HST
            have hgt : decide (ey < ex + tx) = false := decide_eq_false (by omega)
            cases sb with
            | true =>
              go_wp2_with (fail)
              go_quiet (fail)
              go_wp2_with (fail)
              go_quiet (fail)
              go_wp2
              go_roundw
              case rel => exact ⟨j + 1, by omega, by go_num, by rw [HST.out]; rfl, by first | exact HX.out _ | (simp only [World.drewN_drewN]; exact HX.out _)⟩
              case measure => simp [intOf]; omega
            | false =>
              by_cases hem : ex + tx = ey
              · have hb : (ex + tx == ey) = true := by simpa using hem
                rw [hb] at HST
                clear hem
                go_wp2_with (fail)
                go_quiet (fail)
                go_wp2_with (fail)
                go_quiet (fail)
                go_wp2
                go_roundw
                case rel => exact ⟨j + 1, by omega, by go_num, by rw [HST.out]; rfl, by first | exact HX.out _ | (simp only [World.drewN_drewN]; exact HX.out _)⟩
                case measure => simp [intOf]; omega
              · have hb : (ex + tx == ey) = false := by simpa using hem
                rw [hb] at HST
                clear hem
                go_wp2_with (fail)
                go_quiet (fail)
                go_wp2_with (fail)
                go_quiet (fail)
                go_wp2
                go_roundw
                case rel => exact ⟨j + 1, by omega, by go_num, by rw [HST.out]; rfl, by first | exact HX.out _ | (simp only [World.drewN_drewN]; exact HX.out _)⟩
                case measure => simp [intOf]; omega
          · have hyy : ((ky : Int) == (i : Int)) = false := by simp; omega
            rw [hyy, Bool.false_and, Bool.or_false] at HST
            have HX0 := Lib.hid (HX.out 0)
            clear HX hyi
            go_wp2
            go_roundw
            case rel => exact ⟨j + 1, by omega, by go_num, by rw [HST.out], HX0.out⟩
            case measure => simp [intOf]; omega
        · have hjl : lf = j := by omega
          subst hjl
          have hta := HTA.out i
          rw [HLF.out] at hta
          rw [hta]
          clear hta
          have HALL := Lib.hid (show Rb wr A1 n1 (ts) ∧ Rb wr (some ⟨b1, o1, none⟩) n1 ((earlyOf ns fs ts)) ∧ Pc wr w1.heap.size An n1 cn Af lf cf ns fs ∧ Below w.heap.size w wr from ⟨HT_56.out, HE_57.out, HPC_58.out, HBL_59.out⟩)
          clear HT_56 HE_57 HPC_58 HBL_59
          go_wp2
          go_roundw
          case rel => exact ⟨i + 1, by omega, by go_num, HALL⟩
          case measure => simp [intOf]; omega
    · obtain rfl : i = n1 := by omega
      have k_66 := HPC_54.out.k0
      have k_67 := HPC_54.out.k1
      have hkk : ((i : Int) == (i : Int)) = true := by simp
      go_wp2
      go_ret
      exact ⟨rfl, HBL_55.out⟩
end Go.Proofs.Ytdjpffmnohnpaaa
