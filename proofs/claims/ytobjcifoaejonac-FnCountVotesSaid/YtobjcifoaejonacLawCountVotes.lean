/- The law FnCountVotes, walked: it returns true. (Written by a program over gen/lawlib.py.) -/
import Derived.Test.YtobjcifoaejonacDrawV2
import Derived.Test.YtobjcifoaejonacLawCountM
import Derived.Test.YtobjcifoaejonacEqVot
import Derived.BigQuiet
import Derived.Deep.RegionLaw
import Derived.Deep.RegionHeld3
set_option linter.unusedSimpArgs false
set_option linter.unusedVariables false
namespace Go.Proofs.Ytobjcifoaejonac
open Go.RowKit

theorem ask_log {t v : Int} {ls : List En} {c term : Int} {log : List En} {T V : Int} {S : List En} {b : Bool} (hU : askOf t v ls c term log = ((T, V, S), b)) (hv : vVoter t v ls = true) (ha : vAsk c term log = true) : S = ls := by
  simp only [vAsk, Bool.and_eq_true] at ha
  rcases ask_ways hv ha.1.1 ha.1.2 ha.2 with ⟨_, e⟩ | ⟨_, _, e⟩ | ⟨_, _, e⟩ | ⟨_, _, _, e⟩ | ⟨_, _, e⟩
  all_goals (rw [e] at hU; exact (pair_eq hU).2.2.1.symm)
theorem behind_at {fs : List Flw} {k : Nat} {f : Flw} {c term : Int} {log : List En} (hg : fs[k]? = some f) : (behindOf fs c term log)[k]? = some (askOf f.1 f.2.1 f.2.2 c term log).1 := by
  rw [behindOf, List.getElem?_map, hg]; rfl
set_option maxRecDepth 100000 in
set_option maxHeartbeats 6400000 in
theorem lawCountVotes_any (n c : Nat) (A : Option Addr) (xs : List Int) (w : World) (hr : Rd w 0 w.heap.size 1 A n (bvs xs)) (hby : Bytes xs) (hc : n ≤ c) (hc2 : c ≤ 9223372036854775807) :
    Calls Try.prog 9 #[.slice A n c] w fun e w' => e = .returned (.bool true) ∧ Below w.heap.size w w' := by
  by_cases hbig : (1048576 : Int) < n
  · go_enter Try.func9, Try.ntmps9
    go_wp2
    go_ret
    exact ⟨rfl, Below.refl _ _⟩
  go_enter Try.func9, Try.ntmps9
  go_wp2_with (fail)
  (with_reducible refine (drawCountVotes_any n c A xs w hr hby (by omega) hc hc2).mono ?_)
  rintro e w1 ⟨A1, m, c1, fs, cand, term, A2, m2, c2, qs, rfl, hm, hvs, hcand, hterm, hm2, hc2', hrd2, hb1⟩
  clear hbig hr
  have HB_0 := Lib.hid hb1
  have hz_1 := hb1.size
  clear hb1
  have HPL := Lib.hid hvs.len
  have HL_1 := Lib.hid (hvs.wide (Nat.zero_le _) (Nat.le_refl _))
  clear hvs
  have HR_2 := Lib.hid (hrd2.wide (Nat.zero_le _) (Nat.le_refl _))
  clear hrd2
  obtain ⟨⟨u, bs⟩, hU⟩ : ∃ u, countOf fs cand term qs = u := ⟨_, rfl⟩
  obtain ⟨kb, hK⟩ : ∃ k, bs.length = k := ⟨_, rfl⟩
  have HCC := Lib.hid (countOf_cases fs cand term qs)
  rw [hU] at HCC
  have HU := Lib.hid hU
  have HK := Lib.hid hK
  have hkb : kb ≤ 7 := by
    have h1 := HCC.out
    have h2 := HPL.out
    rcases h1 with h1 | ⟨_, _, h4, h5⟩
    · injection h1 with _ h3; subst h3; simp at hK; omega
    · injection h5 with _ h3; rw [h3, behindOf_len] at hK; omega
  have hgg : (u != u) = false := by simp
  have hge : (u == u) = true := by simp
  clear hU hK
  go_wp2_with (fail)
  (with_reducible refine (countI_at HU.out HK.out HL_1.out (by omega) (by omega) HR_2.out (by omega) (by omega) hc2').mono ?_)
  rintro e w2 ⟨A3, c3, rfl, hk3, hv3, hbt⟩
  have HL_3 := Lib.hid (HL_1.out.keep hbt (by omega))
  have HR_4 := Lib.hid (HR_2.out.keep hbt (by omega))
  have HB_5 := Lib.hid (up HB_0.out hbt)
  have hz_2 := hbt.size
  clear HL_1 HR_2 HB_0
  have HV3_6 := Lib.hid (hv3.wide (Nat.zero_le _) (Nat.le_refl _))
  clear hv3
  clear hbt
  go_wp2_with (fail)
  (with_reducible refine (countS_at HU.out HK.out HL_3.out (by omega) (by omega) HR_4.out (by omega) (by omega)).mono ?_)
  rintro e w3 ⟨A4, c4, rfl, hk4, hv4, hbt⟩
  have HL_7 := Lib.hid (HL_3.out.keep hbt (by omega))
  have HR_8 := Lib.hid (HR_4.out.keep hbt (by omega))
  have HV3_9 := Lib.hid (HV3_6.out.keep hbt (by omega))
  have HB_10 := Lib.hid (up HB_5.out hbt)
  have hz_3 := hbt.size
  clear HL_3 HR_4 HV3_6 HB_5
  have HV4_11 := Lib.hid (hv4.wide (Nat.zero_le _) (Nat.le_refl _))
  clear hv4
  clear hbt
  go_wp2_with (fail)
  (with_reducible refine (equalVoters_same 0 _ kb _ 0 _ _ _ _ bs _ HV3_9.out (by omega) (by omega) HV4_11.out (by omega)).mono ?_)
  rintro e w4 ⟨rfl, hbt⟩
  have HL_12 := Lib.hid (HL_7.out.keep hbt (by omega))
  have HR_13 := Lib.hid (HR_8.out.keep hbt (by omega))
  have HV3_14 := Lib.hid (HV3_9.out.keep hbt (by omega))
  have HV4_15 := Lib.hid (HV4_11.out.keep hbt (by omega))
  have HB_16 := Lib.hid (up HB_10.out hbt)
  have hz_4 := hbt.size
  clear HL_7 HR_8 HV3_9 HV4_11 HB_10
  clear hbt
  by_cases hneg : u < 0
  case pos =>
    have hd : decide (u < 0) = true := decide_eq_true hneg
    go_wp2_with (fail)
    (with_reducible refine (equalVoters_same 0 _ kb _ 0 _ _ _ _ bs _ HV3_14.out (by omega) (by omega) HV4_15.out (by omega)).mono ?_)
    rintro e w5 ⟨rfl, hbt⟩
    have HL_17 := Lib.hid (HL_12.out.keep hbt (by omega))
    have HR_18 := Lib.hid (HR_13.out.keep hbt (by omega))
    have HV3_19 := Lib.hid (HV3_14.out.keep hbt (by omega))
    have HV4_20 := Lib.hid (HV4_15.out.keep hbt (by omega))
    have HB_21 := Lib.hid (up HB_16.out hbt)
    have hz_5 := hbt.size
    clear HL_12 HR_13 HV3_14 HV4_15 HB_16
    clear hbt
    go_wp2
    go_ret
    exact ⟨rfl, HB_21.out⟩
  have hd : decide (u < 0) = false := decide_eq_false hneg
  have HV := Lib.hid (show vAsk cand term qs = true ∧ vVs fs = true ∧ u = (gaveOf fs cand term qs : Int) ∧ bs = behindOf fs cand term qs by
    rcases HCC.out with h1 | ⟨h1, h2, _, h5⟩
    · injection h1 with h1 _; omega
    · injection h5 with h5 h6; exact ⟨h1, h2, h5, h6⟩)
  have hkm : kb = m := by
    have h1 := HK.out
    have h2 := HPL.out
    rw [HV.out.2.2.2, behindOf_len] at h1
    omega
  subst hkm
  clear hneg
  go_wp2
  go_loopw [11, 12] (fun kv iv wr => ∃ (k g : Nat), iv = .int .i64 k ∧ kv = .int .i64 g ∧ k ≤ kb ∧ g ≤ k ∧ Hid (gaveOf (fs.take k) cand term qs = g) ∧ Hid (Below w4.heap.size w4 wr))
     (fun _ iv _ => kb - (intOf iv).toNat)
  case atStart => exact ⟨0, 0, rfl, rfl, by omega, by omega, by simp [Hid, gaveOf], Below.refl _ _⟩
  case round =>
    obtain ⟨k, g, rfl, rfl, hk, hgk, HG, HBW⟩ := hrel
    have hsz := HBW.out.size
    have HBL := Lib.hid (up HB_16.out HBW.out)
    by_cases hlt : k < kb
    case neg =>
      obtain rfl : kb = k := by omega
      have hgu : ((g : Int) == u) = true := by
        rw [beq_iff_eq, HV.out.2.2.1, ← HG.out, List.take_of_length_le (by rw [HPL.out]; exact Nat.le_refl _)]
      have hkk : ((kb : Int) == (kb : Int)) = true := by simp
      go_wp2
      go_ret
      exact ⟨rfl, HBL.out⟩
    case pos =>
      obtain ⟨b, off, x, y, ps, Ap, mp, cp, hA, hbl, _, hg, hc0, hc1, hc2, hrp, hmp, hkp⟩ := (HL_12.out.keep HBW.out (by omega)).at hlt
      obtain ⟨b', off', x', y', ps', Aq, mq, cq, hA', hbl', _, hg', hd0, hd1, hd2, hrq, hmq, _⟩ := (HV3_14.out.keep HBW.out (by omega)).at hlt
      have HRQ0 := Lib.hid (HR_13.out.keep HBW.out (by omega))
      have hvx : vVoter x y ps = true := by
        have h := HV.out.2.1
        rw [vVs, List.all_eq_true] at h
        exact h _ (List.mem_of_getElem? hg)
      have HGS := Lib.hid (show gaveOf (fs.take (k + 1)) cand term qs = gaveOf (fs.take k) cand term qs + (if (askOf x y ps cand term qs).2 then 1 else 0) from gaveOf_step hg)
      have hbk := behind_at (c := cand) (term := term) (log := qs) hg
      rw [← HV.out.2.2.2, hg'] at hbk
      dsimp only at hbk
      obtain ⟨⟨⟨T, V, S⟩, d⟩, hT⟩ : ∃ z, askOf x y ps cand term qs = z := ⟨_, rfl⟩
      rw [hT] at hbk HGS
      dsimp only at hbk
      have hee := Option.some.inj hbk
      injection hee with hx1 hee
      injection hee with hx2 hx3
      subst hx1
      subst hx2
      subst hx3
      have hsp := ask_log hT hvx HV.out.1
      subst hsp
      have hmm : mq = mp := by rw [← hrp.len2, ← hrq.len2]
      subst hmm
      subst hA
      subst hA'
      have HT := Lib.hid hT
      have HSL := Lib.hid hrp.len2
      have HRP := Lib.hid hrp
      have HRQ := Lib.hid hrq
      have HCE := Lib.hid (And.intro hc2 (And.intro hd0 (And.intro hd1 hd2)))
      clear hg hg' hbk hvx hT hrp hrq hd0 hd1 hd2
      have hkn : (k : Int) < (kb : Int) := by omega
      have hk0 : (0 : Int) ≤ (k : Int) := by omega
      have hng : decide ((kb : Int) ≤ (k : Int)) = false := decide_eq_false (by omega)
      have hng2 : decide (kb ≤ k) = false := decide_eq_false (by omega)
      go_wp2_with (fail)
      clear hc0 hc1 hc2
      (with_reducible refine (askI_at HT.out HSL.out HRP.out (by omega) hmp hkp HRQ0.out (by omega) (by omega) hc2').mono ?_)
      rintro e wc ⟨A9, c9, rfl, hk9, hrd9, hbc⟩
      have hzc := hbc.size
      have HBD := Lib.hid (up_alloc hbc (.cells #[.int .i64 x', .int .i64 y', .slice A9 mq c9] 25))
      have HED := Lib.hid (Blk.new wc 25 #[.int .i64 x', .int .i64 y', .slice A9 mq c9])
      have HR9 := Lib.hid (hrd9.keep (up_alloc (Below.refl _ wc) (.cells #[.int .i64 x', .int .i64 y', .slice A9 mq c9] 25)) (Nat.le_refl _))
      have hsd : wc.heap.size ≤ (wc.alloc (.cells #[.int .i64 x', .int .i64 y', .slice A9 mq c9] 25)).heap.size := by simp
      clear hrd9 hbc
      cases d with
      | false =>
        go_wp2_with (fail)
        generalize wc.alloc (.cells #[.int .i64 x', .int .i64 y', .slice A9 mq c9] 25) = wd at *
        have hzd := HBD.out.size
        have HS := Lib.hid (show ∀ wx, Below wd.heap.size wd wx → wx.cell? ⟨b', off' + k * 3, none⟩ = some (.int .i64 x') ∧ wx.cell? ⟨b', off' + k * 3 + 1, none⟩ = some (.int .i64 y') ∧ wx.cell? ⟨b', off' + k * 3 + 2, none⟩ = some (.slice Aq mq cq) ∧ wx.cell? ⟨wc.heap.size, 0, none⟩ = some (.int .i64 x') ∧ wx.cell? ⟨wc.heap.size, 1, none⟩ = some (.int .i64 y') ∧ wx.cell? ⟨wc.heap.size, 2, none⟩ = some (.slice A9 mq c9) ∧ wx.cell? ⟨b, off + k * 3 + 2, none⟩ = some (.slice Ap mq cp) from fun wx hb => ⟨(hb.cell (show b' < wd.heap.size by omega)).trans ((HBD.out.cell (show b' < wr.heap.size by omega)).trans HCE.out.2.1), (hb.cell (show b' < wd.heap.size by omega)).trans ((HBD.out.cell (show b' < wr.heap.size by omega)).trans HCE.out.2.2.1), (hb.cell (show b' < wd.heap.size by omega)).trans ((HBD.out.cell (show b' < wr.heap.size by omega)).trans HCE.out.2.2.2), (HED.out.below hb HED.out.lt).cell 0, (HED.out.below hb HED.out.lt).cell 1, (HED.out.below hb HED.out.lt).cell 2, (hb.cell (show b < wd.heap.size by omega)).trans ((HBD.out.cell (show b < wr.heap.size by omega)).trans HCE.out.1)⟩)
        have HC1 := Lib.hid (show ∀ wx, Below wd.heap.size wd wx → Calls Try.prog 18 #[.agg #[.int .i64 x', .int .i64 y', .slice Aq mq cq], .agg #[.int .i64 x', .int .i64 y', .slice A9 mq c9]] wx fun e w' => e = .returned (.bool true) ∧ Below wd.heap.size wd w' from fun wx hb =>
          (equalVoter_same x' y' _ _ mq cq _ _ c9 Aq A9 _ wx ((HRQ.out.keep HBD.out (by omega)).keep hb (by omega)) (Nat.le_trans (by omega) hb.size) hmp (HR9.out.keep hb (by omega)) (Nat.le_trans (by omega) hb.size)).mono fun e w' ⟨h1, h2⟩ => ⟨h1, up hb h2⟩)
        have HC2 := Lib.hid (show ∀ wx, Below wd.heap.size wd wx → Calls Try.prog 19 #[.slice Aq mq cq, .slice Ap mq cp] wx fun e w' => e = .returned (.bool true) ∧ Below wd.heap.size wd w' from fun wx hb => by
          have := equalLog_any _ _ mq cq _ _ mq cp Aq Ap _ _ wx ((HRQ.out.keep HBD.out (by omega)).keep hb (by omega)) (Nat.le_trans (by omega) hb.size) hmp ((HRP.out.keep HBD.out (by omega)).keep hb (by omega)) (Nat.le_trans (by omega) hb.size) hmp
          rw [beq_self_eq_true] at this
          exact this.mono fun e w' ⟨h1, h2⟩ => ⟨h1, up hb h2⟩)
        go_region_held3 (fun wx => wx.cell? ⟨b', off' + k * 3, none⟩ = some (.int .i64 x') ∧ wx.cell? ⟨b', off' + k * 3 + 1, none⟩ = some (.int .i64 y') ∧ wx.cell? ⟨b', off' + k * 3 + 2, none⟩ = some (.slice Aq mq cq) ∧ wx.cell? ⟨wc.heap.size, 0, none⟩ = some (.int .i64 x') ∧ wx.cell? ⟨wc.heap.size, 1, none⟩ = some (.int .i64 y') ∧ wx.cell? ⟨wc.heap.size, 2, none⟩ = some (.slice A9 mq c9) ∧ wx.cell? ⟨b, off + k * 3 + 2, none⟩ = some (.slice Ap mq cp))
          (first | exact HS.out _ (Below.refl _ _) | exact HS.out _ (up_drew (Below.refl _ _)) | exact HS.out _ HB7.out | exact HS.out _ HB6.out)
          ((first
            | (go_at_call 18; (with_reducible refine (HC1.out _ (up_drew (Below.refl _ _))).mono ?_); rintro e w96 ⟨rfl, hb6⟩; have HB6 := Lib.hid hb6; clear hb6)
            | (go_at_call 19; (with_reducible refine (HC2.out _ HB6.out).mono ?_); rintro e w97 ⟨rfl, hb7⟩; have HB7 := Lib.hid hb7; clear hb7)
            | fail "no arm"))
        all_goals
          have HBZ := Lib.hid (up (up HBW.out HBD.out) HB7.out)
          go_wp2
          go_roundw
          case rel => exact ⟨k + 1, g, by go_num, by first | rfl | go_num, by omega, by omega, by rw [Hid, HGS.out, HG.out]; rfl, HBZ⟩
          case measure => simp [intOf]; omega
      | true =>
        have hwg : IntKind.i64.wrap ((g : Int) + 1) = (g : Int) + 1 := IntWalk.i64_in _ (by omega)
        go_wp2_with (fail)
        generalize wc.alloc (.cells #[.int .i64 x', .int .i64 y', .slice A9 mq c9] 25) = wd at *
        have hzd := HBD.out.size
        have HS := Lib.hid (show ∀ wx, Below wd.heap.size wd wx → wx.cell? ⟨b', off' + k * 3, none⟩ = some (.int .i64 x') ∧ wx.cell? ⟨b', off' + k * 3 + 1, none⟩ = some (.int .i64 y') ∧ wx.cell? ⟨b', off' + k * 3 + 2, none⟩ = some (.slice Aq mq cq) ∧ wx.cell? ⟨wc.heap.size, 0, none⟩ = some (.int .i64 x') ∧ wx.cell? ⟨wc.heap.size, 1, none⟩ = some (.int .i64 y') ∧ wx.cell? ⟨wc.heap.size, 2, none⟩ = some (.slice A9 mq c9) ∧ wx.cell? ⟨b, off + k * 3 + 2, none⟩ = some (.slice Ap mq cp) from fun wx hb => ⟨(hb.cell (show b' < wd.heap.size by omega)).trans ((HBD.out.cell (show b' < wr.heap.size by omega)).trans HCE.out.2.1), (hb.cell (show b' < wd.heap.size by omega)).trans ((HBD.out.cell (show b' < wr.heap.size by omega)).trans HCE.out.2.2.1), (hb.cell (show b' < wd.heap.size by omega)).trans ((HBD.out.cell (show b' < wr.heap.size by omega)).trans HCE.out.2.2.2), (HED.out.below hb HED.out.lt).cell 0, (HED.out.below hb HED.out.lt).cell 1, (HED.out.below hb HED.out.lt).cell 2, (hb.cell (show b < wd.heap.size by omega)).trans ((HBD.out.cell (show b < wr.heap.size by omega)).trans HCE.out.1)⟩)
        have HC1 := Lib.hid (show ∀ wx, Below wd.heap.size wd wx → Calls Try.prog 18 #[.agg #[.int .i64 x', .int .i64 y', .slice Aq mq cq], .agg #[.int .i64 x', .int .i64 y', .slice A9 mq c9]] wx fun e w' => e = .returned (.bool true) ∧ Below wd.heap.size wd w' from fun wx hb =>
          (equalVoter_same x' y' _ _ mq cq _ _ c9 Aq A9 _ wx ((HRQ.out.keep HBD.out (by omega)).keep hb (by omega)) (Nat.le_trans (by omega) hb.size) hmp (HR9.out.keep hb (by omega)) (Nat.le_trans (by omega) hb.size)).mono fun e w' ⟨h1, h2⟩ => ⟨h1, up hb h2⟩)
        have HC2 := Lib.hid (show ∀ wx, Below wd.heap.size wd wx → Calls Try.prog 19 #[.slice Aq mq cq, .slice Ap mq cp] wx fun e w' => e = .returned (.bool true) ∧ Below wd.heap.size wd w' from fun wx hb => by
          have := equalLog_any _ _ mq cq _ _ mq cp Aq Ap _ _ wx ((HRQ.out.keep HBD.out (by omega)).keep hb (by omega)) (Nat.le_trans (by omega) hb.size) hmp ((HRP.out.keep HBD.out (by omega)).keep hb (by omega)) (Nat.le_trans (by omega) hb.size) hmp
          rw [beq_self_eq_true] at this
          exact this.mono fun e w' ⟨h1, h2⟩ => ⟨h1, up hb h2⟩)
        go_region_held3 (fun wx => wx.cell? ⟨b', off' + k * 3, none⟩ = some (.int .i64 x') ∧ wx.cell? ⟨b', off' + k * 3 + 1, none⟩ = some (.int .i64 y') ∧ wx.cell? ⟨b', off' + k * 3 + 2, none⟩ = some (.slice Aq mq cq) ∧ wx.cell? ⟨wc.heap.size, 0, none⟩ = some (.int .i64 x') ∧ wx.cell? ⟨wc.heap.size, 1, none⟩ = some (.int .i64 y') ∧ wx.cell? ⟨wc.heap.size, 2, none⟩ = some (.slice A9 mq c9) ∧ wx.cell? ⟨b, off + k * 3 + 2, none⟩ = some (.slice Ap mq cp))
          (first | exact HS.out _ (Below.refl _ _) | exact HS.out _ (up_drew (Below.refl _ _)) | exact HS.out _ HB7.out | exact HS.out _ HB6.out)
          ((first
            | (go_at_call 18; (with_reducible refine (HC1.out _ (up_drew (Below.refl _ _))).mono ?_); rintro e w96 ⟨rfl, hb6⟩; have HB6 := Lib.hid hb6; clear hb6)
            | (go_at_call 19; (with_reducible refine (HC2.out _ HB6.out).mono ?_); rintro e w97 ⟨rfl, hb7⟩; have HB7 := Lib.hid hb7; clear hb7)
            | fail "no arm"))
        all_goals
          have HBZ := Lib.hid (up (up HBW.out HBD.out) HB7.out)
          go_wp2
          go_roundw
          case rel => exact ⟨k + 1, g + 1, by go_num, by first | rfl | go_num, by omega, by omega, by rw [Hid, HGS.out, HG.out]; rfl, HBZ⟩
          case measure => simp [intOf]; omega
end Go.Proofs.Ytobjcifoaejonac
