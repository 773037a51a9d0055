/- The law FnIsFaithful, walked: it returns true. (Written by gen/lawmove.py.) -/
import Derived.Test.YtmhbfdcikdhehaaLawMv0
import Derived.BigQuiet
import Derived.Deep.RegionLaw
set_option linter.unusedSimpArgs false
set_option linter.unusedVariables false
namespace Go.Proofs.Ytmhbfdcikdhehaa
open Go.RowKit

set_option maxRecDepth 100000 in
set_option maxHeartbeats 6400000 in
theorem lawIsFaithful_any (n c : Nat) (A : Option Addr) (xs : List Int) (w : World) (hr : Rd w 0 w.heap.size 1 A n (bvs xs)) (hby : Bytes xs) (hc : n ≤ c) (hc2 : c ≤ 9223372036854775807) :
    Calls Try.prog 5 #[.slice A n c] w fun e w' => e = .returned (.bool true) ∧ Below w.heap.size w w' := by
  by_cases hbig : (1048576 : Int) < n
  · go_enter Try.func5, Try.ntmps5
    go_wp2
    go_ret
    exact ⟨rfl, Below.refl _ _⟩
  go_enter Try.func5, Try.ntmps5
  go_wp2_with (fail)
  (with_reducible refine (drawIsFaithful_any n c A xs w hr hby (by omega) hc hc2).mono ?_)
  clear hbig hr hby
  rintro e w1 ⟨An, nn, cn, Af, lf, cf, ns, fs, Aq, nq, cq, Ag, lg, cg, nsq, gs, A2, n2, c2, fl, rfl, hn2, hP, hQ, hF, hb1⟩
  have hba := up_alloc (Below.refl _ w1) (.cells #[.slice An nn cn, .slice Af lf cf] 26)
  have hbb := up_alloc (Below.refl _ (w1.alloc (.cells #[.slice An nn cn, .slice Af lf cf] 26))) (.cells #[.slice Aq nq cq, .slice Ag lg cg] 26)
  have hbc := up_alloc hba (.cells #[.slice Aq nq cq, .slice Ag lg cg] 26)
  have hs1 : (w1.alloc (.cells #[.slice An nn cn, .slice Af lf cf] 26)).heap.size = w1.heap.size + 1 := by simp
  have hQ1 : Pc ((w1.alloc (.cells #[.slice An nn cn, .slice Af lf cf] 26)).alloc (.cells #[.slice Aq nq cq, .slice Ag lg cg] 26)) (w1.heap.size + 1) Aq nq cq Ag lg cg nsq gs := by
    have := Pc.new (w := (w1.alloc (.cells #[.slice An nn cn, .slice Af lf cf] 26))) (((hQ.wide (Nat.zero_le _) (Nat.le_refl _)).keep hba (Nat.le_refl _)).wide (Nat.le_refl _) hba.size)
    rwa [hs1] at this
  have HS0 : Hid (Mv w w1.heap.size An nn cn Af lf cf ns fs (w1.heap.size + 1) Aq nq cq Ag lg cg nsq gs A2 n2 fl A2 n2 fl ((w1.alloc (.cells #[.slice An nn cn, .slice Af lf cf] 26)).alloc (.cells #[.slice Aq nq cq, .slice Ag lg cg] 26))) := ⟨(Pc.new (hP.wide (Nat.zero_le _) (Nat.le_refl _))).below hbb, hQ1, Rm.of (hF.keep hbc (Nat.le_refl _)) hbc.size, Rm.of (hF.keep hbc (Nat.le_refl _)) hbc.size, up hb1 hbc⟩
  clear hP hQ hF hb1 hba hbb hbc hs1 hQ1
  have HLF := Lib.hid HS0.out.p.flen
  have HLG := Lib.hid HS0.out.q.flen
  have HLM := Lib.hid HS0.out.m.len
  have HL2 := Lib.hid HS0.out.f.len
  have hf21 := HS0.out.p.prs.f21
  have hg21 := HS0.out.q.prs.f21
  cases hU : faithOf ns fs nsq gs fl with
  | false =>
    have HU := Lib.hid hU
    clear hU
    have k_1 := HS0.out.p.k0
    have k_2 := HS0.out.p.k1
    have k_3 := HS0.out.q.k0
    have k_4 := HS0.out.q.k1
    go_wp2_with (fail)
    (with_reducible refine (HS0.out.p.faithI HS0.out.q HS0.out.f (by omega) c2).mono ?_)
    rw [HU.out]
    rintro e w2 ⟨rfl, hbt⟩
    clear k_1 k_2 k_3 k_4
    have HS_5 := Lib.hid (HS0.out.below hbt)
    clear HS0
    clear hbt
    have k_6 := HS_5.out.p.k0
    have k_7 := HS_5.out.p.k1
    have k_8 := HS_5.out.q.k0
    have k_9 := HS_5.out.q.k1
    go_wp2_with (fail)
    (with_reducible refine (HS_5.out.p.faithS HS_5.out.q HS_5.out.f (by omega) c2).mono ?_)
    rw [HU.out]
    rintro e w3 ⟨rfl, hbt⟩
    clear k_6 k_7 k_8 k_9
    have HS_10 := Lib.hid (HS_5.out.below hbt)
    clear HS_5
    clear hbt
    have k_11 := HS_10.out.p.k0
    have k_12 := HS_10.out.p.k1
    have k_13 := HS_10.out.q.k0
    have k_14 := HS_10.out.q.k1
    go_wp2_with (fail)
    (with_reducible refine (HS_10.out.p.faithS HS_10.out.q HS_10.out.f (by omega) c2).mono ?_)
    rw [HU.out]
    rintro e w4 ⟨rfl, hbt⟩
    clear k_11 k_12 k_13 k_14
    have HS_15 := Lib.hid (HS_10.out.below hbt)
    clear HS_10
    clear hbt
    go_wp2
    go_ret
    exact ⟨rfl, HS_15.out.b⟩
  | true =>
  have HU := Lib.hid hU
  have HFP := Lib.hid (faith_parts hU)
  clear hU
  have hfl : n2 = lf := by have h1 := (vMap_iff.1 HFP.out.2.2.1).1; have := HL2.out; have := HLF.out; omega
  subst hfl
  have k_16 := HS0.out.p.k0
  have k_17 := HS0.out.p.k1
  have k_18 := HS0.out.q.k0
  have k_19 := HS0.out.q.k1
  go_wp2_with (fail)
  (with_reducible refine (HS0.out.p.faithI HS0.out.q HS0.out.f (by omega) c2).mono ?_)
  rw [HU.out]
  rintro e w2 ⟨rfl, hbt⟩
  clear k_16 k_17 k_18 k_19
  have HS_20 := Lib.hid (HS0.out.below hbt)
  clear HS0
  clear hbt
  have k_21 := HS_20.out.p.k0
  have k_22 := HS_20.out.p.k1
  have k_23 := HS_20.out.q.k0
  have k_24 := HS_20.out.q.k1
  go_wp2_with (fail)
  (with_reducible refine (HS_20.out.p.faithS HS_20.out.q HS_20.out.f (by omega) c2).mono ?_)
  rw [HU.out]
  rintro e w3 ⟨rfl, hbt⟩
  clear k_21 k_22 k_23 k_24
  have HS_25 := Lib.hid (HS_20.out.below hbt)
  clear HS_20
  clear hbt
  obtain ⟨i0, hi0, hz0, hz1, hz2⟩ := info_parts infoInt
  have hownE := World.ownsRow_made w3 (base := w3.heap.size) (e := 3) (size := 1) #[] 0 (Nat.le_refl _) (by unfold maxLen; omega) (by simp)
  have HO0 := Lib.hid (show (w3.alloc (.cells #[] 3)).ownsRow w3.heap.size 3 1 (.slice (some ⟨w3.heap.size, 0, none⟩) 0 0) 0 (ivs (noneL 0)) from hownE)
  clear hownE
  have HB0 := Lib.hid (up_alloc (Below.refl _ w3) (.cells #[] 3))
  go_wp2
  go_loopw [7, 8] (fun ov iv wr => ∃ (k : Nat), k ≤ n2 ∧ iv = .int .i64 k ∧ Hid (wr.ownsRow w3.heap.size 3 1 ov k (ivs (noneL k))) ∧ Hid (Below w3.heap.size w3 wr))
    (fun _ iv _ => n2 - (intOf iv).toNat)
  case atStart => exact ⟨0, by omega, rfl, HO0, HB0⟩
  case round =>
    clear HO0 HB0
    obtain ⟨k, hk, rfl, HO, HB⟩ := hrel
    have HSr := Lib.hid (HS_25.out.below HB.out)
    have hszr := HB.out.size
    have k_26 := HSr.out.p.k0
    have k_27 := HSr.out.p.k1
    have k_28 := HSr.out.q.k0
    have k_29 := HSr.out.q.k1
    by_cases hlt : k < n2
    · have hkn : (k : Int) < (n2 : Int) := by omega
      have hkn0 : (0 : Int) ≤ (k : Int) := by omega
      have hown9 := HO.out.alloc (.cells #[.int .i64 (-1)] 3)
      go_wp2_with (at_builtin; refine wpList_append_own _ rfl _ _ 27 rfl (w3.heap.size) 3 i0 (.int .i64 0) 1 8 Try.underlying27 hi0 hz0 hz1 hz2 rfl (by decide) _ _ _ rfl hown9 _ 1 1 [.int .i64 (-1)] rfl rfl (cell_one_new _ _ _) ?c2 ?c3 ?c4 ?c5 ?_)
      case c2 => first | rfl | (intro u hu; simp at hu; subst hu; rfl)
      case c3 => unfold maxLen; omega
      case c4 => omega
      case c5 => first | omega | (simp; omega)
      intro v' w4 hown4 hg4 _
      have HB4 := Lib.hid (up_grown (up_alloc HB.out (.cells #[.int .i64 (-1)] 3)) hown9 hg4 (Nat.le_refl _))
      have HSX := Lib.hid (HS_25.out.below HB4.out)
      have HO4 := Lib.hid (show w4.ownsRow w3.heap.size 3 1 v' (k + 1) (ivs (noneL (k + 1))) by
        have := hown4
        rw [← noneL_snoc, show ivs (noneL k ++ [(-1)]) = ivs (noneL k) ++ [.int .i64 (-1)] by simp [ivs]]
        exact this)
      clear hown4 hg4 hown9
      clear k_26 k_27 k_28 k_29
      have k_30 := HSX.out.p.k0
      have k_31 := HSX.out.p.k1
      have k_32 := HSX.out.q.k0
      have k_33 := HSX.out.q.k1
      have hkl : k < fl.length := by have := HL2.out; omega
      have hgf : fl[k]? = some fl[k] := List.getElem?_eq_getElem hkl
      obtain ⟨u2, hm2, hu2⟩ := HSX.out.f
      obtain ⟨b2, o2, f, rfl, _, _, hgf2, hcf⟩ := hm2.one (show k < n2 by omega)
      have hKA := HFP.out.2.2.2 k hkl
      have hfb := (vMap_iff.1 HFP.out.2.2.1).2 f (List.mem_of_getElem? hgf2)
      have hgd : fl.getD k 0 = f := by rw [List.getD_eq_getElem?_getD, hgf2]; rfl
      obtain ⟨bf, of, a, b, ps, A', m', c', hAf, _, _, hgfs, hd0, hd1, hd2, _⟩ := HSX.out.p.prs.flows.at hlt
      by_cases hf0 : f < 0
      · have hfd : decide (0 ≤ f) = false := decide_eq_false (by omega)
        have hfd2 : (0 ≤ f) = False := eq_false (by omega)
        clear hf0 hm2 hgf hgf2 hKA hfb hgd hgfs hd0 hd1 hd2
        go_wp2_with (fail)
        go_quiet (fail)
        go_wp2
        go_roundw
        case rel => exact ⟨k + 1, by omega, by go_num, own_keep HO4.out (up_drewN (Below.refl _ w4) _), up_drewN HB4.out _⟩
        case measure => simp [intOf]; omega
      · obtain ⟨j, rfl⟩ : ∃ j : Nat, f = (j : Int) := ⟨f.toNat, by omega⟩
        have hjg : j < lg := by have := HLG.out; omega
        have hfd : decide ((0 : Int) ≤ (j : Int)) = true := decide_eq_true (by omega)
        have hfd2 : (0 : Int) ≤ (j : Int) := by omega
        have hEQ : stopAt ns fs k = stopAt nsq gs j := by
          unfold keepsAt at hKA
          rw [hgd, decide_eq_false (by omega), Int.toNat_natCast, Bool.false_or] at hKA
          exact eq_of_beq hKA
        obtain ⟨bg, og, a2, b2', ps2, A2', m2', c2', hAg, _, _, hgg, he0, he1, he2, _⟩ := HSX.out.q.prs.flows.at hjg
        obtain ⟨q1, x, y, rfl, hq1, hnk, hst⟩ := stop_get HFP.out.1 hgfs
        obtain ⟨q2, x2, y2, rfl, hq2, hnk2, hst2⟩ := stop_get HFP.out.2.1 hgg
        rw [hst, hst2] at hEQ
        injection hEQ with e1 e2
        subst e1
        subst e2
        have hln := HSX.out.p.nlen
        have hlq := HSX.out.q.nlen
        obtain ⟨bn, on, x', y', hAn, _, _, hgn, hx0, hx1⟩ := HSX.out.p.prs.nodes.pair (show q1 < nn by omega)
        obtain ⟨bm, om, x2', y2', hAq, _, _, hgm, hz0', hz1'⟩ := HSX.out.q.prs.nodes.pair (show q2 < nq by omega)
        rw [hnk] at hgn; injection hgn with hgn; injection hgn with h1 h2; subst h1; subst h2
        rw [hnk2] at hgm; injection hgm with hgm; injection hgm with h3 h4; subst h3; subst h4
        subst hAf; subst hAg; subst hAn; subst hAq
        have hq1n : (q1 : Int) < (nn : Int) := by omega
        have hq2n : (q2 : Int) < (nq : Int) := by omega
        have hq10 : (0 : Int) ≤ (q1 : Int) := by omega
        have hq20 : (0 : Int) ≤ (q2 : Int) := by omega
        have hjl : (j : Int) < (lg : Int) := by omega
        have hnn : ∀ wv, (binOp .neq 42 (.agg #[.int .i64 x, .int .i64 y]) (.agg #[.int .i64 x, .int .i64 y])).run Try.prog wv = .ok (.bool false) wv := fun wv => by rw [neq_node]; simp
        clear hf0 hm2 hgf hgf2 hKA hfb hgd hgfs hgg hst hst2 hnk hnk2 hln hlq
        go_wp2_with (fail)
        go_quiet (fail)
        go_wp2
        go_roundw
        case rel => exact ⟨k + 1, by omega, by go_num, own_keep HO4.out (up_drewN (Below.refl _ w4) _), up_drewN HB4.out _⟩
        case measure => simp [intOf]; omega
    · obtain rfl : n2 = k := by omega
      obtain ⟨AZ, cZ, rfl, hcz, hcm⟩ := own_cap HO.out
      have HZ := Lib.hid (Rm.of (Rd.of_own HO.out) (Nat.le_refl _))
      clear HO HB k_26 k_27 k_28 k_29
      have HIS := Lib.hid (faith_none (ns := ns) (fs := fs) (nsq := nsq) (gs := gs) HFP.out.1 HFP.out.2.1)
      rw [HLF.out] at HIS
      have k_34 := HSr.out.p.k0
      have k_35 := HSr.out.p.k1
      have k_36 := HSr.out.q.k0
      have k_37 := HSr.out.q.k1
      go_wp2_with (fail)
      (with_reducible refine (HSr.out.p.faithI HSr.out.q HZ.out (by omega) cZ).mono ?_)
      rw [HIS.out]
      rintro e w9 ⟨rfl, hbt⟩
      clear k_34 k_35 k_36 k_37
      have HBN := Lib.hid (up HSr.out.b hbt)
      clear hbt HZ
      go_wp2
      go_ret
      exact ⟨rfl, HBN.out⟩
end Go.Proofs.Ytmhbfdcikdhehaa
