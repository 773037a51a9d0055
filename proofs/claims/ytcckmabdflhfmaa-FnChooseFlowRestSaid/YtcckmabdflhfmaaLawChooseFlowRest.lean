/- The law FnChooseFlowRest, walked: it returns true. (Written by gen/lawchoose.py.) -/
import Derived.Test.YtcckmabdflhfmaaLawChooseA
import Derived.Deep.RegionLaw
import Derived.BigQuiet
namespace Go.Proofs.Ytcckmabdflhfmaa
open Go.RowKit

set_option maxRecDepth 100000 in
set_option maxHeartbeats 6400000 in
theorem lawChooseFlowRest_any (n c : Nat) (A : Option Addr) (xs : List Int) (w : World) (hr : Rd w 0 w.heap.size 1 A n (bvs xs)) (hby : Bytes xs) (hc : n ≤ c) (hc2 : c ≤ 9223372036854775807) :
    Calls Try.prog 9 #[.slice A n c] w fun e w' => e = .returned (.bool true) ∧ Below w.heap.size w w' := by
  by_cases hbig : (1048576 : Int) < n
  · go_enter Try.func9, Try.ntmps9
    go_wp2
    go_ret
    exact ⟨rfl, Below.refl _ _⟩
  go_enter Try.func9, Try.ntmps9
  go_wp2_with (fail)
  (with_reducible refine (drawChooseFlow_any n c A xs w hr hby (by omega) hc hc2).mono ?_)
  clear hbig
  rintro e w1 ⟨An, nn, cn, Af, lf, cf, ns, fs, z, A3, n3, c3, vs, rfl, hz0, hz1, hn3, hP, hV, hb1⟩
  have hn21 := hP.n21
  have hf21 := hP.f21
  have hba := up_alloc (Below.refl _ w1) (.cells #[.slice An nn cn, .slice Af lf cf] 33)
  have hva := (hV.wide (Nat.zero_le _) (Nat.le_refl _)).keep hba (Nat.le_refl _)
  have HL := Lib.hid (show Lc w _ w1.heap.size An nn cn Af lf cf ns fs w1.heap.size A3 n3 vs w1.heap.size A3 n3 vs from ⟨Pc.new (hP.wide (Nat.zero_le _) (Nat.le_refl _)), hva, hba.size, hva, hba.size, up hb1 hba⟩)
  clear hP hV hb1 hba hva
  have hz64 : in64 z := by unfold in64; omega
  go_wp2_with (fail)
  (with_reducible refine (HL.out.pc.chooseI z _ _ n3 c3 A3 vs hz64 HL.out.va HL.out.vh (by omega)).mono ?_)
  rintro e w2 ⟨rfl, hb2⟩
  have HL2 := Lib.hid (HL.out.below hb2)
  have k0 := HL2.out.pc.k0
  have k1 := HL2.out.pc.k1
  clear hb2 HL
  generalize hK : chooseAt ns fs z vs = K
  have HK := Lib.hid hK
  have hne : (K != K) = false := by simp
  have hee : (K == K) = true := by simp
  clear hK
  go_wp2_with (fail)
  (with_reducible refine (HL2.out.pc.chooseS z _ _ n3 c3 A3 vs HL2.out.va HL2.out.vh (by omega)).mono ?_)
  rw [HK.out]
  rintro e w3 ⟨rfl, hb3⟩
  have HL3 := Lib.hid (HL2.out.below hb3)
  clear hb3 HL2 k0 k1
  have k0 := HL3.out.pc.k0
  have k1 := HL3.out.pc.k1
  go_wp2_with (fail)
  (with_reducible refine (HL3.out.pc.validI).mono ?_)
  rintro e w4 ⟨rfl, hb4⟩
  have HL4 := Lib.hid (HL3.out.below hb4)
  clear hb4 HL3 k0 k1
  have k0 := HL4.out.pc.k0
  have k1 := HL4.out.pc.k1
  cases hV : vProc ns fs with
  | false =>
    clear hV
    go_wp2_with (fail)
    (with_reducible refine (HL4.out.pc.chooseS z _ _ n3 c3 A3 vs HL4.out.va HL4.out.vh (by omega)).mono ?_)
    rw [HK.out]
    rintro e w9 ⟨rfl, hb9⟩
    have HB9 := Lib.hid (up HL4.out.bel hb9)
    clear hb9 HL4 k0 k1
    go_wp2
    go_ret
    exact ⟨rfl, HB9.out⟩
  | true =>
  by_cases hzl : z < 0
  · have hzl' : decide (z < 0) = true := decide_eq_true hzl
    clear hV
    go_wp2_with (fail)
    (with_reducible refine (HL4.out.pc.chooseS z _ _ n3 c3 A3 vs HL4.out.va HL4.out.vh (by omega)).mono ?_)
    rw [HK.out]
    rintro e w9 ⟨rfl, hb9⟩
    have HB9 := Lib.hid (up HL4.out.bel hb9)
    clear hb9 HL4 k0 k1
    go_wp2
    go_ret
    exact ⟨rfl, HB9.out⟩
  have hzl' : decide (z < 0) = false := decide_eq_false hzl
  obtain ⟨kz, hkz⟩ := Int.eq_ofNat_of_zero_le (show 0 ≤ z by omega)
  subst hkz
  by_cases hzn : nn ≤ kz
  · have hzn' : decide ((nn : Int) ≤ (kz : Int)) = true := decide_eq_true (by omega)
    have hzn2 : decide (nn ≤ kz) = true := decide_eq_true hzn
    clear hV
    go_wp2_with (fail)
    (with_reducible refine (HL4.out.pc.chooseS (kz : Int) _ _ n3 c3 A3 vs HL4.out.va HL4.out.vh (by omega)).mono ?_)
    rw [HK.out]
    rintro e w9 ⟨rfl, hb9⟩
    have HB9 := Lib.hid (up HL4.out.bel hb9)
    clear hb9 HL4 k0 k1
    go_wp2
    go_ret
    exact ⟨rfl, HB9.out⟩
  have hzn' : decide ((nn : Int) ≤ (kz : Int)) = false := decide_eq_false (by omega)
  have hzn2 : decide (nn ≤ kz) = false := decide_eq_false hzn
  have hkn1 : (kz : Int) < (nn : Int) := by omega
  have hkn0 : (0 : Int) ≤ (kz : Int) := by omega
  obtain ⟨b3, off3, x3, y3, hAn, _, _, hg3, he0, he1⟩ := HL4.out.pc.prs.nodes.pair (show kz < nn by omega)
  subst hAn
  by_cases hx : x3 = 5
  · subst hx
    have hbl := Blk.new w4 62 #[.int .i64 0, .int .i64 1]
    have hba := up_alloc (Below.refl _ w4) (.cells #[.int .i64 0, .int .i64 1] 62)
    have HL5 := Lib.hid (HL4.out.below hba)
    have HE := Lib.hid (EvalConditionI_any w4.heap.size (w4.heap.size + 1) 1 1 _ _ n3 c3 (some ⟨w4.heap.size, 0, none⟩) A3 [(0, 1)] vs _ (Rd.of_blk hbl rfl) (by simp) (by omega) HL5.out.va HL5.out.vh (by omega))
    have HNN := Lib.hid HL4.out.pc.nlen
    rw [eval_one] at HE
    clear hbl hba
    go_wp2_with (fail)
    (with_reducible refine HE.out.mono ?_)
    rintro e w6 ⟨rfl, hb6⟩
    have HL6 := Lib.hid (HL5.out.below hb6)
    clear hb6 HE HL5 HL4 k0 k1 he0 he1
    have k0 := HL6.out.pc.k0
    have k1 := HL6.out.pc.k1
    cases hvv : vVals vs with
    | false =>
      rw [if_neg (by simp)]
      clear hvv hg3 hV
      go_wp2_with (fail)
      (with_reducible refine (HL6.out.pc.chooseS (kz : Int) _ _ n3 c3 A3 vs HL6.out.va HL6.out.vh (by omega)).mono ?_)
      rw [HK.out]
      rintro e w9 ⟨rfl, hb9⟩
      have HB9 := Lib.hid (up HL6.out.bel hb9)
      clear hb9 HL6 k0 k1
      go_wp2
      go_ret
      exact ⟨rfl, HB9.out⟩
    | true =>
    rw [if_pos rfl]
    have hin : inR (kz : Int) 0 ((ns.length : Int) - 1) = true := inR_iff.2 ⟨by omega, by rw [HNN.out]; omega⟩
    have HKC := Lib.hid (HK.out.symm.trans (chooseAt_yes hV hin hg3 hvv))
    have HV := Lib.hid hV
    have HFL := Lib.hid HL6.out.pc.flen
    have hll : (flOf fs true (kz : Int)).length ≤ 1048576 := by
      have h1 := flUp_le fs true (kz : Int) fs.length
      have h2 := HFL.out
      show (flUp fs true (kz : Int) fs.length).length ≤ _
      omega
    have HMEM := Lib.hid (show ∀ z ∈ flOf fs true (kz : Int), ∃ (q : Nat) (f : Flw), z = (q : Int) ∧ fs[q]? = some f ∧ q < lf from fun z h => by
      obtain ⟨q, f, rfl, hf, _⟩ := flOf_mem.1 h
      exact ⟨q, f, rfl, hf, by have := (List.getElem?_eq_some_iff.1 hf).1; have := HFL.out; omega⟩)
    clear hvv hg3 hV hin HK
    go_wp2_with (fail)
    (with_reducible refine (HL6.out.pc.outI (kz : Int) hz64).mono ?_)
    rw [flowsAt_yes HV.out]
    rintro e w7 ⟨A5, c5, rfl, _, hr5, _, hb7⟩
    have HL7 := Lib.hid (show Lc w w7 w1.heap.size _ nn cn Af lf cf ns fs w1.heap.size A3 n3 vs w7.heap.size A5 (flOf fs true (kz : Int)).length (flOf fs true (kz : Int)) from
      let h := HL6.out.below hb7; ⟨h.pc, h.va, h.vh, hr5.wide (Nat.zero_le _) (Nat.le_refl _), Nat.le_refl _, h.bel⟩)
    clear hb7 hr5 HL6 k0 k1
    generalize flOf fs true (kz : Int) = L at *
    go_wp2
    go_loopw [7, 9] (fun rv iv wr => ∃ (i : Nat) (rest : Int), i ≤ L.length ∧ iv = .int .i64 i ∧ rv = .int .i64 rest ∧ w7.heap.size ≤ wr.heap.size ∧ Hid (K = chooseR fs vs (L.drop i) rest) ∧ Hid (Lc w wr w1.heap.size (some ⟨b3, off3, none⟩) nn cn Af lf cf ns fs w1.heap.size A3 n3 vs w7.heap.size A5 L.length L))
       (fun _ iv _ => L.length - (intOf iv).toNat)
    case atStart => exact ⟨0, -1, by omega, rfl, rfl, Nat.le_refl _, HKC, HL7⟩
    case round =>
      clear HL7 HKC
      obtain ⟨i, rest, hi, rfl, rfl, hsr, HS, HLr⟩ := hrel
      have k0 := HLr.out.pc.k0
      have k1 := HLr.out.pc.k1
      by_cases hlt : i < L.length
      · obtain ⟨b, off, q', hA5, hbA, hbB, hg, hc0⟩ := HLr.out.out.one hlt
        subst hA5
        obtain ⟨q, f0, hqq, hf0, hq⟩ := HMEM.out q' (List.mem_of_getElem? hg)
        subst hqq
        obtain ⟨bf, off2, x, y, ps, Aw, mw, cw, hAf, hbf, _, hgf, hx0, hx1, hcw, hrw, hmw⟩ := HLr.out.pc.prs.flows.at hq
        subst hAf
        have HQM := Lib.hid (List.mem_of_getElem? hg)
        have HGD := Lib.hid (show (fs.getD (q : Int).toNat (0, 0, [])) = (x, y, ps) by rw [Int.toNat_natCast, List.getD_eq_getElem?_getD, hgf]; rfl)
        have hpl := hrw.len2
        have hk1' : (i : Int) < (L.length : Int) := by omega
        have hk0' : (0 : Int) ≤ (i : Int) := by omega
        have hq1 : (q : Int) < (lf : Int) := by omega
        have hq0 : (0 : Int) ≤ (q : Int) := by omega
        have hbx := up_alloc (Below.refl _ wr) (.cells #[.int .i64 x, .int .i64 y, .slice Aw mw cw] 48)
        have hbw : b < wr.heap.size := by have := HLr.out.hh; omega
        have hglt := HLr.out.pc.lt
        have hbfw : bf < wr.heap.size := by omega
        have hz := up_alloc (Below.refl _ wr) (.cells #[.int .i64 0, .int .i64 0, .slice none 0 0] 48)
        have y0 := (hz.cell (p := ⟨bf, off2 + q * 3, none⟩) hbfw).trans hx0
        have y1 := (hz.cell (p := ⟨bf, off2 + q * 3 + 1, none⟩) hbfw).trans hx1
        have y2 := (hz.cell (p := ⟨bf, off2 + q * 3 + 2, none⟩) hbfw).trans hcw
        have y3 := (hz.cell (p := ⟨w1.heap.size, 1, none⟩) hglt).trans k1
        have y4 := (hz.cell (p := ⟨b, off + i, none⟩) hbw).trans hc0
        have hcx := ((up_drew hbx).cell (p := ⟨b, off + i, none⟩) hbw).trans hc0
        have HLX := Lib.hid (HLr.out.below (up_drew hbx))
        have hsx : ((wr.alloc (.cells #[.int .i64 x, .int .i64 y, .slice Aw mw cw] 48)).drew).heap.size = wr.heap.size + 1 := by simp [World.drew]
        have HSX := Lib.hid hsx
        have HFB := Lib.hid (Blk.new wr 48 #[.int .i64 x, .int .i64 y, .slice Aw mw cw]).drew
        have HE := Lib.hid (EvalConditionI_any _ _ mw cw _ _ n3 c3 Aw A3 ps vs _ ((hrw.keep (up_drew hbx) (Nat.le_of_lt hglt))) (Nat.le_trans (Nat.le_of_lt hglt) (by rw [hsx]; omega)) hmw HLX.out.va HLX.out.vh (by omega))
        have HC := Lib.hid (chooseR_at (vs := vs) hg hgf rest)
        clear hz hg hf0 hgf hsx
        by_cases h0 : mw = 0
        · subst h0
          have hps : ps = [] := List.eq_nil_of_length_eq_zero (by omega)
          subst hps
          clear hrw hpl HE
          by_cases hrs : rest < 0
          · have hrs' : decide (rest < 0) = true := decide_eq_true hrs
            have HC2 := Lib.hid (HS.out.trans (by rw [HC.out]; simp [hrs] : chooseR fs vs (L.drop i) rest = chooseR fs vs (L.drop (i + 1)) (q : Int)))
            clear hrs HS HC
            go_wp2_with (fail)
            go_region
            all_goals
              go_wp2
              go_roundw
              case rel => exact ⟨i + 1, q, by omega, by go_num, rfl, by rw [HSX.out]; omega, HC2, HLX⟩
              case measure => simp [intOf]; omega
          · have hrs' : decide (rest < 0) = false := decide_eq_false hrs
            have HC2 := Lib.hid (HS.out.trans (by rw [HC.out]; simp [hrs] : chooseR fs vs (L.drop i) rest = chooseR fs vs (L.drop (i + 1)) rest))
            clear hrs HS HC
            go_wp2_with (fail)
            go_region
            all_goals
              go_wp2
              go_roundw
              case rel => exact ⟨i + 1, rest, by omega, by go_num, rfl, by rw [HSX.out]; omega, HC2, HLX⟩
              case measure => simp [intOf]; omega
        · have hne2 : ps ≠ [] := fun e => by rw [e] at hpl; simp at hpl; omega
          have h0' : (((mw : Nat) : Int) == 0) = false := by simpa using h0
          have h0g : decide ((0 : Int) < (mw : Int)) = true := decide_eq_true (by omega)
          have h0n : 0 < mw := by omega
          have h0d : decide (0 < mw) = true := decide_eq_true h0n
          have HNE := Lib.hid hne2
          clear hrw hpl h0 hne2
          go_wp2_with (fail)
          go_region
          all_goals
            go_wp2_with (fail)
            (with_reducible refine HE.out.mono ?_)
            rintro e w5 ⟨rfl, hb5⟩
            have hs5 := hb5.size
            rw [HSX.out] at hs5
            have HL5 := Lib.hid (HLX.out.below hb5)
            have f2 : w5.cell? ⟨wr.heap.size, 2, none⟩ = some (.slice Aw mw cw) := (HFB.out.below hb5 (by rw [HSX.out]; omega)).cell 2
            clear hb5 HE
            by_cases hev : evalOf ps vs = 0
            · have HC2 := Lib.hid (HS.out.trans (by rw [HC.out]; simp [HNE.out, hev] : chooseR fs vs (L.drop i) rest = chooseR fs vs (L.drop (i + 1)) rest))
              rw [hev]
              clear HS HC hev
              go_wp2
              go_roundw
              case rel => exact ⟨i + 1, rest, by omega, by go_num, rfl, by omega, HC2, HL5⟩
              case measure => simp [intOf]; omega
            · have hKq := HS.out.trans (by rw [HC.out]; simp [HNE.out, hev] : chooseR fs vs (L.drop i) rest = (q : Int))
              have hev' : (evalOf ps vs != 0) = true := by simpa using hev
              have hkge : decide ((0 : Int) ≤ K) = true := decide_eq_true (by omega)
              clear HS HC hev hKq
              go_wp2
              go_ret
              exact ⟨rfl, HL5.out.bel⟩
      · obtain rfl : i = L.length := by omega
        have hKr : K = rest := by rw [HS.out, List.drop_of_length_le (Nat.le_refl _)]; rfl
        have hkr : (K == rest) = true := by simp [hKr]
        clear HS hKr
        go_wp2
        go_ret
        exact ⟨rfl, HLr.out.bel⟩
  · have hx' : (x3 != 5) = true := by simpa using hx
    clear hx hg3 hV
    go_wp2_with (fail)
    (with_reducible refine (HL4.out.pc.chooseS (kz : Int) _ _ n3 c3 A3 vs HL4.out.va HL4.out.vh (by omega)).mono ?_)
    rw [HK.out]
    rintro e w9 ⟨rfl, hb9⟩
    have HB9 := Lib.hid (up HL4.out.bel hb9)
    clear hb9 HL4 k0 k1
    go_wp2
    go_ret
    exact ⟨rfl, HB9.out⟩
end Go.Proofs.Ytcckmabdflhfmaa
