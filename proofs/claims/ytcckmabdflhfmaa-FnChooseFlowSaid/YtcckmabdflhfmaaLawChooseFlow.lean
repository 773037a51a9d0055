/- The law FnChooseFlow, walked: it returns true. (Written by gen/lawchoose.py.) -/
import Derived.Test.YtcckmabdflhfmaaLawChooseA
import Derived.Deep.RegionLaw
import Derived.BigQuiet
namespace Go.Proofs.Ytcckmabdflhfmaa
open Go.RowKit

set_option maxRecDepth 100000 in
set_option maxHeartbeats 6400000 in
theorem lawChooseFlow_any (n c : Nat) (A : Option Addr) (xs : List Int) (w : World) (hr : Rd w 0 w.heap.size 1 A n (bvs xs)) (hby : Bytes xs) (hc : n ≤ c) (hc2 : c ≤ 9223372036854775807) :
    Calls Try.prog 8 #[.slice A n c] w fun e w' => e = .returned (.bool true) ∧ Below w.heap.size w w' := by
  by_cases hbig : (1048576 : Int) < n
  · go_enter Try.func8, Try.ntmps8
    go_wp2
    go_ret
    exact ⟨rfl, Below.refl _ _⟩
  go_enter Try.func8, Try.ntmps8
  go_wp2_with (fail)
  (with_reducible refine (drawChooseFlow_any n c A xs w hr hby (by omega) hc hc2).mono ?_)
  clear hbig
  rintro e w1 ⟨An, nn, cn, Af, lf, cf, ns, fs, z, A3, n3, c3, vs, rfl, hz0, hz1, hn3, hP, hV, hb1⟩
  have hn21 := hP.n21
  have hf21 := hP.f21
  have hba := up_alloc (Below.refl _ w1) (.cells #[.slice An nn cn, .slice Af lf cf] 33)
  have hva := (hV.wide (Nat.zero_le _) (Nat.le_refl _)).keep hba (Nat.le_refl _)
  have HL := Lib.hid (show Lc w _ w1.heap.size An nn cn Af lf cf ns fs w1.heap.size A3 n3 vs w1.heap.size A3 n3 vs from ⟨Pc.new (hP.wide (Nat.zero_le _) (Nat.le_refl _)), hva, hba.size, hva, hba.size, up hb1 hba⟩)
  clear hP hV hb1 hba hva
  have hz64 : in64 z := by unfold in64; omega
  go_wp2_with (fail)
  (with_reducible refine (HL.out.pc.chooseI z _ _ n3 c3 A3 vs hz64 HL.out.va HL.out.vh (by omega)).mono ?_)
  rintro e w2 ⟨rfl, hb2⟩
  have HL2 := Lib.hid (HL.out.below hb2)
  have k0 := HL2.out.pc.k0
  have k1 := HL2.out.pc.k1
  clear hb2 HL
  generalize hK : chooseAt ns fs z vs = K
  have HK := Lib.hid hK
  have hne : (K != K) = false := by simp
  have hee : (K == K) = true := by simp
  clear hK
  go_wp2_with (fail)
  (with_reducible refine (HL2.out.pc.chooseS z _ _ n3 c3 A3 vs HL2.out.va HL2.out.vh (by omega)).mono ?_)
  rw [HK.out]
  rintro e w3 ⟨rfl, hb3⟩
  have HL3 := Lib.hid (HL2.out.below hb3)
  clear hb3 HL2 k0 k1
  have k0 := HL3.out.pc.k0
  have k1 := HL3.out.pc.k1
  by_cases hk : K < 0
  · have hk' : decide (K < 0) = true := decide_eq_true hk
    go_wp2_with (fail)
    (with_reducible refine (HL3.out.pc.chooseS z _ _ n3 c3 A3 vs HL3.out.va HL3.out.vh (by omega)).mono ?_)
    rw [HK.out]
    rintro e w9 ⟨rfl, hb9⟩
    have HB9 := Lib.hid (up HL3.out.bel hb9)
    clear hb9 HL3 k0 k1
    go_wp2
    go_ret
    exact ⟨rfl, HB9.out⟩
  have hk' : decide (K < 0) = false := decide_eq_false hk
  obtain ⟨kz, yk, hzk, hV, hnk, hvv, hKc⟩ := chooseAt_no (show 0 ≤ chooseAt ns fs z vs by rw [HK.out]; omega)
  subst hzk
  rw [HK.out] at hKc
  have HKC := Lib.hid hKc
  have HV := Lib.hid hV
  have HSRT := Lib.hid (flOf_sorted fs true (kz : Int))
  have HFC := Lib.hid (chooseR_facts HSRT.out (by rw [← HKC.out]; omega) : _)
  obtain ⟨hf1, hf2, hf3⟩ := HFC.out
  rw [← HKC.out] at hf1 hf2 hf3
  have HF1 := Lib.hid hf1
  have HF2 := Lib.hid hf2
  have HF3 := Lib.hid hf3
  have HFL := Lib.hid HL3.out.pc.flen
  have hll : (flOf fs true (kz : Int)).length ≤ 1048576 := by
    have h1 := flUp_le fs true (kz : Int) fs.length
    have h2 := HFL.out
    show (flUp fs true (kz : Int) fs.length).length ≤ _
    omega
  have HMEM := Lib.hid (show ∀ z ∈ flOf fs true (kz : Int), ∃ (q : Nat) (f : Flw), z = (q : Int) ∧ fs[q]? = some f ∧ q < lf from fun z h => by
    obtain ⟨q, f, rfl, hf, _⟩ := flOf_mem.1 h
    exact ⟨q, f, rfl, hf, by have := (List.getElem?_eq_some_iff.1 hf).1; have := HFL.out; omega⟩)
  obtain ⟨Kn, hKn⟩ := Int.eq_ofNat_of_zero_le (show 0 ≤ K by omega)
  subst hKn
  have hKl : Kn < lf := by
    obtain ⟨q, f, hq, _, hl⟩ := HMEM.out _ HF1.out
    omega
  have hKi : inL (flOf fs true (kz : Int)) (Kn : Int) = true := by rw [inL, List.contains_iff_mem]; exact HF1.out
  have HKI := Lib.hid hKi
  clear hf1 hf2 hf3 hKi hKc hvv hnk hV hk HFC HSRT HKC HK
  go_wp2_with (fail)
  (with_reducible refine (HL3.out.pc.outI (kz : Int) hz64).mono ?_)
  rw [flowsAt_yes HV.out]
  rintro e w4 ⟨A5, c5, rfl, _, hr5, _, hb4⟩
  have HL4 := Lib.hid (show Lc w w4 w1.heap.size An nn cn Af lf cf ns fs w1.heap.size A3 n3 vs w4.heap.size A5 (flOf fs true (kz : Int)).length (flOf fs true (kz : Int)) from
    let h := HL3.out.below hb4; ⟨h.pc, h.va, h.vh, hr5.wide (Nat.zero_le _) (Nat.le_refl _), Nat.le_refl _, h.bel⟩)
  clear hb4 hr5 HL3 k0 k1
  generalize flOf fs true (kz : Int) = L at *
  go_wp2
  go_loopw [8] (fun iv wr => ∃ (i : Nat), i ≤ L.length ∧ iv = .int .i64 i ∧ w4.heap.size ≤ wr.heap.size ∧ Hid (Lc w wr w1.heap.size An nn cn Af lf cf ns fs w1.heap.size A3 n3 vs w4.heap.size A5 L.length L))
     (fun iv _ => L.length - (intOf iv).toNat)
  case atStart => exact ⟨0, by omega, rfl, Nat.le_refl _, HL4⟩
  case round =>
    clear HL4
    obtain ⟨i, hi, rfl, hsr, HLr⟩ := hrel
    have k0 := HLr.out.pc.k0
    have k1 := HLr.out.pc.k1
    by_cases hlt : i < L.length
    · obtain ⟨b, off, q', hA5, hbA, hbB, hg, hc0⟩ := HLr.out.out.one hlt
      subst hA5
      obtain ⟨q, f0, hqq, hf0, hq⟩ := HMEM.out q' (List.mem_of_getElem? hg)
      subst hqq
      obtain ⟨bf, off2, x, y, ps, Aw, mw, cw, hAf, hbf, _, hgf, hx0, hx1, hcw, hrw, hmw⟩ := HLr.out.pc.prs.flows.at hq
      subst hAf
      have HQM := Lib.hid (List.mem_of_getElem? hg)
      have HGD := Lib.hid (show (fs.getD (q : Int).toNat (0, 0, [])) = (x, y, ps) by rw [Int.toNat_natCast, List.getD_eq_getElem?_getD, hgf]; rfl)
      have hpl := hrw.len2
      have hk1' : (i : Int) < (L.length : Int) := by omega
      have hk0' : (0 : Int) ≤ (i : Int) := by omega
      have hq1 : (q : Int) < (lf : Int) := by omega
      have hq0 : (0 : Int) ≤ (q : Int) := by omega
      have hbx := up_alloc (Below.refl _ wr) (.cells #[.int .i64 x, .int .i64 y, .slice Aw mw cw] 48)
      have hbw : b < wr.heap.size := by have := HLr.out.hh; omega
      have hglt := HLr.out.pc.lt
      have hbfw : bf < wr.heap.size := by omega
      have hz := up_alloc (Below.refl _ wr) (.cells #[.int .i64 0, .int .i64 0, .slice none 0 0] 48)
      have y0 := (hz.cell (p := ⟨bf, off2 + q * 3, none⟩) hbfw).trans hx0
      have y1 := (hz.cell (p := ⟨bf, off2 + q * 3 + 1, none⟩) hbfw).trans hx1
      have y2 := (hz.cell (p := ⟨bf, off2 + q * 3 + 2, none⟩) hbfw).trans hcw
      have y3 := (hz.cell (p := ⟨w1.heap.size, 1, none⟩) hglt).trans k1
      have y4 := (hz.cell (p := ⟨b, off + i, none⟩) hbw).trans hc0
      have hcx := ((up_drew hbx).cell (p := ⟨b, off + i, none⟩) hbw).trans hc0
      have HLX := Lib.hid (HLr.out.below (up_drew hbx))
      have hsx : ((wr.alloc (.cells #[.int .i64 x, .int .i64 y, .slice Aw mw cw] 48)).drew).heap.size = wr.heap.size + 1 := by simp [World.drew]
      have HSX := Lib.hid hsx
      have HFB := Lib.hid (Blk.new wr 48 #[.int .i64 x, .int .i64 y, .slice Aw mw cw]).drew
      have HE := Lib.hid (EvalConditionI_any _ _ mw cw _ _ n3 c3 Aw A3 ps vs _ ((hrw.keep (up_drew hbx) (Nat.le_of_lt hglt))) (Nat.le_trans (Nat.le_of_lt hglt) (by rw [hsx]; omega)) hmw HLX.out.va HLX.out.vh (by omega))
      clear hz hg hf0 hgf hsx
      by_cases h0 : mw = 0
      · subst h0
        have hps : ps = [] := List.eq_nil_of_length_eq_zero (by omega)
        subst hps
        clear hrw hpl HE
        rcases (show (q : Int) < (Kn : Int) ∨ (q : Int) = (Kn : Int) ∨ (Kn : Int) < (q : Int) by omega) with hqk | hqk | hqk
        · have hl1 : decide ((q : Int) < (Kn : Int)) = true := decide_eq_true hqk
          have hl2 : ((q : Int) == (Kn : Int)) = false := by simp; omega
          have hl3 : decide (q < Kn) = true := decide_eq_true (by omega)
          have hl4 : (q == Kn) = false := by simp; omega
          clear hqk
          go_wp2_with (fail)
          go_region
          all_goals
            go_wp2
            go_roundw
            case rel => exact ⟨i + 1, by omega, by go_num, by rw [HSX.out]; omega, HLX⟩
            case measure => simp [intOf]; omega
        · have hl1 : decide ((q : Int) < (Kn : Int)) = false := decide_eq_false (by omega)
          have hl2 : ((q : Int) == (Kn : Int)) = true := by simp; omega
          have hl3 : decide (q < Kn) = false := decide_eq_false (by omega)
          have hl4 : (q == Kn) = true := by simp; omega
          clear hqk
          go_wp2_with (fail)
          go_region
          all_goals
            go_wp2
            go_roundw
            case rel => exact ⟨i + 1, by omega, by go_num, by rw [HSX.out]; omega, HLX⟩
            case measure => simp [intOf]; omega
        · have hl1 : decide ((q : Int) < (Kn : Int)) = false := decide_eq_false (by omega)
          have hl2 : ((q : Int) == (Kn : Int)) = false := by simp; omega
          have hl3 : decide (q < Kn) = false := decide_eq_false (by omega)
          have hl4 : (q == Kn) = false := by simp; omega
          clear hqk
          go_wp2_with (fail)
          go_region
          all_goals
            go_wp2
            go_roundw
            case rel => exact ⟨i + 1, by omega, by go_num, by rw [HSX.out]; omega, HLX⟩
            case measure => simp [intOf]; omega
      · have hne2 : ps ≠ [] := fun e => by rw [e] at hpl; simp at hpl; omega
        have h0' : (((mw : Nat) : Int) == 0) = false := by simpa using h0
        have h0g : decide ((0 : Int) < (mw : Int)) = true := decide_eq_true (by omega)
        have h0n : 0 < mw := by omega
        have h0d : decide (0 < mw) = true := decide_eq_true h0n
        have HNE := Lib.hid hne2
        clear hrw hpl h0 hne2
        go_wp2_with (fail)
        go_region
        all_goals
          go_wp2_with (fail)
          (with_reducible refine HE.out.mono ?_)
          rintro e w5 ⟨rfl, hb5⟩
          have hs5 := hb5.size
          rw [HSX.out] at hs5
          have HL5 := Lib.hid (HLX.out.below hb5)
          have f2 : w5.cell? ⟨wr.heap.size, 2, none⟩ = some (.slice Aw mw cw) := (HFB.out.below hb5 (by rw [HSX.out]; omega)).cell 2
          have hc5 : w5.cell? ⟨b, off + i, none⟩ = some (.int .i64 (q : Int)) := (hb5.cell (p := ⟨b, off + i, none⟩) (by show b < _; rw [HSX.out]; omega)).trans hcx
          have k0 := HL5.out.pc.k0
          have k1 := HL5.out.pc.k1
          obtain ⟨bk, offk, xk, yk2, psk, Ak, mk, ck, hAfk, _, _, hgk, hk0, hk1, hk2, hrk, _⟩ := HL5.out.pc.prs.flows.at hKl
          injection hAfk with hAfk; injection hAfk with hAf1 hAf2; subst hAf1; subst hAf2
          have hplk := hrk.len2
          have HGK := Lib.hid (show (fs.getD ((Kn : Nat) : Int).toNat (0, 0, [])) = (xk, yk2, psk) by rw [Int.toNat_natCast, List.getD_eq_getElem?_getD, hgk]; rfl)
          have hKl1 : (Kn : Int) < (lf : Int) := by omega
          have hKl0 : (0 : Int) ≤ (Kn : Int) := by omega
          clear hb5 HE hgk hrk
          by_cases hev : evalOf ps vs = 0
          · have hqk : (q : Int) ≠ (Kn : Int) := fun e => by
              have h := (HF3.out (by rw [← e, HGD.out]; exact HNE.out)).2
              rw [← e, HGD.out] at h
              exact h hev
            rw [hev]
            have hl2 : ((q : Int) == (Kn : Int)) = false := by simpa using hqk
            have hl4 : (q == Kn) = false := by simp; omega
            clear hev hplk
            by_cases hqk2 : (q : Int) < (Kn : Int)
            · have hl1 : decide ((q : Int) < (Kn : Int)) = true := decide_eq_true hqk2
              have hl3 : decide (q < Kn) = true := decide_eq_true (by omega)
              clear hqk hqk2
              go_wp2
              go_roundw
              case rel => exact ⟨i + 1, by omega, by go_num, by omega, HL5⟩
              case measure => simp [intOf]; omega
            · have hl1 : decide ((q : Int) < (Kn : Int)) = false := decide_eq_false hqk2
              have hl3 : decide (q < Kn) = false := decide_eq_false (by omega)
              clear hqk hqk2
              go_wp2
              go_roundw
              case rel => exact ⟨i + 1, by omega, by go_num, by omega, HL5⟩
              case measure => simp [intOf]; omega
          · obtain ⟨hle, hhk⟩ := HF2.out (q : Int) HQM.out ⟨by rw [HGD.out]; exact HNE.out, by rw [HGD.out]; exact hev⟩
            have hev' : (evalOf ps vs != 0) = true := by simpa using hev
            have hmk : ((mk : Int) == 0) = false := by
              have h := hhk.1
              rw [HGK.out] at h
              have : mk ≠ 0 := fun e => h (show psk = [] from List.eq_nil_of_length_eq_zero (by omega))
              simpa using this
            have hl1 : decide ((q : Int) < (Kn : Int)) = false := decide_eq_false (by omega)
            have hl3 : decide (q < Kn) = false := decide_eq_false (by omega)
            clear hev hplk hhk
            by_cases hqk : (q : Int) = (Kn : Int)
            · have hl2 : ((q : Int) == (Kn : Int)) = true := by simpa using hqk
              have hl4 : (q == Kn) = true := by simp; omega
              clear hqk hle
              go_wp2
              go_roundw
              case rel => exact ⟨i + 1, by omega, by go_num, by omega, HL5⟩
              case measure => simp [intOf]; omega
            · have hl2 : ((q : Int) == (Kn : Int)) = false := by simpa using hqk
              have hl4 : (q == Kn) = false := by simp; omega
              clear hqk hle
              go_wp2
              go_roundw
              case rel => exact ⟨i + 1, by omega, by go_num, by omega, HL5⟩
              case measure => simp [intOf]; omega
    · obtain rfl : i = L.length := by omega
      have HI := Lib.hid (isIn_any _ _ L.length c5 A5 L (Kn : Int) _ HLr.out.out hll)
      go_wp2_with (fail)
      (with_reducible refine HI.out.mono ?_)
      rw [HKI.out]
      rintro e w7 ⟨rfl, rfl⟩
      go_wp2
      go_ret
      exact ⟨rfl, HLr.out.bel⟩
end Go.Proofs.Ytcckmabdflhfmaa
