/- The law FnFireNode, walked: it returns true. (Written by gen/lawfire.py.) -/
import Derived.Test.YtcckmabdflhfmaaLawFireA
import Derived.Deep.RegionLaw
import Derived.Deep.RegionHeld3
import Derived.BigQuiet
namespace Go.Proofs.Ytcckmabdflhfmaa
open Go.RowKit

set_option maxRecDepth 100000 in
set_option maxHeartbeats 6400000 in
theorem lawFireNode_any (n c : Nat) (A : Option Addr) (xs : List Int) (w : World) (hr : Rd w 0 w.heap.size 1 A n (bvs xs)) (hby : Bytes xs) (hc : n ≤ c) (hc2 : c ≤ 9223372036854775807) :
    Calls Try.prog 10 #[.slice A n c] w fun e w' => e = .returned (.bool true) ∧ Below w.heap.size w w' := by
  by_cases hbig : (1048576 : Int) < n
  · go_enter Try.func10, Try.ntmps10
    go_wp2
    go_ret
    exact ⟨rfl, Below.refl _ _⟩
  go_enter Try.func10, Try.ntmps10
  go_wp2_with (fail)
  (with_reducible refine (drawFireNode_any n c A xs w hr hby (by omega) hc hc2).mono ?_)
  clear hbig
  rintro e w1 ⟨An, nn, cn, Af, lf, cf, ns, fs, A1, n1, c1, ms, z, A3, n3, c3, vs, rfl, hn1, hz0, hz1, hn3, hP, hM, hV, hb1⟩
  have hn21 := hP.n21
  have hf21 := hP.f21
  have hba := up_alloc (Below.refl _ w1) (.cells #[.slice An nn cn, .slice Af lf cf] 33)
  have hmk := (hM.wide (Nat.zero_le _) (Nat.le_refl _)).keep hba (Nat.le_refl _)
  have hL := (show Lf w _ w1.heap.size An nn cn Af lf cf ns fs w1.heap.size A1 n1 ms w1.heap.size A3 n3 vs w1.heap.size A1 n1 ms from ⟨Pc.new (hP.wide (Nat.zero_le _) (Nat.le_refl _)), hmk, hba.size, (hV.wide (Nat.zero_le _) (Nat.le_refl _)).keep hba (Nat.le_refl _), hba.size, hmk, hba.size, up hb1 hba⟩)
  have HL := Lib.hid hL
  have HMN := Lib.hid hM.len1
  clear hP hM hV hb1 hba hL hmk
  obtain ⟨M, ok, HM, HOK, HF, hml⟩ : ∃ M ok, Hid ((fireOf ns fs ms z vs).getD [] = M) ∧ Hid ((fireOf ns fs ms z vs).isSome = ok) ∧ Hid (ok = true → ∃ k x y, Fired ns fs ms z vs M k x y) ∧ M.length ≤ 22 := by
    refine ⟨_, _, rfl, rfl, ?_, Nat.le_trans (fireOf_len ns fs ms z vs) (by rw [HMN.out]; exact hn1)⟩
    intro h
    cases hR : fireOf ns fs ms z vs with
    | none => rw [hR] at h; cases h
    | some M => exact fired hR
  go_wp2_with (fail)
  (with_reducible refine (HL.out.pc.fireI _ _ n1 c1 A1 ms z _ _ n3 c3 A3 vs HL.out.tok HL.out.mh (by omega) HL.out.va HL.out.vh (by omega)).mono ?_)
  rw [HM.out, HOK.out]
  rintro e w2 ⟨A2, c2, rfl, _, hr2, _, hb2⟩
  have HL2 := Lib.hid (show Lf w w2 w1.heap.size An nn cn Af lf cf ns fs w1.heap.size A1 n1 ms w1.heap.size A3 n3 vs w2.heap.size A2 M.length M from
    let h := HL.out.below hb2; ⟨h.pc, h.tok, h.mh, h.va, h.vh, hr2.wide (Nat.zero_le _) (Nat.le_refl _), Nat.le_refl _, h.bel⟩)
  have k0 := HL2.out.pc.k0
  have k1 := HL2.out.pc.k1
  clear hb2 hr2 HL
  go_wp2_with (fail)
  (with_reducible refine (HL2.out.pc.fireS _ _ n1 c1 A1 ms z _ _ n3 c3 A3 vs HL2.out.tok HL2.out.mh (by omega) HL2.out.va HL2.out.vh (by omega)).mono ?_)
  rw [HM.out, HOK.out]
  rintro e w3 ⟨A4, c4, rfl, _, hr4, _, hb3⟩
  have HL3 := Lib.hid (HL2.out.below hb3)
  have HR4 := Lib.hid (hr4.wide (Nat.zero_le _) (Nat.le_refl _))
  have HE := Lib.hid (equalInts_any _ _ _ c2 _ _ _ c4 A2 A4 M M w3 HL3.out.out HL3.out.hh (Nat.le_trans hml (by omega)) HR4.out (Nat.le_refl _) (Nat.le_trans hml (by omega)))
  clear hb3 HL2 hr4 k0 k1
  go_wp2_with (fail)
  (with_reducible refine HE.out.mono ?_)
  rintro e w4 ⟨rfl, hb4⟩
  rw [beq_self_eq_true]
  have HL4 := Lib.hid (HL3.out.below hb4)
  have HR5 := Lib.hid (HR4.out.keep hb4 (Nat.le_refl _))
  have HS4 := Lib.hid hb4.size
  clear hb4 HL3 HE HR4
  cases ok with
  | false =>
    have HE := Lib.hid (equalInts_any _ _ _ c2 _ _ _ c4 A2 A4 M M w4 HL4.out.out HL4.out.hh (Nat.le_trans hml (by omega)) HR5.out HS4.out (Nat.le_trans hml (by omega)))
    go_wp2_with (fail)
    (with_reducible refine HE.out.mono ?_)
    rintro e w5 ⟨rfl, hb5⟩
    rw [beq_self_eq_true]
    have HB5 := Lib.hid (up HL4.out.bel hb5)
    clear hb5 HL4 HE
    go_wp2
    go_ret
    exact ⟨rfl, HB5.out⟩
  | true =>
  obtain ⟨k, x, y, hfd⟩ := HF.out rfl
  have hzk := hfd.at'
  subst hzk
  have HFD := Lib.hid hfd
  have HNL := Lib.hid HL4.out.pc.nlen
  have hkn : k < nn := by have := hfd.lt; have := HNL.out; omega
  have hkn1 : (k : Int) < (nn : Int) := by omega
  have hkn0 : (0 : Int) ≤ (k : Int) := by omega
  have k0 := HL4.out.pc.k0
  have k1 := HL4.out.pc.k1
  clear hfd HF HR5 hz0 hz1
  have HV := Lib.hid HFD.out.valid
  have hbl : ∀ b, (flOf fs b (k : Int)).length ≤ 1048576 := fun b => by
    have h1 := flUp_le fs b (k : Int) fs.length
    have h2 := HL4.out.pc.flen
    show (flUp fs b (k : Int) fs.length).length ≤ _
    omega
  have hbt := hbl true
  have hbf := hbl false
  clear hbl
  have HFL := Lib.hid HL4.out.pc.flen
  have HML := Lib.hid (show n1 = lf by rw [← HMN.out, marks_len HFD.out.marks, HFL.out])
  have HMM := Lib.hid (show M.length = lf by rw [marks_len HFD.out.after, HFL.out])
  have HIX := Lib.hid (show ∀ (b : Bool) (q : Int), q ∈ flOf fs b (k : Int) → ∃ j : Nat, q = (j : Int) ∧ j < lf from fun b q hq => by
    have h1 := flOf_lt hq
    obtain ⟨j, rfl⟩ := Int.eq_ofNat_of_zero_le h1.1
    exact ⟨j, rfl, by have := h1.2; have := HFL.out; simp at *; omega⟩)
  go_wp2_with (fail)
  (with_reducible refine (HL4.out.pc.inI (k : Int) (by unfold in64; omega)).mono ?_)
  rw [flowsAt_yes HV.out]
  rintro e w5 ⟨A5, c5, rfl, _, hr5, _, hb5⟩
  have HL5 := Lib.hid (HL4.out.below hb5)
  have HR5 := Lib.hid (hr5.wide (Nat.zero_le _) (Nat.le_refl _))
  clear hb5 HL4 hr5 k0 k1
  have k0 := HL5.out.pc.k0
  have k1 := HL5.out.pc.k1
  go_wp2_with (fail)
  (with_reducible refine (HL5.out.pc.outI (k : Int) (by unfold in64; omega)).mono ?_)
  rw [flowsAt_yes HV.out]
  rintro e w6 ⟨A6, c6, rfl, _, hr6, _, hb6⟩
  have HL6 := Lib.hid (HL5.out.below hb6)
  have HR6 := Lib.hid (HR5.out.keep hb6 (Nat.le_refl _))
  have HS5 := Lib.hid hb6.size
  have HQ6 := Lib.hid (hr6.wide (Nat.zero_le _) (Nat.le_refl _))
  clear hb6 HL5 hr6 HR5 k0 k1
  have k0 := HL6.out.pc.k0
  have k1 := HL6.out.pc.k1
  obtain ⟨b3, off3, x3, y3, hAn, _, _, hg3, he0, he1⟩ := HL6.out.pc.prs.nodes.pair hkn
  subst hAn
  obtain ⟨rfl, rfl⟩ : x3 = x ∧ y3 = y := by have h := HFD.out.nd; rw [hg3] at h; injection h with h; injection h with h1 h2; exact ⟨h1, h2⟩
  clear hg3
  have HC1 := Lib.hid HFD.out.count
  have HC0 := Lib.hid HFD.out.count0
  have hs1 := sum_nonneg fun z hz => (marks_range HFD.out.after z hz).1
  have hs0 := sum_nonneg fun z hz => (marks_range HFD.out.marks z hz).1
  have ht1 := sum_le fun z hz => (marks_range HFD.out.after z hz).2
  have ht0 := sum_le fun z hz => (marks_range HFD.out.marks z hz).2
  rw [HMN.out] at ht0
  have HOT := Lib.hid (show ∀ i : Nat, inL (flOf fs false (k : Int)) (i : Int) = false → inL (flOf fs true (k : Int)) (i : Int) = false → M.getD i 0 = ms.getD i 0 from fun i h1 h2 => HFD.out.other h1 h2)
  have HSUM := Lib.hid HFD.out.sum
  have HND := Lib.hid HFD.out.nd
  clear HFD HIX
  generalize flOf fs true (k : Int) = L at *
  generalize flOf fs false (k : Int) = I at *
  go_wp2
  go_loopw [13] (fun iv wr => ∃ (i : Nat), i ≤ M.length ∧ iv = .int .i64 i ∧ Below w6.heap.size w6 wr)
     (fun iv _ => M.length - (intOf iv).toNat)
  case atStart => exact ⟨0, by omega, rfl, Below.refl _ _⟩
  case round =>
    clear k0 k1 he0 he1
    obtain ⟨i, hi, rfl, hbr⟩ := hrel
    have HL7 := Lib.hid (HL6.out.below hbr)
    have HR7 := Lib.hid (HR6.out.keep hbr HS5.out)
    have HQ7 := Lib.hid (HQ6.out.keep hbr (Nat.le_refl _))
    have HS7 := Lib.hid hbr.size
    have HS8 := Lib.hid (Nat.le_trans HS5.out hbr.size)
    have k0 := HL7.out.pc.k0
    have k1 := HL7.out.pc.k1
    obtain ⟨b4, off4, x4, y4, hAn4, _, _, hg4, he0, he1⟩ := HL7.out.pc.prs.nodes.pair hkn
    injection hAn4 with hAn4; injection hAn4 with hA4 hA5; subst hA4; subst hA5
    obtain ⟨hx4, hy4⟩ : x4 = x3 ∧ y4 = y3 := by have h := HND.out; rw [hg4] at h; injection h with h; injection h with h1 h2; exact ⟨h1, h2⟩
    subst hx4
    subst hy4
    clear hg4
    by_cases hlt : i < M.length
    · have hi1 : (i : Int) < (M.length : Int) := by omega
      have hi2 : (i : Int) < (n1 : Int) := by have := HML.out; have := HMM.out; omega
      have hi0 : (0 : Int) ≤ (i : Int) := by omega
      obtain ⟨b7, off7, mj, hA2, _, _, hg7, hc7⟩ := HL7.out.out.one hlt
      subst hA2
      obtain ⟨b8, off8, sj, hA1, _, _, hg8, hc8⟩ := HL7.out.tok.one (show i < n1 by omega)
      subst hA1
      by_cases hms : mj = sj
      · have hne : (mj != sj) = false := by simp [hms]
        clear hg7 hg8 hms
        go_wp2
        go_quiet (fail)
        go_wp2
        go_roundw
        case rel => exact ⟨i + 1, by omega, by go_num, up_drewN hbr _⟩
        case measure => simp [intOf]; omega
      · have hne : (mj != sj) = true := by simpa using hms
        have HNE := Lib.hid (show inL I (i : Int) = false → inL L (i : Int) = true from fun h1 => by
          cases h2 : inL L (i : Int) with
          | true => rfl
          | false =>
            have h := HOT.out i h1 h2
            rw [List.getD_eq_getElem?_getD, List.getD_eq_getElem?_getD, hg7, hg8] at h
            exact absurd h hms)
        clear hg7 hg8 hms
        have HI := Lib.hid (fun m : Nat => isIn_any _ _ I.length c5 A5 I (i : Int) (wr.drewN m) (HR7.out.keep (up_drewN (Below.refl _ _) _) HS8.out) hbf)
        have HJ := Lib.hid (fun m : Nat => isIn_any _ _ L.length c6 A6 L (i : Int) (wr.drewN m) (HQ7.out.keep (up_drewN (Below.refl _ _) _) HS7.out) hbt)
        cases hb : inL I (i : Int) with
        | true =>
          have HI1 := Lib.hid (fun m : Nat => (HI.out m).mono fun e w' h => (show e = .returned (.bool true) ∧ w' = wr.drewN m from ⟨by rw [h.1, hb], h.2.symm⟩))
          clear hb HI HJ
          go_wp2
          go_quiet ((go_at_call 36; exact Calls.quiet_of_same (HI1.out _)))
          go_wp2
          go_roundw
          case rel => exact ⟨i + 1, by omega, by go_num, up_drewN hbr _⟩
          case measure => simp [intOf]; omega
        | false =>
          have HTR := Lib.hid (HNE.out hb)
          have HI1 := Lib.hid (fun m : Nat => (HI.out m).mono fun e w' h => (show e = .returned (.bool false) ∧ w' = wr.drewN m from ⟨by rw [h.1, hb], h.2.symm⟩))
          have HJ1 := Lib.hid (fun m : Nat => (HJ.out m).mono fun e w' h => (show e = .returned (.bool true) ∧ w' = wr.drewN m from ⟨by rw [h.1, HTR.out], h.2.symm⟩))
          clear hb HI HJ
          go_wp2
          go_quiet ((first | (go_at_call 36; with_reducible exact Calls.quiet_of_same (HI1.out _)) | (go_at_call 36; with_reducible exact Calls.quiet_of_same (HJ1.out _))))
          go_wp2
          go_roundw
          case rel => exact ⟨i + 1, by omega, by go_num, up_drewN hbr _⟩
          case measure => simp [intOf]; omega
    · obtain rfl : i = M.length := by omega
      generalize hS1 : M.sum = s1 at *
      generalize hS0 : ms.sum = s0 at *
      clear hS1 hS0
      have hib : (I.length : Int) ≤ 1048576 := by omega
      have hlb : (L.length : Int) ≤ 1048576 := by omega
      have hml1 : (M.length : Int) ≤ 22 := by omega
      by_cases h8 : x4 = 8
      · subst h8
        have hsum : s1 = s0 - (I.length : Int) + (L.length : Int) := by have := HSUM.out; simpa using this
        have hlt1 : w1.heap.size < wr.heap.size := HL7.out.pc.lt
        have hw1 : IntKind.i64.wrap (s0 - (I.length : Int)) = s0 - (I.length : Int) := IntWalk.i64_in _ (by omega)
        have hw2 : IntKind.i64.wrap (s0 - (I.length : Int) + (L.length : Int)) = s0 - (I.length : Int) + (L.length : Int) := IntWalk.i64_in _ (by omega)
        have hee : (s0 - (I.length : Int) + (L.length : Int) == s0 - (I.length : Int) + (L.length : Int)) = true := by simp
        have HD := Lib.hid (HL7.out.drew)
        have HCA := Lib.hid (HD.out.pc.countI _ _ M.length c2 A2 M HD.out.out HD.out.hh (by omega))
        have HSUMX := Lib.hid hsum
        clear hsum
        have k0d : wr.drew.cell? ⟨w1.heap.size, 0, none⟩ = some (.slice (some ⟨b3, off3, none⟩) nn cn) := HD.out.pc.k0
        have k1d : wr.drew.cell? ⟨w1.heap.size, 1, none⟩ = some (.slice Af lf cf) := HD.out.pc.k1
        go_wp2_with (fail)
        go_region_law (first
          | (go_simp; go_at_call 31; (with_reducible refine HCA.out.mono ?_); rw [HC1.out, HSUMX.out]; rintro e w8 ⟨rfl, hb8⟩; have HL8 := Lib.hid (HD.out.below hb8); have j0 := HL8.out.pc.k0; have j1 := HL8.out.pc.k1; clear hb8)
          | (go_simp; go_at_call 31; (with_reducible refine (HL8.out.pc.countI _ _ n1 c1 A1 ms HL8.out.tok HL8.out.mh (by omega)).mono ?_); rw [HC0.out]; rintro e w9 ⟨rfl, hb9⟩; have HB9 := Lib.hid (up HL8.out.bel hb9); clear hb9))
        all_goals
          clear HL8 k0 k1
          go_wp2
          go_ret
          exact ⟨rfl, HB9.out⟩
      by_cases h5 : x4 = 5
      · subst h5
        have hsum : s1 = s0 := by have := HSUM.out; simp at this; omega
        have hlt1 : w1.heap.size < wr.heap.size := HL7.out.pc.lt
        have hw1 : IntKind.i64.wrap (s0 - 1) = s0 - 1 := IntWalk.i64_in _ (by omega)
        have hw2 : IntKind.i64.wrap (s0 - 1 + 1) = s0 := by rw [IntWalk.i64_in _ (by omega)]; omega
        have hw3 : IntKind.i64.wrap s0 = s0 := IntWalk.i64_in _ (by omega)
        have hee : (s0 == s0) = true := by simp
        have HD := Lib.hid (HL7.out.drew)
        have HCA := Lib.hid (HD.out.pc.countI _ _ M.length c2 A2 M HD.out.out HD.out.hh (by omega))
        have HSUMX := Lib.hid hsum
        clear hsum
        have k0d : wr.drew.cell? ⟨w1.heap.size, 0, none⟩ = some (.slice (some ⟨b3, off3, none⟩) nn cn) := HD.out.pc.k0
        have k1d : wr.drew.cell? ⟨w1.heap.size, 1, none⟩ = some (.slice Af lf cf) := HD.out.pc.k1
        go_wp2_with (fail)
        go_region_law (first
          | (go_simp; go_at_call 31; (with_reducible refine HCA.out.mono ?_); rw [HC1.out, HSUMX.out]; rintro e w8 ⟨rfl, hb8⟩; have HL8 := Lib.hid (HD.out.below hb8); have j0 := HL8.out.pc.k0; have j1 := HL8.out.pc.k1; clear hb8)
          | (go_simp; go_at_call 31; (with_reducible refine (HL8.out.pc.countI _ _ n1 c1 A1 ms HL8.out.tok HL8.out.mh (by omega)).mono ?_); rw [HC0.out]; rintro e w9 ⟨rfl, hb9⟩; have HB9 := Lib.hid (up HL8.out.bel hb9); clear hb9))
        all_goals
          clear HL8 k0 k1
          go_wp2
          go_ret
          exact ⟨rfl, HB9.out⟩
      · have hx8 : (x4 == 8) = false := by simpa using h8
        have hx5 : (x4 == 5) = false := by simpa using h5
        have hsum : s1 = s0 - 1 + (L.length : Int) := by have := HSUM.out; rw [if_neg h8, if_neg h5] at this; exact this
        clear h8 h5
        have hlt1 : w1.heap.size < wr.heap.size := HL7.out.pc.lt
        have hw1 : IntKind.i64.wrap (s0 - 1) = s0 - 1 := IntWalk.i64_in _ (by omega)
        have hw2 : IntKind.i64.wrap (s0 - 1 + (L.length : Int)) = s0 - 1 + (L.length : Int) := IntWalk.i64_in _ (by omega)
        have hee : (s0 - 1 + (L.length : Int) == s0 - 1 + (L.length : Int)) = true := by simp
        have HD := Lib.hid (HL7.out.drew)
        have HCA := Lib.hid (HD.out.pc.countI _ _ M.length c2 A2 M HD.out.out HD.out.hh (by omega))
        have HSUMX := Lib.hid hsum
        clear hsum
        have k0d : wr.drew.cell? ⟨w1.heap.size, 0, none⟩ = some (.slice (some ⟨b3, off3, none⟩) nn cn) := HD.out.pc.k0
        have k1d : wr.drew.cell? ⟨w1.heap.size, 1, none⟩ = some (.slice Af lf cf) := HD.out.pc.k1
        go_wp2_with (fail)
        go_region_law (first
          | (go_simp; go_at_call 31; (with_reducible refine HCA.out.mono ?_); rw [HC1.out, HSUMX.out]; rintro e w8 ⟨rfl, hb8⟩; have HL8 := Lib.hid (HD.out.below hb8); have j0 := HL8.out.pc.k0; have j1 := HL8.out.pc.k1; clear hb8)
          | (go_simp; go_at_call 31; (with_reducible refine (HL8.out.pc.countI _ _ n1 c1 A1 ms HL8.out.tok HL8.out.mh (by omega)).mono ?_); rw [HC0.out]; rintro e w9 ⟨rfl, hb9⟩; have HB9 := Lib.hid (up HL8.out.bel hb9); clear hb9))
        all_goals
          clear HL8 k0 k1
          go_wp2
          go_ret
          exact ⟨rfl, HB9.out⟩
end Go.Proofs.Ytcckmabdflhfmaa
