/- The law FnTokenCountFire, walked: it returns true. (Written by gen/lawfire.py.) -/
import Derived.Test.YtcckmabdflhfmaaLawFireA
import Derived.Deep.RegionLaw
import Derived.Deep.RegionHeld3
import Derived.BigQuiet
namespace Go.Proofs.Ytcckmabdflhfmaa
open Go.RowKit

set_option maxRecDepth 100000 in
set_option maxHeartbeats 6400000 in
theorem lawTokenCountFire_any (n c : Nat) (A : Option Addr) (xs : List Int) (w : World) (hr : Rd w 0 w.heap.size 1 A n (bvs xs)) (hby : Bytes xs) (hc : n ≤ c) (hc2 : c ≤ 9223372036854775807) :
    Calls Try.prog 15 #[.slice A n c] w fun e w' => e = .returned (.bool true) ∧ Below w.heap.size w w' := by
  by_cases hbig : (1048576 : Int) < n
  · go_enter Try.func15, Try.ntmps15
    go_wp2
    go_ret
    exact ⟨rfl, Below.refl _ _⟩
  go_enter Try.func15, Try.ntmps15
  go_wp2_with (fail)
  (with_reducible refine (drawFireNode_any n c A xs w hr hby (by omega) hc hc2).mono ?_)
  clear hbig
  rintro e w1 ⟨An, nn, cn, Af, lf, cf, ns, fs, A1, n1, c1, ms, z, A3, n3, c3, vs, rfl, hn1, hz0, hz1, hn3, hP, hM, hV, hb1⟩
  have hn21 := hP.n21
  have hf21 := hP.f21
  have hba := up_alloc (Below.refl _ w1) (.cells #[.slice An nn cn, .slice Af lf cf] 33)
  have hmk := (hM.wide (Nat.zero_le _) (Nat.le_refl _)).keep hba (Nat.le_refl _)
  have hL := (show Lf w _ w1.heap.size An nn cn Af lf cf ns fs w1.heap.size A1 n1 ms w1.heap.size A3 n3 vs w1.heap.size A1 n1 ms from ⟨Pc.new (hP.wide (Nat.zero_le _) (Nat.le_refl _)), hmk, hba.size, (hV.wide (Nat.zero_le _) (Nat.le_refl _)).keep hba (Nat.le_refl _), hba.size, hmk, hba.size, up hb1 hba⟩)
  have HL := Lib.hid hL
  have HMN := Lib.hid hM.len1
  clear hP hM hV hb1 hba hL hmk
  obtain ⟨M, ok, HM, HOK, HF, hml⟩ : ∃ M ok, Hid ((fireOf ns fs ms z vs).getD [] = M) ∧ Hid ((fireOf ns fs ms z vs).isSome = ok) ∧ Hid (ok = true → ∃ k x y, Fired ns fs ms z vs M k x y) ∧ M.length ≤ 22 := by
    refine ⟨_, _, rfl, rfl, ?_, Nat.le_trans (fireOf_len ns fs ms z vs) (by rw [HMN.out]; exact hn1)⟩
    intro h
    cases hR : fireOf ns fs ms z vs with
    | none => rw [hR] at h; cases h
    | some M => exact fired hR
  go_wp2_with (fail)
  (with_reducible refine (HL.out.pc.fireI _ _ n1 c1 A1 ms z _ _ n3 c3 A3 vs HL.out.tok HL.out.mh (by omega) HL.out.va HL.out.vh (by omega)).mono ?_)
  rw [HM.out, HOK.out]
  rintro e w2 ⟨A2, c2, rfl, _, hr2, _, hb2⟩
  have HL2 := Lib.hid (show Lf w w2 w1.heap.size An nn cn Af lf cf ns fs w1.heap.size A1 n1 ms w1.heap.size A3 n3 vs w2.heap.size A2 M.length M from
    let h := HL.out.below hb2; ⟨h.pc, h.tok, h.mh, h.va, h.vh, hr2.wide (Nat.zero_le _) (Nat.le_refl _), Nat.le_refl _, h.bel⟩)
  have k0 := HL2.out.pc.k0
  have k1 := HL2.out.pc.k1
  clear hb2 hr2 HL
  go_wp2_with (fail)
  (with_reducible refine (HL2.out.pc.fireS _ _ n1 c1 A1 ms z _ _ n3 c3 A3 vs HL2.out.tok HL2.out.mh (by omega) HL2.out.va HL2.out.vh (by omega)).mono ?_)
  rw [HM.out, HOK.out]
  rintro e w3 ⟨A4, c4, rfl, _, hr4, _, hb3⟩
  have HL3 := Lib.hid (HL2.out.below hb3)
  have HR4 := Lib.hid (hr4.wide (Nat.zero_le _) (Nat.le_refl _))
  have HE := Lib.hid (equalInts_any _ _ _ c2 _ _ _ c4 A2 A4 M M w3 HL3.out.out HL3.out.hh (Nat.le_trans hml (by omega)) HR4.out (Nat.le_refl _) (Nat.le_trans hml (by omega)))
  clear hb3 HL2 hr4 k0 k1
  go_wp2_with (fail)
  (with_reducible refine HE.out.mono ?_)
  rintro e w4 ⟨rfl, hb4⟩
  rw [beq_self_eq_true]
  have HL4 := Lib.hid (HL3.out.below hb4)
  have HR5 := Lib.hid (HR4.out.keep hb4 (Nat.le_refl _))
  have HS4 := Lib.hid hb4.size
  clear hb4 HL3 HE HR4
  cases ok with
  | false =>
    have HE := Lib.hid (equalInts_any _ _ _ c2 _ _ _ c4 A2 A4 M M w4 HL4.out.out HL4.out.hh (Nat.le_trans hml (by omega)) HR5.out HS4.out (Nat.le_trans hml (by omega)))
    go_wp2_with (fail)
    (with_reducible refine HE.out.mono ?_)
    rintro e w5 ⟨rfl, hb5⟩
    rw [beq_self_eq_true]
    have HB5 := Lib.hid (up HL4.out.bel hb5)
    clear hb5 HL4 HE
    go_wp2
    go_ret
    exact ⟨rfl, HB5.out⟩
  | true =>
  obtain ⟨k, x, y, hfd⟩ := HF.out rfl
  have hzk := hfd.at'
  subst hzk
  have HFD := Lib.hid hfd
  have HNL := Lib.hid HL4.out.pc.nlen
  have hkn : k < nn := by have := hfd.lt; have := HNL.out; omega
  have hkn1 : (k : Int) < (nn : Int) := by omega
  have hkn0 : (0 : Int) ≤ (k : Int) := by omega
  have k0 := HL4.out.pc.k0
  have k1 := HL4.out.pc.k1
  clear hfd HF HR5 hz0 hz1
  have HC1 := Lib.hid HFD.out.count
  have HC0 := Lib.hid HFD.out.count0
  have hs1 := sum_nonneg fun z hz => (marks_range HFD.out.after z hz).1
  have hs0 := sum_nonneg fun z hz => (marks_range HFD.out.marks z hz).1
  have ht1 := sum_le fun z hz => (marks_range HFD.out.after z hz).2
  have ht0 := sum_le fun z hz => (marks_range HFD.out.marks z hz).2
  rw [HMN.out] at ht0
  obtain ⟨hd1, hd2⟩ := HFD.out.diff
  have HV := Lib.hid HFD.out.valid
  have hbl : ∀ b, (flOf fs b (k : Int)).length ≤ 1048576 := fun b => by
    have h1 := flUp_le fs b (k : Int) fs.length
    have h2 := HL4.out.pc.flen
    show (flUp fs b (k : Int) fs.length).length ≤ _
    omega
  have hb0' := hbl true
  have hb1' := hbl false
  clear hbl
  generalize hS1 : M.sum = s1 at *
  generalize hS0 : ms.sum = s0 at *
  clear hS1 hS0
  have hlt1 : w1.heap.size < w4.heap.size := HL4.out.pc.lt
  have HD := Lib.hid (HL4.out.drew)
  have HCA := Lib.hid (HD.out.pc.countI _ _ M.length c2 A2 M HD.out.out HD.out.hh (by omega))
  have hw1 : IntKind.i64.wrap (s1 - s0) = s1 - s0 := IntWalk.i64_in _ (by omega)
  have hw2 : IntKind.i64.wrap (-(s1 - s0)) = -(s1 - s0) := IntWalk.i64_in _ (by omega)
  have hd1' : decide (s1 - s0 < ((flOf fs true (k : Int)).length : Int)) = true := decide_eq_true hd1
  have hd2' : decide (-(s1 - s0) ≤ ((flOf fs false (k : Int)).length : Int)) = true := decide_eq_true hd2
  go_wp2
  go_region_held3 (fun w' => w'.cell? ⟨w1.heap.size, 0, none⟩ = some (.slice An nn cn) ∧ w'.cell? ⟨w1.heap.size, 1, none⟩ = some (.slice Af lf cf))
    (first
      | exact ⟨k0, k1⟩
      | exact ⟨(hb8.cell (by show w1.heap.size < w4.heap.size; omega)).trans k0, (hb8.cell (by show w1.heap.size < w4.heap.size; omega)).trans k1⟩
      | exact ⟨(hb9.cell (by show w1.heap.size < w8.heap.size; omega)).trans ((hb8.cell (by show w1.heap.size < w4.heap.size; omega)).trans k0), (hb9.cell (by show w1.heap.size < w8.heap.size; omega)).trans ((hb8.cell (by show w1.heap.size < w4.heap.size; omega)).trans k1)⟩)
    ((first
      | (go_at_call 31; (with_reducible refine HCA.out.mono ?_); rw [HC1.out]; rintro e w8 ⟨rfl, hb8⟩; have hs8 : w4.heap.size ≤ w8.heap.size := hb8.size; have HL8 := Lib.hid (HD.out.below hb8))
      | (go_at_call 31; (with_reducible refine (HL8.out.pc.countI _ _ n1 c1 A1 ms HL8.out.tok HL8.out.mh (by omega)).mono ?_); rw [HC0.out]; rintro e w9 ⟨rfl, hb9⟩)))
  all_goals
    have HL6 := Lib.hid (HL8.out.below hb9)
    clear hb8 hb9 HL8 k0 k1 HCA HD HL4
    have k0 := HL6.out.pc.k0
    have k1 := HL6.out.pc.k1
    go_wp2_with (fail)
    (with_reducible refine (HL6.out.pc.outI (k : Int) (by unfold in64; omega)).mono ?_)
    rw [flowsAt_yes HV.out]
    rintro e w7 ⟨A7, c7, rfl, _, _, _, hb7⟩
    have HL7 := Lib.hid (HL6.out.below hb7)
    clear hb7 HL6 k0 k1
    have k0 := HL7.out.pc.k0
    have k1 := HL7.out.pc.k1
    go_wp2_with (fail)
    (with_reducible refine (HL7.out.pc.inI (k : Int) (by unfold in64; omega)).mono ?_)
    rw [flowsAt_yes HV.out]
    rintro e w10 ⟨A8, c8, rfl, _, _, _, hb8⟩
    have HB8 := Lib.hid (up HL7.out.bel hb8)
    clear hb8 HL7 k0 k1
    go_wp2
    go_ret
    exact ⟨rfl, HB8.out⟩
end Go.Proofs.Ytcckmabdflhfmaa
