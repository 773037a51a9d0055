/- The law FnTokenCount, walked: it returns true. -/
import Derived.Test.YtcckmabdflhfmaaLawTokM
import Derived.Deep.RegionLaw
namespace Go.Proofs.Ytcckmabdflhfmaa
open Go.RowKit

set_option maxRecDepth 100000 in
set_option maxHeartbeats 3200000 in
theorem lawTokenCount_any (n c : Nat) (A : Option Addr) (xs : List Int) (w : World) (hr : Rd w 0 w.heap.size 1 A n (bvs xs)) (hby : Bytes xs) (hc : n ≤ c) (hc2 : c ≤ 9223372036854775807) :
    Calls Try.prog 14 #[.slice A n c] w fun e w' => e = .returned (.bool true) ∧ Below w.heap.size w w' := by
  by_cases hbig : (1048576 : Int) < n
  · go_enter Try.func14, Try.ntmps14
    go_wp2
    go_ret
    exact ⟨rfl, Below.refl _ _⟩
  go_enter Try.func14, Try.ntmps14
  go_wp2_with (fail)
  (with_reducible refine (drawTokenCount_any n c A xs w hr hby (by omega) hc hc2).mono ?_)
  clear hbig
  rintro e w1 ⟨An, nn, cn, Af, lf, cf, ns, fs, A1, n1, c1, ms, rfl, hn1, hP, hM, hb1⟩
  have hba := up_alloc (Below.refl _ w1) (.cells #[.slice An nn cn, .slice Af lf cf] 33)
  have hL := (show Lm w _ w1.heap.size An nn cn Af lf cf ns fs w1.heap.size A1 n1 ms w1.heap.size A1 n1 ms from ⟨Pc.new (hP.wide (Nat.zero_le _) (Nat.le_refl _)), (hM.wide (Nat.zero_le _) (Nat.le_refl _)).keep hba (Nat.le_refl _), hba.size, (hM.wide (Nat.zero_le _) (Nat.le_refl _)).keep hba (Nat.le_refl _), hba.size, up hb1 hba⟩)
  have HL := Lib.hid hL
  clear hP hM hb1 hba hL
  cases hv : vProc ns fs && vMarks fs ms with
  | false =>
    have HC := Lib.hid (count_no hv)
    clear hv
    go_wp2_with (fail)
    (with_reducible refine (HL.out.pc.countI _ _ n1 c1 A1 ms HL.out.tok HL.out.mh (by omega)).mono ?_)
    rintro e w2 ⟨rfl, hb2⟩
    rw [HC.out]
    have HL2 := Lib.hid (HL.out.below hb2)
    have k0 := HL2.out.pc.k0
    have k1 := HL2.out.pc.k1
    clear hb2 HL
    go_wp2_with (fail)
    (with_reducible refine (HL2.out.pc.countS _ _ n1 c1 A1 ms HL2.out.tok HL2.out.mh (by omega)).mono ?_)
    rintro e w3 ⟨rfl, hb3⟩
    rw [HC.out]
    have HL3 := Lib.hid (HL2.out.below hb3)
    clear hb3 HL2 k0 k1
    have k0 := HL3.out.pc.k0
    have k1 := HL3.out.pc.k1
    go_wp2_with (fail)
    (with_reducible refine (HL3.out.pc.countS _ _ n1 c1 A1 ms HL3.out.tok HL3.out.mh (by omega)).mono ?_)
    rintro e w4 ⟨rfl, hb4⟩
    rw [HC.out]
    have HB4 := Lib.hid (up HL3.out.bel hb4)
    clear hb4 HL3 k0 k1
    go_wp2
    go_ret
    exact ⟨rfl, HB4.out⟩
  | true =>
  have HC := Lib.hid (count_yes hv)
  have hv2 := hv
  rw [Bool.and_eq_true] at hv2
  have HR := Lib.hid (marks_range hv2.2)
  have HR9 := Lib.hid (show ∀ z ∈ ms, 0 ≤ z ∧ z ≤ 1000 from fun z hz => by have := HR.out z hz; omega)
  have hs0 := sum_nonneg fun z hz => (HR.out z hz).1
  have HZ := Lib.hid (show ms.sum = 0 → readyOf ns fs ms = [] from fun h => ready_none (sum_zero (fun z hz => (HR.out z hz).1) h))
  clear hv hv2
  generalize hS : ms.sum = s at HC hs0 HZ
  have HS := Lib.hid hS
  clear hS
  have hne : (s != s) = false := by simp
  have hss : (s == s) = true := by simp
  have hlt : decide (s < 0) = false := decide_eq_false (by omega)
  go_wp2_with (fail)
  (with_reducible refine (HL.out.pc.countI _ _ n1 c1 A1 ms HL.out.tok HL.out.mh (by omega)).mono ?_)
  rintro e w2 ⟨rfl, hb2⟩
  rw [HC.out]
  have HL2 := Lib.hid (HL.out.below hb2)
  have k0 := HL2.out.pc.k0
  have k1 := HL2.out.pc.k1
  clear hb2 HL
  go_wp2_with (fail)
  (with_reducible refine (HL2.out.pc.countS _ _ n1 c1 A1 ms HL2.out.tok HL2.out.mh (by omega)).mono ?_)
  rintro e w3 ⟨rfl, hb3⟩
  rw [HC.out]
  have HL3 := Lib.hid (HL2.out.below hb3)
  clear hb3 HL2 k0 k1
  have k0 := HL3.out.pc.k0
  have k1 := HL3.out.pc.k1
  have HSU := Lib.hid (sum_any _ _ n1 c1 A1 ms _ HL3.out.tok (by omega) HR9.out)
  go_wp2_with (fail)
  (with_reducible refine HSU.out.mono ?_)
  rintro e w4 ⟨rfl, rfl⟩
  rw [HS.out]
  clear HSU
  by_cases hp : 0 < s
  · have hp' : decide (0 < s) = true := decide_eq_true hp
    have HB4 := Lib.hid HL3.out.bel
    clear HL3 k0 k1
    go_wp2
    go_ret
    exact ⟨rfl, HB4.out⟩
  · have hp' : decide (0 < s) = false := decide_eq_false hp
    have HZ0 := Lib.hid (HZ.out (by omega))
    go_wp2_with (fail)
    (with_reducible refine (HL3.out.pc.readyI _ _ n1 c1 A1 ms HL3.out.tok HL3.out.mh (by omega)).mono ?_)
    rw [HZ0.out]
    rintro e w5 ⟨A5, c5, rfl, _, _, _, hb5⟩
    have HB5 := Lib.hid (up HL3.out.bel hb5)
    clear hb5 HL3 k0 k1
    go_wp2
    go_ret
    exact ⟨rfl, HB5.out⟩
end Go.Proofs.Ytcckmabdflhfmaa
