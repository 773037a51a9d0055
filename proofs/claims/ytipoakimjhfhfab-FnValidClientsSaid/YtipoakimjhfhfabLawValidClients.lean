/- The law FnValidClients, walked: it returns true. (Written by a program over gen/lawlib.py.) -/
import Derived.Test.YtipoakimjhfhfabDrawK2
import Derived.Test.YtipoakimjhfhfabClientI
import Derived.Test.YtipoakimjhfhfabClientF
import Derived.Test.YtipoakimjhfhfabMayE
import Derived.Test.YtipoakimjhfhfabEqLists
import Derived.Test.YtipoakimjhfhfabLawClientM
import Derived.BigQuiet
import Derived.Deep.RegionLaw
set_option linter.unusedSimpArgs false
set_option linter.unusedVariables false
namespace Go.Proofs.Ytipoakimjhfhfab
open Go.RowKit

set_option maxRecDepth 100000 in
set_option maxHeartbeats 6400000 in
theorem lawValidClients_any (n c : Nat) (A : Option Addr) (xs : List Int) (w : World) (hr : Rd w 0 w.heap.size 1 A n (bvs xs)) (hby : Bytes xs) (hc : n ≤ c) (hc2 : c ≤ 9223372036854775807) :
    Calls Try.prog 7 #[.slice A n c] w fun e w' => e = .returned (.bool true) ∧ Below w.heap.size w w' := by
  by_cases hbig : (1048576 : Int) < n
  · go_enter Try.func7, Try.ntmps7
    go_wp2
    go_ret
    exact ⟨rfl, Below.refl _ _⟩
  go_enter Try.func7, Try.ntmps7
  go_wp2_with (fail)
  (with_reducible refine (drawValidClients_any n c A xs w hr hby (by omega) hc hc2).mono ?_)
  rintro e w1 ⟨A1, m, c1, ps, rfl, hm, hk1, hsm, hrd, hb1⟩
  clear hbig hr
  have HB_0 := Lib.hid hb1
  have hz_1 := hb1.size
  clear hb1
  clear hsm
  have HPL := Lib.hid hrd.len4
  have HL_1 := Lib.hid (hrd.wide (Nat.zero_le _) (Nat.le_refl _))
  clear hrd
  obtain ⟨i0, hi0, hq0, hq1, hq2⟩ := info_parts infoClient
  cases hv : vCls ps with
  | false =>
    have HV := Lib.hid hv
    clear hv
    go_wp2_with (fail)
    (with_reducible refine (ValidClientsI_any 0 _ m c1 A1 ps _ HL_1.out (by omega) (by omega)).mono ?_)
    rintro e w2 ⟨rfl, hbt⟩
    rw [HV.out]
    have HL_2 := Lib.hid (HL_1.out.keep hbt (by omega))
    have HB_3 := Lib.hid (up HB_0.out hbt)
    have hz_2 := hbt.size
    clear HL_1 HB_0
    clear hbt
    go_wp2_with (fail)
    (with_reducible refine (ValidClientsS_any 0 _ m c1 A1 ps _ HL_2.out (by omega) (by omega)).mono ?_)
    rintro e w3 ⟨rfl, hbt⟩
    rw [HV.out]
    have HL_4 := Lib.hid (HL_2.out.keep hbt (by omega))
    have HB_5 := Lib.hid (up HB_3.out hbt)
    have hz_3 := hbt.size
    clear HL_2 HB_3
    clear hbt
    go_wp2_with (fail)
    (with_reducible refine (ValidClientsS_any 0 _ m c1 A1 ps _ HL_4.out (by omega) (by omega)).mono ?_)
    rintro e w4 ⟨rfl, hbt⟩
    rw [HV.out]
    have HL_6 := Lib.hid (HL_4.out.keep hbt (by omega))
    have HB_7 := Lib.hid (up HB_5.out hbt)
    have hz_4 := hbt.size
    clear HL_4 HB_5
    clear hbt
    go_wp2
    go_ret
    exact ⟨rfl, HB_7.out⟩
  | true =>
  have HV := Lib.hid hv
  clear hv
  go_wp2_with (fail)
  (with_reducible refine (ValidClientsI_any 0 _ m c1 A1 ps _ HL_1.out (by omega) (by omega)).mono ?_)
  rintro e w2 ⟨rfl, hbt⟩
  rw [HV.out]
  have HL_8 := Lib.hid (HL_1.out.keep hbt (by omega))
  have HB_9 := Lib.hid (up HB_0.out hbt)
  have hz_2 := hbt.size
  clear HL_1 HB_0
  clear hbt
  go_wp2_with (fail)
  (with_reducible refine (ValidClientsS_any 0 _ m c1 A1 ps _ HL_8.out (by omega) (by omega)).mono ?_)
  rintro e w3 ⟨rfl, hbt⟩
  rw [HV.out]
  have HL_10 := Lib.hid (HL_8.out.keep hbt (by omega))
  have HB_11 := Lib.hid (up HB_9.out hbt)
  have hz_3 := hbt.size
  clear HL_8 HB_9
  clear hbt
  by_cases hm0 : m = 0
  case pos =>
    subst hm0
    go_wp2_with (fail)
    (with_reducible refine (ValidClientsS_any 0 _ 0 c1 A1 ps _ HL_10.out (by omega) (by omega)).mono ?_)
    rintro e w4 ⟨rfl, hbt⟩
    rw [HV.out]
    have HL_12 := Lib.hid (HL_10.out.keep hbt (by omega))
    have HB_13 := Lib.hid (up HB_11.out hbt)
    have hz_4 := hbt.size
    clear HL_10 HB_11
    clear hbt
    go_wp2
    go_ret
    exact ⟨rfl, HB_13.out⟩
  have hmz : ((m : Int) == 0) = false := by rw [beq_eq_false_iff_ne]; omega
  have hmz2 : (m == 0) = false := by rw [beq_eq_false_iff_ne]; omega
  have hrem : 0 ≤ (n : Int).tmod (m : Int) ∧ (n : Int).tmod (m : Int) < (m : Int) := ⟨Int.tmod_nonneg _ (by omega), Int.tmod_lt_of_pos _ (by omega)⟩
  obtain ⟨k, hkr⟩ := Int.eq_ofNat_of_zero_le hrem.1
  have hkm : k < m := by have := hrem.2; omega
  clear hrem
  have HRK := Lib.hid HL_10.out
  obtain ⟨b, off, _, _, _, _, rfl, _, _, _, _, _, _, _⟩ := HL_10.out.quad hkm
  obtain ⟨AT, hAT, hRT⟩ := HRK.out.behind4 hkm hk1
  have HRT := Lib.hid hRT
  have HRC := Lib.hid (show Rd w3 0 _ 4 (some ⟨b, off, none⟩) k (qvs (ps.take k)) by have := HRK.out.cut (m := k) (by omega); rwa [qvs_take] at this)
  have hown0 : (w3.alloc (.cells #[] 45)).ownsRow w3.heap.size 45 4 (.slice (some ⟨w3.heap.size, 0, none⟩) 0 0) 0 [] := World.ownsRow_made w3 #[] 0 (Nat.le_refl _) (by unfold maxLen; omega) (by simp)
  have hb0 := up_drew (up_alloc (Below.refl _ w3) (.cells #[] 45))
  have HOW := Lib.hid (own_keep hown0 (up_drew (Below.refl _ _)))
  have HB0 := Lib.hid hb0
  have HRC0 := Lib.hid (HRC.out.keep hb0 (by omega))
  clear hown0 hb0 hRT HRC
  have h1 : (k : Int) + 1 ≤ (m : Int) := by omega
  have h01 : (0 : Int) ≤ (k : Int) + 1 := by omega
  have hk0 : (0 : Int) ≤ (k : Int) := by omega
  have hkc : (k : Int) ≤ (c1 : Int) := by omega
  have hnc : (m : Int) ≤ (c1 : Int) := by omega
  have hp2 : ((k : Int) + 1).toNat = k + 1 := by omega
  have hwr : IntKind.i64.wrap ((k : Int) + 1) = (k : Int) + 1 := IntWalk.i64_in _ (by omega)
  have HVC := Lib.hid (cls_cut HV.out k)
  have HCL := Lib.hid (show k + (m - (k + 1)) ≤ 20 by omega)
  go_wp2_with (fail)
  go_region_law (first
    | (refine step_append_rd _ rfl (.tmp 35) (.tmp 38) 38 rfl w3.heap.size 45 i0 _ 4 32 Try.underlying38 hi0 hq0 hq1 hq2 rfl (by decide) (.slice (some ⟨w3.heap.size, 0, none⟩) 0 0) 0 [] (by simp [Act.eval, Act.put]) HOW.out 0 _ (some ⟨b, off, none⟩) k c1 (qvs (ps.take k)) (by simp [Act.eval, Act.put]) HRC0.out (qvs_one _) (by unfold maxLen; omega) (by omega) (by simp) ?_; intro v2 x2 hown2 hg2 _; try simp only [Nat.zero_add, List.nil_append] at hown2; have HB2 := Lib.hid (up_grown HB0.out HOW.out hg2 (Nat.le_refl _)); have HO2 := Lib.hid hown2; have HRT2 := Lib.hid (HRT.out.keep HB2.out (by omega)); have hs2 := HB2.out.size; clear hown2 hg2)
    | (refine step_append_rd _ rfl (.tmp 39) (.tmp 43) 38 rfl w3.heap.size 45 i0 _ 4 32 Try.underlying38 hi0 hq0 hq1 hq2 rfl (by decide) v2 k (qvs (ps.take k)) (by simp [Act.eval, Act.put]) HO2.out 0 _ (some AT) (m - (k + 1)) (c1 - (k + 1)) (qvs (ps.drop (k + 1))) (by simp [Act.eval, Act.put]) HRT2.out (qvs_one _) (by unfold maxLen; omega) (by omega) (by omega) ?_; intro v3 x3 hown3 hg3 _; have HB3 := Lib.hid (up_grown HB2.out HO2.out hg3 (Nat.le_refl _)); have HO3 := Lib.hid hown3; clear hown3 hg3; obtain ⟨A3, c3, rfl, _, hr3, _⟩ := own_form HO3.out; have HR3 := Lib.hid (show Rd x3 w3.heap.size x3.heap.size 4 A3 (k + (m - (k + 1))) (qvs (ps.take k ++ ps.drop (k + 1))) by rw [qvs_append]; exact hr3); clear hr3)
    | (go_simp; go_at_call 28; (with_reducible refine (ValidClientsI_any _ _ (k + (m - (k + 1))) c3 A3 (ps.take k ++ ps.drop (k + 1)) x3 HR3.out (Nat.le_refl _) (by have := HCL.out; omega)).mono ?_); rintro e x4 ⟨rfl, hb4⟩; rw [HVC.out]; have HBF := Lib.hid (up HB_11.out (up HB3.out hb4)); clear hb4))
  go_wp2
  go_ret
  exact ⟨rfl, HBF.out⟩
end Go.Proofs.Ytipoakimjhfhfab
