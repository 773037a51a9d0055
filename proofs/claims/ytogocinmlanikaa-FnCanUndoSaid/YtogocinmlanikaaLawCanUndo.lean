/- The law FnCanUndo, walked: it returns true. (Written by a program over gen/lawlib.py.) -/
import Derived.Test.YtogocinmlanikaaDrawSt2
import Derived.Test.YtogocinmlanikaaSagaD
import Derived.Test.YtogocinmlanikaaSagaS
import Derived.Test.YtogocinmlanikaaLawLists
import Derived.Test.YtogocinmlanikaaLawSagaM
import Derived.BigQuiet
import Derived.Deep.RegionLaw
import Derived.Deep.RegionHeld3
set_option linter.unusedSimpArgs false
set_option linter.unusedVariables false
namespace Go.Proofs.Ytogocinmlanikaa
open Go.RowKit

set_option maxRecDepth 100000 in
set_option maxHeartbeats 6400000 in
theorem lawCanUndo_any (n c : Nat) (A : Option Addr) (xs : List Int) (w : World) (hr : Rd w 0 w.heap.size 1 A n (bvs xs)) (hby : Bytes xs) (hc : n ≤ c) (hc2 : c ≤ 9223372036854775807) :
    Calls Try.prog 3 #[.slice A n c] w fun e w' => e = .returned (.bool true) ∧ Below w.heap.size w w' := by
  by_cases hbig : (1048576 : Int) < n
  · go_enter Try.func3, Try.ntmps3
    go_wp2
    go_ret
    exact ⟨rfl, Below.refl _ _⟩
  go_enter Try.func3, Try.ntmps3
  go_wp2_with (fail)
  (with_reducible refine (drawCanUndo_any n c A xs w hr hby (by omega) hc hc2).mono ?_)
  rintro e w1 ⟨A1, m, c1, ps, rfl, hm, hc1, hcc, hsm, hrd, hb1⟩
  clear hbig hr
  have HB_0 := Lib.hid hb1
  have hz_1 := hb1.size
  clear hb1
  have HSM := Lib.hid hsm
  clear hsm
  have HPL := Lib.hid hrd.len2
  have HL_1 := Lib.hid (hrd.wide (Nat.zero_le _) (Nat.le_refl _))
  clear hrd
  by_cases h10 : m ≤ 10
  case neg =>
    generalize hU : undoOf ps = o
    have HU := Lib.hid hU
    clear hU
    have hoo : (o != o) = false := by simp
    have hoe : (o == o) = true := by simp
    go_wp2_with (fail)
    (with_reducible refine (CanUndoI_any 0 _ m c1 A1 ps _ HL_1.out (by omega) (by omega)).mono ?_)
    rintro e w2 ⟨rfl, hbt⟩
    rw [HU.out]
    have HL_2 := Lib.hid (HL_1.out.keep hbt (by omega))
    have HB_3 := Lib.hid (up HB_0.out hbt)
    have hz_2 := hbt.size
    clear HL_1 HB_0
    clear hbt
    go_wp2_with (fail)
    (with_reducible refine (CanUndoS_any 0 _ m c1 A1 ps _ HL_2.out (by omega) (by omega)).mono ?_)
    rintro e w3 ⟨rfl, hbt⟩
    rw [HU.out]
    have HL_4 := Lib.hid (HL_2.out.keep hbt (by omega))
    have HB_5 := Lib.hid (up HB_3.out hbt)
    have hz_3 := hbt.size
    clear HL_2 HB_3
    clear hbt
    go_wp2_with (fail)
    (with_reducible refine (CanUndoS_any 0 _ m c1 A1 ps _ HL_4.out (by omega) (by omega)).mono ?_)
    rintro e w4 ⟨rfl, hbt⟩
    rw [HU.out]
    have HL_6 := Lib.hid (HL_4.out.keep hbt (by omega))
    have HB_7 := Lib.hid (up HB_5.out hbt)
    have hz_4 := hbt.size
    clear HL_4 HB_5
    clear hbt
    go_wp2
    go_ret
    exact ⟨rfl, HB_7.out⟩
  obtain ⟨a, ha, ha1, HQH⟩ := half_factsZ m (by omega)
  clear ha
  obtain ⟨o1, hU1⟩ : ∃ o, undoOf (ps.take a) = o := ⟨_, rfl⟩
  obtain ⟨o2, hU2⟩ : ∃ o, undoOf (ps.drop a) = o := ⟨_, rfl⟩
  have HU := Lib.hid (show undoOf ps = (o1 && o2) by rw [undo_halves (ps := ps) (by rw [HPL.out]; omega) a, hU1, hU2])
  have HU1 := Lib.hid hU1
  have HU2 := Lib.hid hU2
  clear hU1 hU2
  have haz : (0 : Int) ≤ (a : Int) := by omega
  have ham : (a : Int) ≤ (m : Int) := by omega
  have hac : (a : Int) ≤ (c1 : Int) := by omega
  have hmc : (m : Int) ≤ (c1 : Int) := by omega
  have HQ1 := Lib.hid (HL_1.out.headP (k := a) ha1)
  have HQ2 := Lib.hid (HL_1.out.tailP (k := a) ha1 hc1)
  obtain ⟨AT, hAT⟩ : ∃ AT : Option Addr, (if c1 = a then A1 else A1.map fun x => x.add (a * 2)) = AT := ⟨_, rfl⟩
  rw [hAT] at HQ2
  have HAT := Lib.hid hAT
  clear hAT
  cases o1 <;> cases o2
  ·
    go_wp2_with (fail)
    (with_reducible refine (CanUndoI_any 0 _ m c1 A1 ps _ HL_1.out (by omega) (by omega)).mono ?_)
    rintro e w2 ⟨rfl, hbt⟩
    rw [HU.out]
    have HL_8 := Lib.hid (HL_1.out.keep hbt (by omega))
    have HH1_9 := Lib.hid (HQ1.out.keep hbt (by omega))
    have HH2_10 := Lib.hid (HQ2.out.keep hbt (by omega))
    have HB_11 := Lib.hid (up HB_0.out hbt)
    have hz_2 := hbt.size
    clear HL_1 HQ1 HQ2 HB_0
    clear hbt
    go_wp2_with (fail)
    (with_reducible refine (CanUndoS_any 0 _ m c1 A1 ps _ HL_8.out (by omega) (by omega)).mono ?_)
    rintro e w3 ⟨rfl, hbt⟩
    rw [HU.out]
    have HL_12 := Lib.hid (HL_8.out.keep hbt (by omega))
    have HH1_13 := Lib.hid (HH1_9.out.keep hbt (by omega))
    have HH2_14 := Lib.hid (HH2_10.out.keep hbt (by omega))
    have HB_15 := Lib.hid (up HB_11.out hbt)
    have hz_3 := hbt.size
    clear HL_8 HH1_9 HH2_10 HB_11
    clear hbt
    have hq1 := HQH.out.1
    have hq2 := HQH.out.2.1
    go_wp2_with (fail)
    clear hq1 hq2
    (with_reducible refine (CanUndoI_any 0 _ a c1 A1 (ps.take a) _ HH1_13.out (by omega) (by omega)).mono ?_)
    rintro e w4 ⟨rfl, hbt⟩
    rw [HU1.out]
    have HL_16 := Lib.hid (HL_12.out.keep hbt (by omega))
    have HH1_17 := Lib.hid (HH1_13.out.keep hbt (by omega))
    have HH2_18 := Lib.hid (HH2_14.out.keep hbt (by omega))
    have HB_19 := Lib.hid (up HB_15.out hbt)
    have hz_4 := hbt.size
    clear HL_12 HH1_13 HH2_14 HB_15
    clear hbt
    go_wp2
    go_ret
    exact ⟨rfl, HB_19.out⟩
  ·
    go_wp2_with (fail)
    (with_reducible refine (CanUndoI_any 0 _ m c1 A1 ps _ HL_1.out (by omega) (by omega)).mono ?_)
    rintro e w2 ⟨rfl, hbt⟩
    rw [HU.out]
    have HL_20 := Lib.hid (HL_1.out.keep hbt (by omega))
    have HH1_21 := Lib.hid (HQ1.out.keep hbt (by omega))
    have HH2_22 := Lib.hid (HQ2.out.keep hbt (by omega))
    have HB_23 := Lib.hid (up HB_0.out hbt)
    have hz_2 := hbt.size
    clear HL_1 HQ1 HQ2 HB_0
    clear hbt
    go_wp2_with (fail)
    (with_reducible refine (CanUndoS_any 0 _ m c1 A1 ps _ HL_20.out (by omega) (by omega)).mono ?_)
    rintro e w3 ⟨rfl, hbt⟩
    rw [HU.out]
    have HL_24 := Lib.hid (HL_20.out.keep hbt (by omega))
    have HH1_25 := Lib.hid (HH1_21.out.keep hbt (by omega))
    have HH2_26 := Lib.hid (HH2_22.out.keep hbt (by omega))
    have HB_27 := Lib.hid (up HB_23.out hbt)
    have hz_3 := hbt.size
    clear HL_20 HH1_21 HH2_22 HB_23
    clear hbt
    have hq1 := HQH.out.1
    have hq2 := HQH.out.2.1
    go_wp2_with (fail)
    clear hq1 hq2
    (with_reducible refine (CanUndoI_any 0 _ a c1 A1 (ps.take a) _ HH1_25.out (by omega) (by omega)).mono ?_)
    rintro e w4 ⟨rfl, hbt⟩
    rw [HU1.out]
    have HL_28 := Lib.hid (HL_24.out.keep hbt (by omega))
    have HH1_29 := Lib.hid (HH1_25.out.keep hbt (by omega))
    have HH2_30 := Lib.hid (HH2_26.out.keep hbt (by omega))
    have HB_31 := Lib.hid (up HB_27.out hbt)
    have hz_4 := hbt.size
    clear HL_24 HH1_25 HH2_26 HB_27
    clear hbt
    go_wp2
    go_ret
    exact ⟨rfl, HB_31.out⟩
  ·
    go_wp2_with (fail)
    (with_reducible refine (CanUndoI_any 0 _ m c1 A1 ps _ HL_1.out (by omega) (by omega)).mono ?_)
    rintro e w2 ⟨rfl, hbt⟩
    rw [HU.out]
    have HL_32 := Lib.hid (HL_1.out.keep hbt (by omega))
    have HH1_33 := Lib.hid (HQ1.out.keep hbt (by omega))
    have HH2_34 := Lib.hid (HQ2.out.keep hbt (by omega))
    have HB_35 := Lib.hid (up HB_0.out hbt)
    have hz_2 := hbt.size
    clear HL_1 HQ1 HQ2 HB_0
    clear hbt
    go_wp2_with (fail)
    (with_reducible refine (CanUndoS_any 0 _ m c1 A1 ps _ HL_32.out (by omega) (by omega)).mono ?_)
    rintro e w3 ⟨rfl, hbt⟩
    rw [HU.out]
    have HL_36 := Lib.hid (HL_32.out.keep hbt (by omega))
    have HH1_37 := Lib.hid (HH1_33.out.keep hbt (by omega))
    have HH2_38 := Lib.hid (HH2_34.out.keep hbt (by omega))
    have HB_39 := Lib.hid (up HB_35.out hbt)
    have hz_3 := hbt.size
    clear HL_32 HH1_33 HH2_34 HB_35
    clear hbt
    have hq1 := HQH.out.1
    have hq2 := HQH.out.2.1
    go_wp2_with (fail)
    clear hq1 hq2
    (with_reducible refine (CanUndoI_any 0 _ a c1 A1 (ps.take a) _ HH1_37.out (by omega) (by omega)).mono ?_)
    rintro e w4 ⟨rfl, hbt⟩
    rw [HU1.out]
    have HL_40 := Lib.hid (HL_36.out.keep hbt (by omega))
    have HH1_41 := Lib.hid (HH1_37.out.keep hbt (by omega))
    have HH2_42 := Lib.hid (HH2_38.out.keep hbt (by omega))
    have HB_43 := Lib.hid (up HB_39.out hbt)
    have hz_4 := hbt.size
    clear HL_36 HH1_37 HH2_38 HB_39
    clear hbt
    have hq1 := HQH.out.1
    have hq2 := HQH.out.2.1
    have hAT := HAT.out
    go_wp2_with (fail)
    clear hq1 hq2
    clear hAT
    (with_reducible refine (CanUndoI_any 0 _ (m - a) (c1 - a) AT (ps.drop a) _ HH2_42.out (by omega) (by omega)).mono ?_)
    rintro e w5 ⟨rfl, hbt⟩
    rw [HU2.out]
    have HL_44 := Lib.hid (HL_40.out.keep hbt (by omega))
    have HH1_45 := Lib.hid (HH1_41.out.keep hbt (by omega))
    have HH2_46 := Lib.hid (HH2_42.out.keep hbt (by omega))
    have HB_47 := Lib.hid (up HB_43.out hbt)
    have hz_5 := hbt.size
    clear HL_40 HH1_41 HH2_42 HB_43
    clear hbt
    go_wp2
    go_ret
    exact ⟨rfl, HB_47.out⟩
  ·
    go_wp2_with (fail)
    (with_reducible refine (CanUndoI_any 0 _ m c1 A1 ps _ HL_1.out (by omega) (by omega)).mono ?_)
    rintro e w2 ⟨rfl, hbt⟩
    rw [HU.out]
    have HL_48 := Lib.hid (HL_1.out.keep hbt (by omega))
    have HH1_49 := Lib.hid (HQ1.out.keep hbt (by omega))
    have HH2_50 := Lib.hid (HQ2.out.keep hbt (by omega))
    have HB_51 := Lib.hid (up HB_0.out hbt)
    have hz_2 := hbt.size
    clear HL_1 HQ1 HQ2 HB_0
    clear hbt
    go_wp2_with (fail)
    (with_reducible refine (CanUndoS_any 0 _ m c1 A1 ps _ HL_48.out (by omega) (by omega)).mono ?_)
    rintro e w3 ⟨rfl, hbt⟩
    rw [HU.out]
    have HL_52 := Lib.hid (HL_48.out.keep hbt (by omega))
    have HH1_53 := Lib.hid (HH1_49.out.keep hbt (by omega))
    have HH2_54 := Lib.hid (HH2_50.out.keep hbt (by omega))
    have HB_55 := Lib.hid (up HB_51.out hbt)
    have hz_3 := hbt.size
    clear HL_48 HH1_49 HH2_50 HB_51
    clear hbt
    have hq1 := HQH.out.1
    have hq2 := HQH.out.2.1
    go_wp2_with (fail)
    clear hq1 hq2
    (with_reducible refine (CanUndoI_any 0 _ a c1 A1 (ps.take a) _ HH1_53.out (by omega) (by omega)).mono ?_)
    rintro e w4 ⟨rfl, hbt⟩
    rw [HU1.out]
    have HL_56 := Lib.hid (HL_52.out.keep hbt (by omega))
    have HH1_57 := Lib.hid (HH1_53.out.keep hbt (by omega))
    have HH2_58 := Lib.hid (HH2_54.out.keep hbt (by omega))
    have HB_59 := Lib.hid (up HB_55.out hbt)
    have hz_4 := hbt.size
    clear HL_52 HH1_53 HH2_54 HB_55
    clear hbt
    have hq1 := HQH.out.1
    have hq2 := HQH.out.2.1
    have hAT := HAT.out
    go_wp2_with (fail)
    clear hq1 hq2
    clear hAT
    (with_reducible refine (CanUndoI_any 0 _ (m - a) (c1 - a) AT (ps.drop a) _ HH2_58.out (by omega) (by omega)).mono ?_)
    rintro e w5 ⟨rfl, hbt⟩
    rw [HU2.out]
    have HL_60 := Lib.hid (HL_56.out.keep hbt (by omega))
    have HH1_61 := Lib.hid (HH1_57.out.keep hbt (by omega))
    have HH2_62 := Lib.hid (HH2_58.out.keep hbt (by omega))
    have HB_63 := Lib.hid (up HB_59.out hbt)
    have hz_5 := hbt.size
    clear HL_56 HH1_57 HH2_58 HB_59
    clear hbt
    go_wp2
    go_ret
    exact ⟨rfl, HB_63.out⟩
end Go.Proofs.Ytogocinmlanikaa
