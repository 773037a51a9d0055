/- The law FnExactNetEffect, walked: it returns true. (Written by gen/exlist.py.) -/
import Derived.Test.YtogocinmlanikaaExStepM
import Derived.Test.YtogocinmlanikaaExInt
import Derived.Test.YtogocinmlanikaaExWithin
import Derived.Test.YtogocinmlanikaaSagaI
import Derived.Test.YtogocinmlanikaaSagaS
set_option linter.unusedSimpArgs false
set_option linter.unusedVariables false
namespace Go.Proofs.Ytogocinmlanikaa
open Go.RowKit

set_option maxRecDepth 100000 in
set_option maxHeartbeats 6400000 in
theorem exNetEffect_any (n0 c0 : Nat) (A0 : Option Addr) (m0 : List Int) (w : World) (hn0 : n0 ≤ 9223372036854775807) (hr0 : Rd w 0 w.heap.size 1 A0 n0 (ivs m0)) :
    Calls Try.prog 6 #[.slice A0 n0 c0] w fun e w' => e = .returned (.bool true) ∧ Below w.heap.size w w' := by
  by_cases hg0 : (1048576 : Int) < n0
  · go_enter Try.func6, Try.ntmps6
    go_wp2
    go_ret
    exact ⟨rfl, Below.refl _ _⟩
  have hm0 : n0 ≤ 1048576 := by omega
  have HL0 := Lib.hid hr0.len1
  have HA0 := Lib.hid hr0
  clear hr0
  have HB_0 := Lib.hid (Below.refl w.heap.size w)
  go_enter Try.func6, Try.ntmps6
  generalize hU0 : netOf m0 = u0
  have hne0 : (u0 != u0) = false := by simp
  have heq0 : (u0 == u0) = true := by simp
  have HU0 := Lib.hid hU0
  clear hU0
  go_wp2_with (fail)
  (with_reducible refine (toIntS_any 0 w.heap.size n0 c0 A0 m0 _ (HA0.out.keep HB_0.out (Nat.le_refl _)) HB_0.out.size hm0).mono ?_)
  rintro e w1 ⟨Asa0, csa0, rfl, _, hrt, hst, hbt⟩
  have hz_1 := hbt.size
  have HB_1 := Lib.hid (up HB_0.out hbt)
  clear HB_0
  have HVa0 := Lib.hid hrt
  have HWa0 := Lib.hid hst
  clear hrt hst hbt
  go_wp2_with (fail)
  (with_reducible refine (NetEffectS_any w.heap.size w1.heap.size n0 csa0 Asa0 m0 _ HVa0.out (by omega) hm0).mono ?_)
  rw [HU0.out]
  rintro e w2 ⟨rfl, hbt⟩
  have hz_2 := hbt.size
  have HB_2 := Lib.hid (up HB_1.out hbt)
  have HVa0_3 := Lib.hid (HVa0.out.keep hbt (by omega))
  have HWa0_4 := Lib.hid (HWa0.out.kept HVa0.out hbt (by omega))
  clear HB_1 HVa0 HWa0
  clear hbt
  clear HWa0_4
  clear HVa0_3
  go_wp2_with (fail)
  (with_reducible refine (toIntS_any 0 w.heap.size n0 c0 A0 m0 _ (HA0.out.keep HB_2.out (Nat.le_refl _)) HB_2.out.size hm0).mono ?_)
  rintro e w3 ⟨Asb0, csb0, rfl, _, hrt, hst, hbt⟩
  have hz_3 := hbt.size
  have HB_5 := Lib.hid (up HB_2.out hbt)
  clear HB_2
  have HVb0 := Lib.hid hrt
  have HWb0 := Lib.hid hst
  clear hrt hst hbt
  go_wp2_with (fail)
  (with_reducible refine (NetEffectI_any w2.heap.size w3.heap.size n0 csb0 Asb0 m0 _ HVb0.out (by omega) hm0).mono ?_)
  rw [HU0.out]
  rintro e w4 ⟨rfl, hbt⟩
  have hz_4 := hbt.size
  have HB_6 := Lib.hid (up HB_5.out hbt)
  have HVb0_7 := Lib.hid (HVb0.out.keep hbt (by omega))
  have HWb0_8 := Lib.hid (HWb0.out.kept HVb0.out hbt (by omega))
  clear HB_5 HVb0 HWb0
  clear hbt
  go_wp2_with (fail)
  (with_reducible refine (toIntS_any 0 w.heap.size n0 c0 A0 m0 _ (HA0.out.keep HB_6.out (Nat.le_refl _)) HB_6.out.size hm0).mono ?_)
  rintro e w5 ⟨Asc0, csc0, rfl, _, hrt, hst, hbt⟩
  have hz_5 := hbt.size
  have HB_9 := Lib.hid (up HB_6.out hbt)
  have HVb0_10 := Lib.hid (HVb0_7.out.keep hbt (by omega))
  have HWb0_11 := Lib.hid (HWb0_8.out.kept HVb0_7.out hbt (by omega))
  clear HB_6 HVb0_7 HWb0_8
  have HVc0 := Lib.hid hrt
  have HWc0 := Lib.hid hst
  clear hrt hst hbt
  go_wp2_with (fail)
  (with_reducible refine (eqIntS_any _ _ n0 csb0 _ _ n0 csc0 Asb0 Asc0 m0 m0 _ HVb0_10.out (by omega) hm0 HVc0.out (by omega) hm0).mono ?_)
  rintro e w6 ⟨rfl, hbt⟩
  rw [beq_self_eq_true]
  have hz_6 := hbt.size
  have HB_12 := Lib.hid (up HB_9.out hbt)
  have HVb0_13 := Lib.hid (HVb0_10.out.keep hbt (by omega))
  have HWb0_14 := Lib.hid (HWb0_11.out.kept HVb0_10.out hbt (by omega))
  have HVc0_15 := Lib.hid (HVc0.out.keep hbt (by omega))
  have HWc0_16 := Lib.hid (HWc0.out.kept HVc0.out hbt (by omega))
  clear HB_9 HVb0_10 HWb0_11 HVc0 HWc0
  clear hbt
  clear HWc0_16
  clear HVc0_15
  go_wp2
  go_ret
  exact ⟨rfl, HB_12.out⟩
end Go.Proofs.Ytogocinmlanikaa
