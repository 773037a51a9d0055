/- The law FnCommitPointMore, walked: it returns true. (Written by a program over gen/lawlib.py.) -/
import Derived.Test.YtfpiejcfhdnjiaaDrawCm
import Derived.Test.YtfpiejcfhdnjiaaCommitI
import Derived.Test.YtfpiejcfhdnjiaaCommitS
import Derived.Test.YtfpiejcfhdnjiaaLawCommitM
import Derived.BigQuiet
set_option linter.unusedSimpArgs false
set_option linter.unusedVariables false
namespace Go.Proofs.Ytfpiejcfhdnjiaa
open Go.RowKit

set_option maxRecDepth 100000 in
set_option maxHeartbeats 6400000 in
theorem lawCommitPointMore_any (n c : Nat) (A : Option Addr) (xs : List Int) (w : World) (hr : Rd w 0 w.heap.size 1 A n (bvs xs)) (hby : Bytes xs) (hc : n ≤ c) (hc2 : c ≤ 9223372036854775807) :
    Calls Try.prog 4 #[.slice A n c] w fun e w' => e = .returned (.bool true) ∧ Below w.heap.size w w' := by
  by_cases hbig : (1048576 : Int) < n
  · go_enter Try.func4, Try.ntmps4
    go_wp2
    go_ret
    exact ⟨rfl, Below.refl _ _⟩
  go_enter Try.func4, Try.ntmps4
  go_wp2_with (fail)
  (with_reducible refine (drawCommitPoint_any n c A xs w hr hby (by omega) hc hc2).mono ?_)
  rintro e w1 ⟨A1, m, c1, ps, A2, m2, c3, has, t, rfl, hm, hk1, hrd, hm2, hk2, hrd2, ⟨ht0, ht1⟩, hsm, hb1⟩
  clear hbig hr hsm
  have HB_0 := Lib.hid hb1
  have hz_1 := hb1.size
  clear hb1
  have HPL := Lib.hid hrd.len2
  have HQL := Lib.hid hrd2.len1
  have ht64 : in64 t := by unfold in64; omega
  have HL_1 := Lib.hid (hrd.wide (Nat.zero_le _) (Nat.le_refl _))
  clear hrd
  have HC_2 := Lib.hid (hrd2.wide (Nat.zero_le _) (Nat.le_refl _))
  clear hrd2
  rcases commit_cases ps has t with hU | ⟨k, hU, hC⟩
  · have HU := Lib.hid hU
    clear hU
    go_wp2_with (fail)
    (with_reducible refine (CommitPointI_any 0 _ m c1 A1 ps 0 _ m2 c3 A2 has t _ HL_1.out (by omega) (by omega) (by omega) HC_2.out (by omega) (by omega) ht64).mono ?_)
    rintro e w2 ⟨rfl, hbt⟩
    rw [HU.out]
    have HL_3 := Lib.hid (HL_1.out.keep hbt (by omega))
    have HC_4 := Lib.hid (HC_2.out.keep hbt (by omega))
    have HB_5 := Lib.hid (up HB_0.out hbt)
    have hz_2 := hbt.size
    clear HL_1 HC_2 HB_0
    clear hbt
    go_wp2_with (fail)
    (with_reducible refine (CommitPointS_any 0 _ m c1 A1 ps 0 _ m2 c3 A2 has t _ HL_3.out (by omega) (by omega) HC_4.out (by omega) (by omega) ht64).mono ?_)
    rintro e w3 ⟨rfl, hbt⟩
    rw [HU.out]
    have HL_6 := Lib.hid (HL_3.out.keep hbt (by omega))
    have HC_7 := Lib.hid (HC_4.out.keep hbt (by omega))
    have HB_8 := Lib.hid (up HB_5.out hbt)
    have hz_3 := hbt.size
    clear HL_3 HC_4 HB_5
    clear hbt
    go_wp2_with (fail)
    (with_reducible refine (CommitPointS_any 0 _ m c1 A1 ps 0 _ m2 c3 A2 has t _ HL_6.out (by omega) (by omega) HC_7.out (by omega) (by omega) ht64).mono ?_)
    rintro e w4 ⟨rfl, hbt⟩
    rw [HU.out]
    have HL_9 := Lib.hid (HL_6.out.keep hbt (by omega))
    have HC_10 := Lib.hid (HC_7.out.keep hbt (by omega))
    have HB_11 := Lib.hid (up HB_8.out hbt)
    have hz_4 := hbt.size
    clear HL_6 HC_7 HB_8
    clear hbt
    go_wp2
    go_ret
    exact ⟨rfl, HB_11.out⟩
  have HU := Lib.hid hU
  have HC := Lib.hid hC
  have hkm : k ≤ m := by have := hC.le; have := HPL.out; omega
  obtain ⟨m20, m21⟩ := (vHas_iff.1 hC.has').1
  rw [HQL.out] at m20 m21
  have hm16 : m ≤ 16 := by have := vLog_len hC.log; have := HPL.out; omega
  clear hU hC
  have bkk : ((k : Int) != (k : Int)) = false := by simp
  have bk0 : decide ((k : Int) < 0) = false := decide_eq_false (by omega)
  have bm2 : (m2 == 0) = false := by rw [beq_eq_false_iff_ne]; omega
  have bm3 : ((m2 : Int) == 0) = false := by rw [beq_eq_false_iff_ne]; omega
  have bkm : decide ((m : Int) < (k : Int)) = false := decide_eq_false (by omega)
  have bkm2 : decide (m < k) = false := decide_eq_false (by omega)
  obtain ⟨i0, hi0, hz0, hz1, hz2⟩ := info_parts infoIntD
  go_wp2_with (fail)
  (with_reducible refine (CommitPointI_any 0 _ m c1 A1 ps 0 _ m2 c3 A2 has t _ HL_1.out (by omega) (by omega) (by omega) HC_2.out (by omega) (by omega) ht64).mono ?_)
  rintro e w2 ⟨rfl, hbt⟩
  rw [HU.out]
  have HL_12 := Lib.hid (HL_1.out.keep hbt (by omega))
  have HC_13 := Lib.hid (HC_2.out.keep hbt (by omega))
  have HB_14 := Lib.hid (up HB_0.out hbt)
  have hz_2 := hbt.size
  clear HL_1 HC_2 HB_0
  clear hbt
  go_wp2_with (fail)
  (with_reducible refine (CommitPointS_any 0 _ m c1 A1 ps 0 _ m2 c3 A2 has t _ HL_12.out (by omega) (by omega) HC_13.out (by omega) (by omega) ht64).mono ?_)
  rintro e w3 ⟨rfl, hbt⟩
  rw [HU.out]
  have HL_15 := Lib.hid (HL_12.out.keep hbt (by omega))
  have HC_16 := Lib.hid (HC_13.out.keep hbt (by omega))
  have HB_17 := Lib.hid (up HB_14.out hbt)
  have hz_3 := hbt.size
  clear HL_12 HC_13 HB_14
  clear hbt
  obtain ⟨j, hj⟩ : ∃ j : Nat, j = n % m2 := ⟨_, rfl⟩
  have hjm : j < m2 := hj ▸ Nat.mod_lt n (by omega)
  have hrem : ((n : Int)).tmod (m2 : Int) = (j : Int) := by rw [hj, Int.tmod_eq_emod_of_nonneg (by omega)]; omega
  have hq0 : (0 : Int) ≤ (j : Int) := by omega
  have hq1 : (j : Int) < (m2 : Int) := by omega
  have hm20 : ¬ ((m2 : Int) = 0) := by omega
  clear hj
  have hownN : (w3.alloc (.cells #[] 3)).ownsRow w3.heap.size 3 1 (.slice (some ⟨w3.heap.size, 0, none⟩) 0 0) 0 [] := World.ownsRow_made w3 #[] 0 (Nat.le_refl _) (by unfold maxLen; omega) (by simp)
  have hbm := up_alloc (Below.refl _ w3) (.cells #[] 3)
  have hrm := HC_16.out.keep hbm (by omega)
  obtain ⟨b, off, hA, _, hbhi⟩ := hrm.form (by omega)
  subst hA
  go_wp2_with (at_builtin; refine wpList_append_own _ rfl (.tmp 43) (.tmp 44) 24 rfl w3.heap.size 3 i0 (.int .i64 0) 1 8 Try.underlying24 hi0 hz0 hz1 hz2 rfl (by decide) _ _ _ rfl hownN ⟨b, off, none⟩ m2 c3 (ivs has) rfl hrm.1 hrm.src (ivs_one has) ?d3 ?d4 ?d5 ?_)
  case d3 => unfold maxLen; omega
  case d4 => omega
  case d5 => simp
  intro va wa howna hga _
  have hba := up_grown hbm hownN hga (Nat.le_refl _)
  try simp only [Nat.zero_add, List.nil_append] at howna
  clear hownN hga hrm hbm
  obtain ⟨g, ca, rfl, hg1, hg2, hgc⟩ := own_first howna (by omega)
  have hd0 := howna.cellAt j (by omega)
  obtain ⟨z0, e0⟩ : ∃ z, has[j]? = some z := ⟨_, List.getElem?_eq_getElem (by rw [HQL.out]; exact hjm)⟩
  have e1 : (ivs has)[j]? = some (.int .i64 z0) := by simp [ivs, e0]
  rw [e1] at hd0
  have hzr := (vHas_iff.1 HC.out.has').2 z0 (List.mem_of_getElem? e0)
  obtain ⟨k2, hk2', hk3⟩ := HC.out.more e0
  have HU2 := Lib.hid hk2'
  clear hk2' e0 e1
  have hf0 := howna.frozenAt j
  have hst := (howna.stored j (.int .i64 (min (z0 + 1) 16))).1
  rw [show (ivs has).set j (.int .i64 (min (z0 + 1) 16)) = ivs (has.set j (min (z0 + 1) 16)) by simp [ivs, List.map_set]] at hst
  have hbt := hba.setCell (p := ⟨g, j, none⟩) (by show _ ≤ g; omega) (.int .i64 (min (z0 + 1) 16))
  have hrw := Rd.of_own hst
  have hwz : IntKind.i64.wrap (z0 + 1) = z0 + 1 := IntWalk.i64_in _ (by omega)
  clear hst howna hba
  go_wp2_with (fail)
  generalize hws : wa.setCell _ _ = w4 at *
  clear hws
  have HN_18 := Lib.hid (hrw.wide (Nat.zero_le _) (Nat.le_refl _))
  clear hrw
  have HL_19 := Lib.hid (HL_15.out.keep hbt (by omega))
  have HC_20 := Lib.hid (HC_16.out.keep hbt (by omega))
  have HB_21 := Lib.hid (up HB_17.out hbt)
  have hz_4 := hbt.size
  clear HL_15 HC_16 HB_17
  clear hbt
  (with_reducible refine (CommitPointI_any 0 _ m c1 A1 ps 0 _ m2 ca (some ⟨g, 0, none⟩) (has.set j (min (z0 + 1) 16)) t _ HL_19.out (by omega) (by omega) (by omega) HN_18.out (by omega) (by omega) ht64).mono ?_)
  rintro e w5 ⟨rfl, hbt⟩
  rw [HU2.out]
  have HL_22 := Lib.hid (HL_19.out.keep hbt (by omega))
  have HC_23 := Lib.hid (HC_20.out.keep hbt (by omega))
  have HN_24 := Lib.hid (HN_18.out.keep hbt (by omega))
  have HB_25 := Lib.hid (up HB_21.out hbt)
  have hz_5 := hbt.size
  clear HL_19 HC_20 HN_18 HB_21
  clear hbt
  have dk : decide ((k : Int) ≤ (k2 : Int)) = true := decide_eq_true (by omega)
  have dk2 : decide (k ≤ k2) = true := decide_eq_true (by omega)
  go_wp2
  go_ret
  exact ⟨rfl, HB_25.out⟩
end Go.Proofs.Ytfpiejcfhdnjiaa
