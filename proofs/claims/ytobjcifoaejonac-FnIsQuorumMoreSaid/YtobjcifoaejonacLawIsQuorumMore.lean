/- The law FnIsQuorumMore, walked: it returns true. (Written by a program over gen/lawlib.py.) -/
import Derived.Test.YtobjcifoaejonacDrawG
import Derived.Test.YtobjcifoaejonacVoteI
import Derived.Test.YtobjcifoaejonacVoteS
import Derived.Test.YtobjcifoaejonacLawLists
import Derived.Test.YtobjcifoaejonacLawVoteM
import Derived.BigQuiet
import Derived.Deep.RegionLaw
set_option linter.unusedSimpArgs false
set_option linter.unusedVariables false
namespace Go.Proofs.Ytobjcifoaejonac
open Go.RowKit

set_option maxRecDepth 100000 in
set_option maxHeartbeats 6400000 in
theorem lawIsQuorumMore_any (n c : Nat) (A : Option Addr) (xs : List Int) (w : World) (hr : Rd w 0 w.heap.size 1 A n (bvs xs)) (hby : Bytes xs) (hc : n ≤ c) (hc2 : c ≤ 9223372036854775807) :
    Calls Try.prog 12 #[.slice A n c] w fun e w' => e = .returned (.bool true) ∧ Below w.heap.size w w' := by
  by_cases hbig : (1048576 : Int) < n
  · go_enter Try.func12, Try.ntmps12
    go_wp2
    go_ret
    exact ⟨rfl, Below.refl _ _⟩
  go_enter Try.func12, Try.ntmps12
  go_wp2_with (fail)
  (with_reducible refine (drawIsQuorum_any n c A xs w hr hby (by omega) hc hc2).mono ?_)
  rintro e w1 ⟨A1, m, c1, ga, A2, m2, c2, gb, rfl, hm, hc1, hrd, hm2, hc2', hrd2, hb1⟩
  clear hbig hr
  have HB_0 := Lib.hid hb1
  have hz_1 := hb1.size
  clear hb1
  have HPL := Lib.hid hrd.len1
  have HQL := Lib.hid hrd2.len1
  have HL_1 := Lib.hid (hrd.wide (Nat.zero_le _) (Nat.le_refl _))
  clear hrd
  have HR_2 := Lib.hid (hrd2.wide (Nat.zero_le _) (Nat.le_refl _))
  clear hrd2
  cases hU : quorumOf ga gb with
  | false =>
    have HU := Lib.hid hU
    clear hU
    go_wp2_with (fail)
    (with_reducible refine (IsQuorumI_any 0 _ m c1 A1 ga 0 _ m2 c2 A2 gb _ HL_1.out (by omega) (by omega) HR_2.out (by omega) (by omega)).mono ?_)
    rintro e w2 ⟨rfl, hbt⟩
    rw [HU.out]
    have HL_3 := Lib.hid (HL_1.out.keep hbt (by omega))
    have HR_4 := Lib.hid (HR_2.out.keep hbt (by omega))
    have HB_5 := Lib.hid (up HB_0.out hbt)
    have hz_2 := hbt.size
    clear HL_1 HR_2 HB_0
    clear hbt
    go_wp2_with (fail)
    (with_reducible refine (IsQuorumS_any 0 _ m c1 A1 ga 0 _ m2 c2 A2 gb _ HL_3.out (by omega) (by omega) HR_4.out (by omega) (by omega)).mono ?_)
    rintro e w3 ⟨rfl, hbt⟩
    rw [HU.out]
    have HL_6 := Lib.hid (HL_3.out.keep hbt (by omega))
    have HR_7 := Lib.hid (HR_4.out.keep hbt (by omega))
    have HB_8 := Lib.hid (up HB_5.out hbt)
    have hz_3 := hbt.size
    clear HL_3 HR_4 HB_5
    clear hbt
    go_wp2_with (fail)
    (with_reducible refine (IsQuorumS_any 0 _ m c1 A1 ga 0 _ m2 c2 A2 gb _ HL_6.out (by omega) (by omega) HR_7.out (by omega) (by omega)).mono ?_)
    rintro e w4 ⟨rfl, hbt⟩
    rw [HU.out]
    have HL_9 := Lib.hid (HL_6.out.keep hbt (by omega))
    have HR_10 := Lib.hid (HR_7.out.keep hbt (by omega))
    have HB_11 := Lib.hid (up HB_8.out hbt)
    have hz_4 := hbt.size
    clear HL_6 HR_7 HB_8
    clear hbt
    go_wp2
    go_ret
    exact ⟨rfl, HB_11.out⟩
  | true =>
    have HU := Lib.hid hU
    clear hU
    go_wp2_with (fail)
    (with_reducible refine (IsQuorumI_any 0 _ m c1 A1 ga 0 _ m2 c2 A2 gb _ HL_1.out (by omega) (by omega) HR_2.out (by omega) (by omega)).mono ?_)
    rintro e w2 ⟨rfl, hbt⟩
    rw [HU.out]
    have HL_12 := Lib.hid (HL_1.out.keep hbt (by omega))
    have HR_13 := Lib.hid (HR_2.out.keep hbt (by omega))
    have HB_14 := Lib.hid (up HB_0.out hbt)
    have hz_2 := hbt.size
    clear HL_1 HR_2 HB_0
    clear hbt
    go_wp2_with (fail)
    (with_reducible refine (IsQuorumS_any 0 _ m c1 A1 ga 0 _ m2 c2 A2 gb _ HL_12.out (by omega) (by omega) HR_13.out (by omega) (by omega)).mono ?_)
    rintro e w3 ⟨rfl, hbt⟩
    rw [HU.out]
    have HL_15 := Lib.hid (HL_12.out.keep hbt (by omega))
    have HR_16 := Lib.hid (HR_13.out.keep hbt (by omega))
    have HB_17 := Lib.hid (up HB_14.out hbt)
    have hz_3 := hbt.size
    clear HL_12 HR_13 HB_14
    clear hbt
    obtain ⟨z, hz⟩ : ∃ z : Int, (n : Int).tmod 7 = z := ⟨_, rfl⟩
    have HQM := Lib.hid (quorum_more HU.out z)
    obtain ⟨i0, hi0, hq0, hq1, hq2⟩ := info_parts infoIntD
    have hown1 : (w3.alloc (.cells #[] 3)).ownsRow w3.heap.size 3 1 (.slice (some ⟨w3.heap.size, 0, none⟩) 0 0) 0 [] := World.ownsRow_made w3 #[] 0 (Nat.le_refl _) (by unfold maxLen; omega) (by simp)
    have hbl := up_alloc (Below.refl _ w3) (.cells #[] 3)
    have hr1 := HR_16.out.keep hbl (by omega)
    go_wp2_with (at_builtin; refine wpList_append_rd _ rfl _ _ 33 rfl w3.heap.size 3 i0 _ 1 8 Try.underlying33 hi0 hq0 hq1 hq2 rfl (by decide) _ _ _ rfl hown1 0 _ A2 m2 c2 (ivs gb) rfl hr1 (ivs_one gb) ?c3 ?c4 ?c5 ?_)
    case c3 => unfold maxLen; omega
    case c4 => omega
    case c5 => simp
    intro v8 w8 hown8 hg8 _
    have HU8 := Lib.hid (up_grown hbl hown1 hg8 (Nat.le_refl _))
    try simp only [Nat.zero_add, List.nil_append] at hown8
    have HO8 := Lib.hid hown8
    have hz8 := HU8.out.size
    clear hown1 hown8 hg8 hr1 hbl
    go_wp2_with (at_builtin; refine wpList_append_own _ rfl _ _ 33 rfl w3.heap.size 3 i0 _ 1 8 Try.underlying33 hi0 hq0 hq1 hq2 rfl (by decide) _ _ _ rfl (HO8.out.alloc _) _ 1 1 [.int .i64 z] rfl rfl (World.news_of_block (heap_alloc_new _ _)) ?d2 ?d3 ?d4 ?d5 ?_)
    case d2 => first | (intro v hv; simp at hv; subst hv; rfl) | rfl
    case d3 => unfold maxLen; omega
    case d4 => omega
    case d5 => first | omega | (simp; omega)
    intro v9 w9 hown9 hg9 _
    have HU9 := Lib.hid (up_grown (up_alloc HU8.out _) (HO8.out.alloc _) hg9 (Nat.le_refl _))
    have HO9 := Lib.hid (show w9.ownsRow w3.heap.size 3 1 v9 (m2 + 1) (ivs (gb ++ [z])) by rw [ivs_append]; exact hown9)
    clear hown9 hg9
    obtain ⟨A9, c9, rfl, hk9, _⟩ := own_cap HO9.out
    have HX9 := Lib.hid ((Rd.of_own HO9.out).wide (lo' := 0) (Nat.zero_le _) (Nat.le_refl _))
    have HL9 := Lib.hid (HL_15.out.keep HU9.out (by omega))
    have hz9 := HU9.out.size
    go_wp2_with (fail)
    (with_reducible refine (IsQuorumI_any 0 _ m c1 A1 ga 0 _ (m2 + 1) c9 A9 (gb ++ [z]) _ HL9.out (by omega) (by omega) HX9.out (by omega) (by omega)).mono ?_)
    rintro e y1 ⟨rfl, hb2⟩
    rw [HQM.out]
    have HB2 := Lib.hid (up HU9.out hb2)
    clear hb2
    go_wp2
    go_ret
    exact ⟨rfl, up HB_17.out HB2.out⟩
end Go.Proofs.Ytobjcifoaejonac
