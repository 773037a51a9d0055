/- The law FnItemsForRoles, walked: it returns true. (Written by a program over gen/lawlib.py.) -/
import Derived.Test.YtipoakimjhfhfaaDrawW4
import Derived.Test.YtipoakimjhfhfaaWorkI
import Derived.Test.YtipoakimjhfhfaaWorkJ
import Derived.Test.YtipoakimjhfhfaaMayE
import Derived.Test.YtipoakimjhfhfaaEqLists
import Derived.Test.YtipoakimjhfhfaaLawLists
import Derived.Test.YtipoakimjhfhfaaLawWorkN
import Derived.BigQuiet
import Derived.Deep.RegionLaw
set_option linter.unusedSimpArgs false
set_option linter.unusedVariables false
namespace Go.Proofs.Ytipoakimjhfhfaa
open Go.RowKit

set_option maxRecDepth 100000 in
set_option maxHeartbeats 6400000 in
theorem lawItemsForRoles_any (n c : Nat) (A : Option Addr) (xs : List Int) (w : World) (hr : Rd w 0 w.heap.size 1 A n (bvs xs)) (hby : Bytes xs) (hc : n ≤ c) (hc2 : c ≤ 9223372036854775807) :
    Calls Try.prog 12 #[.slice A n c] w fun e w' => e = .returned (.bool true) ∧ Below w.heap.size w w' := by
  by_cases hbig : (1048576 : Int) < n
  · go_enter Try.func12, Try.ntmps12
    go_wp2
    go_ret
    exact ⟨rfl, Below.refl _ _⟩
  go_enter Try.func12, Try.ntmps12
  go_wp2_with (fail)
  (with_reducible refine (drawItemsFor_any n c A xs w hr hby (by omega) hc hc2).mono ?_)
  rintro e w1 ⟨A1, m, c1, ps, z0, A3, n3, c3, rs, rfl, hm, hc1, hsm, hrd, ⟨z0a, z0b⟩, hn3, hrr, hb1⟩
  clear hbig hr
  have HB_0 := Lib.hid hb1
  have hz_1 := hb1.size
  clear hb1
  have HSM := Lib.hid hsm
  clear hsm
  have hz0 : in64 z0 := by unfold in64; omega
  have HPL := Lib.hid hrd.len3
  have HL_1 := Lib.hid (hrd.wide (Nat.zero_le _) (Nat.le_refl _))
  clear hrd
  have HR_2 := Lib.hid (hrr.wide (Nat.zero_le _) (Nat.le_refl _))
  clear hrr
  have HFL := Lib.hid (show (forOf ps z0 rs).length ≤ 20 by have := forOf_le ps z0 rs; rw [HPL.out] at this; omega)
  have hfl := HFL.out
  go_wp2_with (fail)
  (with_reducible refine (ItemsForI_any 0 _ m c1 A1 ps z0 0 _ n3 c3 A3 rs _ HL_1.out (by omega) (by omega) hz0 HR_2.out (by omega) (by omega)).mono ?_)
  rintro e w2 ⟨A_3, c_4, rfl, hk_c_4, hrt, _, hbt⟩
  have HF_5 := Lib.hid (hrt.wide (Nat.zero_le _) (Nat.le_refl _))
  clear hrt
  have hbu := hbt
  clear hbt
  have HL_6 := Lib.hid (HL_1.out.keep hbu (by omega))
  have HR_7 := Lib.hid (HR_2.out.keep hbu (by omega))
  have HB_8 := Lib.hid (up HB_0.out hbu)
  have hz_2 := hbu.size
  clear HL_1 HR_2 HB_0
  clear hbu
  go_wp2_with (fail)
  (with_reducible refine (ItemsForS_any 0 _ m c1 A1 ps z0 0 _ n3 c3 A3 rs _ HL_6.out (by omega) (by omega) hz0 HR_7.out (by omega) (by omega)).mono ?_)
  rintro e w3 ⟨A_9, c_10, rfl, hk_c_10, hrt, _, hbt⟩
  have HG_11 := Lib.hid (hrt.wide (Nat.zero_le _) (Nat.le_refl _))
  clear hrt
  have hbu := hbt
  clear hbt
  have HL_12 := Lib.hid (HL_6.out.keep hbu (by omega))
  have HR_13 := Lib.hid (HR_7.out.keep hbu (by omega))
  have HF_14 := Lib.hid (HF_5.out.keep hbu (by omega))
  have HB_15 := Lib.hid (up HB_8.out hbu)
  have hz_3 := hbu.size
  clear HL_6 HR_7 HF_5 HB_8
  clear hbu
  go_wp2_with (fail)
  (with_reducible refine (equalInts_any _ _ (forOf ps z0 rs).length c_4 _ _ (forOf ps z0 rs).length c_10 A_3 A_9 (forOf ps z0 rs) (forOf ps z0 rs) _ HF_14.out (by omega) (by omega) HG_11.out (by omega) (by omega)).mono ?_)
  rintro e w4 ⟨rfl, hbt⟩
  rw [beq_self_eq_true]
  have HL_16 := Lib.hid (HL_12.out.keep hbt (by omega))
  have HR_17 := Lib.hid (HR_13.out.keep hbt (by omega))
  have HF_18 := Lib.hid (HF_14.out.keep hbt (by omega))
  have HG_19 := Lib.hid (HG_11.out.keep hbt (by omega))
  have HB_20 := Lib.hid (up HB_15.out hbt)
  have hz_4 := hbt.size
  clear HL_12 HR_13 HF_14 HG_11 HB_15
  clear hbt
  clear HG_19
  obtain ⟨i0, hi0, hq0, hq1, hq2⟩ := info_parts infoIntD
  have hown0 : (w4.alloc (.cells #[] 3)).ownsRow w4.heap.size 3 1 (.slice (some ⟨w4.heap.size, 0, none⟩) 0 0) 0 [] := World.ownsRow_made w4 #[] 0 (Nat.le_refl _) (by unfold maxLen; omega) (by simp)
  have hba := up_alloc (Below.refl _ w4) (.cells #[] 3)
  have HRA := Lib.hid (HR_17.out.keep hba (by omega))
  have HOW := Lib.hid hown0
  have HBA := Lib.hid hba
  clear hown0 hba
  have hmod : 0 ≤ (n : Int).tmod 6 ∧ (n : Int).tmod 6 ≤ 5 := by rw [Int.tmod_eq_emod_of_nonneg (by omega)]; omega
  obtain ⟨hmod0, hmod1⟩ := hmod
  go_wp2_with (at_builtin; refine wpList_append_rd _ rfl _ _ 35 rfl w4.heap.size 3 i0 _ 1 8 Try.underlying35 hi0 hq0 hq1 hq2 rfl (by decide) _ _ _ rfl HOW.out 0 _ A3 n3 c3 (ivs rs) rfl HRA.out (ivs_one rs) ?c3 ?c4 ?c5 ?_)
  case c3 => unfold maxLen; omega
  case c4 => omega
  case c5 => simp
  intro v6 x6 hown2 hg2 _
  have HB6 := Lib.hid (up_grown HBA.out HOW.out hg2 (Nat.le_refl _))
  try simp only [Nat.zero_add, List.nil_append] at hown2
  have HO6 := Lib.hid hown2
  have hs6 := HB6.out.size
  clear hown2 hg2
  go_wp2_with (at_builtin; refine wpList_append_own _ rfl _ _ 35 rfl w4.heap.size 3 i0 _ 1 8 Try.underlying35 hi0 hq0 hq1 hq2 rfl (by decide) _ _ _ rfl (HO6.out.alloc _) _ 1 1 [.int .i64 ((n : Int).tmod 6)] rfl rfl (World.news_of_block (heap_alloc_new _ _)) ?d2 ?d3 ?d4 ?d5 ?_)
  case d2 => first | (intro v hv; simp at hv; subst hv; rfl) | rfl
  case d3 => unfold maxLen; omega
  case d4 => omega
  case d5 => first | omega | (simp; omega)
  intro v7 x7 hown3 hg3 _
  have hbt := up_grown (up_alloc HB6.out _) (HO6.out.alloc _) hg3 (Nat.le_refl _)
  have HO7 := Lib.hid (show x7.ownsRow w4.heap.size 3 1 v7 (n3 + 1) (ivs (rs ++ [(n : Int).tmod 6])) by rw [ivs_append]; exact hown3)
  clear hown3 hg3 HO6 HRA HOW
  obtain ⟨w5, HWX⟩ : ∃ x : World, x = x7 := ⟨_, rfl⟩
  subst HWX
  have HL_21 := Lib.hid (HL_16.out.keep hbt (by omega))
  have HR_22 := Lib.hid (HR_17.out.keep hbt (by omega))
  have HF_23 := Lib.hid (HF_18.out.keep hbt (by omega))
  have HB_24 := Lib.hid (up HB_20.out hbt)
  have hz_5 := hbt.size
  clear HL_16 HR_17 HF_18 HB_20
  clear hbt
  obtain ⟨A7, c7, rfl, _, _⟩ := own_cap HO7.out
  have hr7 := Rd.of_own HO7.out
  have HQ_25 := Lib.hid (hr7.wide (Nat.zero_le _) (Nat.le_refl _))
  clear hr7
  clear HR_22
  have HMM := Lib.hid (fun (z : Int) (h : inL (forOf ps z0 rs) z = true) => mines_more (roles' := rs ++ [(n : Int).tmod 6]) (fun r hr => by simp at hr ⊢; exact .inl hr) h)
  have HF2 := Lib.hid (show (forOf ps z0 (rs ++ [(n : Int).tmod 6])).length ≤ 20 by have := forOf_le ps z0 (rs ++ [(n : Int).tmod 6]); rw [HPL.out] at this; omega)
  have hf2 := HF2.out
  go_wp2_with (fail)
  (with_reducible refine (ItemsForI_any 0 _ m c1 A1 ps z0 0 _ (n3 + 1) c7 A7 (rs ++ [(n : Int).tmod 6]) _ HL_21.out (by omega) (by omega) hz0 HQ_25.out (by omega) (by omega)).mono ?_)
  rintro e w6 ⟨A_26, c_27, rfl, hk_c_27, hrt, _, hbt⟩
  have HM_28 := Lib.hid (hrt.wide (Nat.zero_le _) (Nat.le_refl _))
  clear hrt
  have hbu := hbt
  clear hbt
  have HL_29 := Lib.hid (HL_21.out.keep hbu (by omega))
  have HF_30 := Lib.hid (HF_23.out.keep hbu (by omega))
  have HQ_31 := Lib.hid (HQ_25.out.keep hbu (by omega))
  have HB_32 := Lib.hid (up HB_24.out hbu)
  have hz_6 := hbu.size
  clear HL_21 HF_23 HQ_25 HB_24
  clear hbu
  clear HL_29
  clear HQ_31
  generalize hfo : forOf ps z0 rs = fo at *
  generalize hfm : forOf ps z0 (rs ++ [(n : Int).tmod 6]) = fm at *
  clear hfo hfm
  go_wp2
  go_loopw [8] (fun iv wr => ∃ (k : Nat), k ≤ fo.length ∧ iv = .int .i64 k ∧ Hid (Below w6.heap.size w6 wr))
     (fun iv _ => fo.length - (intOf iv).toNat)
  case atStart => exact ⟨0, by omega, rfl, Below.refl _ _⟩
  case round =>
    obtain ⟨w7, HWR⟩ : ∃ x : World, x = wr := ⟨_, rfl⟩
    subst HWR
    obtain ⟨k, hk, rfl, HLP⟩ := hrel
    have hlb := HLP.out
    have HF_33 := Lib.hid (HF_30.out.keep hlb (by omega))
    have HM_34 := Lib.hid (HM_28.out.keep hlb (by omega))
    have HB_35 := Lib.hid (up HB_32.out hlb)
    have hz_7 := hlb.size
    clear HF_30 HM_28 HB_32
    clear hlb
    by_cases hlt : k < fo.length
    case neg =>
      have hge : (fo.length : Int) ≤ (k : Int) := by omega
      go_wp2
      go_ret
      exact ⟨rfl, HB_35.out⟩
    have hkm : (k : Int) < (fo.length : Int) := by omega
    have hk0 : (0 : Int) ≤ (k : Int) := by omega
    obtain ⟨b, off, x, hAe, hbB, _, hg, hc0⟩ := HF_33.out.one hlt
    have HIN := Lib.hid (HMM.out x (by have h := List.mem_of_getElem? hg; rw [inL, List.contains_iff_mem]; exact h))
    clear hg
    subst hAe
    go_wp2_with (fail)
    (with_reducible refine (isIn_any 0 _ fm.length c_27 A_26 fm x _ HM_34.out (by omega)).mono ?_)
    rintro e wq ⟨rfl, rfl⟩
    rw [HIN.out]
    go_wp2
    go_roundw
    case rel => exact ⟨k + 1, by omega, by go_num, HLP.out⟩
    case measure => simp [intOf]; omega
end Go.Proofs.Ytipoakimjhfhfaa
