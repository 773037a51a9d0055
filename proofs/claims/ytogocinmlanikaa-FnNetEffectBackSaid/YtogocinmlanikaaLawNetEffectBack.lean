/- The law FnNetEffectBack, walked: it returns true. (Written by a program over gen/lawlib.py.) -/
import Derived.Test.YtogocinmlanikaaDrawSt2
import Derived.Test.YtogocinmlanikaaSagaD
import Derived.Test.YtogocinmlanikaaSagaS
import Derived.Test.YtogocinmlanikaaLawLists
import Derived.Test.YtogocinmlanikaaLawSagaM
import Derived.BigQuiet
import Derived.Deep.RegionLaw
import Derived.Deep.RegionHeld3
set_option linter.unusedSimpArgs false
set_option linter.unusedVariables false
namespace Go.Proofs.Ytogocinmlanikaa
open Go.RowKit

set_option maxRecDepth 100000 in
set_option maxHeartbeats 6400000 in
theorem lawNetEffectBack_any (n c : Nat) (A : Option Addr) (xs : List Int) (w : World) (hr : Rd w 0 w.heap.size 1 A n (bvs xs)) (hby : Bytes xs) (hc : n ≤ c) (hc2 : c ≤ 9223372036854775807) :
    Calls Try.prog 9 #[.slice A n c] w fun e w' => e = .returned (.bool true) ∧ Below w.heap.size w w' := by
  by_cases hbig : (1048576 : Int) < n
  · go_enter Try.func9, Try.ntmps9
    go_wp2
    go_ret
    exact ⟨rfl, Below.refl _ _⟩
  go_enter Try.func9, Try.ntmps9
  go_wp2_with (fail)
  (with_reducible refine (drawNetEffect_any n c A xs w hr hby (by omega) hc hc2).mono ?_)
  rintro e w1 ⟨A1, m, c1, ys, rfl, hm, hc1, hcc, hsm, hrd, hb1⟩
  clear hbig hr
  have HB_0 := Lib.hid hb1
  have hz_1 := hb1.size
  clear hb1
  have HSM := Lib.hid hsm
  clear hsm
  have HPL := Lib.hid hrd.len1
  have HL_1 := Lib.hid (hrd.wide (Nat.zero_le _) (Nat.le_refl _))
  clear hrd
  obtain ⟨i0, hi0, hq0, hq1, hq2⟩ := info_parts infoIntD
  generalize hU : netOf ys = o
  have HU := Lib.hid hU
  have hob := netOf_bound ys
  rw [hU] at hob
  obtain ⟨hob0, hob1⟩ := hob
  have HUB := Lib.hid (show netOf (ys.map fun x => -x) = -o by rw [netOf_neg, hU])
  clear hU
  have hoo : (o != o) = false := by simp
  have hwo : IntKind.i64.wrap (-o) = -o := IntWalk.i64_in _ (by omega)
  have hoe : (-o == -o) = true := by simp
  go_wp2_with (fail)
  (with_reducible refine (NetEffectI_any 0 _ m c1 A1 ys _ HL_1.out (by omega) (by omega)).mono ?_)
  rintro e w2 ⟨rfl, hbt⟩
  rw [HU.out]
  have HL_2 := Lib.hid (HL_1.out.keep hbt (by omega))
  have HB_3 := Lib.hid (up HB_0.out hbt)
  have hz_2 := hbt.size
  clear HL_1 HB_0
  clear hbt
  go_wp2_with (fail)
  (with_reducible refine (NetEffectS_any 0 _ m c1 A1 ys _ HL_2.out (by omega) (by omega)).mono ?_)
  rintro e w3 ⟨rfl, hbt⟩
  rw [HU.out]
  have HL_4 := Lib.hid (HL_2.out.keep hbt (by omega))
  have HB_5 := Lib.hid (up HB_3.out hbt)
  have hz_3 := hbt.size
  clear HL_2 HB_3
  clear hbt
  have HOW := Lib.hid (show (w3.alloc (.cells #[] 3)).ownsRow w3.heap.size 3 1 (.slice (some ⟨w3.heap.size, 0, none⟩) 0 0) 0 [] from World.ownsRow_made w3 #[] 0 (Nat.le_refl _) (by unfold maxLen; omega) (by simp))
  go_wp2
  go_loopw [5, 6] (fun v iv wr => (∃ (k : Nat), k ≤ m ∧ iv = .int .i64 k ∧ Hid (wr.ownsRow w3.heap.size 3 1 v k (ivs ((ys.map fun x => -x).take k)))) ∧ Hid (Below w3.heap.size w3 wr))
     (fun _ iv _ => m - (intOf iv).toNat)
  case atStart => exact ⟨⟨0, by omega, rfl, HOW.out⟩, up_alloc (Below.refl _ _) _⟩
  case round =>
    clear HOW
    obtain ⟨w4, HWR⟩ : ∃ x : World, x = wr := ⟨_, rfl⟩
    subst HWR
    obtain ⟨⟨k, hk, rfl, HO⟩, HLP⟩ := hrel
    have hlb := HLP.out
    have HL_6 := Lib.hid (HL_4.out.keep hlb (by omega))
    have HB_7 := Lib.hid (up HB_5.out hlb)
    have hz_4 := hlb.size
    clear HL_4 HB_5
    clear hlb
    by_cases hlt : k < m
    case neg =>
      obtain rfl : m = k := by omega
      have hkk : decide ((m : Int) < (m : Int)) = false := by simp
      obtain ⟨A3, c3, rfl, hc3, hr3, _⟩ := own_form HO.out
      rw [List.take_of_length_le (by rw [List.length_map, HPL.out]; omega)] at hr3
      have HB_8 := Lib.hid (hr3.wide (Nat.zero_le _) (Nat.le_refl _))
      clear hr3
      go_wp2_with (fail)
      (with_reducible refine (NetEffectI_any 0 _ m c3 A3 (ys.map fun x => -x) _ HB_8.out (by omega) (by omega)).mono ?_)
      rintro e w5 ⟨rfl, hbt⟩
      rw [HUB.out]
      have HL_9 := Lib.hid (HL_6.out.keep hbt (by omega))
      have HB_10 := Lib.hid (HB_8.out.keep hbt (by omega))
      have HB_11 := Lib.hid (up HB_7.out hbt)
      have hz_5 := hbt.size
      clear HL_6 HB_8 HB_7
      clear hbt
      go_wp2
      go_ret
      exact ⟨rfl, HB_11.out⟩
    obtain ⟨b, off, x, hA, hbB, _, hg, hc0⟩ := HL_6.out.one hlt
    have hxb := HSM.out x (List.mem_of_getElem? hg)
    have HG := Lib.hid hg
    obtain ⟨hx0, hx1⟩ := hxb
    clear hg
    subst hA
    have hkn : (k : Int) < (m : Int) := by omega
    have hk0 : (0 : Int) ≤ (k : Int) := by omega
    have hwx : IntKind.i64.wrap (-x) = -x := IntWalk.i64_in _ (by omega)
    have hkk2 : decide ((k : Int) < (m : Int)) = true := decide_eq_true (by omega)
    go_wp2_with (at_builtin; refine wpList_append_own _ rfl _ _ 34 rfl w3.heap.size 3 i0 _ 1 8 Try.underlying34 hi0 hq0 hq1 hq2 rfl (by decide) _ _ _ rfl (HO.out.alloc _) _ 1 1 [.int .i64 (-x)] rfl rfl (World.news_of_block (heap_alloc_new _ _)) ?d2 ?d3 ?d4 ?d5 ?_)
    case d2 => first | (intro u hu; simp at hu; subst hu; rfl) | rfl
    case d3 => unfold maxLen; omega
    case d4 => omega
    case d5 => first | omega | (simp; omega)
    intro v8 w8 hown8 hg8 _
    have HB8 := Lib.hid (up_grown (up_alloc HLP.out _) (HO.out.alloc _) hg8 (Nat.le_refl _))
    have HO8 := Lib.hid (show w8.ownsRow w3.heap.size 3 1 v8 (k + 1) (ivs ((ys.map fun x => -x).take (k + 1))) by rw [List.take_add_one, List.getElem?_map, HG.out, ivs_append]; exact hown8)
    clear hown8 hg8
    go_wp2
    go_roundw
    case rel => exact ⟨⟨k + 1, by omega, by go_num, HO8⟩, HB8⟩
    case measure => simp [intOf]; omega
end Go.Proofs.Ytogocinmlanikaa
