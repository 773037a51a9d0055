/- The arguments of the laws on groups. (Written by gen/drawg.py.) -/
import Derived.Test.YtobjcifoaejonacDrawI
import Derived.Test.YtobjcifoaejonacDrawN
import Derived.Test.YtobjcifoaejonacSmallS
set_option linter.unusedSimpArgs false
set_option linter.unusedVariables false
namespace Go.Proofs.Ytobjcifoaejonac
open Go.RowKit

set_option maxRecDepth 100000 in
set_option maxHeartbeats 1600000 in
theorem anyGroup_any (r : Nat) (A : Option Addr) (n c : Nat) (xs : List Int) (p : Int) (w : World) (h : Rdr w r A n c xs p) (hp : p ≤ 800000) :
    Calls Try.prog 46 #[.pointer (some ⟨r, 0, none⟩)] w (IntsPost r A n c xs p 12 9 w) := by
  have hrl := h.lt
  obtain ⟨i0, hi0, hz0, hz1, hz2⟩ := info_parts infoIntD
  have HO0 := Lib.hid (show (w.alloc (.cells #[] 3)).ownsRow w.heap.size 3 1 (.slice (some ⟨w.heap.size, 0, none⟩) 0 0) 0 (ivs []) from World.ownsRow_made w #[] 0 (Nat.le_refl _) (by unfold maxLen; omega) (by simp [ivs]))
  have HR0 := Lib.hid (rdr_alloc h (.cells #[] 3))
  have HG0 := Lib.hid (but_alloc (but_refl r w) (.cells #[] 3))
  clear h
  go_enter Try.func46, Try.ntmps46
  go_wp2
  go_loopw [3, 4] (fun v iv wr => ∃ (s k : Nat) (ms : List Int), iv = .int .i64 s ∧ s ≤ 7 ∧ k ≤ s ∧ Hid (wr.ownsRow w.heap.size 3 1 v k (ivs ms)) ∧ Hid (Rdr wr r A n c xs (p + s)) ∧ Hid (But r w wr))
     (fun _ iv _ => 7 - (intOf iv).toNat)
  case atStart => exact ⟨0, 0, [], rfl, by omega, by omega, HO0.out, Lib.hid (by simpa using HR0.out), HG0.out⟩
  case round =>
    clear HO0 HR0 HG0
    obtain ⟨s, k, ms, rfl, hs, hks, hO, hR, hG⟩ := hrel
    by_cases hlt : s < 7
    · have hsz : (s : Int) < 7 := by omega
      go_wp2_with (fail)
      (with_reducible refine (pick_any r A n c xs (p + s) 2 _ hR.out (by omega) (by omega)).mono ?_)
      rintro e w2 ⟨q, rfl, q0, q1, _, hR2, hG2⟩
      have HO2 := Lib.hid (own_but hO.out hG2 hrl)
      have HR2 := Lib.hid (show Rdr w2 r A n c xs (p + ((s + 1 : Nat) : Int)) by rw [show p + ((s + 1 : Nat) : Int) = p + s + 1 by omega]; exact hR2)
      have HG2 := Lib.hid (but_trans hG.out hG2)
      have hs2 := HG2.out.size
      clear hR2 hG2 hO hR hG q1
      by_cases hq : q = 0
      · subst hq
        go_wp2_with (at_builtin; refine wpList_append_own _ rfl _ _ 33 rfl w.heap.size 3 i0 _ 1 8 Try.underlying33 hi0 hz0 hz1 hz2 rfl (by decide) _ _ _ rfl (HO2.out.alloc _) _ 1 1 [.int .i64 (s : Int)] rfl rfl (World.news_of_block (heap_alloc_new _ _)) ?d2 ?d3 ?d4 ?d5 ?_)
        case d2 => first | (intro v hv; simp at hv; subst hv; rfl) | rfl
        case d3 => unfold maxLen; omega
        case d4 => omega
        case d5 => first | omega | (simp; omega)
        intro v3 w3 hown3 hg3 _
        have HR3 := Lib.hid (rdr_grown (rdr_alloc HR2.out _) (HO2.out.alloc _) hg3 hrl)
        have HG3 := Lib.hid (but_grown (but_alloc HG2.out _) (HO2.out.alloc _) hg3 (Nat.le_refl _))
        have HO3 := Lib.hid (show w3.ownsRow w.heap.size 3 1 v3 (k + 1) (ivs (ms ++ [(s : Int)])) by rw [ivs_append]; exact hown3)
        clear hown3 hg3 HO2 HR2 HG2
        go_wp2
        go_roundw
        case rel => exact ⟨s + 1, k + 1, _, by go_num, by omega, by omega, HO3, HR3, HG3⟩
        case measure => simp [intOf]; omega
      · have hqd : (q == 0) = false := by simpa using hq
        clear hq
        go_wp2
        go_roundw
        case rel => exact ⟨s + 1, k, ms, by go_num, by omega, by omega, HO2, HR2, HG2⟩
        case measure => simp [intOf]; omega
    · obtain rfl : s = 7 := by omega
      obtain ⟨A1, c1, rfl, hk1, _⟩ := own_cap hO.out
      have hRD := Lib.hid (Rd.of_own hO.out)
      go_wp2_with (fail)
      (with_reducible refine (spoilN_any r A n c xs (p + (7 : Nat)) _ _ k c1 A1 ms 7 _ hR.out (by omega) hRD.out (Nat.le_refl _) (by omega)).mono ?_)
      rintro e w2 ⟨A2, m2, c2, ys, p2, rfl, hm2, hk2, hc2x, hrd2, hR2, hp2, hG2⟩
      have HX := Lib.hid (hrd2.wide hG.out.size (Nat.le_refl _))
      have HR2 := Lib.hid hR2
      have HG2 := Lib.hid (but_trans hG.out hG2)
      clear hrd2 hR2 hG2
      go_wp2
      go_ret
      exact ⟨A2, m2, c2, ys, p2, rfl, by omega, hk2, hc2x, HX.out, HR2.out, by omega, HG2.out⟩
/-- Two drawn groups. -/
def DrawSS (w : World) (e : Ending) (w' : World) : Prop :=
  ∃ (A1 : Option Addr) (m c1 : Nat) (a : List Int) (A2 : Option Addr) (m2 c2 : Nat) (b : List Int), e = .returned (.tuple #[.slice A1 m c1, .slice A2 m2 c2]) ∧ m ≤ 9 ∧ m ≤ c1 ∧ Rd w' w.heap.size w'.heap.size 1 A1 m (ivs a) ∧ m2 ≤ 9 ∧ m2 ≤ c2 ∧ Rd w' w.heap.size w'.heap.size 1 A2 m2 (ivs b) ∧ Below w.heap.size w w'
set_option maxRecDepth 100000 in
set_option maxHeartbeats 1600000 in
theorem drawIsQuorum_any (n c : Nat) (A : Option Addr) (xs : List Int) (w : World) (hr : Rd w 0 w.heap.size 1 A n (bvs xs)) (hby : Bytes xs) (hn : n ≤ 1048576) (hc : n ≤ c) (hc2 : c ≤ 9223372036854775807) :
    Calls Try.prog 21 #[.slice A n c] w (DrawSS w) := by
  obtain ⟨i0, hi0, hz0, hz1, hz2⟩ := info_parts infoIntD
  go_enter Try.func21, Try.ntmps21
  go_wp2_with (fail)
  (with_reducible refine (newReader_any n c A xs _ hr hby hn hc hc2).mono ?_)
  rintro e w1 ⟨r, n', c', xs', rfl, hrw, hR1, hb1⟩
  have hrl := hR1.lt
  have HB1 := Lib.hid hb1
  have hz1s := hb1.size
  clear hr hb1
  go_wp2_with (fail)
  (with_reducible refine (anyGroup_any r A n' c' xs' 0 w1 hR1 (by omega)).mono ?_)
  rintro e w2 ⟨A1, m, c1, a, p2, rfl, hm, hk1, _, hrd, hR2, hp2, hG2⟩
  have HX2 := Lib.hid hrd
  have HR2 := Lib.hid hR2
  have HG2 := Lib.hid hG2
  have hz2s := hG2.size
  have hrl2 : r < w2.heap.size := by omega
  clear hR1 hrd hR2 hG2
  go_wp2_with (fail)
  (with_reducible refine (anyGroup_any r A n' c' xs' p2 w2 HR2.out (by omega)).mono ?_)
  rintro e w9 ⟨A2, m2, c2, b, p9, rfl, hm2, hk2, _, hrd2, hR9, hp9, hG9⟩
  have HX9 := Lib.hid ((HX2.out.far hG9 (by omega) (fun g e => by injection e with e; omega)).wide (lo' := w.heap.size) (hi' := w9.heap.size) (by omega) (by have := hG9.size; omega))
  have HY9 := Lib.hid (hrd2.wide (lo' := w.heap.size) (by have := HG2.out.size; omega) (Nat.le_refl _))
  have HBL := Lib.hid (but_mineK HB1.out (but_trans HG2.out hG9) hrw)
  clear hrd2 hR9 hG9
  go_wp2
  exact bodyPost_ret (v := .tuple #[.slice A1 m c1, .slice A2 m2 c2]) (by simp [results, Try.results21, go_sem]) rfl ⟨A1, m, c1, a, A2, m2, c2, b, rfl, hm, hk1, HX9.out, hm2, hk2, HY9.out, HBL.out⟩
set_option maxRecDepth 100000 in
set_option maxHeartbeats 1600000 in
theorem drawOneStep_any (n c : Nat) (A : Option Addr) (xs : List Int) (w : World) (hr : Rd w 0 w.heap.size 1 A n (bvs xs)) (hby : Bytes xs) (hn : n ≤ 1048576) (hc : n ≤ c) (hc2 : c ≤ 9223372036854775807) :
    Calls Try.prog 25 #[.slice A n c] w (DrawSS w) := by
  obtain ⟨i0, hi0, hz0, hz1, hz2⟩ := info_parts infoIntD
  go_enter Try.func25, Try.ntmps25
  go_wp2_with (fail)
  (with_reducible refine (newReader_any n c A xs _ hr hby hn hc hc2).mono ?_)
  rintro e w1 ⟨r, n', c', xs', rfl, hrw, hR1, hb1⟩
  have hrl := hR1.lt
  have HB1 := Lib.hid hb1
  have hz1s := hb1.size
  clear hr hb1
  go_wp2_with (fail)
  (with_reducible refine (anyGroup_any r A n' c' xs' 0 w1 hR1 (by omega)).mono ?_)
  rintro e w2 ⟨A1, m, c1, a, p2, rfl, hm, hk1, _, hrd, hR2, hp2, hG2⟩
  have HX2 := Lib.hid hrd
  have HR2 := Lib.hid hR2
  have HG2 := Lib.hid hG2
  have hz2s := hG2.size
  have hrl2 : r < w2.heap.size := by omega
  clear hR1 hrd hR2 hG2
  go_wp2_with (fail)
  (with_reducible refine (pick_any r A n' c' xs' p2 3 _ HR2.out (by omega) (by omega)).mono ?_)
  rintro e w3 ⟨q, rfl, q0, q1, _, hR3, hG3⟩
  have HX3 := Lib.hid (HX2.out.far hG3 (Nat.le_refl _) (fun g e => by injection e with e; omega))
  have HR3 := Lib.hid hR3
  have HG3 := Lib.hid (but_trans HG2.out hG3)
  have hz3s := hG3.size
  clear hR3 hG3 q1 HX2 HR2
  by_cases hq : q = 0
  · subst hq
    go_wp2_with (fail)
    (with_reducible refine (anyGroup_any r A n' c' xs' (p2 + 1) w3 HR3.out (by omega)).mono ?_)
    rintro e w9 ⟨A2, m2, c2, b, p9, rfl, hm2, hk2, _, hrd2, hR9, hp9, hG9⟩
    have HX9 := Lib.hid ((HX3.out.far hG9 (by omega) (fun g e => by injection e with e; omega)).wide (lo' := w.heap.size) (hi' := w9.heap.size) (by omega) (by have := hG9.size; omega))
    have HY9 := Lib.hid (hrd2.wide (lo' := w.heap.size) (by have := HG3.out.size; omega) (Nat.le_refl _))
    have HBL := Lib.hid (but_mineK HB1.out (but_trans HG3.out hG9) hrw)
    clear hrd2 hR9 hG9
    go_wp2
    exact bodyPost_ret (v := .tuple #[.slice A1 m c1, .slice A2 m2 c2]) (by simp [results, Try.results25, go_sem]) rfl ⟨A1, m, c1, a, A2, m2, c2, b, rfl, hm, hk1, HX9.out, hm2, hk2, HY9.out, HBL.out⟩
  have hqd : (q == 0) = false := by simpa using hq
  clear hq
  go_wp2_with (fail)
  (with_reducible refine (pick_any r A n' c' xs' (p2 + 1) 7 _ HR3.out (by omega) (by omega)).mono ?_)
  rintro e w4 ⟨t, rfl, t0, t1, _, hR4, hG4⟩
  have HX4 := Lib.hid (HX3.out.far hG4 (by omega) (fun g e => by injection e with e; omega))
  have HG4 := Lib.hid (but_trans HG3.out hG4)
  have hz4s := hG4.size
  clear hR4 hG4 t1 HX3 HR3
  have HB4 := Lib.hid (but_mineK HB1.out HG4.out hrw)
  have HO5 := Lib.hid (show (w4.alloc (.cells #[] 3)).ownsRow w4.heap.size 3 1 (.slice (some ⟨w4.heap.size, 0, none⟩) 0 0) 0 (ivs []) from World.ownsRow_made w4 #[] 0 (Nat.le_refl _) (by unfold maxLen; omega) (by simp [ivs]))
  have HU5 := Lib.hid (up_alloc (Below.refl _ w4) (.cells #[] 3))
  go_wp2
  go_loopw [7, 8] (fun v iv wr => ∃ (s k : Nat) (ms : List Int), iv = .int .i64 s ∧ s ≤ 7 ∧ k ≤ s ∧ Hid (wr.ownsRow w4.heap.size 3 1 v k (ivs ms)) ∧ Hid (Below w4.heap.size w4 wr))
     (fun _ iv _ => 7 - (intOf iv).toNat)
  case atStart => exact ⟨0, 0, [], rfl, by omega, by omega, HO5.out, HU5.out⟩
  case round =>
    clear HO5 HU5
    obtain ⟨s, k, ms, rfl, hs, hks, hO, hU⟩ := hrel
    have hsz5 := hU.out.size
    by_cases hlt : s < 7
    · have hs7 : (s : Int) < 7 := by omega
      have HXW := Lib.hid (HX4.out.keep hU.out (by omega))
      go_wp2_with (fail)
      (with_reducible refine (isInS_any _ _ m c1 A1 a (s : Int) _ HXW.out (by omega)).mono ?_)
      rintro e w6 ⟨rfl, rfl⟩
      generalize inL a (s : Int) = x
      by_cases hst : (s : Int) = t
      all_goals
        first
        | (have hd : ((s : Int) == t) = true := by simpa using hst)
        | (have hd : ((s : Int) == t) = false := by simpa using hst)
        clear hst
        cases x
        all_goals
          first
          | (go_wp2
             go_roundw
             case rel => exact ⟨s + 1, k, ms, by go_num, by omega, by omega, hO, hU⟩
             case measure => simp [intOf]; omega)
          | (go_wp2_with (at_builtin; refine wpList_append_own _ rfl _ _ 33 rfl w4.heap.size 3 i0 _ 1 8 Try.underlying33 hi0 hz0 hz1 hz2 rfl (by decide) _ _ _ rfl (hO.out.alloc _) _ 1 1 [.int .i64 (s : Int)] rfl rfl (World.news_of_block (heap_alloc_new _ _)) ?d2 ?d3 ?d4 ?d5 ?_)
             case d2 => first | (intro v hv; simp at hv; subst hv; rfl) | rfl
             case d3 => unfold maxLen; omega
             case d4 => omega
             case d5 => first | omega | (simp; omega)
             intro v7 w7 hown7 hg7 _
             have HU7 := Lib.hid (up_grown (up_alloc hU.out _) (hO.out.alloc _) hg7 (Nat.le_refl _))
             have HO7 := Lib.hid (show w7.ownsRow w4.heap.size 3 1 v7 (k + 1) (ivs (ms ++ [(s : Int)])) by rw [ivs_append]; exact hown7)
             clear hown7 hg7
             go_wp2
             go_roundw
             case rel => exact ⟨s + 1, k + 1, _, by go_num, by omega, by omega, HO7, HU7⟩
             case measure => simp [intOf]; omega)
    · obtain rfl : s = 7 := by omega
      obtain ⟨A5, c5, rfl, hk5, _⟩ := own_cap hO.out
      have HX9 := Lib.hid ((HX4.out.keep hU.out (by omega)).wide (lo' := w.heap.size) (hi' := wr.heap.size) (by omega) (by omega))
      have HY9 := Lib.hid ((Rd.of_own hO.out).wide (lo' := w.heap.size) (by omega) (Nat.le_refl _))
      have HBL := Lib.hid (up HB4.out hU.out)
      go_wp2
      exact bodyPost_ret (v := .tuple #[.slice A1 m c1, .slice A5 k c5]) (by simp [results, Try.results25, go_sem]) rfl ⟨A1, m, c1, a, A5, k, c5, ms, rfl, hm, hk1, HX9.out, by omega, hk5, HY9.out, HBL.out⟩
end Go.Proofs.Ytobjcifoaejonac
