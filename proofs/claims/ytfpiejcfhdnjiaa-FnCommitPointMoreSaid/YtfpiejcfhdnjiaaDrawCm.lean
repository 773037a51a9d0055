/- The arguments of the laws on commit points, drawn. -/
import Derived.Test.YtfpiejcfhdnjiaaDrawL1
import Derived.Test.YtfpiejcfhdnjiaaDrawI
set_option linter.unusedSimpArgs false
set_option linter.unusedVariables false
namespace Go.Proofs.Ytfpiejcfhdnjiaa
open Go.RowKit

/-- A drawn log, counts, and a term. -/
def DrawCP (w : World) (e : Ending) (w' : World) : Prop :=
  ∃ (A1 : Option Addr) (m c1 : Nat) (ps : List En) (A2 : Option Addr) (m2 c2 : Nat) (has : List Int) (t : Int), e = .returned (.tuple #[.slice A1 m c1, .slice A2 m2 c2, .int .i64 t]) ∧ m ≤ 17 ∧ m ≤ c1 ∧ Rd w' w.heap.size w'.heap.size 2 A1 m (pvs ps) ∧ m2 ≤ 12 ∧ m2 ≤ c2 ∧ Rd w' w.heap.size w'.heap.size 1 A2 m2 (ivs has) ∧ (-10000 ≤ t ∧ t ≤ 10000) ∧ SmallE ps ∧ Below w.heap.size w w'
set_option maxRecDepth 100000 in
set_option maxHeartbeats 3200000 in
theorem drawCommitPoint_any (n c : Nat) (A : Option Addr) (xs : List Int) (w : World) (hr : Rd w 0 w.heap.size 1 A n (bvs xs)) (hby : Bytes xs) (hn : n ≤ 1048576) (hc : n ≤ c) (hc2 : c ≤ 9223372036854775807) :
    Calls Try.prog 11 #[.slice A n c] w (DrawCP w) := by
  obtain ⟨i0, hi0, hz0, hz1, hz2⟩ := info_parts infoIntD
  go_enter Try.func11, Try.ntmps11
  go_wp2_with (fail)
  (with_reducible refine (newReader_any n c A xs _ hr hby hn hc hc2).mono ?_)
  rintro e w1 ⟨r, n', c', xs', rfl, hrw, hR1, hb1⟩
  have hrl := hR1.lt
  have HB1 := Lib.hid hb1
  have hz1s := hb1.size
  clear hr hb1
  go_wp2_with (fail)
  (with_reducible refine (anyLog_any r A n' c' xs' 0 w1 hR1 (by omega)).mono ?_)
  rintro e w2 ⟨v, m, ps, p2, rfl, ho2, hs, hm, hR2, hp2, hG2⟩
  obtain ⟨A1, c1, rfl, hk1, hk1x⟩ := own_cap ho2
  have HL := Lib.hid ho2
  have HS := Lib.hid hs
  have HW := Lib.hid hG2
  have hz2s := hG2.size
  have hrl2 : r < w2.heap.size := by omega
  have HO0 := Lib.hid (show (w2.alloc (.cells #[] 3)).ownsRow w2.heap.size 3 1 (.slice (some ⟨w2.heap.size, 0, none⟩) 0 0) 0 (ivs []) from World.ownsRow_made w2 #[] 0 (Nat.le_refl _) (by unfold maxLen; omega) (by simp [ivs]))
  have HR0 := Lib.hid (rdr_alloc hR2 (.cells #[] 3))
  have HG0 := Lib.hid (but_alloc (but_refl r w2) (.cells #[] 3))
  have hz3 : (w2.alloc (.cells #[] 3)).heap.size = w2.heap.size + 1 := by simp
  have hwm : IntKind.i64.wrap ((m : Int) + 2) = (m : Int) + 2 := IntWalk.i64_in _ (by omega)
  clear hR1 ho2 hs hR2 hG2
  go_wp2_with (fail)
  generalize w2.alloc (.cells #[] 3) = w3 at *
  (with_reducible refine (one_mem r A n' c' xs' p2 [3, 5, 4, 1, 7, 0, 8] 7 _ _ w3 HR0.out (by omega) rfl (by omega) (by omega) (by omega) (by simp)).mono ?_)
  rintro e w4 ⟨a, rfl, ha, hR4, hG4⟩
  have ha2 : 0 ≤ a ∧ a ≤ 8 := by simp at ha; omega
  obtain ⟨a0, a1⟩ := ha2
  have HO4 := Lib.hid (own_but HO0.out hG4 hrl2)
  have HR4 := Lib.hid hR4
  have HG4 := Lib.hid (but_trans HG0.out hG4)
  clear ha hR4 hG4 HO0 HR0 HG0 hz3
  go_wp2
  go_loopw [7, 8] (fun v iv wr => ∃ (z : Int) (k : Nat) (ms : List Int), iv = .int .i64 z ∧ 0 ≤ z ∧ z ≤ 8 ∧ (k : Int) + z ≤ 8 ∧ Hid (wr.ownsRow w2.heap.size 3 1 v k (ivs ms)) ∧ Hid (Rdr wr r A n' c' xs' (p2 + 1 + k)) ∧ Hid (But r w2 wr))
     (fun _ iv _ => (intOf iv).toNat)
  case atStart => exact ⟨a, 0, [], rfl, a0, a1, by omega, HO4.out, Lib.hid (by simpa using HR4.out), HG4.out⟩
  case round =>
    clear HO4 HR4 HG4 a0 a1
    obtain ⟨z, k, ms, rfl, hz0', hz1', hkz, hO, hR, hG⟩ := hrel
    by_cases hpos : 0 < z
    · go_wp2_with (fail)
      (with_reducible refine (pick_any r A n' c' xs' (p2 + 1 + k) ((m : Int) + 2) _ hR.out (by omega) (by omega)).mono ?_)
      rintro e w5 ⟨q, rfl, q0, q1, _, hR5, hG5⟩
      have HO5 := Lib.hid (own_but hO.out hG5 hrl2)
      have HR5 := Lib.hid (show Rdr w5 r A n' c' xs' (p2 + 1 + ((k + 1 : Nat) : Int)) by rw [show p2 + 1 + ((k + 1 : Nat) : Int) = p2 + 1 + k + 1 by omega]; exact hR5)
      have HG5 := Lib.hid (but_trans hG.out hG5)
      have hs5 := HG5.out.size
      have hw1 : IntKind.i64.wrap (z - 1) = z - 1 := IntWalk.i64_in _ (by omega)
      clear hR5 hG5 hO hR hG q1
      go_wp2_with (at_builtin; refine wpList_append_own _ rfl _ _ 24 rfl w2.heap.size 3 i0 _ 1 8 Try.underlying24 hi0 hz0 hz1 hz2 rfl (by decide) _ _ _ rfl (HO5.out.alloc _) _ 1 1 [.int .i64 q] rfl rfl (World.news_of_block (heap_alloc_new _ _)) ?d2 ?d3 ?d4 ?d5 ?_)
      case d2 => first | (intro v hv; simp at hv; subst hv; rfl) | rfl
      case d3 => unfold maxLen; omega
      case d4 => omega
      case d5 => first | omega | (simp; omega)
      intro v3 w6 hown6 hg6 _
      have HR6 := Lib.hid (rdr_grown (rdr_alloc HR5.out _) (HO5.out.alloc _) hg6 hrl2)
      have HG6 := Lib.hid (but_grown (but_alloc HG5.out _) (HO5.out.alloc _) hg6 (Nat.le_refl _))
      have HO6 := Lib.hid (show w6.ownsRow w2.heap.size 3 1 v3 (k + 1) (ivs (ms ++ [q])) by rw [ivs_append]; exact hown6)
      clear hown6 hg6 HO5 HR5 HG5
      go_wp2
      go_roundw
      case rel => exact ⟨z - 1, k + 1, _, by first | rfl | go_num, by omega, by omega, by omega, HO6, HR6, HG6⟩
      case measure => simp [intOf]; omega
    · obtain rfl : z = 0 := by omega
      obtain ⟨A2, c2, rfl, hk2, _⟩ := own_cap hO.out
      have hgs := hG.out.size
      go_wp2_with (fail)
      (with_reducible refine (one_mem r A n' c' xs' (p2 + 1 + k) [1, 2, 3] 3 _ _ wr hR.out (by omega) rfl (by omega) (by omega) rfl (by simp)).mono ?_)
      rintro e w5 ⟨t, rfl, ht, hR5, hG5⟩
      have ht2 : 1 ≤ t ∧ t ≤ 3 := by simp at ht; omega
      obtain ⟨t0, t1⟩ := ht2
      have HO5 := Lib.hid (own_but hO.out hG5 hrl2)
      have HR5 := Lib.hid hR5
      have HG5 := Lib.hid (but_trans hG.out hG5)
      have hs5 := HG5.out.size
      clear ht hR5 hG5 hO hR hG hgs
      have FIN : ∀ (wx : World) (tt : Int) (pz : Int), True := fun _ _ _ => trivial
      clear FIN
      by_cases hm0 : m = 0
      · have dm : decide ((0 : Int) < (m : Int)) = false := decide_eq_false (by omega)
        have dm2 : decide (0 < m) = false := decide_eq_false (by omega)
        clear hm0
        obtain hrd6 := Lib.hid (Rd.of_own HO5.out)
        go_wp2_with (fail)
        (with_reducible refine (spoilN_any r A n' c' xs' (p2 + 1 + k + 1) _ _ k c2 A2 ms 17 _ HR5.out (by omega) hrd6.out (Nat.le_refl _) (by omega)).mono ?_)
        rintro e w9 ⟨A3, m3, c3, ys, p3, rfl, hm3, hk3, hc3x, hrd3, hR3, hp3, hG3⟩
        have HGZ := Lib.hid (but_trans HG5.out hG3)
        have hsz := HGZ.out.size
        have HLZ := Lib.hid ((Rd.of_own (own_but HL.out HGZ.out hrl)).wide (lo' := w.heap.size) (by omega) (Nat.le_refl _))
        have HYZ := Lib.hid (hrd3.wide (lo' := w.heap.size) (by have := HG5.out.size; have := HG5.out.size; omega) (Nat.le_refl _))
        have HBZ := Lib.hid (but_mineK HB1.out (but_trans HW.out HGZ.out) hrw)
        clear hrd3 hR3 hG3
        go_wp2
        exact bodyPost_ret (v := .tuple #[.slice A1 m c1, .slice A3 m3 c3, .int .i64 t]) (by simp [results, Try.results11, go_sem]) rfl ⟨A1, m, c1, ps, A3, m3, c3, ys, t, rfl, hm, hk1, HLZ.out, by omega, hk3, HYZ.out, ⟨by omega, by omega⟩, HS.out, HBZ.out⟩
      have dm : decide ((0 : Int) < (m : Int)) = true := decide_eq_true (by omega)
      have dm2 : decide (0 < m) = true := decide_eq_true (by omega)
      obtain ⟨j, hj⟩ : ∃ j, m = j + 1 := ⟨m - 1, by omega⟩
      have hjw : IntKind.i64.wrap ((m : Int) - 1) = (j : Int) := by rw [IntWalk.i64_in _ (by omega)]; omega
      have hj0 : (0 : Int) ≤ (j : Int) := by omega
      have hj1 : (j : Int) < (m : Int) := by omega
      have hjm : j < m := by omega
      clear hm0 hj
      go_wp2_with (fail)
      (with_reducible refine (pick_any r A n' c' xs' (p2 + 1 + k + 1) 2 _ HR5.out (by omega) (by omega)).mono ?_)
      rintro e w6 ⟨y, rfl, y0, y1, _, hR6, hG6⟩
      have HO6 := Lib.hid (own_but HO5.out hG6 hrl2)
      have HR6 := Lib.hid hR6
      have HG6 := Lib.hid (but_trans HG5.out hG6)
      clear hR6 hG6 y1
      by_cases hy : y = 0
      · have dy : (y == 0) = true := by simp [hy]
        clear hy y0
        obtain ⟨b, off, x, x2, hA1, _, _, hgx, hcx, _⟩ := (Rd.of_own (own_but HL.out HG6.out hrl)).pair hjm
        have hx := (HS.out (x, x2) (List.mem_of_getElem? hgx)).1
        obtain ⟨x0, x1⟩ := hx
        dsimp only at x0 x1
        subst hA1
        clear hgx
        obtain hrd6 := Lib.hid (Rd.of_own HO6.out)
        go_wp2_with (fail)
        (with_reducible refine (spoilN_any r A n' c' xs' (p2 + 1 + k + 1 + 1) _ _ k c2 A2 ms 17 _ HR6.out (by omega) hrd6.out (Nat.le_refl _) (by omega)).mono ?_)
        rintro e w9 ⟨A3, m3, c3, ys, p3, rfl, hm3, hk3, hc3x, hrd3, hR3, hp3, hG3⟩
        have HGZ := Lib.hid (but_trans HG6.out hG3)
        have hsz := HGZ.out.size
        have HLZ := Lib.hid ((Rd.of_own (own_but HL.out HGZ.out hrl)).wide (lo' := w.heap.size) (by omega) (Nat.le_refl _))
        have HYZ := Lib.hid (hrd3.wide (lo' := w.heap.size) (by have := HG5.out.size; have := HG6.out.size; omega) (Nat.le_refl _))
        have HBZ := Lib.hid (but_mineK HB1.out (but_trans HW.out HGZ.out) hrw)
        clear hrd3 hR3 hG3
        go_wp2
        exact bodyPost_ret (v := .tuple #[.slice (some ⟨b, off, none⟩) m c1, .slice A3 m3 c3, .int .i64 x]) (by simp [results, Try.results11, go_sem]) rfl ⟨_, m, c1, ps, A3, m3, c3, ys, x, rfl, hm, hk1, HLZ.out, by omega, hk3, HYZ.out, ⟨by omega, by omega⟩, HS.out, HBZ.out⟩
      have dy : (y == 0) = false := by simpa using hy
      clear hy y0
      obtain hrd6 := Lib.hid (Rd.of_own HO6.out)
      go_wp2_with (fail)
      (with_reducible refine (spoilN_any r A n' c' xs' (p2 + 1 + k + 1 + 1) _ _ k c2 A2 ms 17 _ HR6.out (by omega) hrd6.out (Nat.le_refl _) (by omega)).mono ?_)
      rintro e w9 ⟨A3, m3, c3, ys, p3, rfl, hm3, hk3, hc3x, hrd3, hR3, hp3, hG3⟩
      have HGZ := Lib.hid (but_trans HG6.out hG3)
      have hsz := HGZ.out.size
      have HLZ := Lib.hid ((Rd.of_own (own_but HL.out HGZ.out hrl)).wide (lo' := w.heap.size) (by omega) (Nat.le_refl _))
      have HYZ := Lib.hid (hrd3.wide (lo' := w.heap.size) (by have := HG5.out.size; have := HG6.out.size; omega) (Nat.le_refl _))
      have HBZ := Lib.hid (but_mineK HB1.out (but_trans HW.out HGZ.out) hrw)
      clear hrd3 hR3 hG3
      go_wp2
      exact bodyPost_ret (v := .tuple #[.slice A1 m c1, .slice A3 m3 c3, .int .i64 t]) (by simp [results, Try.results11, go_sem]) rfl ⟨A1, m, c1, ps, A3, m3, c3, ys, t, rfl, hm, hk1, HLZ.out, by omega, hk3, HYZ.out, ⟨by omega, by omega⟩, HS.out, HBZ.out⟩
end Go.Proofs.Ytfpiejcfhdnjiaa
