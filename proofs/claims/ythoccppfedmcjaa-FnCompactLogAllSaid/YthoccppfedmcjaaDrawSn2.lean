/- The arguments of CompactLog, drawn. (Written by gen/drawsn2.py.) -/
import Derived.Test.YthoccppfedmcjaaDrawSn
import Derived.Deep.RegionHeld3
set_option linter.unusedSimpArgs false
set_option linter.unusedVariables false
namespace Go.Proofs.Ythoccppfedmcjaa
open Go.RowKit

/-- One drawn snapshot and a number. -/
def DrawSZ (w : World) (e : Ending) (w' : World) : Prop :=
  ∃ (N T S : Int) (A1 : Option Addr) (m c1 : Nat) (ps : List En) (z : Int), e = .returned (.tuple #[.agg #[.int .i64 N, .int .i64 T, .int .i64 S, .slice A1 m c1], .int .i64 z]) ∧ Sm N ∧ Sm T ∧ Sm S ∧ m ≤ 17 ∧ m ≤ c1 ∧ c1 ≤ 9223372036854775807 ∧ (-1 ≤ z ∧ z ≤ 20) ∧ Rd w' w.heap.size w'.heap.size 2 A1 m (pvs ps) ∧ Below w.heap.size w w'
set_option maxRecDepth 100000 in
set_option maxHeartbeats 3200000 in
theorem drawCompactLog_any (n c : Nat) (A : Option Addr) (xs : List Int) (w : World) (hr : Rd w 0 w.heap.size 1 A n (bvs xs)) (hby : Bytes xs) (hn : n ≤ 1048576) (hc : n ≤ c) (hc2 : c ≤ 9223372036854775807) :
    Calls Try.prog 18 #[.slice A n c] w (DrawSZ w) := by
  have HQ0 := Lib.hid (Blk.new w 25 #[.int .i64 0, .int .i64 0, .int .i64 0, .slice none 0 0])
  have hb0 := up_alloc (Below.refl _ w) (.cells #[.int .i64 0, .int .i64 0, .int .i64 0, .slice none 0 0] 25)
  have HB0 := Lib.hid hb0
  have HR0 := Lib.hid ((hr.keep hb0 (Nat.le_refl _)).wide (Nat.le_refl _) hb0.size)
  have hz0 : (w.alloc (.cells #[.int .i64 0, .int .i64 0, .int .i64 0, .slice none 0 0] 25)).heap.size = w.heap.size + 1 := by simp
  clear hr hb0
  go_enter Try.func18, Try.ntmps18
  go_wp2_with (fail)
  generalize w.alloc (.cells #[.int .i64 0, .int .i64 0, .int .i64 0, .slice none 0 0] 25) = w0 at *
  (with_reducible refine (newReader_any n c A xs _ HR0.out hby hn hc hc2).mono ?_)
  rintro e w1 ⟨r, n', c', xs', rfl, hrw, hR1, hb1⟩
  have hrl := hR1.lt
  have HR1 := Lib.hid hR1
  have HB1 := Lib.hid (up HB0.out hb1)
  have HQ1 := Lib.hid (HQ0.out.below hb1 HQ0.out.lt)
  have hz1 := hb1.size
  clear hR1 hb1 HQ0 HB0 HR0
  go_wp2_with (fail)
  (with_reducible refine (anySnap_any r A n' c' xs' 0 w1 HR1.out (by omega)).mono ?_)
  rintro e w2 ⟨N, T, S, A1, m, c1, ps, p2, rfl, hN, hT, hS, hm, hk1, hcx, ho2, hR2, hp2, hG2⟩
  have HE3 := Lib.hid (Blk.new w2 25 #[.int .i64 N, .int .i64 T, .int .i64 S, .slice A1 m c1])
  have HQ3 := Lib.hid ((HQ1.out.butS hG2 (by omega)).alloc (.cells #[.int .i64 N, .int .i64 T, .int .i64 S, .slice A1 m c1] 25))
  have HO3 := Lib.hid (ho2.alloc (.cells #[.int .i64 N, .int .i64 T, .int .i64 S, .slice A1 m c1] 25))
  have HR3 := Lib.hid (rdr_alloc hR2 (.cells #[.int .i64 N, .int .i64 T, .int .i64 S, .slice A1 m c1] 25))
  have HG3 := Lib.hid (but_alloc hG2 (.cells #[.int .i64 N, .int .i64 T, .int .i64 S, .slice A1 m c1] 25))
  have hz2 := hG2.size
  have hz3 : (w2.alloc (.cells #[.int .i64 N, .int .i64 T, .int .i64 S, .slice A1 m c1] 25)).heap.size = w2.heap.size + 1 := by simp
  clear ho2 hR2 hG2 HQ1 HR1
  have hw3 : IntKind.i64.wrap ((m : Int) + 3) = (m : Int) + 3 := IntWalk.i64_in _ (by omega)
  have e0 := HE3.out.cell 0
  have e1 := HE3.out.cell 1
  have e2 := HE3.out.cell 2
  have e3 := HE3.out.cell 3
  go_wp2_with (fail)
  clear e0 e1 e2 e3
  generalize w2.alloc (.cells #[.int .i64 N, .int .i64 T, .int .i64 S, .slice A1 m c1] 25) = w3 at *
  obtain ⟨g, hgg⟩ : ∃ g, g = w2.heap.size := ⟨_, rfl⟩
  rw [← hgg] at HE3 ⊢
  have hg1 : w1.heap.size ≤ g := by omega
  have hg2 : g + 1 = w3.heap.size := by omega
  clear hgg
  have hgq : g ≠ w.heap.size := by omega
  have HS := Lib.hid (show ∀ wx, Blk wx g 25 #[.int .i64 N, .int .i64 T, .int .i64 S, .slice A1 m c1] → wx.cell? ⟨g, 0, none⟩ = some (.int .i64 N) ∧ wx.cell? ⟨g, 1, none⟩ = some (.int .i64 T) ∧ wx.cell? ⟨g, 2, none⟩ = some (.int .i64 S) ∧ wx.cell? ⟨g, 3, none⟩ = some (.slice A1 m c1) from fun wx hB => ⟨hB.cell 0, hB.cell 1, hB.cell 2, hB.cell 3⟩)
  have HN := Lib.hid (show ∀ wx, Below w3.heap.size w3 wx → Calls Try.prog 32 #[.pointer (some ⟨r, 0, none⟩), .int .i64 ((m : Int) + 3)] wx fun e w' => ∃ y : Int, e = .returned (.int .i64 y) ∧ 0 ≤ y ∧ y ≤ 20 ∧ But r w3 w' from fun wx hb => (pick_any r A n' c' xs' p2 ((m : Int) + 3) wx (HR3.out.below hb) (by omega) (by omega)).mono (by
    rintro e w' ⟨y, rfl, y0, y1, _, _, hG⟩
    exact ⟨y, rfl, y0, by have := y1 (by omega); omega, but_trans (but_below (but_refl _ _) hb) hG⟩))
  obtain ⟨e0, e1, e2, e3⟩ := HS.out _ HE3.out
  go_region_held3 (fun wx => wx.cell? ⟨g, 0, none⟩ = some (.int .i64 N) ∧ wx.cell? ⟨g, 1, none⟩ = some (.int .i64 T) ∧ wx.cell? ⟨g, 2, none⟩ = some (.int .i64 S) ∧ wx.cell? ⟨g, 3, none⟩ = some (.slice A1 m c1))
    (first | with_reducible exact HS.out _ HE3.out | with_reducible exact HS.out _ HE3.out.drew | with_reducible exact HS.out _ HE6.out | with_reducible exact HS.out _ ((((HE6.out.far (p := ⟨w.heap.size, 0, none⟩) hgq (.int .i64 N)).far (p := ⟨w.heap.size, 1, none⟩) hgq (.int .i64 T)).far (p := ⟨w.heap.size, 2, none⟩) hgq (.int .i64 S)).far (p := ⟨w.heap.size, 3, none⟩) hgq (.slice A1 m c1)))
    ((first
      | (go_at_call 32; (with_reducible refine (HN.out _ (up_drew (Below.refl _ _))).mono ?_); rintro e w6 ⟨y, rfl, y0, y1, hG6⟩; have hwy : IntKind.i64.wrap (y - 1) = y - 1 := IntWalk.i64_in _ (by omega); have HE6 := Lib.hid (HE3.out.butS hG6 (by omega)); have HQ6 := Lib.hid (HQ3.out.butS hG6 (by omega)); have q0 := HQ6.out.cell 0; have q1 := HQ6.out.cell 1; have q2 := HQ6.out.cell 2; have q3 := HQ6.out.cell 3; have f0 := HQ6.out.soft 0; have f1 := HQ6.out.soft 1; have f2 := HQ6.out.soft 2; have f3 := HQ6.out.soft 3; have HG6 := Lib.hid hG6; clear hG6)
      | fail "no arm"))
  all_goals
    clear HN HS e0 e1 e2 e3
    have HO6 := Lib.hid (own_but HO3.out HG6.out hrl)
    have hz6 := HG6.out.size
    have hzz := (((HQ6.out.put 0 (.int .i64 N)).put 1 (.int .i64 T)).put 2 (.int .i64 S)).put 3 (.slice A1 m c1)
    have z0 := hzz.cell 0
    have z1 := hzz.cell 1
    have z2 := hzz.cell 2
    have z3 := hzz.cell 3
    simp at z0 z1 z2 z3
    have HB6 := Lib.hid (but_mineK HB1.out (but_trans HG3.out HG6.out) (by omega))
    have hne : ∀ k, (Value.slice A1 m c1).ownBlock = some k → k ≠ w.heap.size := fun k hk => by have := HO6.out.lt k hk; omega
    have HOz := Lib.hid (own_set (p := ⟨w.heap.size, 3, none⟩) (own_set (p := ⟨w.heap.size, 2, none⟩) (own_set (p := ⟨w.heap.size, 1, none⟩) (own_set (p := ⟨w.heap.size, 0, none⟩) HO6.out (.int .i64 N) hne) (.int .i64 T) hne) (.int .i64 S) hne) (.slice A1 m c1) hne)
    have HBz := Lib.hid ((((HB6.out.setCell (p := ⟨w.heap.size, 0, none⟩) (Nat.le_refl _) (.int .i64 N)).setCell (p := ⟨w.heap.size, 1, none⟩) (Nat.le_refl _) (.int .i64 T)).setCell (p := ⟨w.heap.size, 2, none⟩) (Nat.le_refl _) (.int .i64 S)).setCell (p := ⟨w.heap.size, 3, none⟩) (Nat.le_refl _) (.slice A1 m c1))
    clear hzz HG6 HO6 HB6
    go_wp2
    exact bodyPost_ret (v := .tuple #[.agg #[.int .i64 N, .int .i64 T, .int .i64 S, .slice A1 m c1], .int .i64 (y - 1)]) (by simp [results, Try.results18, go_sem, z0, z1, z2, z3]) rfl ⟨N, T, S, A1, m, c1, ps, y - 1, rfl, hN, hT, hS, hm, hk1, hcx, ⟨by omega, by omega⟩, (Rd.of_own HOz.out).wide (by omega) (Nat.le_refl _), HBz.out⟩
end Go.Proofs.Ythoccppfedmcjaa
