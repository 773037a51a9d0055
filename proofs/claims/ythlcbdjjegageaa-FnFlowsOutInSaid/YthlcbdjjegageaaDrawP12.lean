/- The drawing of processes: a process and the number of a node. -/
import Derived.Test.YthlcbdjjegageaaDrawP11
import Derived.Deep.RegionLaw
namespace Go.Proofs.Ythlcbdjjegageaa
open Go.RowKit

set_option maxHeartbeats 800000 in
theorem anyNode_any (r : Nat) (A : Option Addr) (n c : Nat) (xs : List Int) (p : Int) (An : Option Addr) (nn cn : Nat) (Af : Option Addr) (lf cf : Nat) (w : World) (h : Rdr w r A n c xs p) (hp : p ≤ 900000) (hnn : nn ≤ 21) :
    Calls Try.prog 56 #[.pointer (some ⟨r, 0, none⟩), .agg #[.slice An nn cn, .slice Af lf cf]] w (fun e w' => ∃ z : Int, e = .returned (.int .i64 z) ∧ -1 ≤ z ∧ z ≤ 22 ∧ Rdr w' r A n c xs (p + 1) ∧ But r w w') := by
  have hG0 := but_alloc (but_refl r w) (.cells #[.slice An nn cn, .slice Af lf cf] 26)
  go_enter Try.func56, Try.ntmps56
  go_wp2_with (fail)
  (with_reducible refine (pick_any r A n c xs p (nn + 2) _ (rdr_alloc h _) (by omega) (by omega)).mono ?_)
  rintro e w1 ⟨q, rfl, q0, q1, _, hR, hG⟩
  have q1' := q1 (by omega)
  clear q1
  go_wp2
  go_ret
  exact ⟨q - 1, rfl, by omega, by omega, hR, but_trans hG0 hG⟩

set_option maxRecDepth 100000 in
set_option maxHeartbeats 1600000 in
theorem drawFlowsOut_any (n c : Nat) (A : Option Addr) (xs : List Int) (w : World) (hr : Rd w 0 w.heap.size 1 A n (bvs xs)) (hby : Bytes xs) (hn : n ≤ 1048576) (hc : n ≤ c) (hc2 : c ≤ 9223372036854775807) :
    Calls Try.prog 21 #[.slice A n c] w (DrawPrN w) := by
  have hb0 := up_alloc (Below.refl _ w) (.cells #[.slice none 0 0, .slice none 0 0] 26)
  have hq0 := Blk.new w 26 #[.slice none 0 0, .slice none 0 0]
  have HR := Lib.hid ((hr.keep hb0 (Nat.le_refl _)).wide (Nat.le_refl _) hb0.size)
  have hs0 : (w.alloc (.cells #[.slice none 0 0, .slice none 0 0] 26)).heap.size = w.heap.size + 1 := by simp
  go_enter Try.func21, Try.ntmps21
  go_wp2_with (fail)
  (with_reducible refine (newReader_any n c A xs _ HR.out hby hn hc hc2).mono ?_)
  rintro e w1 ⟨r, n', c', xs', rfl, hrw, hR1, hb1⟩
  rw [hs0] at hrw
  have hq1 := hq0.below hb1 (by omega)
  have hb01 := up hb0 hb1
  have hs1 := hb1.size
  rw [hs0] at hs1
  have hrl := hR1.lt
  clear hq0 hb0 hb1 HR hr
  go_wp2_with (fail)
  (with_reducible refine (anyProcess_any r A n' c' xs' 0 w1 hR1 (by omega)).mono ?_)
  rintro e w2 hD
  obtain ⟨An, nn, cn, Af, lf, cf, ns, fs, p', rfl, hP, hR2, hp2, hG⟩ := hD.prs
  clear hD
  have hs2 := hG.size
  have hrl2 := hR2.lt
  have hn21 := hP.n21
  have hX := up_drew (up_alloc (Below.refl _ w2) (.cells #[.slice An nn cn, .slice Af lf cf] 26))
  have hq2 := (hq1.but hG (by omega)).below hX (by omega)
  have hZ2 := (Blk.new w2 26 #[.slice An nn cn, .slice Af lf cf]).drew
  have hp0 := hR2.2.2.2.2
  have hb2 : Below w.heap.size w w2 := hb01.grown hG hb01.size (fun k e => by injection e with e; omega)
  have HB2 := Lib.hid (up hb2 hX)
  have HP := Lib.hid (hP.keep hX (Nat.le_refl _))
  have HC := Lib.hid (anyNode_any r A n' c' xs' p' An nn cn Af lf cf _ (hR2.below hX) (by omega) hn21)
  have HQ := Lib.hid hq2
  have HZ := Lib.hid hZ2
  have hsx : ((w2.alloc (.cells #[.slice An nn cn, .slice Af lf cf] 26)).drew).heap.size = w2.heap.size + 1 := by simp [World.drew]
  clear hP hb2 hX hq2 hq1 hb01 hG hR2 hZ2 hR1
  go_wp2_with (fail)
  go_region_law (go_simp; go_at_call 56; (with_reducible refine HC.out.mono ?_); rintro e w3 ⟨z, rfl, hz0, hz1, _, hG3⟩
                 have hq3 := HQ.out.but hG3 (by omega)
                 have hz3 := HZ.out.but hG3 (by omega)
                 have j0 : w3.cell? ⟨w2.heap.size, 0, none⟩ = some (.slice An nn cn) := hz3.cell 0
                 have j1 : w3.cell? ⟨w2.heap.size, 1, none⟩ = some (.slice Af lf cf) := hz3.cell 1
                 have r0 : w3.cell? ⟨w.heap.size, 0, none⟩ = some (.slice none 0 0) := hq3.cell 0
                 have r1 : w3.cell? ⟨w.heap.size, 1, none⟩ = some (.slice none 0 0) := hq3.cell 1
                 have q0 := hq3.soft 0
                 have q1 := hq3.soft 1
                 have HQ3 := Lib.hid hq3
                 have HG3 := Lib.hid hG3
                 clear hq3 hz3 hG3)
  all_goals
    have hZ := (HQ3.out.put 0 (.slice An nn cn)).put 1 (.slice Af lf cf)
    have b0 := hZ.cell 0
    have b1 := hZ.cell 1
    simp at b0 b1
    have hP3 := HP.out.far HG3.out (by rw [hsx]; omega) (fun k e => by injection e with e; omega)
    have hs3 := HG3.out.size
    rw [hsx] at hs3
    have HPF := Lib.hid (((hP3.set (p := ⟨w.heap.size, 0, none⟩) (.inl (by show w.heap.size < w1.heap.size; omega)) (.slice An nn cn)).set (p := ⟨w.heap.size, 1, none⟩) (.inl (by show w.heap.size < w1.heap.size; omega)) (.slice Af lf cf)).wide (show w.heap.size ≤ w1.heap.size by omega) (show w2.heap.size ≤ ((w3.setCell ⟨w.heap.size, 0, none⟩ (.slice An nn cn)).setCell ⟨w.heap.size, 1, none⟩ (.slice Af lf cf)).heap.size by simp [World.setCell]; omega))
    have hb3 : Below w.heap.size w w3 := HB2.out.grown HG3.out HB2.out.size (fun k e => by injection e with e; omega)
    have HB := Lib.hid ((hb3.setCell (p := ⟨w.heap.size, 0, none⟩) (Nat.le_refl _) (.slice An nn cn)).setCell (p := ⟨w.heap.size, 1, none⟩) (Nat.le_refl _) (.slice Af lf cf))
    clear hZ hP3 hb3 HC HQ HZ HB2 HP j0 j1
    go_wp2
    exact bodyPost_ret (v := .tuple #[.agg #[.slice An nn cn, .slice Af lf cf], .int .i64 z]) (by simp [results, Try.results21, go_sem, b0, b1]) rfl ⟨An, nn, cn, Af, lf, cf, ns, fs, z, rfl, by omega, by omega, HPF.out, HB.out⟩
set_option maxRecDepth 100000 in
set_option maxHeartbeats 1600000 in
theorem drawFlowsIn_any (n c : Nat) (A : Option Addr) (xs : List Int) (w : World) (hr : Rd w 0 w.heap.size 1 A n (bvs xs)) (hby : Bytes xs) (hn : n ≤ 1048576) (hc : n ≤ c) (hc2 : c ≤ 9223372036854775807) :
    Calls Try.prog 24 #[.slice A n c] w (DrawPrN w) := by
  have hb0 := up_alloc (Below.refl _ w) (.cells #[.slice none 0 0, .slice none 0 0] 26)
  have hq0 := Blk.new w 26 #[.slice none 0 0, .slice none 0 0]
  have HR := Lib.hid ((hr.keep hb0 (Nat.le_refl _)).wide (Nat.le_refl _) hb0.size)
  have hs0 : (w.alloc (.cells #[.slice none 0 0, .slice none 0 0] 26)).heap.size = w.heap.size + 1 := by simp
  go_enter Try.func24, Try.ntmps24
  go_wp2_with (fail)
  (with_reducible refine (drawFlowsOut_any n c A xs _ HR.out hby hn hc hc2).mono ?_)
  rintro e w2 ⟨An, nn, cn, Af, lf, cf, ns, fs, z, rfl, hz0, hz1, hP, hb1⟩
  have hb2 := up hb0 hb1
  have hq2 := hq0.below hb1 (by omega)
  have hs1 := hb1.size
  rw [hs0] at hs1
  have r0 : w2.cell? ⟨w.heap.size, 0, none⟩ = some (.slice none 0 0) := hq2.cell 0
  have r1 : w2.cell? ⟨w.heap.size, 1, none⟩ = some (.slice none 0 0) := hq2.cell 1
  have q0 := hq2.soft 0
  have q1 := hq2.soft 1
  have hZ := (hq2.put 0 (.slice An nn cn)).put 1 (.slice Af lf cf)
  have b0 := hZ.cell 0
  have b1 := hZ.cell 1
  simp at b0 b1
  have hP' : Prs w2 (w.heap.size + 1) w2.heap.size An nn cn Af lf cf ns fs := by rw [hs0] at hP; exact hP
  have HPF := Lib.hid (((hP'.set (p := ⟨w.heap.size, 0, none⟩) (.inl (by show w.heap.size < w.heap.size + 1; omega)) (.slice An nn cn)).set (p := ⟨w.heap.size, 1, none⟩) (.inl (by show w.heap.size < w.heap.size + 1; omega)) (.slice Af lf cf)).wide (show w.heap.size ≤ w.heap.size + 1 by omega) (show w2.heap.size ≤ ((w2.setCell ⟨w.heap.size, 0, none⟩ (.slice An nn cn)).setCell ⟨w.heap.size, 1, none⟩ (.slice Af lf cf)).heap.size by simp [World.setCell]))
  have HB := Lib.hid ((hb2.setCell (p := ⟨w.heap.size, 0, none⟩) (Nat.le_refl _) (.slice An nn cn)).setCell (p := ⟨w.heap.size, 1, none⟩) (Nat.le_refl _) (.slice Af lf cf))
  clear hP hP' hb2 hZ hq2 hq0 hb1 hb0 HR hr
  go_wp2
  exact bodyPost_ret (v := .tuple #[.agg #[.slice An nn cn, .slice Af lf cf], .int .i64 z]) (by simp [results, Try.results24, go_sem, b0, b1]) rfl ⟨An, nn, cn, Af, lf, cf, ns, fs, z, rfl, by omega, by omega, HPF.out, HB.out⟩
end Go.Proofs.Ythlcbdjjegageaa
