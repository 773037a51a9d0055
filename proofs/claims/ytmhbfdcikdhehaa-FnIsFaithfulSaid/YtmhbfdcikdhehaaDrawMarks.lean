/- Merged: DrawP13, DrawP14. -/
import Derived.Test.YtmhbfdcikdhehaaDrawP12
import Derived.Test.YtmhbfdcikdhehaaDrawVals
import Derived.Deep.RegionLaw
/- The drawing of processes: tokens, values, and what the laws on them draw. -/
set_option linter.unusedSimpArgs false
set_option linter.unusedVariables false
namespace Go.Proofs.Ytmhbfdcikdhehaa
open Go.RowKit


theorem set_range (ys : List Int) (k : Nat) (x : Int) (h : ∀ z ∈ ys, 0 ≤ z ∧ z ≤ 3) (hx : 0 ≤ x ∧ x ≤ 3) : ∀ z ∈ ys.set k x, 0 ≤ z ∧ z ≤ 3 := fun z hz => by
  rcases List.mem_or_eq_of_mem_set hz with h' | rfl
  · exact h z h'
  · exact hx
set_option maxRecDepth 100000 in
set_option maxHeartbeats 1600000 in
theorem anyMarks_any (r : Nat) (A : Option Addr) (n c : Nat) (xs : List Int) (p : Int) (An : Option Addr) (nn cn : Nat) (Af : Option Addr) (lf cf : Nat) (w : World) (h : Rdr w r A n c xs p) (hp : p ≤ 800000) (hlf : lf ≤ 21) :
    Calls Try.prog 33 #[.pointer (some ⟨r, 0, none⟩), .agg #[.slice An nn cn, .slice Af lf cf]] w (IntsPost r A n c xs p 20 22 w) := by
  obtain ⟨i0, hi0, hz0, hz1, hz2⟩ := info_parts infoIntD
  have hrb := h.lt
  have hp0 := h.2.2.2.2
  have hG1 := but_alloc (but_refl r w) (.cells #[.slice An nn cn, .slice Af lf cf] 26)
  have hR1 := rdr_alloc h (.cells #[.slice An nn cn, .slice Af lf cf] 26)
  have hp1 := Blk.new w 26 #[.slice An nn cn, .slice Af lf cf]
  have hs1 : (w.alloc (.cells #[.slice An nn cn, .slice Af lf cf] 26)).heap.size = w.heap.size + 1 := by simp
  obtain ⟨wm, hmk, hown, hgr⟩ := run_make_full (P := Try.prog) (w.alloc (.cells #[.slice An nn cn, .slice Af lf cf] 26)) (w.heap.size + 1) 27 3 i0 _ 1 Try.underlying27 hi0 hz0 hz1 .i64 .i64 lf (by rw [hz2]; omega) (by unfold maxLen; omega) (by rw [hs1]; exact Nat.le_refl _)
  have hbm : Below (w.alloc (.cells #[.slice An nn cn, .slice Af lf cf] 26)).heap.size (w.alloc (.cells #[.slice An nn cn, .slice Af lf cf] 26)) wm := (Below.refl _ _).grown hgr (Nat.le_refl _) (by simp)
  have hRm := hR1.below hbm
  have hGm := but_below hG1 hbm
  rw [hs1] at hown hmk
  have hcell0 : (madeCells (Value.int .i64 0).cells (lf * 1)).toList = ivs (List.replicate lf 0) := by
    show (madeCells #[.int .i64 0] (lf * 1)).toList = _
    rw [toList_madeCells_one, Nat.mul_one]; simp [ivs]
  rw [hcell0] at hown
  have HO := Lib.hid hown
  clear hcell0 hgr hp1 hG1 hR1 hbm hown hs1
  go_enter Try.func33, Try.ntmps33
  go_wp2_with (fail)
  clear hmk
  have hb := Blk.new wm 3 #[.int .i64 1, .int .i64 2, .int .i64 3, .int .i64 0, .int .i64 6]
  (with_reducible refine (one_any r A n c xs p wm.heap.size (wm.heap.size + 1) 5 5 _ [1, 2, 3, 0, 6] _ (rdr_alloc hRm _) (by omega) (Rd.of_blk hb rfl) (by simp) (by omega) (by omega) (.inl hRm.lt)).mono ?_)
  rintro e w2 ⟨x, rfl, hx, hR2, hG2⟩
  have hx0 : 0 ≤ x ∧ x ≤ 6 := by simp at hx; omega
  have HO2 := Lib.hid (own_but (HO.out.alloc _) hG2 (by omega))
  have hGX := but_trans (but_alloc hGm _) hG2
  have HR2 := Lib.hid hR2
  have HGX := Lib.hid hGX
  have hx1 := hx0.1
  have hx2 := hx0.2
  clear hb hG2 hGm hRm hx hx0 HO hR2 hGX h hi0 hz0 hz1 hz2
  go_wp2
  go_loopw [6] (fun nv wr => ∃ (k : Nat) (ys : List Int), nv = .int .i64 k ∧ k ≤ 6 ∧ ys.length = lf ∧ (∀ z ∈ ys, 0 ≤ z ∧ z ≤ 3) ∧ wr.ownsRow (w.heap.size + 1) 3 1 (.slice (some ⟨w.heap.size + 1, 0, none⟩) lf lf) lf (ivs ys) ∧ (∃ p', Rdr wr r A n c xs p' ∧ p' ≤ p + 1 + (6 - k)) ∧ But r w wr)
     (fun nv _ => (intOf nv).toNat)
  case atStart =>
    obtain ⟨x, rfl⟩ := Int.eq_ofNat_of_zero_le hx1
    exact ⟨x, List.replicate lf 0, rfl, by omega, by simp, fun z hz => by rw [(List.mem_replicate.1 hz).2]; omega, HO2.out, ⟨_, HR2.out, by omega⟩, HGX.out⟩
  case round =>
    clear HO2 HR2 HGX
    obtain ⟨k, ys, rfl, hk6, hyl, hy3, hown, ⟨p', hR, hpp⟩, hG⟩ := hrel
    have HY := Lib.hid hyl
    have H3 := Lib.hid hy3
    clear hyl hy3
    by_cases hgo : 0 < k ∧ 0 < lf
    · obtain ⟨g1, g2⟩ := hgo
      have g1' : (0 : Int) < (k : Int) := by omega
      have g2' : (0 : Int) < (lf : Int) := by omega
      have HOw := Lib.hid hown
      have HGw := Lib.hid hG
      clear hown hG
      go_wp2_with (fail)
      (with_reducible refine (pick_any r A n c xs p' (lf : Int) _ hR (by omega) (by omega)).mono ?_)
      rintro e w3 ⟨q, rfl, q0, q1, _, hR3, hG3⟩
      have q1' := q1 (by omega)
      obtain ⟨q, rfl⟩ := Int.eq_ofNat_of_zero_le q0
      have hown3 := own_but HOw.out hG3 (by omega)
      have hG3' := but_trans HGw.out hG3
      clear hG3 hR q1 HOw HGw
      have hql : q < lf := by omega
      have hd0 := hown3.cellAt q (by omega)
      obtain ⟨y, hy⟩ : ∃ y, ys[q]? = some y := ⟨_, List.getElem?_eq_getElem (by rw [HY.out]; exact hql)⟩
      have hyv : (ivs ys)[q]? = some (.int .i64 y) := by simp [ivs, hy]
      have hyr := H3.out y (List.mem_of_getElem? hy)
      rw [hyv] at hd0
      have hy0 := hyr.1
      have hy9 := hyr.2
      have hf0 := hown3.frozenAt q
      have HS := Lib.hid (show ∀ v : Int, (w3.setCell ⟨w.heap.size + 1, q, none⟩ (.int .i64 v)).ownsRow (w.heap.size + 1) 3 1 (.slice (some ⟨w.heap.size + 1, 0, none⟩) lf lf) lf (ivs (ys.set q v)) from fun v => by
        have hst := (hown3.stored q (.int .i64 v)).1
        rw [show (ivs ys).set q (.int .i64 v) = ivs (ys.set q v) by simp [ivs, List.map_set]] at hst
        exact hst)
      have hne : r ≠ w.heap.size + 1 := by omega
      have HRR := Lib.hid (show ∀ v : Int, Rdr (w3.setCell ⟨w.heap.size + 1, q, none⟩ (.int .i64 v)) r A n c xs (p' + 1) from fun v =>
        ⟨hR3.1.far hne _, hR3.2.1.setCell (p := ⟨w.heap.size + 1, _, none⟩) (.inr (by show r ≤ w.heap.size + 1; omega)) _, hR3.2.2⟩)
      have HGG := Lib.hid (show ∀ v : Int, But r w (w3.setCell ⟨w.heap.size + 1, q, none⟩ (.int .i64 v)) from fun v => but_put hG3' (p := ⟨w.heap.size + 1, _, none⟩) (.inr (by show w.heap.size ≤ w.heap.size + 1; omega)) _)
      clear hown3 hyv hy hyr hG3' hR3
      go_wp2
      go_roundw
      case rel => exact ⟨k - 1, ys.set q (min (y + 1) 3), by go_num, by omega, by rw [List.length_set]; exact HY.out, set_range ys q _ H3.out (by omega), HS.out _, ⟨_, HRR.out _, by omega⟩, HGG.out _⟩
      case measure => simp [intOf]; omega
    · have hO := Lib.hid (Rd.of_own hown)
      clear hown
      rcases (show k = 0 ∨ (0 < k ∧ lf = 0) by omega) with rfl | ⟨g1, rfl⟩
      all_goals
        go_wp2_with (fail)
        (with_reducible refine (spoilN_any r A n c xs p' _ _ _ _ _ ys 4 _ hR (by omega) hO.out (Nat.le_refl _) (by omega)).mono ?_)
        rintro e w4 ⟨A', n', c', zs, p2, rfl, hn2, hc2, hm2, hrd, hR4, hp2, hG4⟩
        go_wp2
        go_ret
        exact ⟨A', n', c', zs, p2, rfl, by omega, hc2, hm2, hrd.wide hG.size (Nat.le_refl _), hR4, by omega, but_trans hG hG4⟩
end Go.Proofs.Ytmhbfdcikdhehaa


/- The drawing of a process and tokens. (Written by gen/drawmarks.py.) -/
namespace Go.Proofs.Ytmhbfdcikdhehaa
open Go.RowKit

/-- A drawn process, and drawn tokens. -/
def DrawPrM (w : World) (e : Ending) (w' : World) : Prop :=
  ∃ An nn cn Af lf cf ns fs A2 n2 c2 ms, e = .returned (.tuple #[.agg #[.slice An nn cn, .slice Af lf cf], .slice A2 n2 c2]) ∧ n2 ≤ 22 ∧ Prs w' w.heap.size w'.heap.size An nn cn Af lf cf ns fs ∧ Rd w' w.heap.size w'.heap.size 1 A2 n2 (ivs ms) ∧ Below w.heap.size w w'
set_option maxRecDepth 100000 in
set_option maxHeartbeats 1600000 in
theorem drawReadyNodes_any (n c : Nat) (A : Option Addr) (xs : List Int) (w : World) (hr : Rd w 0 w.heap.size 1 A n (bvs xs)) (hby : Bytes xs) (hn : n ≤ 1048576) (hc : n ≤ c) (hc2 : c ≤ 9223372036854775807) :
    Calls Try.prog 14 #[.slice A n c] w (DrawPrM w) := by
  have hb0 := up_alloc (Below.refl _ w) (.cells #[.slice none 0 0, .slice none 0 0] 26)
  have hq0 := Blk.new w 26 #[.slice none 0 0, .slice none 0 0]
  have HR := Lib.hid ((hr.keep hb0 (Nat.le_refl _)).wide (Nat.le_refl _) hb0.size)
  have hs0 : (w.alloc (.cells #[.slice none 0 0, .slice none 0 0] 26)).heap.size = w.heap.size + 1 := by simp
  go_enter Try.func14, Try.ntmps14
  go_wp2_with (fail)
  (with_reducible refine (newReader_any n c A xs _ HR.out hby hn hc hc2).mono ?_)
  rintro e w1 ⟨r, n', c', xs', rfl, hrw, hR1, hb1⟩
  rw [hs0] at hrw
  have hq1 := hq0.below hb1 (by omega)
  have hb01 := up hb0 hb1
  have hs1 := hb1.size
  rw [hs0] at hs1
  have hrl := hR1.lt
  clear hq0 hb0 hb1 HR hr
  go_wp2_with (fail)
  (with_reducible refine (anyProcess_any r A n' c' xs' 0 w1 hR1 (by omega)).mono ?_)
  rintro e w2 hD
  obtain ⟨An, nn, cn, Af, lf, cf, ns, fs, p', rfl, hP, hR2, hp2, hG⟩ := hD.prs
  clear hD
  have hs2 := hG.size
  have hrl2 := hR2.lt
  have hf21 := hP.f21
  have hX := up_drew (up_alloc (Below.refl _ w2) (.cells #[.slice An nn cn, .slice Af lf cf] 26))
  have hq2 := (hq1.but hG (by omega)).below hX (by omega)
  have hZ2 := (Blk.new w2 26 #[.slice An nn cn, .slice Af lf cf]).drew
  have hp0 := hR2.2.2.2.2
  have hb2 : Below w.heap.size w w2 := hb01.grown hG hb01.size (fun k e => by injection e with e; omega)
  have HB2 := Lib.hid (up hb2 hX)
  have HP := Lib.hid (hP.keep hX (Nat.le_refl _))
  have HC := Lib.hid (anyMarks_any r A n' c' xs' p' An nn cn Af lf cf _ (hR2.below hX) (by omega) hf21)
  have HQ := Lib.hid hq2
  have HZ := Lib.hid hZ2
  have hsx : ((w2.alloc (.cells #[.slice An nn cn, .slice Af lf cf] 26)).drew).heap.size = w2.heap.size + 1 := by simp [World.drew]
  clear hP hb2 hX hq2 hq1 hb01 hG hR2 hZ2 hR1
  go_wp2_with (fail)
  go_region_law (go_simp; go_at_call 33; (with_reducible refine HC.out.mono ?_); rintro e w3 ⟨A2, n2, c2, ms, p3, rfl, hn2, _, _, hrd, _, _, hG3⟩
                 have hq3 := HQ.out.but hG3 (by omega)
                 have hz3 := HZ.out.but hG3 (by omega)
                 have j0 : w3.cell? ⟨w2.heap.size, 0, none⟩ = some (.slice An nn cn) := hz3.cell 0
                 have j1 : w3.cell? ⟨w2.heap.size, 1, none⟩ = some (.slice Af lf cf) := hz3.cell 1
                 have r0 : w3.cell? ⟨w.heap.size, 0, none⟩ = some (.slice none 0 0) := hq3.cell 0
                 have r1 : w3.cell? ⟨w.heap.size, 1, none⟩ = some (.slice none 0 0) := hq3.cell 1
                 have q0 := hq3.soft 0
                 have q1 := hq3.soft 1
                 have HQ3 := Lib.hid hq3
                 have HG3 := Lib.hid hG3
                 have HRD := Lib.hid hrd
                 clear hq3 hz3 hG3 hrd)
  all_goals
    have hZ := (HQ3.out.put 0 (.slice An nn cn)).put 1 (.slice Af lf cf)
    have b0 := hZ.cell 0
    have b1 := hZ.cell 1
    simp at b0 b1
    have hP3 := HP.out.far HG3.out (by rw [hsx]; omega) (fun k e => by injection e with e; omega)
    have hs3 := HG3.out.size
    rw [hsx] at hs3
    have HPF := Lib.hid (((hP3.set (p := ⟨w.heap.size, 0, none⟩) (.inl (by show w.heap.size < w1.heap.size; omega)) (.slice An nn cn)).set (p := ⟨w.heap.size, 1, none⟩) (.inl (by show w.heap.size < w1.heap.size; omega)) (.slice Af lf cf)).wide (show w.heap.size ≤ w1.heap.size by omega) (show w2.heap.size ≤ ((w3.setCell ⟨w.heap.size, 0, none⟩ (.slice An nn cn)).setCell ⟨w.heap.size, 1, none⟩ (.slice Af lf cf)).heap.size by simp [World.setCell]; omega))
    have hb3 : Below w.heap.size w w3 := HB2.out.grown HG3.out HB2.out.size (fun k e => by injection e with e; omega)
    have hrd := HRD.out
    rw [hsx] at hrd
    have HRF := Lib.hid (((hrd.setCell (p := ⟨w.heap.size, 0, none⟩) (.inl (by show w.heap.size < w2.heap.size + 1; omega)) (.slice An nn cn)).setCell (p := ⟨w.heap.size, 1, none⟩) (.inl (by show w.heap.size < w2.heap.size + 1; omega)) (.slice Af lf cf)).wide (show w.heap.size ≤ w2.heap.size + 1 by omega) (show w3.heap.size ≤ ((w3.setCell ⟨w.heap.size, 0, none⟩ (.slice An nn cn)).setCell ⟨w.heap.size, 1, none⟩ (.slice Af lf cf)).heap.size by simp [World.setCell]))
    clear hrd
    have HB := Lib.hid ((hb3.setCell (p := ⟨w.heap.size, 0, none⟩) (Nat.le_refl _) (.slice An nn cn)).setCell (p := ⟨w.heap.size, 1, none⟩) (Nat.le_refl _) (.slice Af lf cf))
    clear hZ hP3 hb3 HC HQ HZ HB2 HP j0 j1
    go_wp2
    exact bodyPost_ret (v := .tuple #[.agg #[.slice An nn cn, .slice Af lf cf], .slice A2 n2 c2]) (by simp [results, Try.results14, go_sem, b0, b1]) rfl ⟨An, nn, cn, Af, lf, cf, ns, fs, A2, n2, c2, ms, rfl, by omega, HPF.out, HRF.out, HB.out⟩
end Go.Proofs.Ytmhbfdcikdhehaa

