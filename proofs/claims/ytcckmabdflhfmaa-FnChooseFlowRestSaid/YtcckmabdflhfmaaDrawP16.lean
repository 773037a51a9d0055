/- The drawing of a process, a node and values. (Written by gen/drawchoose.py.) -/
import Derived.Test.YtcckmabdflhfmaaDrawP15
import Derived.Deep.RegionLaw
namespace Go.Proofs.Ytcckmabdflhfmaa
open Go.RowKit

/-- A drawn process, a number and drawn values. -/
def DrawPrC (w : World) (e : Ending) (w' : World) : Prop :=
  ∃ An nn cn Af lf cf ns fs z A3 n3 c3 vs, e = .returned (.tuple #[.agg #[.slice An nn cn, .slice Af lf cf], .int .i64 z, .slice A3 n3 c3]) ∧ -2 ≤ z ∧ z ≤ 30 ∧ n3 ≤ 5 ∧
    Prs w' w.heap.size w'.heap.size An nn cn Af lf cf ns fs ∧ Rd w' w.heap.size w'.heap.size 1 A3 n3 (ivs vs) ∧ Below w.heap.size w w'
set_option maxRecDepth 100000 in
set_option maxHeartbeats 3200000 in
theorem drawChooseFlow_any (n c : Nat) (A : Option Addr) (xs : List Int) (w : World) (hr : Rd w 0 w.heap.size 1 A n (bvs xs)) (hby : Bytes xs) (hn : n ≤ 1048576) (hc : n ≤ c) (hc2 : c ≤ 9223372036854775807) :
    Calls Try.prog 37 #[.slice A n c] w (DrawPrC w) := by
  have hb0 := up_alloc (Below.refl _ w) (.cells #[.slice none 0 0, .slice none 0 0] 33)
  have hq0 := Blk.new w 33 #[.slice none 0 0, .slice none 0 0]
  have HR := Lib.hid ((hr.keep hb0 (Nat.le_refl _)).wide (Nat.le_refl _) hb0.size)
  have hs0 : (w.alloc (.cells #[.slice none 0 0, .slice none 0 0] 33)).heap.size = w.heap.size + 1 := by simp
  go_enter Try.func37, Try.ntmps37
  go_wp2_with (fail)
  (with_reducible refine (newReader_any n c A xs _ HR.out hby hn hc hc2).mono ?_)
  rintro e w1 ⟨r, n', c', xs', rfl, hrw, hR1, hb1⟩
  rw [hs0] at hrw
  have hq1 := hq0.below hb1 (by omega)
  have hb01 := up hb0 hb1
  have hs1 := hb1.size
  rw [hs0] at hs1
  have hrl := hR1.lt
  clear hq0 hb0 hb1 HR hr
  go_wp2_with (fail)
  (with_reducible refine (anyProcess_any r A n' c' xs' 0 w1 hR1 (by omega)).mono ?_)
  rintro e w2 hD
  obtain ⟨An, nn, cn, Af, lf, cf, ns, fs, p', rfl, hP, hR2, hp2, hG⟩ := hD.prs
  clear hD
  have hs2 := hG.size
  have hrl2 := hR2.lt
  have hn21 := hP.n21
  have hf21 := hP.f21
  have hX := up_alloc (Below.refl _ w2) (.cells #[.slice An nn cn, .slice Af lf cf] 33)
  have hq2 := (hq1.but hG (by omega)).below hX (by omega)
  have hZ2 := (Blk.new w2 33 #[.slice An nn cn, .slice Af lf cf])
  have hp0 := hR2.2.2.2.2
  have hb2 : Below w.heap.size w w2 := hb01.grown hG hb01.size (fun k e => by injection e with e; omega)
  have hsx : (w2.alloc (.cells #[.slice An nn cn, .slice Af lf cf] 33)).heap.size = w2.heap.size + 1 := by simp
  have HD := Lib.hid (show Df w _ w2.heap.size w1.heap.size r A n' c' xs' p' An nn cn Af lf cf ns fs (w2.heap.size + 1) (w2.heap.size + 1) none 0 [] from ⟨hq2, hZ2, hR2.below hX, hP.keep hX (Nat.le_refl _), Rd.nil _ _ _ _ _, by rw [hsx]; exact Nat.le_refl _, up hb2 hX⟩)
  clear hP hb2 hX hq2 hq1 hb01 hG hR2 hZ2 hR1
  go_wp2_with (fail)
  (with_reducible refine (anyNode_any r A n' c' xs' p' An nn cn Af lf cf _ HD.out.rd (by omega) hn21).mono ?_)
  rintro e w4 ⟨z0, rfl, hz0, hz1, hR4, hG4⟩
  have hs4 := hG4.size
  rw [hsx] at hs4
  have HD4 := Lib.hid (HD.out.but hG4 hR4 (by omega) (by omega) (by omega) (by omega))
  clear hR4 hG4 HD hsx
  go_wp2
  go_loopw [7, 8] (fun zv iv wr => ∃ (i : Nat) (z p4 : Int), i ≤ nn ∧ iv = .int .i64 i ∧ zv = .int .i64 z ∧ -2 ≤ z ∧ z ≤ 30 ∧ p4 ≤ p' + 1 + (i : Int) ∧ w4.heap.size ≤ wr.heap.size ∧ Hid (Df w wr w2.heap.size w1.heap.size r A n' c' xs' p4 An nn cn Af lf cf ns fs (w2.heap.size + 1) (w2.heap.size + 1) none 0 []))
     (fun _ iv _ => nn - (intOf iv).toNat)
  case atStart => exact ⟨0, z0, _, by omega, rfl, rfl, by omega, by omega, by omega, Nat.le_refl _, HD4⟩
  case round =>
    clear HD4 hz0 hz1
    obtain ⟨i, z, p4, hi, rfl, rfl, hz0, hz1, hp4, hsr, HDR⟩ := hrel
    have k0 : wr.cell? ⟨w2.heap.size, 0, none⟩ = some (.slice An nn cn) := HDR.out.here.cell 0
    have k1 : wr.cell? ⟨w2.heap.size, 1, none⟩ = some (.slice Af lf cf) := HDR.out.here.cell 1
    by_cases hlt : i < nn
    · have hi1 : (i : Int) < (nn : Int) := by omega
      have hi0 : (0 : Int) ≤ (i : Int) := by omega
      obtain ⟨b3, off3, x3, y3, hAn, _, _, hg3, he0, he1⟩ := HDR.out.prs.nodes.pair hlt
      subst hAn
      clear hg3
      by_cases hx : x3 = 5
      · subst hx
        go_wp2_with (fail)
        (with_reducible refine (pick_any r A n' c' xs' p4 5 _ HDR.out.rd (by omega) (by omega)).mono ?_)
        rintro e w6 ⟨q, rfl, q0, q1, _, hR6, hG6⟩
        have hs6 := hG6.size
        have HD6 := Lib.hid (HDR.out.but hG6 hR6 (by omega) (by omega) (by omega) (by omega))
        clear hR6 hG6 HDR k0 k1
        by_cases hq : q = 0
        · subst hq
          go_wp2
          go_roundw
          case rel => exact ⟨i + 1, z, p4 + 1, by omega, by go_num, rfl, hz0, hz1, by omega, by omega, HD6⟩
          case measure => simp [intOf]; omega
        · have hq1 : (0 : Int) < q := by omega
          go_wp2
          go_roundw
          case rel => exact ⟨i + 1, (i : Int), p4 + 1, by omega, by go_num, rfl, by omega, by omega, by omega, by omega, HD6⟩
          case measure => simp [intOf]; omega
      · have hx' : (x3 == 5) = false := by simpa using hx
        clear hx
        go_wp2
        go_roundw
        case rel => exact ⟨i + 1, z, p4, by omega, by go_num, rfl, hz0, hz1, by omega, hsr, HDR⟩
        case measure => simp [intOf]; omega
    · have hge : ¬ ((i : Int) < (nn : Int)) := by omega
      have hge' : decide ((i : Int) < (nn : Int)) = false := decide_eq_false hge
      have HC := Lib.hid (anyValues_any r A n' c' xs' p4 wr.drew (HDR.out.below (up_drew (Below.refl _ _))).rd (by omega))
      have HDD := Lib.hid (HDR.out.below (up_drew (Below.refl _ wr)))
      clear HDR
      have k0d : wr.drew.cell? ⟨w2.heap.size, 0, none⟩ = some (.slice An nn cn) := HDD.out.here.cell 0
      have k1d : wr.drew.cell? ⟨w2.heap.size, 1, none⟩ = some (.slice Af lf cf) := HDD.out.here.cell 1
      go_wp2_with (fail)
      go_region_law (go_simp; go_at_call 75; (with_reducible refine HC.out.mono ?_); rintro e w9 ⟨A9, n9, c9, vs, p9, rfl, hn9, _, _, hrd9, hR9, _, hG9⟩
                     have HD9 := Lib.hid (HDD.out.but hG9 hR9 (by omega) (by omega) (by omega) (by omega))
                     have HV9 := Lib.hid hrd9
                     have hs9 : wr.heap.size ≤ w9.heap.size := hG9.size
                     have j0 : w9.cell? ⟨w2.heap.size, 0, none⟩ = some (.slice An nn cn) := HD9.out.here.cell 0
                     have j1 : w9.cell? ⟨w2.heap.size, 1, none⟩ = some (.slice Af lf cf) := HD9.out.here.cell 1
                     have r0 : w9.cell? ⟨w.heap.size, 0, none⟩ = some (.slice none 0 0) := HD9.out.res.cell 0
                     have r1 : w9.cell? ⟨w.heap.size, 1, none⟩ = some (.slice none 0 0) := HD9.out.res.cell 1
                     have q0 := HD9.out.res.soft 0
                     have q1 := HD9.out.res.soft 1
                     clear hrd9 hR9 hG9)
      all_goals
        have hZ := (HD9.out.res.put 0 (.slice An nn cn)).put 1 (.slice Af lf cf)
        have b0 := hZ.cell 0
        have b1 := hZ.cell 1
        simp at b0 b1
        have hfin : w9.heap.size ≤ ((w9.setCell ⟨w.heap.size, 0, none⟩ (.slice An nn cn)).setCell ⟨w.heap.size, 1, none⟩ (.slice Af lf cf)).heap.size := by simp [World.setCell]
        have HPF := Lib.hid (((HD9.out.prs.set (p := ⟨w.heap.size, 0, none⟩) (.inl (by show w.heap.size < w1.heap.size; omega)) (.slice An nn cn)).set (p := ⟨w.heap.size, 1, none⟩) (.inl (by show w.heap.size < w1.heap.size; omega)) (.slice Af lf cf)).wide (show w.heap.size ≤ w1.heap.size by omega) (Nat.le_trans (show w2.heap.size ≤ w9.heap.size by omega) hfin))
        have HVF := Lib.hid (((HV9.out.setCell (p := ⟨w.heap.size, 0, none⟩) (.inl (by show w.heap.size < wr.heap.size; omega)) (.slice An nn cn)).setCell (p := ⟨w.heap.size, 1, none⟩) (.inl (by show w.heap.size < wr.heap.size; omega)) (.slice Af lf cf)).wide (show w.heap.size ≤ wr.heap.size by omega) hfin)
        have HB := Lib.hid ((HD9.out.bel.setCell (p := ⟨w.heap.size, 0, none⟩) (Nat.le_refl _) (.slice An nn cn)).setCell (p := ⟨w.heap.size, 1, none⟩) (Nat.le_refl _) (.slice Af lf cf))
        clear hZ HDD HC HV9 j0 j1 hfin
        go_wp2
        exact bodyPost_ret (v := .tuple #[.agg #[.slice An nn cn, .slice Af lf cf], .int .i64 z, .slice A9 n9 c9]) (by simp [results, Try.results37, go_sem, b0, b1]) rfl ⟨An, nn, cn, Af, lf, cf, ns, fs, z, A9, n9, c9, vs, rfl, by omega, by omega, hn9, HPF.out, HVF.out, HB.out⟩
end Go.Proofs.Ytcckmabdflhfmaa
