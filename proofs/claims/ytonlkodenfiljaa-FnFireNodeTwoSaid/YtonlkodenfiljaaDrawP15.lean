/- The drawing of a process, tokens, a node and values. (Written by gen/drawfire.py.) -/
import Derived.Test.YtonlkodenfiljaaDrawMarks
import Derived.Test.YtonlkodenfiljaaTokReadyS
import Derived.Deep.RegionLaw
set_option linter.unusedSimpArgs false
set_option linter.unusedVariables false
namespace Go.Proofs.Ytonlkodenfiljaa
open Go.RowKit

/-- A drawn process, drawn tokens, a number and drawn values. -/
def DrawPrF (w : World) (e : Ending) (w' : World) : Prop :=
  ∃ An nn cn Af lf cf ns fs A2 n2 c2 ms z A3 n3 c3 vs, e = .returned (.tuple #[.agg #[.slice An nn cn, .slice Af lf cf], .slice A2 n2 c2, .int .i64 z, .slice A3 n3 c3]) ∧ n2 ≤ 22 ∧ -2 ≤ z ∧ z ≤ 30 ∧ n3 ≤ 5 ∧
    Prs w' w.heap.size w'.heap.size An nn cn Af lf cf ns fs ∧ Rd w' w.heap.size w'.heap.size 1 A2 n2 (ivs ms) ∧ Rd w' w.heap.size w'.heap.size 1 A3 n3 (ivs vs) ∧ Below w.heap.size w w'
theorem ready_mem_lt {ns : List (Int × Int)} {fs : List Flw} {ms : List Int} {z : Int} (h : z ∈ readyOf ns fs ms) : 0 ≤ z ∧ z < (ns.length : Int) := by
  unfold readyOf at h
  split at h
  · obtain ⟨k, hk, he⟩ := List.mem_map.1 h
    have := List.mem_range.1 (List.mem_filter.1 hk).1
    omega
  · simp at h
/-- Where DrawFireNode stands: the reader, what it has drawn, its two blocks. -/
structure Df (w w' : World) (g q r : Nat) (A : Option Addr) (n c : Nat) (xs : List Int) (p : Int) (An : Option Addr) (nn cn : Nat) (Af : Option Addr) (lf cf : Nat) (ns : List (Int × Int)) (fs : List Flw) (h0 h1 : Nat) (A2 : Option Addr) (n2 : Nat) (ms : List Int) : Prop where
  res : Blk w' w.heap.size 26 #[.slice none 0 0, .slice none 0 0]
  here : Blk w' g 26 #[.slice An nn cn, .slice Af lf cf]
  rd : Rdr w' r A n c xs p
  prs : Prs w' q g An nn cn Af lf cf ns fs
  tok : Rd w' h0 h1 1 A2 n2 (ivs ms)
  mh : h1 ≤ w'.heap.size
  bel : Below w.heap.size w w'
section
variable {w w' w2 : World} {g q r : Nat} {A : Option Addr} {n c : Nat} {xs : List Int} {p p2 : Int} {An : Option Addr} {nn cn : Nat} {Af : Option Addr} {lf cf : Nat} {ns : List (Int × Int)} {fs : List Flw} {h0 h1 : Nat} {A2 : Option Addr} {n2 : Nat} {ms : List Int}
theorem Df.but (h : Df w w' g q r A n c xs p An nn cn Af lf cf ns fs h0 h1 A2 n2 ms) (hG : But r w' w2) (hR : Rdr w2 r A n c xs p2) (h1' : w.heap.size < r) (h2' : r < q) (h3' : r < g) (h4' : r < h0) : Df w w2 g q r A n c xs p2 An nn cn Af lf cf ns fs h0 h1 A2 n2 ms :=
  ⟨h.res.but hG (by omega), h.here.but hG (by omega), hR, h.prs.far hG (Nat.le_of_lt h.here.lt) (fun k e => by injection e with e; omega), h.tok.far hG h.mh (fun k e => by injection e with e; omega), Nat.le_trans h.mh hG.size,
    h.bel.grown hG h.bel.size (fun k e => by injection e with e; omega)⟩
theorem Df.below (h : Df w w' g q r A n c xs p An nn cn Af lf cf ns fs h0 h1 A2 n2 ms) (hb : Below w'.heap.size w' w2) : Df w w2 g q r A n c xs p An nn cn Af lf cf ns fs h0 h1 A2 n2 ms :=
  ⟨h.res.below hb h.res.lt, h.here.below hb h.here.lt, h.rd.below hb, h.prs.keep hb (Nat.le_of_lt h.here.lt), h.tok.keep hb h.mh, Nat.le_trans h.mh hb.size, up h.bel hb⟩
end
set_option maxRecDepth 100000 in
set_option maxHeartbeats 3200000 in
theorem drawFireNode_any (n c : Nat) (A : Option Addr) (xs : List Int) (w : World) (hr : Rd w 0 w.heap.size 1 A n (bvs xs)) (hby : Bytes xs) (hn : n ≤ 1048576) (hc : n ≤ c) (hc2 : c ≤ 9223372036854775807) :
    Calls Try.prog 23 #[.slice A n c] w (DrawPrF w) := by
  have hb0 := up_alloc (Below.refl _ w) (.cells #[.slice none 0 0, .slice none 0 0] 26)
  have hq0 := Blk.new w 26 #[.slice none 0 0, .slice none 0 0]
  have HR := Lib.hid ((hr.keep hb0 (Nat.le_refl _)).wide (Nat.le_refl _) hb0.size)
  have hs0 : (w.alloc (.cells #[.slice none 0 0, .slice none 0 0] 26)).heap.size = w.heap.size + 1 := by simp
  go_enter Try.func23, Try.ntmps23
  go_wp2_with (fail)
  (with_reducible refine (newReader_any n c A xs _ HR.out hby hn hc hc2).mono ?_)
  rintro e w1 ⟨r, n', c', xs', rfl, hrw, hR1, hb1⟩
  rw [hs0] at hrw
  have hq1 := hq0.below hb1 (by omega)
  have hb01 := up hb0 hb1
  have hs1 := hb1.size
  rw [hs0] at hs1
  have hrl := hR1.lt
  clear hq0 hb0 hb1 HR hr
  go_wp2_with (fail)
  (with_reducible refine (anyProcess_any r A n' c' xs' 0 w1 hR1 (by omega)).mono ?_)
  rintro e w2 hD
  obtain ⟨An, nn, cn, Af, lf, cf, ns, fs, p', rfl, hP, hR2, hp2, hG⟩ := hD.prs
  clear hD
  have hs2 := hG.size
  have hrl2 := hR2.lt
  have hn21 := hP.n21
  have hf21 := hP.f21
  have hX := up_alloc (Below.refl _ w2) (.cells #[.slice An nn cn, .slice Af lf cf] 26)
  have hq2 := (hq1.but hG (by omega)).below hX (by omega)
  have hZ2 := (Blk.new w2 26 #[.slice An nn cn, .slice Af lf cf])
  have hp0 := hR2.2.2.2.2
  have hb2 : Below w.heap.size w w2 := hb01.grown hG hb01.size (fun k e => by injection e with e; omega)
  have hsx : (w2.alloc (.cells #[.slice An nn cn, .slice Af lf cf] 26)).heap.size = w2.heap.size + 1 := by simp
  have HD := Lib.hid (show Df w _ w2.heap.size w1.heap.size r A n' c' xs' p' An nn cn Af lf cf ns fs (w2.heap.size + 1) (w2.heap.size + 1) none 0 [] from ⟨hq2, hZ2, hR2.below hX, hP.keep hX (Nat.le_refl _), Rd.nil _ _ _ _ _, by rw [hsx]; exact Nat.le_refl _, up hb2 hX⟩)
  clear hP hb2 hX hq2 hq1 hb01 hG hR2 hZ2 hR1
  go_wp2_with (fail)
  (with_reducible refine (anyMarks_any r A n' c' xs' p' An nn cn Af lf cf _ HD.out.rd (by omega) hf21).mono ?_)
  rintro e w3 ⟨A2, n2, c2, ms, p3, rfl, hn2, _, _, hrd, hR3, hp3, hG3⟩
  have hs3 := hG3.size
  rw [hsx] at hs3
  have hd3 := HD.out.but hG3 hR3 (by omega) (by omega) (by omega) (by omega)
  rw [hsx] at hrd
  have HD3 := Lib.hid (show Df w w3 w2.heap.size w1.heap.size r A n' c' xs' p3 An nn cn Af lf cf ns fs (w2.heap.size + 1) w3.heap.size A2 n2 ms from ⟨hd3.res, hd3.here, hd3.rd, hd3.prs, hrd, Nat.le_refl _, hd3.bel⟩)
  clear hd3 hrd hR3 hG3 HD hsx
  have k0 : w3.cell? ⟨w2.heap.size, 0, none⟩ = some (.slice An nn cn) := HD3.out.here.cell 0
  have k1 : w3.cell? ⟨w2.heap.size, 1, none⟩ = some (.slice Af lf cf) := HD3.out.here.cell 1
  go_wp2_with (fail)
  (with_reducible refine (anyNode_any r A n' c' xs' p3 An nn cn Af lf cf _ HD3.out.rd (by omega) hn21).mono ?_)
  rintro e w4 ⟨z, rfl, hz0, hz1, hR4, hG4⟩
  have hs4 := hG4.size
  have HD4 := Lib.hid (HD3.out.but hG4 hR4 (by omega) (by omega) (by omega) (by omega))
  clear hR4 hG4 HD3 k0 k1
  have k0 : w4.cell? ⟨w2.heap.size, 0, none⟩ = some (.slice An nn cn) := HD4.out.here.cell 0
  have k1 : w4.cell? ⟨w2.heap.size, 1, none⟩ = some (.slice Af lf cf) := HD4.out.here.cell 1
  go_wp2_with (fail)
  (with_reducible refine (ReadyNodesS_any w1.heap.size w2.heap.size nn cn An ns w1.heap.size w2.heap.size lf cf Af fs _ _ n2 c2 A2 ms _ HD4.out.prs.nodes (by omega) (by omega) HD4.out.prs.flows (by omega) (by omega) HD4.out.tok HD4.out.mh (by omega)).mono ?_)
  rintro e w5 ⟨A5, c5, rfl, _, hr5, _, hb5⟩
  have hs5 := hb5.size
  have HD5 := Lib.hid (HD4.out.below hb5)
  have HR5 := Lib.hid (hr5.wide (Nat.le_refl _) (Nat.le_refl _))
  have HLT := Lib.hid (show ∀ y ∈ readyOf ns fs ms, 0 ≤ y ∧ y ≤ 30 from fun y hy => by
    have h1 := ready_mem_lt hy
    have h2 := HD4.out.prs.nodes.len2
    omega)
  have hl21 : (readyOf ns fs ms).length ≤ 21 := by
    have h1 := HD4.out.prs.nodes.len2
    unfold readyOf
    split
    · have := readyUp_le ns fs ms ns.length; omega
    · simp
  clear hb5 hr5 HD4 k0 k1
  generalize readyOf ns fs ms = R at *
  by_cases hl0 : R.length = 0
  · have hl1 : ((R.length : Int) == 0) = true := by simp [hl0]
    have hlx : ¬ (0 : Int) < (R.length : Int) := by omega
    clear HR5 HLT hl0
    have HC := Lib.hid (anyValues_any r A n' c' xs' (p3 + 1) w5.drew (HD5.out.below (up_drew (Below.refl _ _))).rd (by omega))
    have HDD := Lib.hid (HD5.out.below (up_drew (Below.refl _ w5)))
    clear HD5
    have k0d : w5.drew.cell? ⟨w2.heap.size, 0, none⟩ = some (.slice An nn cn) := HDD.out.here.cell 0
    have k1d : w5.drew.cell? ⟨w2.heap.size, 1, none⟩ = some (.slice Af lf cf) := HDD.out.here.cell 1
    go_wp2_with (fail)
    go_region_law (go_simp; go_at_call 51; (with_reducible refine HC.out.mono ?_); rintro e w9 ⟨A9, n9, c9, vs, p9, rfl, hn9, _, _, hrd9, hR9, _, hG9⟩
                   have HD9 := Lib.hid (HDD.out.but hG9 hR9 (by omega) (by omega) (by omega) (by omega))
                   have HV9 := Lib.hid hrd9
                   have hs9 : w5.heap.size ≤ w9.heap.size := hG9.size
                   have j0 : w9.cell? ⟨w2.heap.size, 0, none⟩ = some (.slice An nn cn) := HD9.out.here.cell 0
                   have j1 : w9.cell? ⟨w2.heap.size, 1, none⟩ = some (.slice Af lf cf) := HD9.out.here.cell 1
                   have r0 : w9.cell? ⟨w.heap.size, 0, none⟩ = some (.slice none 0 0) := HD9.out.res.cell 0
                   have r1 : w9.cell? ⟨w.heap.size, 1, none⟩ = some (.slice none 0 0) := HD9.out.res.cell 1
                   have q0 := HD9.out.res.soft 0
                   have q1 := HD9.out.res.soft 1
                   clear hrd9 hR9 hG9)
    all_goals
      have hZ := (HD9.out.res.put 0 (.slice An nn cn)).put 1 (.slice Af lf cf)
      have b0 := hZ.cell 0
      have b1 := hZ.cell 1
      simp at b0 b1
      have hfin : w9.heap.size ≤ ((w9.setCell ⟨w.heap.size, 0, none⟩ (.slice An nn cn)).setCell ⟨w.heap.size, 1, none⟩ (.slice Af lf cf)).heap.size := by simp [World.setCell]
      have HPF := Lib.hid (((HD9.out.prs.set (p := ⟨w.heap.size, 0, none⟩) (.inl (by show w.heap.size < w1.heap.size; omega)) (.slice An nn cn)).set (p := ⟨w.heap.size, 1, none⟩) (.inl (by show w.heap.size < w1.heap.size; omega)) (.slice Af lf cf)).wide (show w.heap.size ≤ w1.heap.size by omega) (Nat.le_trans (show w2.heap.size ≤ w9.heap.size by omega) hfin))
      have HMF := Lib.hid (((HD9.out.tok.setCell (p := ⟨w.heap.size, 0, none⟩) (.inl (by show w.heap.size < w2.heap.size + 1; omega)) (.slice An nn cn)).setCell (p := ⟨w.heap.size, 1, none⟩) (.inl (by show w.heap.size < w2.heap.size + 1; omega)) (.slice Af lf cf)).wide (show w.heap.size ≤ w2.heap.size + 1 by omega) (Nat.le_trans HD9.out.mh hfin))
      have HVF := Lib.hid (((HV9.out.setCell (p := ⟨w.heap.size, 0, none⟩) (.inl (by show w.heap.size < w5.heap.size; omega)) (.slice An nn cn)).setCell (p := ⟨w.heap.size, 1, none⟩) (.inl (by show w.heap.size < w5.heap.size; omega)) (.slice Af lf cf)).wide (show w.heap.size ≤ w5.heap.size by omega) hfin)
      have HB := Lib.hid ((HD9.out.bel.setCell (p := ⟨w.heap.size, 0, none⟩) (Nat.le_refl _) (.slice An nn cn)).setCell (p := ⟨w.heap.size, 1, none⟩) (Nat.le_refl _) (.slice Af lf cf))
      clear hZ HDD HC HV9 j0 j1 hfin
      go_wp2
      exact bodyPost_ret (v := .tuple #[.agg #[.slice An nn cn, .slice Af lf cf], .slice A2 n2 c2, .int .i64 z, .slice A9 n9 c9]) (by simp [results, Try.results23, go_sem, b0, b1]) rfl ⟨An, nn, cn, Af, lf, cf, ns, fs, A2, n2, c2, ms, z, A9, n9, c9, vs, rfl, hn2, by omega, by omega, hn9, HPF.out, HMF.out, HVF.out, HB.out⟩
  · have hlx : (0 : Int) < (R.length : Int) := by omega
    go_wp2_with (fail)
    (with_reducible refine (pick_any r A n' c' xs' (p3 + 1) 5 _ HD5.out.rd (by omega) (by omega)).mono ?_)
    rintro e w6 ⟨y, rfl, y0, y1, _, hR6, hG6⟩
    have hs6 := hG6.size
    have HD6 := Lib.hid (HD5.out.but hG6 hR6 (by omega) (by omega) (by omega) (by omega))
    have HR6 := Lib.hid (HR5.out.far hG6 (Nat.le_refl _) (fun k e => by injection e with e; omega))
    clear hR6 hG6 HD5 HR5
    by_cases hy : y = 0
    · subst hy
      clear HR6 HLT
      have HC := Lib.hid (anyValues_any r A n' c' xs' (p3 + 1 + 1) w6.drew (HD6.out.below (up_drew (Below.refl _ _))).rd (by omega))
      have HDD := Lib.hid (HD6.out.below (up_drew (Below.refl _ w6)))
      clear HD6
      have k0d : w6.drew.cell? ⟨w2.heap.size, 0, none⟩ = some (.slice An nn cn) := HDD.out.here.cell 0
      have k1d : w6.drew.cell? ⟨w2.heap.size, 1, none⟩ = some (.slice Af lf cf) := HDD.out.here.cell 1
      go_wp2_with (fail)
      go_region_law (go_simp; go_at_call 51; (with_reducible refine HC.out.mono ?_); rintro e w9 ⟨A9, n9, c9, vs, p9, rfl, hn9, _, _, hrd9, hR9, _, hG9⟩
                     have HD9 := Lib.hid (HDD.out.but hG9 hR9 (by omega) (by omega) (by omega) (by omega))
                     have HV9 := Lib.hid hrd9
                     have hs9 : w6.heap.size ≤ w9.heap.size := hG9.size
                     have j0 : w9.cell? ⟨w2.heap.size, 0, none⟩ = some (.slice An nn cn) := HD9.out.here.cell 0
                     have j1 : w9.cell? ⟨w2.heap.size, 1, none⟩ = some (.slice Af lf cf) := HD9.out.here.cell 1
                     have r0 : w9.cell? ⟨w.heap.size, 0, none⟩ = some (.slice none 0 0) := HD9.out.res.cell 0
                     have r1 : w9.cell? ⟨w.heap.size, 1, none⟩ = some (.slice none 0 0) := HD9.out.res.cell 1
                     have q0 := HD9.out.res.soft 0
                     have q1 := HD9.out.res.soft 1
                     clear hrd9 hR9 hG9)
      all_goals
        have hZ := (HD9.out.res.put 0 (.slice An nn cn)).put 1 (.slice Af lf cf)
        have b0 := hZ.cell 0
        have b1 := hZ.cell 1
        simp at b0 b1
        have hfin : w9.heap.size ≤ ((w9.setCell ⟨w.heap.size, 0, none⟩ (.slice An nn cn)).setCell ⟨w.heap.size, 1, none⟩ (.slice Af lf cf)).heap.size := by simp [World.setCell]
        have HPF := Lib.hid (((HD9.out.prs.set (p := ⟨w.heap.size, 0, none⟩) (.inl (by show w.heap.size < w1.heap.size; omega)) (.slice An nn cn)).set (p := ⟨w.heap.size, 1, none⟩) (.inl (by show w.heap.size < w1.heap.size; omega)) (.slice Af lf cf)).wide (show w.heap.size ≤ w1.heap.size by omega) (Nat.le_trans (show w2.heap.size ≤ w9.heap.size by omega) hfin))
        have HMF := Lib.hid (((HD9.out.tok.setCell (p := ⟨w.heap.size, 0, none⟩) (.inl (by show w.heap.size < w2.heap.size + 1; omega)) (.slice An nn cn)).setCell (p := ⟨w.heap.size, 1, none⟩) (.inl (by show w.heap.size < w2.heap.size + 1; omega)) (.slice Af lf cf)).wide (show w.heap.size ≤ w2.heap.size + 1 by omega) (Nat.le_trans HD9.out.mh hfin))
        have HVF := Lib.hid (((HV9.out.setCell (p := ⟨w.heap.size, 0, none⟩) (.inl (by show w.heap.size < w6.heap.size; omega)) (.slice An nn cn)).setCell (p := ⟨w.heap.size, 1, none⟩) (.inl (by show w.heap.size < w6.heap.size; omega)) (.slice Af lf cf)).wide (show w.heap.size ≤ w6.heap.size by omega) hfin)
        have HB := Lib.hid ((HD9.out.bel.setCell (p := ⟨w.heap.size, 0, none⟩) (Nat.le_refl _) (.slice An nn cn)).setCell (p := ⟨w.heap.size, 1, none⟩) (Nat.le_refl _) (.slice Af lf cf))
        clear hZ HDD HC HV9 j0 j1 hfin
        go_wp2
        exact bodyPost_ret (v := .tuple #[.agg #[.slice An nn cn, .slice Af lf cf], .slice A2 n2 c2, .int .i64 z, .slice A9 n9 c9]) (by simp [results, Try.results23, go_sem, b0, b1]) rfl ⟨An, nn, cn, Af, lf, cf, ns, fs, A2, n2, c2, ms, z, A9, n9, c9, vs, rfl, hn2, by omega, by omega, hn9, HPF.out, HMF.out, HVF.out, HB.out⟩
    · have hy1 : (0 : Int) < y := by omega
      go_wp2_with (fail)
      (with_reducible refine (pick_any r A n' c' xs' (p3 + 1 + 1) (R.length : Int) _ HD6.out.rd (by omega) (by omega)).mono ?_)
      rintro e w7 ⟨k, rfl, k0, k1, _, hR7, hG7⟩
      have k1' := k1 (by omega)
      obtain ⟨k, rfl⟩ := Int.eq_ofNat_of_zero_le k0
      have hs7 := hG7.size
      have HD7 := Lib.hid (HD6.out.but hG7 hR7 (by omega) (by omega) (by omega) (by omega))
      have HR7 := Lib.hid (HR6.out.far hG7 (by omega) (fun k e => by injection e with e; omega))
      clear hR7 hG7 HD6 HR6 k1
      obtain ⟨b, off, x, hA5, _, _, hg, hc0⟩ := HR7.out.one (show k < R.length by omega)
      subst hA5
      obtain ⟨hz0', hz1'⟩ := HLT.out x (List.mem_of_getElem? hg)
      clear hg hz0 hz1
      have HC := Lib.hid (anyValues_any r A n' c' xs' (p3 + 1 + 1 + 1) w7.drew (HD7.out.below (up_drew (Below.refl _ _))).rd (by omega))
      have HDD := Lib.hid (HD7.out.below (up_drew (Below.refl _ w7)))
      clear HD7
      have k0d : w7.drew.cell? ⟨w2.heap.size, 0, none⟩ = some (.slice An nn cn) := HDD.out.here.cell 0
      have k1d : w7.drew.cell? ⟨w2.heap.size, 1, none⟩ = some (.slice Af lf cf) := HDD.out.here.cell 1
      go_wp2_with (fail)
      go_region_law (go_simp; go_at_call 51; (with_reducible refine HC.out.mono ?_); rintro e w9 ⟨A9, n9, c9, vs, p9, rfl, hn9, _, _, hrd9, hR9, _, hG9⟩
                     have HD9 := Lib.hid (HDD.out.but hG9 hR9 (by omega) (by omega) (by omega) (by omega))
                     have HV9 := Lib.hid hrd9
                     have hs9 : w7.heap.size ≤ w9.heap.size := hG9.size
                     have j0 : w9.cell? ⟨w2.heap.size, 0, none⟩ = some (.slice An nn cn) := HD9.out.here.cell 0
                     have j1 : w9.cell? ⟨w2.heap.size, 1, none⟩ = some (.slice Af lf cf) := HD9.out.here.cell 1
                     have r0 : w9.cell? ⟨w.heap.size, 0, none⟩ = some (.slice none 0 0) := HD9.out.res.cell 0
                     have r1 : w9.cell? ⟨w.heap.size, 1, none⟩ = some (.slice none 0 0) := HD9.out.res.cell 1
                     have q0 := HD9.out.res.soft 0
                     have q1 := HD9.out.res.soft 1
                     clear hrd9 hR9 hG9)
      all_goals
        have hZ := (HD9.out.res.put 0 (.slice An nn cn)).put 1 (.slice Af lf cf)
        have b0 := hZ.cell 0
        have b1 := hZ.cell 1
        simp at b0 b1
        have hfin : w9.heap.size ≤ ((w9.setCell ⟨w.heap.size, 0, none⟩ (.slice An nn cn)).setCell ⟨w.heap.size, 1, none⟩ (.slice Af lf cf)).heap.size := by simp [World.setCell]
        have HPF := Lib.hid (((HD9.out.prs.set (p := ⟨w.heap.size, 0, none⟩) (.inl (by show w.heap.size < w1.heap.size; omega)) (.slice An nn cn)).set (p := ⟨w.heap.size, 1, none⟩) (.inl (by show w.heap.size < w1.heap.size; omega)) (.slice Af lf cf)).wide (show w.heap.size ≤ w1.heap.size by omega) (Nat.le_trans (show w2.heap.size ≤ w9.heap.size by omega) hfin))
        have HMF := Lib.hid (((HD9.out.tok.setCell (p := ⟨w.heap.size, 0, none⟩) (.inl (by show w.heap.size < w2.heap.size + 1; omega)) (.slice An nn cn)).setCell (p := ⟨w.heap.size, 1, none⟩) (.inl (by show w.heap.size < w2.heap.size + 1; omega)) (.slice Af lf cf)).wide (show w.heap.size ≤ w2.heap.size + 1 by omega) (Nat.le_trans HD9.out.mh hfin))
        have HVF := Lib.hid (((HV9.out.setCell (p := ⟨w.heap.size, 0, none⟩) (.inl (by show w.heap.size < w7.heap.size; omega)) (.slice An nn cn)).setCell (p := ⟨w.heap.size, 1, none⟩) (.inl (by show w.heap.size < w7.heap.size; omega)) (.slice Af lf cf)).wide (show w.heap.size ≤ w7.heap.size by omega) hfin)
        have HB := Lib.hid ((HD9.out.bel.setCell (p := ⟨w.heap.size, 0, none⟩) (Nat.le_refl _) (.slice An nn cn)).setCell (p := ⟨w.heap.size, 1, none⟩) (Nat.le_refl _) (.slice Af lf cf))
        clear hZ HDD HC HV9 j0 j1 hfin
        go_wp2
        exact bodyPost_ret (v := .tuple #[.agg #[.slice An nn cn, .slice Af lf cf], .slice A2 n2 c2, .int .i64 x, .slice A9 n9 c9]) (by simp [results, Try.results23, go_sem, b0, b1]) rfl ⟨An, nn, cn, Af, lf, cf, ns, fs, A2, n2, c2, ms, x, A9, n9, c9, vs, rfl, hn2, by omega, by omega, hn9, HPF.out, HMF.out, HVF.out, HB.out⟩
end Go.Proofs.Ytonlkodenfiljaa
