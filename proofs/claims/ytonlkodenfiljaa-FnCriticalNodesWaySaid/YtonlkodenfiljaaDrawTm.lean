/- The drawing of a process and the times of its nodes. -/
import Derived.Test.YtonlkodenfiljaaDrawMarks
import Derived.Deep.RegionLaw
set_option linter.unusedSimpArgs false
set_option linter.unusedVariables false
namespace Go.Proofs.Ytonlkodenfiljaa
open Go.RowKit

/-- What anyPlan leaves. -/
def PlanDrawn (r : Nat) (A : Option Addr) (n c : Nat) (xs : List Int) (w : World) (e : Ending) (w' : World) : Prop :=
  ∃ An nn cn Af lf cf ns fs A2 n2 c2 ts, e = .returned (.tuple #[.agg #[.slice An nn cn, .slice Af lf cf], .slice A2 n2 c2]) ∧ n2 ≤ 22 ∧ Prs w' w.heap.size w'.heap.size An nn cn Af lf cf ns fs ∧ Rd w' w.heap.size w'.heap.size 1 A2 n2 (ivs ts) ∧ But r w w'
set_option maxRecDepth 100000 in
set_option maxHeartbeats 1600000 in
theorem anyPlan_any (r : Nat) (A : Option Addr) (n c : Nat) (xs : List Int) (w : World) (h : Rdr w r A n c xs 0) :
    Calls Try.prog 29 #[.pointer (some ⟨r, 0, none⟩)] w (PlanDrawn r A n c xs w) := by
  obtain ⟨i0, hi0, hz0, hz1, hz2⟩ := info_parts infoIntD
  have hrb := h.lt
  have hb0 := up_alloc (Below.refl _ w) (.cells #[.slice none 0 0, .slice none 0 0] 26)
  have hq0 := Blk.new w 26 #[.slice none 0 0, .slice none 0 0]
  have hs0 : (w.alloc (.cells #[.slice none 0 0, .slice none 0 0] 26)).heap.size = w.heap.size + 1 := by simp
  have HR0 := Lib.hid (rdr_alloc h (.cells #[.slice none 0 0, .slice none 0 0] 26))
  have HG0 := Lib.hid (but_alloc (but_refl r w) (.cells #[.slice none 0 0, .slice none 0 0] 26))
  clear h
  go_enter Try.func29, Try.ntmps29
  go_wp2_with (fail)
  (with_reducible refine (anyProcess_any r A n c xs 0 _ HR0.out (by omega)).mono ?_)
  rintro e w2 hD
  obtain ⟨An, nn, cn, Af, lf, cf, ns, fs, p', rfl, hP, hR2, hp2, hG⟩ := hD.prs
  clear hD
  have hs2 := hG.size
  rw [hs0] at hs2 hP
  have hn21 := hP.n21
  have hq2 := hq0.but hG (by omega)
  have hbp := up_alloc (up_alloc (Below.refl _ w2) (.cells #[.slice An nn cn, .slice Af lf cf] 26)) (.cells #[] 3)
  have HP := Lib.hid (hP.keep hbp (Nat.le_refl _))
  have HZ := Lib.hid ((Blk.new w2 26 #[.slice An nn cn, .slice Af lf cf]).alloc (.cells #[] 3))
  have HQ := Lib.hid (hq2.below hbp (by omega))
  have HR := Lib.hid (hR2.below hbp)
  have HG := Lib.hid (but_below (but_trans HG0.out hG) hbp)
  have hown0 := World.ownsRow_made (w2.alloc (.cells #[.slice An nn cn, .slice Af lf cf] 26)) (base := w2.heap.size + 1) (e := 3) (size := 1) #[] 0 (by simp) (by unfold maxLen; omega) (by simp)
  rw [show (w2.alloc (.cells #[.slice An nn cn, .slice Af lf cf] 26)).heap.size = w2.heap.size + 1 by simp] at hown0
  have HO := Lib.hid (show ((w2.alloc (.cells #[.slice An nn cn, .slice Af lf cf] 26)).alloc (.cells #[] 3)).ownsRow (w2.heap.size + 1) 3 1 (.slice (some ⟨w2.heap.size + 1, 0, none⟩) 0 0) ([] : List Int).length (ivs []) from hown0)
  have hrb2 : r < w2.heap.size := by omega
  have hp0 := hR2.2.2.2.2
  have hsz2 : ((w2.alloc (.cells #[.slice An nn cn, .slice Af lf cf] 26)).alloc (.cells #[] 3)).heap.size = w2.heap.size + 2 := by simp
  clear hP hR2 hG hq2 hbp hown0 HR0 HG0 hq0 hb0
  go_wp2
  go_loopw [5, 6] (fun ov iv wr => ∃ (k : Nat) (ys : List Int), k ≤ nn ∧ iv = .int .i64 k ∧ ys.length = k ∧ Hid (wr.ownsRow (w2.heap.size + 1) 3 1 ov ys.length (ivs ys)) ∧ Rdr wr r A n c xs (p' + k) ∧ Hid (But r w wr) ∧ Blk wr w2.heap.size 26 #[.slice An nn cn, .slice Af lf cf] ∧ Hid (Blk wr w.heap.size 26 #[.slice none 0 0, .slice none 0 0]) ∧ Hid (Prs wr (w.heap.size + 1) w2.heap.size An nn cn Af lf cf ns fs) ∧ w2.heap.size + 1 ≤ wr.heap.size)
     (fun _ iv _ => nn - (intOf iv).toNat)
  case atStart => exact ⟨0, [], by omega, rfl, rfl, HO.out, by simpa using HR.out, HG.out, HZ.out, HQ.out, HP.out, by simp⟩
  case round =>
    clear HO HR HG HZ HQ HP hsz2
    obtain ⟨k, ys, hk, rfl, hyl, HO, hR, HG, hz, HQ, HP, hsz⟩ := hrel
    have HY := Lib.hid hyl
    have hyb : ys.length ≤ 21 := by omega
    clear hyl
    have k0 : wr.cell? ⟨w2.heap.size, 0, none⟩ = some (.slice An nn cn) := hz.cell 0
    by_cases hlt : k < nn
    · have hb := Blk.new wr 3 #[.int .i64 0, .int .i64 5, .int .i64 10, .int .i64 30, .int .i64 500, .int .i64 7]
      have HC := Lib.hid (one_any r A n c xs (p' + k) wr.heap.size (wr.heap.size + 1) 6 6 _ [0, 5, 10, 30, 500, 7] _ (rdr_alloc hR (.cells #[.int .i64 0, .int .i64 5, .int .i64 10, .int .i64 30, .int .i64 500, .int .i64 7] 3)) (by omega) (Rd.of_blk hb rfl) (by simp) (by omega) (by omega) (.inl (by omega)))
      have HZ := Lib.hid (hz.alloc (.cells #[.int .i64 0, .int .i64 5, .int .i64 10, .int .i64 30, .int .i64 500, .int .i64 7] 3))
      have HQ1 := Lib.hid (HQ.out.alloc (.cells #[.int .i64 0, .int .i64 5, .int .i64 10, .int .i64 30, .int .i64 500, .int .i64 7] 3))
      have HP1 := Lib.hid (HP.out.keep (up_alloc (Below.refl _ wr) (.cells #[.int .i64 0, .int .i64 5, .int .i64 10, .int .i64 30, .int .i64 500, .int .i64 7] 3)) (by omega))
      have HO1 := Lib.hid (HO.out.alloc (.cells #[.int .i64 0, .int .i64 5, .int .i64 10, .int .i64 30, .int .i64 500, .int .i64 7] 3))
      have HG1 := Lib.hid (but_alloc HG.out (.cells #[.int .i64 0, .int .i64 5, .int .i64 10, .int .i64 30, .int .i64 500, .int .i64 7] 3))
      have hsa : (wr.alloc (.cells #[.int .i64 0, .int .i64 5, .int .i64 10, .int .i64 30, .int .i64 500, .int .i64 7] 3)).heap.size = wr.heap.size + 1 := by simp
      clear hb hR hz HO HG HQ HP
      go_wp2_with (fail)
      (with_reducible refine HC.out.mono ?_)
      clear HC
      rintro e w3 ⟨v, rfl, _, hRX, hG3⟩
      have hs3 := hG3.size
      rw [hsa] at hs3
      have hownX := own_but HO1.out hG3 (by omega)
      have HGX := Lib.hid (but_trans HG1.out hG3)
      have HZX := Lib.hid (HZ.out.but hG3 (by omega))
      have HQX := Lib.hid (HQ1.out.but hG3 (by omega))
      have HPX := Lib.hid (HP1.out.far hG3 (by omega) (fun j e => by injection e with e; omega))
      clear hG3 HO1 HG1 HZ HQ1 HP1
      go_wp2_with (at_builtin; refine wpList_append_own _ rfl _ _ 27 rfl (w2.heap.size + 1) 3 i0 (.int .i64 0) 1 8 Try.underlying27 hi0 hz0 hz1 hz2 rfl (by decide) _ _ _ rfl (hownX.alloc _) _ 1 1 [.int .i64 v] rfl rfl (cell_one_new _ _ _) ?c2 ?c3 ?c4 ?c5 ?_)
      case c2 => first | rfl | (intro u hu; simp at hu; subst hu; rfl)
      case c3 => unfold maxLen; omega
      case c4 => omega
      case c5 => first | omega | (simp; omega)
      intro v' w4 hown4 hg4 _
      have hlow := hownX.lt
      have hs4 : w3.heap.size + 1 ≤ w4.heap.size := by have := hg4.size; simpa using this
      have hG4 := but_grown (but_alloc HGX.out (.cells #[.int .i64 v] 3)) (hownX.alloc _) hg4 (by omega)
      have hR4 := rdr_grown (rdr_alloc hRX (.cells #[.int .i64 v] 3)) (hownX.alloc _) hg4 (by omega)
      have hZ4 := (HZX.out.alloc (.cells #[.int .i64 v] 3)).grown hg4 (fun e => by have := (hlow _ e.symm).1; omega)
      have hQ4 := (HQX.out.alloc (.cells #[.int .i64 v] 3)).grown hg4 (fun e => by have := (hlow _ e.symm).1; omega)
      have hP4 := (HPX.out.keep (up_alloc (Below.refl _ w3) (.cells #[.int .i64 v] 3)) (by omega)).far hg4 (by simp; omega) (fun g hg => by have := (hlow g hg).1; omega)
      have HO4 := Lib.hid (own_ints hown4)
      have HG4 := Lib.hid hG4
      have HR4 := Lib.hid hR4
      have HZ4 := Lib.hid hZ4
      have HQ4 := Lib.hid hQ4
      have HP4 := Lib.hid hP4
      clear hg4 hownX hRX hown4 hG4 hR4 hZ4 hQ4 hP4 HGX HZX HQX HPX hlow k0
      go_wp2
      go_roundw
      case rel => exact ⟨k + 1, ys ++ [v], by omega, by go_num, by rw [List.length_append, HY.out]; rfl, HO4, by have h := HR4.out; rw [Int.add_assoc] at h; exact_mod_cast h, HG4, HZ4.out, HQ4, HP4, by omega⟩
      case measure => simp [intOf]; omega
    · obtain rfl : k = nn := by omega
      obtain ⟨A', c', rfl, hcc, hcm⟩ := own_cap HO.out
      have k1 : wr.cell? ⟨w2.heap.size, 1, none⟩ = some (.slice Af lf cf) := hz.cell 1
      have HC := Lib.hid (spoilN_any r A n c xs (p' + k) _ _ _ c' A' ys 501 wr.drew (hR.below (up_drew (Below.refl _ wr))) (by omega) ((Rd.of_own HO.out).keep (up_drew (Below.refl _ wr)) (Nat.le_refl _)) (Nat.le_refl _) (by omega))
      have HZ := Lib.hid hz.drew
      have HQD := Lib.hid HQ.out.drew
      have HPD := Lib.hid (HP.out.keep (up_drew (Below.refl _ wr)) (by omega))
      have HGD := Lib.hid (but_drew HG.out)
      clear hR hz HO HG HQ HP
      go_wp2_with (fail)
      go_region_law (go_simp; go_at_call 62; (with_reducible refine HC.out.mono ?_); rintro e w3 ⟨A2, n2, c2, ts, p3, rfl, hn2, _, _, hrd, _, _, hG3⟩
                     have hs3 : wr.heap.size ≤ w3.heap.size := hG3.size
                     have hq3 := HQD.out.but hG3 (by omega)
                     have hz3 := HZ.out.but hG3 (by omega)
                     have j0 : w3.cell? ⟨w2.heap.size, 0, none⟩ = some (.slice An k cn) := hz3.cell 0
                     have j1 : w3.cell? ⟨w2.heap.size, 1, none⟩ = some (.slice Af lf cf) := hz3.cell 1
                     have r0 : w3.cell? ⟨w.heap.size, 0, none⟩ = some (.slice none 0 0) := hq3.cell 0
                     have r1 : w3.cell? ⟨w.heap.size, 1, none⟩ = some (.slice none 0 0) := hq3.cell 1
                     have q0 := hq3.soft 0
                     have q1 := hq3.soft 1
                     have HQ3 := Lib.hid hq3
                     have HG3 := Lib.hid hG3
                     have HRD := Lib.hid hrd
                     clear hq3 hz3 hG3 hrd HC)
      all_goals
        have hZ := (HQ3.out.put 0 (.slice An k cn)).put 1 (.slice Af lf cf)
        have b0 := hZ.cell 0
        have b1 := hZ.cell 1
        simp at b0 b1
        have hP3 := HPD.out.far HG3.out (by show w2.heap.size ≤ wr.heap.size; omega) (fun j e => by injection e with e; omega)
        have HPF := Lib.hid (((hP3.set (p := ⟨w.heap.size, 0, none⟩) (.inl (by simp)) (.slice An k cn)).set (p := ⟨w.heap.size, 1, none⟩) (.inl (by simp)) (.slice Af lf cf)).wide (show w.heap.size ≤ w.heap.size + 1 by omega) (show w2.heap.size ≤ ((w3.setCell ⟨w.heap.size, 0, none⟩ (.slice An k cn)).setCell ⟨w.heap.size, 1, none⟩ (.slice Af lf cf)).heap.size by simp [World.setCell]; omega))
        have hrd := HRD.out
        have HRF := Lib.hid (((hrd.setCell (p := ⟨w.heap.size, 0, none⟩) (.inl (by show w.heap.size < wr.heap.size; omega)) (.slice An k cn)).setCell (p := ⟨w.heap.size, 1, none⟩) (.inl (by show w.heap.size < wr.heap.size; omega)) (.slice Af lf cf)).wide (show w.heap.size ≤ wr.heap.size by omega) (show w3.heap.size ≤ ((w3.setCell ⟨w.heap.size, 0, none⟩ (.slice An k cn)).setCell ⟨w.heap.size, 1, none⟩ (.slice Af lf cf)).heap.size by simp [World.setCell]))
        have HBF := Lib.hid (but_put (but_put (but_trans HGD.out HG3.out) (p := ⟨w.heap.size, 0, none⟩) (.inr (Nat.le_refl _)) (.slice An k cn)) (p := ⟨w.heap.size, 1, none⟩) (.inr (Nat.le_refl _)) (.slice Af lf cf))
        clear hZ hP3 hrd HQ3 HG3 HRD HZ HQD HPD HGD j0 j1
        go_wp2
        exact bodyPost_ret (v := .tuple #[.agg #[.slice An k cn, .slice Af lf cf], .slice A2 n2 c2]) (by simp [results, Try.results29, go_sem, b0, b1]) rfl ⟨An, k, cn, Af, lf, cf, ns, fs, A2, n2, c2, ts, rfl, by omega, HPF.out, HRF.out, HBF.out⟩
end Go.Proofs.Ytonlkodenfiljaa
