/- The program's CompactLog. (Written by gen/snapk.py.) -/
import Derived.Test.YthoccppfedmcjaaSnapJ
set_option linter.unusedSimpArgs false
set_option linter.unusedVariables false
namespace Go.Proofs.Ythoccppfedmcjaa
open Go.RowKit

/-- A part of a slice from place k on, whatever its address. -/
theorem Rd.behindG {w : World} {lo hi n c k : Nat} {A : Option Addr} {ps : List En} (h : Rd w lo hi 2 A n (pvs ps)) (hk : k ≤ n) (hc : n ≤ c) :
    Rd w lo hi 2 (if c = k then A else A.map fun x => x.add (k * 2)) (n - k) (pvs (ps.drop k)) := by
  have hl : ps.length = n := h.len2
  refine ⟨by rw [pvs_length, List.length_drop, hl], fun hn => ?_⟩
  obtain ⟨b, off, rfl, h1, h2, hcell⟩ := h.2 (by omega)
  rw [if_neg (by omega)]
  refine ⟨b, off + k * 2, by simp [addr_add], h1, h2, fun j u hu => ?_⟩
  rw [← pvs_dropS, List.getElem?_drop] at hu
  have := hcell _ u hu
  rwa [← Nat.add_assoc] at this
set_option maxRecDepth 100000 in
set_option maxHeartbeats 3200000 in
theorem CompactLogI_any (N T S : Int) (lo hi n c : Nat) (A : Option Addr) (ls : List En) (z : Int) (w : World) (hr : Rd w lo hi 2 A n (pvs ls)) (hB : hi ≤ w.heap.size) (hn : n ≤ 1048576) (hcap : n ≤ c) (_hz : in64 z) :
    Calls Try.prog 19 #[.agg #[.int .i64 N, .int .i64 T, .int .i64 S, .slice A n c], .int .i64 z] w (SnPost (compOf N T S ls z) w) := by
  have HL := Lib.hid hr.len2
  have hb0 := up_alloc (up_alloc (Below.refl _ w) (.cells #[.int .i64 N, .int .i64 T, .int .i64 S, .slice A n c] 25)) (.cells #[.int .i64 0, .int .i64 0, .int .i64 0, .slice none 0 0] 25)
  have hp0 := (Blk.new w 25 #[.int .i64 N, .int .i64 T, .int .i64 S, .slice A n c]).alloc (.cells #[.int .i64 0, .int .i64 0, .int .i64 0, .slice none 0 0] 25)
  have hq0 : Blk ((w.alloc (.cells #[.int .i64 N, .int .i64 T, .int .i64 S, .slice A n c] 25)).alloc (.cells #[.int .i64 0, .int .i64 0, .int .i64 0, .slice none 0 0] 25)) (w.heap.size + 1) 25 #[.int .i64 0, .int .i64 0, .int .i64 0, .slice none 0 0] := Blk.new2 (by simp)
  have HR0 := Lib.hid (hr.keep hb0 hB)
  have HB0 := Lib.hid hb0
  have HP0 := Lib.hid hp0
  have HQ0 := Lib.hid hq0
  have hz0 : ((w.alloc (.cells #[.int .i64 N, .int .i64 T, .int .i64 S, .slice A n c] 25)).alloc (.cells #[.int .i64 0, .int .i64 0, .int .i64 0, .slice none 0 0] 25)).heap.size = w.heap.size + 1 + 1 := by simp
  clear hr hb0 hp0 hq0
  go_enter Try.func19, Try.ntmps19
  go_wp2_with (fail)
  generalize ((w.alloc (.cells #[.int .i64 N, .int .i64 T, .int .i64 S, .slice A n c] 25)).alloc (.cells #[.int .i64 0, .int .i64 0, .int .i64 0, .slice none 0 0] 25)) = w0 at *
  (with_reducible refine (ValidSnapI_any N T S lo hi n c A ls _ HR0.out (by omega) hn hcap).mono ?_)
  rintro e w1 ⟨rfl, hb1⟩
  have HP := Lib.hid (HP0.out.below hb1 (by omega))
  have HQ := Lib.hid (HQ0.out.below hb1 (by omega))
  have HR := Lib.hid (HR0.out.keep hb1 (by omega))
  have HB := Lib.hid (up HB0.out hb1)
  have hz1 := hb1.size
  clear hb1 HP0 HQ0 HR0 HB0
  cases h1 : vSnap N T S ls with
  | false =>
    have HX := Lib.hid (compOf_no (N := N) (T := T) (S := S) (R := ls) (z := z) (.inl h1))
    clear h1
    have hzz := (((HQ.out.put 0 (.int .i64 0)).put 1 (.int .i64 0)).put 2 (.int .i64 0)).put 3 (.slice none 0 0)
    have z0 := hzz.cell 0
    have z1 := hzz.cell 1
    have z2 := hzz.cell 2
    have z3 := hzz.cell 3
    simp at z0 z1 z2 z3
    have q0 := HQ.out.cell 0
    have q1 := HQ.out.cell 1
    have q2 := HQ.out.cell 2
    have q3 := HQ.out.cell 3
    have f0 := HQ.out.soft 0
    have f1 := HQ.out.soft 1
    have f2 := HQ.out.soft 2
    have f3 := HQ.out.soft 3
    have HBZ := Lib.hid ((((HB.out.setCell (p := ⟨w.heap.size + 1, 0, none⟩) (by show w.heap.size ≤ w.heap.size + 1; omega) (.int .i64 0)).setCell (p := ⟨w.heap.size + 1, 1, none⟩) (by show w.heap.size ≤ w.heap.size + 1; omega) (.int .i64 0)).setCell (p := ⟨w.heap.size + 1, 2, none⟩) (by show w.heap.size ≤ w.heap.size + 1; omega) (.int .i64 0)).setCell (p := ⟨w.heap.size + 1, 3, none⟩) (by show w.heap.size ≤ w.heap.size + 1; omega) (.slice none 0 0))
    clear hzz
    go_wp2
    exact bodyPost_ret (v := .tuple #[.agg #[.int .i64 0, .int .i64 0, .int .i64 0, .slice none 0 0], .bool false]) (by simp [results, Try.results19, go_sem, z0, z1, z2, z3]) rfl (SnPost.no HX.out HBZ.out)
  | true =>
  have hv := vSnap_iff.1 h1
  have hn16 : n ≤ 16 := by rw [← HL.out]; exact vSnap_len h1
  have e3 := HP.out.cell 3
  by_cases hlow : z < 0
  · have HX := Lib.hid (compOf_no (N := N) (T := T) (S := S) (R := ls) (z := z) (.inr (by rw [← Bool.not_eq_true, inR_iff]; omega)))
    have d1 : decide (z < 0) = true := decide_eq_true hlow
    clear h1 hv
    have hzz := (((HQ.out.put 0 (.int .i64 0)).put 1 (.int .i64 0)).put 2 (.int .i64 0)).put 3 (.slice none 0 0)
    have z0 := hzz.cell 0
    have z1 := hzz.cell 1
    have z2 := hzz.cell 2
    have z3 := hzz.cell 3
    simp at z0 z1 z2 z3
    have q0 := HQ.out.cell 0
    have q1 := HQ.out.cell 1
    have q2 := HQ.out.cell 2
    have q3 := HQ.out.cell 3
    have f0 := HQ.out.soft 0
    have f1 := HQ.out.soft 1
    have f2 := HQ.out.soft 2
    have f3 := HQ.out.soft 3
    have HBZ := Lib.hid ((((HB.out.setCell (p := ⟨w.heap.size + 1, 0, none⟩) (by show w.heap.size ≤ w.heap.size + 1; omega) (.int .i64 0)).setCell (p := ⟨w.heap.size + 1, 1, none⟩) (by show w.heap.size ≤ w.heap.size + 1; omega) (.int .i64 0)).setCell (p := ⟨w.heap.size + 1, 2, none⟩) (by show w.heap.size ≤ w.heap.size + 1; omega) (.int .i64 0)).setCell (p := ⟨w.heap.size + 1, 3, none⟩) (by show w.heap.size ≤ w.heap.size + 1; omega) (.slice none 0 0))
    clear hzz
    go_wp2
    exact bodyPost_ret (v := .tuple #[.agg #[.int .i64 0, .int .i64 0, .int .i64 0, .slice none 0 0], .bool false]) (by simp [results, Try.results19, go_sem, z0, z1, z2, z3]) rfl (SnPost.no HX.out HBZ.out)
  by_cases hhigh : (n : Int) < z
  · have HX := Lib.hid (compOf_no (N := N) (T := T) (S := S) (R := ls) (z := z) (.inr (by rw [← Bool.not_eq_true, inR_iff, HL.out]; omega)))
    have d1 : decide (z < 0) = false := decide_eq_false hlow
    have d2 : decide ((n : Int) < z) = true := decide_eq_true hhigh
    clear h1 hv
    have hzz := (((HQ.out.put 0 (.int .i64 0)).put 1 (.int .i64 0)).put 2 (.int .i64 0)).put 3 (.slice none 0 0)
    have z0 := hzz.cell 0
    have z1 := hzz.cell 1
    have z2 := hzz.cell 2
    have z3 := hzz.cell 3
    simp at z0 z1 z2 z3
    have q0 := HQ.out.cell 0
    have q1 := HQ.out.cell 1
    have q2 := HQ.out.cell 2
    have q3 := HQ.out.cell 3
    have f0 := HQ.out.soft 0
    have f1 := HQ.out.soft 1
    have f2 := HQ.out.soft 2
    have f3 := HQ.out.soft 3
    have HBZ := Lib.hid ((((HB.out.setCell (p := ⟨w.heap.size + 1, 0, none⟩) (by show w.heap.size ≤ w.heap.size + 1; omega) (.int .i64 0)).setCell (p := ⟨w.heap.size + 1, 1, none⟩) (by show w.heap.size ≤ w.heap.size + 1; omega) (.int .i64 0)).setCell (p := ⟨w.heap.size + 1, 2, none⟩) (by show w.heap.size ≤ w.heap.size + 1; omega) (.int .i64 0)).setCell (p := ⟨w.heap.size + 1, 3, none⟩) (by show w.heap.size ≤ w.heap.size + 1; omega) (.slice none 0 0))
    clear hzz
    go_wp2
    exact bodyPost_ret (v := .tuple #[.agg #[.int .i64 0, .int .i64 0, .int .i64 0, .slice none 0 0], .bool false]) (by simp [results, Try.results19, go_sem, z0, z1, z2, z3]) rfl (SnPost.no HX.out HBZ.out)
  obtain ⟨k, rfl⟩ : ∃ k : Nat, z = (k : Int) := ⟨z.toNat, by omega⟩
  have hkn : k ≤ n := by omega
  have d1 : decide ((k : Int) < 0) = false := decide_eq_false (by omega)
  have d2 : decide ((n : Int) < (k : Int)) = false := decide_eq_false (by omega)
  have HX := Lib.hid (compOf_yes h1 (show k ≤ ls.length by rw [HL.out]; exact hkn))
  rw [← lastT_take (show k ≤ ls.length by rw [HL.out]; exact hkn)] at HX
  clear hlow hhigh
  have HTK := Lib.hid (HR.out.cut2 hkn)
  have HW := Lib.hid (show ∀ wy Bs, Below w1.heap.size w1 wy → Blk wy Bs 23 #[.slice A k c] → Calls Try.prog 29 #[.agg #[.int .i64 N, .int .i64 T, .int .i64 S, .slice A n c], .func (.func 44) #[] #[.pointer (some ⟨Bs, 0, none⟩)]] wy fun e w' => e = .returned (.agg #[.int .i64 (N + k), .int .i64 (lastT T (ls.take k)), .int .i64 (stAfter S (ls.take k)), .slice none 0 0]) ∧ Below wy.heap.size wy w' from fun wy Bs hb hbk =>
    with_any N T S A n c Bs A k c (ls.take k) wy hv.1 hv.2.2.1 (fun p hp => (vLog_ok hv.2.2.2.1 (List.mem_of_mem_take hp)).2) (by omega) hbk.lt (hbk.cell 0) ((HTK.out.keep hb (by omega)).wide (Nat.zero_le _) (by have := hb.size; omega)))
  have HV := Lib.hid (show ∀ wx, Calls Try.prog 30 #[.slice A k c] wx fun e w' => e = .returned (.func (.func 44) #[] #[.pointer (some ⟨wx.heap.size, 0, none⟩)]) ∧ w' = wx.alloc (.cells #[.slice A k c] 23) from fun wx => ValuesE_any A k c wx)
  have HVN := Lib.hid h1
  have HS := Lib.hid (show ∀ wx, Below w1.heap.size w1 wx → wx.cell? ⟨w.heap.size, 0, none⟩ = some (.int .i64 N) ∧ wx.cell? ⟨w.heap.size, 1, none⟩ = some (.int .i64 T) ∧ wx.cell? ⟨w.heap.size, 2, none⟩ = some (.int .i64 S) ∧ wx.cell? ⟨w.heap.size, 3, none⟩ = some (.slice A n c) from fun wx hb => ⟨(hb.cell (by show w.heap.size < _; omega)).trans (HP.out.cell 0), (hb.cell (by show w.heap.size < _; omega)).trans (HP.out.cell 1), (hb.cell (by show w.heap.size < _; omega)).trans (HP.out.cell 2), (hb.cell (by show w.heap.size < _; omega)).trans (HP.out.cell 3)⟩)
  clear h1 hv
  generalize hq : stAfter S (ls.take k) = q at *
  generalize ht : lastT T (ls.take k) = t at *
  clear hq ht
  have k0 : (0 : Int) ≤ (k : Int) := by omega
  have k1 : (k : Int) ≤ (n : Int) := by omega
  have k2 : (k : Int) ≤ (c : Int) := by omega
  have k3 : k ≤ c := by omega
  clear e3
  obtain ⟨e0, e1, e2, e3⟩ := HS.out _ (Below.refl _ _)
  go_wp2_with (fail)
  clear e0 e1 e2 e3
  obtain ⟨e0, e1, e2, e3⟩ := HS.out _ (up_drew (Below.refl _ _))
  go_region_held3 (fun wx => wx.cell? ⟨w.heap.size, 0, none⟩ = some (.int .i64 N) ∧ wx.cell? ⟨w.heap.size, 1, none⟩ = some (.int .i64 T) ∧ wx.cell? ⟨w.heap.size, 2, none⟩ = some (.int .i64 S) ∧ wx.cell? ⟨w.heap.size, 3, none⟩ = some (.slice A n c))
    (first | exact HS.out _ (Below.refl _ _) | exact HS.out _ (up_drew (Below.refl _ _)) | exact HS.out _ (up_drew (up_alloc (Below.refl _ _) _)) | exact HS.out _ (up_alloc (Below.refl _ _) _) | exact HS.out _ (up_alloc HB5.out _) | exact HS.out _ HB5.out | exact HS.out _ HB6.out | exact HS.out _ (up_alloc HB6.out _) | exact HS.out _ ((((HB6.out.setCell (p := ⟨w1.heap.size, 0, none⟩) (Nat.le_refl _) _).setCell (p := ⟨w1.heap.size, 1, none⟩) (Nat.le_refl _) _).setCell (p := ⟨w1.heap.size, 2, none⟩) (Nat.le_refl _) _).setCell (p := ⟨w1.heap.size, 3, none⟩) (Nat.le_refl _) _) | exact HS.out _ ((((HB6.out.setCell (p := ⟨w6.heap.size, 0, none⟩) hs6 _).setCell (p := ⟨w6.heap.size, 1, none⟩) hs6 _).setCell (p := ⟨w6.heap.size, 2, none⟩) hs6 _).setCell (p := ⟨w6.heap.size, 3, none⟩) hs6 _))
    ((first
      | (go_at_call 30; (with_reducible refine (HV.out w1.drew).mono ?_); rintro e w6 ⟨rfl, hw6⟩; have HB5 := Lib.hid (show Below w1.heap.size w1 w6 by subst hw6; exact up_alloc (up_drew (Below.refl _ _)) _); have HK5 := Lib.hid (show Blk w6 w1.heap.size 23 #[.slice A k c] by subst hw6; exact Blk.new2 (World.size_drew _)); have hs6 := HB5.out.size; have HE5 := True.intro; clear hw6)
      | (go_at_call 30; (with_reducible refine (HV.out (w1.alloc (.cells #[.int .i64 0, .int .i64 0, .int .i64 0, .slice none 0 0] 25)).drew).mono ?_); rintro e w6 ⟨rfl, hw6⟩; have HB5 := Lib.hid (show Below w1.heap.size w1 w6 by subst hw6; exact up_alloc (up_drew (up_alloc (Below.refl _ _) _)) _); have HK5 := Lib.hid (show Blk w6 (w1.heap.size + 1) 23 #[.slice A k c] by subst hw6; exact Blk.new2 (by simp)); have hs6 := HB5.out.size; have HE5 := Lib.hid (show Blk w6 w1.heap.size 25 #[.int .i64 0, .int .i64 0, .int .i64 0, .slice none 0 0] by subst hw6; exact (Blk.new w1 25 #[.int .i64 0, .int .i64 0, .int .i64 0, .slice none 0 0]).drew.alloc _); clear hw6)
      | (go_at_call 29; (with_reducible refine (HW.out w6 _ HB5.out HK5.out).mono ?_); rintro e w7 ⟨rfl, hb7⟩; have HB6 := Lib.hid (up HB5.out hb7); first | (have hE7 := HE5.out.below hb7 HE5.out.lt; have y0 := hE7.cell 0; have y1 := hE7.cell 1; have y2 := hE7.cell 2; have y3 := hE7.cell 3; have g0 := hE7.soft 0; have g1 := hE7.soft 1; have g2 := hE7.soft 2; have g3 := hE7.soft 3; clear hb7) | clear hb7)
      | (go_at_call 29; (with_reducible refine (HW.out (w6.alloc (.cells #[.int .i64 0, .int .i64 0, .int .i64 0, .slice none 0 0] 25)) _ (up_alloc HB5.out _) (HK5.out.alloc _)).mono ?_); rintro e w7 ⟨rfl, hb7⟩; have HB6 := Lib.hid (up (up_alloc HB5.out _) hb7); have hE7 := (Blk.new w6 25 #[.int .i64 0, .int .i64 0, .int .i64 0, .slice none 0 0]).below hb7 (Blk.new w6 25 #[.int .i64 0, .int .i64 0, .int .i64 0, .slice none 0 0]).lt; have y0 := hE7.cell 0; have y1 := hE7.cell 1; have y2 := hE7.cell 2; have y3 := hE7.cell 3; have g0 := hE7.soft 0; have g1 := hE7.soft 1; have g2 := hE7.soft 2; have g3 := hE7.soft 3; clear hb7)
      | fail "no arm"))
  all_goals
    clear e0 e1 e2 e3
    first
    | (have HE := Lib.hid (show Blk (w7.alloc (.cells #[.int .i64 (N + k), .int .i64 t, .int .i64 q, .slice none 0 0] 25)) w7.heap.size 25 #[.int .i64 (N + k), .int .i64 t, .int .i64 q, .slice none 0 0] from Blk.new _ _ _); have HBz := Lib.hid (show Below w1.heap.size w1 (w7.alloc (.cells #[.int .i64 (N + k), .int .i64 t, .int .i64 q, .slice none 0 0] 25)) from up_alloc HB6.out _); generalize w7.alloc (.cells #[.int .i64 (N + k), .int .i64 t, .int .i64 q, .slice none 0 0] 25) = wz at *; obtain ⟨g, hgg⟩ : ∃ g, g = w7.heap.size := ⟨_, rfl⟩; have hg : w1.heap.size ≤ g := by rw [hgg]; exact HB6.out.size
       rw [← hgg] at HE ⊢; clear hgg)
    | (have HE := Lib.hid (show Blk ((((w7.setCell ⟨w1.heap.size, 0, none⟩ (.int .i64 (N + k))).setCell ⟨w1.heap.size, 1, none⟩ (.int .i64 t)).setCell ⟨w1.heap.size, 2, none⟩ (.int .i64 q)).setCell ⟨w1.heap.size, 3, none⟩ (.slice none 0 0)) w1.heap.size 25 #[.int .i64 (N + k), .int .i64 t, .int .i64 q, .slice none 0 0] from by simpa using (((hE7.put 0 (.int .i64 (N + k))).put 1 (.int .i64 t)).put 2 (.int .i64 q)).put 3 (.slice none 0 0)); have HBz := Lib.hid (show Below w1.heap.size w1 ((((w7.setCell ⟨w1.heap.size, 0, none⟩ (.int .i64 (N + k))).setCell ⟨w1.heap.size, 1, none⟩ (.int .i64 t)).setCell ⟨w1.heap.size, 2, none⟩ (.int .i64 q)).setCell ⟨w1.heap.size, 3, none⟩ (.slice none 0 0)) from ((((HB6.out.setCell (p := ⟨w1.heap.size, 0, none⟩) (Nat.le_refl _) (.int .i64 (N + k))).setCell (p := ⟨w1.heap.size, 1, none⟩) (Nat.le_refl _) (.int .i64 t)).setCell (p := ⟨w1.heap.size, 2, none⟩) (Nat.le_refl _) (.int .i64 q)).setCell (p := ⟨w1.heap.size, 3, none⟩) (Nat.le_refl _) (.slice none 0 0))); clear y0 y1 y2 y3 g0 g1 g2 g3 hE7; generalize ((((w7.setCell ⟨w1.heap.size, 0, none⟩ (.int .i64 (N + k))).setCell ⟨w1.heap.size, 1, none⟩ (.int .i64 t)).setCell ⟨w1.heap.size, 2, none⟩ (.int .i64 q)).setCell ⟨w1.heap.size, 3, none⟩ (.slice none 0 0)) = wz at *; obtain ⟨g, hgg⟩ : ∃ g, g = w1.heap.size := ⟨_, rfl⟩; have hg : w1.heap.size ≤ g := by rw [hgg]; exact Nat.le_refl _
       rw [← hgg] at HE ⊢; clear hgg)
    | (have HE := Lib.hid (show Blk ((((w7.setCell ⟨w6.heap.size, 0, none⟩ (.int .i64 (N + k))).setCell ⟨w6.heap.size, 1, none⟩ (.int .i64 t)).setCell ⟨w6.heap.size, 2, none⟩ (.int .i64 q)).setCell ⟨w6.heap.size, 3, none⟩ (.slice none 0 0)) w6.heap.size 25 #[.int .i64 (N + k), .int .i64 t, .int .i64 q, .slice none 0 0] from by simpa using (((hE7.put 0 (.int .i64 (N + k))).put 1 (.int .i64 t)).put 2 (.int .i64 q)).put 3 (.slice none 0 0)); have HBz := Lib.hid (show Below w1.heap.size w1 ((((w7.setCell ⟨w6.heap.size, 0, none⟩ (.int .i64 (N + k))).setCell ⟨w6.heap.size, 1, none⟩ (.int .i64 t)).setCell ⟨w6.heap.size, 2, none⟩ (.int .i64 q)).setCell ⟨w6.heap.size, 3, none⟩ (.slice none 0 0)) from ((((HB6.out.setCell (p := ⟨w6.heap.size, 0, none⟩) hs6 (.int .i64 (N + k))).setCell (p := ⟨w6.heap.size, 1, none⟩) hs6 (.int .i64 t)).setCell (p := ⟨w6.heap.size, 2, none⟩) hs6 (.int .i64 q)).setCell (p := ⟨w6.heap.size, 3, none⟩) hs6 (.slice none 0 0))); clear y0 y1 y2 y3 g0 g1 g2 g3 hE7; generalize ((((w7.setCell ⟨w6.heap.size, 0, none⟩ (.int .i64 (N + k))).setCell ⟨w6.heap.size, 1, none⟩ (.int .i64 t)).setCell ⟨w6.heap.size, 2, none⟩ (.int .i64 q)).setCell ⟨w6.heap.size, 3, none⟩ (.slice none 0 0)) = wz at *; obtain ⟨g, hgg⟩ : ∃ g, g = w6.heap.size := ⟨_, rfl⟩; have hg : w1.heap.size ≤ g := by rw [hgg]; exact hs6
       rw [← hgg] at HE ⊢; clear hgg)
  all_goals
    clear HB6 HB5 HK5 HW HV HTK
    try clear HE5
    have hzz := HBz.out.size
    have hgl := HE.out.lt
    have HQz := Lib.hid (HQ.out.below HBz.out HQ.out.lt)
    have hql := HQ.out.lt
    have HRz := Lib.hid ((HR.out.keep HBz.out (by omega)).behindG hkn hcap)
    have HBB := Lib.hid (up HB.out HBz.out)
    obtain ⟨e0, e1, e2, e3⟩ := HS.out _ HBz.out
    clear e0 e1 e2 HBz
    generalize hAT : (if c = k then A else A.map fun x => x.add (k * 2)) = AT at *
    go_wp2_with (fail)
    clear hAT e3
    (with_reducible refine (cloneEntry_any lo hi (n - k) (c - k) AT (ls.drop k) _ HRz.out (by omega) (by omega)).mono ?_)
    rintro e w8 ⟨A9, c9, rfl, ho8, hb8⟩
    have hz8 := hb8.size
    have HE8 := Lib.hid (HE.out.below hb8 hgl)
    have HQ8 := Lib.hid (HQz.out.below hb8 (by omega))
    have hne8 : ∀ k', (Value.slice A9 (n - k) c9).ownBlock = some k' → k' ≠ g ∧ k' ≠ w.heap.size + 1 := fun k' hk' => by have := ho8.lt k' hk'; omega
    have y3 := HE8.out.cell 3
    have g3 := HE8.out.soft 3
    have HE9 := Lib.hid (show Blk (w8.setCell ⟨g, 3, none⟩ (.slice A9 (n - k) c9)) g 25 #[.int .i64 (N + k), .int .i64 t, .int .i64 q, .slice A9 (n - k) c9] from by simpa using HE8.out.put 3 (.slice A9 (n - k) c9))
    have HQ9 := Lib.hid (HQ8.out.far (p := ⟨g, 3, none⟩) (by show w.heap.size + 1 ≠ g; omega) (.slice A9 (n - k) c9))
    have HO9 := Lib.hid (own_set (p := ⟨g, 3, none⟩) ho8 (.slice A9 (n - k) c9) (fun k' hk' => (hne8 k' hk').1))
    have HB9 := Lib.hid ((up HBB.out hb8).setCell (p := ⟨g, 3, none⟩) (by show w.heap.size ≤ g; omega) (.slice A9 (n - k) c9))
    have HM := Lib.hid (show (ls.drop k).length = n - k by rw [List.length_drop, HL.out])
    clear ho8 hb8 HE HQz HRz HBB HE8 HQ8
    have x0 := HE9.out.cell 0
    have x1 := HE9.out.cell 1
    have x2 := HE9.out.cell 2
    have x3 := HE9.out.cell 3
    go_wp2_with (fail)
    clear x0 x1 x2 x3 y3 g3
    generalize w8.setCell ⟨g, 3, none⟩ (.slice A9 (n - k) c9) = w9 at *
    obtain ⟨A10, c10, hv10, hk10, HR10, _⟩ := own_form HO9.out
    cases hv10
    have hzo := HE9.out.lt
    (with_reducible refine (ValidSnapI_any (N + k) t q _ _ (n - k) c9 A9 (ls.drop k) _ HR10 (Nat.le_refl _) (by omega) hk10).mono ?_)
    rintro e w10 ⟨rfl, hb10⟩
    clear HR10
    have HEX := Lib.hid (HE9.out.below hb10 hzo)
    have HQX := Lib.hid (HQ9.out.below hb10 HQ9.out.lt)
    have HOX := Lib.hid (own_base (own_keep HO9.out hb10) (show w.heap.size ≤ wz.heap.size by omega))
    have HBX := Lib.hid (up HB9.out hb10)
    clear hb10 HE9 HQ9 HO9 HB9
    cases hvx : vSnap (N + k) t q (ls.drop k) with
    | false =>
      have HY := Lib.hid (show compOf N T S ls (k : Int) = ((0, 0, 0, []), false) by rw [HX.out, hvx]; rfl)
      clear hvx
      have hzz := (((HQX.out.put 0 (.int .i64 0)).put 1 (.int .i64 0)).put 2 (.int .i64 0)).put 3 (.slice none 0 0)
      have z0 := hzz.cell 0
      have z1 := hzz.cell 1
      have z2 := hzz.cell 2
      have z3 := hzz.cell 3
      simp at z0 z1 z2 z3
      have q0 := HQX.out.cell 0
      have q1 := HQX.out.cell 1
      have q2 := HQX.out.cell 2
      have q3 := HQX.out.cell 3
      have f0 := HQX.out.soft 0
      have f1 := HQX.out.soft 1
      have f2 := HQX.out.soft 2
      have f3 := HQX.out.soft 3
      have HBZ := Lib.hid ((((HBX.out.setCell (p := ⟨w.heap.size + 1, 0, none⟩) (by show w.heap.size ≤ w.heap.size + 1; omega) (.int .i64 0)).setCell (p := ⟨w.heap.size + 1, 1, none⟩) (by show w.heap.size ≤ w.heap.size + 1; omega) (.int .i64 0)).setCell (p := ⟨w.heap.size + 1, 2, none⟩) (by show w.heap.size ≤ w.heap.size + 1; omega) (.int .i64 0)).setCell (p := ⟨w.heap.size + 1, 3, none⟩) (by show w.heap.size ≤ w.heap.size + 1; omega) (.slice none 0 0))
      clear hzz
      go_wp2
      exact bodyPost_ret (v := .tuple #[.agg #[.int .i64 0, .int .i64 0, .int .i64 0, .slice none 0 0], .bool false]) (by simp [results, Try.results19, go_sem, z0, z1, z2, z3]) rfl (SnPost.no HY.out HBZ.out)
    | true =>
      have HY := Lib.hid (show compOf N T S ls (k : Int) = ((N + k, t, q, ls.drop k), true) by rw [HX.out, hvx]; rfl)
      clear hvx
      have hz9 := (((HQX.out.put 0 (.int .i64 (N + k))).put 1 (.int .i64 t)).put 2 (.int .i64 q)).put 3 (.slice A9 (n - k) c9)
      have z0 := hz9.cell 0
      have z1 := hz9.cell 1
      have z2 := hz9.cell 2
      have z3 := hz9.cell 3
      simp at z0 z1 z2 z3
      have q0 := HQX.out.cell 0
      have q1 := HQX.out.cell 1
      have q2 := HQX.out.cell 2
      have q3 := HQX.out.cell 3
      have f0 := HQX.out.soft 0
      have f1 := HQX.out.soft 1
      have f2 := HQX.out.soft 2
      have f3 := HQX.out.soft 3
      have x0 := HEX.out.cell 0
      have x1 := HEX.out.cell 1
      have x2 := HEX.out.cell 2
      have x3 := HEX.out.cell 3
      have hne : ∀ k', (Value.slice A9 (n - k) c9).ownBlock = some k' → k' ≠ w.heap.size + 1 := fun k' hk' => (hne8 k' hk').2
      have HBZ := Lib.hid ((((HBX.out.setCell (p := ⟨w.heap.size + 1, 0, none⟩) (by show w.heap.size ≤ w.heap.size + 1; omega) (.int .i64 (N + k))).setCell (p := ⟨w.heap.size + 1, 1, none⟩) (by show w.heap.size ≤ w.heap.size + 1; omega) (.int .i64 t)).setCell (p := ⟨w.heap.size + 1, 2, none⟩) (by show w.heap.size ≤ w.heap.size + 1; omega) (.int .i64 q)).setCell (p := ⟨w.heap.size + 1, 3, none⟩) (by show w.heap.size ≤ w.heap.size + 1; omega) (.slice A9 (n - k) c9))
      have HOZ := Lib.hid (own_set (p := ⟨w.heap.size + 1, 3, none⟩) (own_set (p := ⟨w.heap.size + 1, 2, none⟩) (own_set (p := ⟨w.heap.size + 1, 1, none⟩) (own_set (p := ⟨w.heap.size + 1, 0, none⟩) HOX.out (.int .i64 (N + k)) hne) (.int .i64 t) hne) (.int .i64 q) hne) (.slice A9 (n - k) c9) hne)
      clear hz9
      go_wp2
      exact bodyPost_ret (v := .tuple #[.agg #[.int .i64 (N + k), .int .i64 t, .int .i64 q, .slice A9 (n - k) c9], .bool true]) (by simp [results, Try.results19, go_sem, z0, z1, z2, z3]) rfl (SnPost.own HY.out HM.out HOZ.out (Nat.le_refl _) HBZ.out)
end Go.Proofs.Ythoccppfedmcjaa
