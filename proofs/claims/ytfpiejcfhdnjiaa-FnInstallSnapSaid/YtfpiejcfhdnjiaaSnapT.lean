/- The reference's CompactLog and InstallSnap. (Written by gen/snapt.py.) -/
import Derived.Test.YtfpiejcfhdnjiaaSnapS
import Derived.Test.YtfpiejcfhdnjiaaSnapP
import Derived.Deep.RegionHeld3
set_option linter.unusedSimpArgs false
set_option linter.unusedVariables false
namespace Go.Proofs.Ytfpiejcfhdnjiaa
open Go.RowKit

/-- A part of a slice from place k on, whatever its address. -/
theorem Rd.behindS {w : World} {lo hi n c k : Nat} {A : Option Addr} {ps : List En} (h : Rd w lo hi 2 A n (pvs ps)) (hk : k ≤ n) (hc : n ≤ c) :
    Rd w lo hi 2 (if c = k then A else A.map fun x => x.add (k * 2)) (n - k) (pvs (ps.drop k)) := by
  have hl : ps.length = n := h.len2
  refine ⟨by rw [pvs_length, List.length_drop, hl], fun hn => ?_⟩
  obtain ⟨b, off, rfl, h1, h2, hcell⟩ := h.2 (by omega)
  rw [if_neg (by omega)]
  refine ⟨b, off + k * 2, by simp [addr_add], h1, h2, fun j u hu => ?_⟩
  rw [← pvs_dropS, List.getElem?_drop] at hu
  have := hcell _ u hu
  rwa [← Nat.add_assoc] at this
theorem Rd.cutS {w : World} {lo hi n m : Nat} {A : Option Addr} {ps : List En} (h : Rd w lo hi 2 A n (pvs ps)) (hm : m ≤ n) : Rd w lo hi 2 A m (pvs (ps.take m)) := by
  refine ⟨by rw [pvs_length, List.length_take, h.len2]; omega, fun h0 => ?_⟩
  obtain ⟨b, off, e, h1, h2, hc⟩ := h.2 (by omega)
  refine ⟨b, off, e, h1, h2, fun j u hu => hc j u ?_⟩
  rw [← pvs_take, List.getElem?_take] at hu
  split at hu
  · exact hu
  · cases hu
set_option maxRecDepth 100000 in
set_option maxHeartbeats 6400000 in
theorem CompactLogS_any (N T S : Int) (lo hi n c : Nat) (A : Option Addr) (ls : List En) (z : Int) (w : World) (hr : Rd w lo hi 2 A n (pvs ls)) (hB : hi ≤ w.heap.size) (hn : n ≤ 1048576) (hcap : n ≤ c) (_hz : in64 z) :
    Calls Try.prog 49 #[.agg #[.int .i64 N, .int .i64 T, .int .i64 S, .slice A n c], .int .i64 z] w (SnPost (compOf N T S ls z) w) := by
  have HL := Lib.hid hr.len2
  have hb0 := up_alloc (up_alloc (Below.refl _ w) (.cells #[.int .i64 N, .int .i64 T, .int .i64 S, .slice A n c] 32)) (.cells #[.int .i64 0, .int .i64 0, .int .i64 0, .slice none 0 0] 32)
  have hp0 := (Blk.new w 32 #[.int .i64 N, .int .i64 T, .int .i64 S, .slice A n c]).alloc (.cells #[.int .i64 0, .int .i64 0, .int .i64 0, .slice none 0 0] 32)
  have hq0 : Blk ((w.alloc (.cells #[.int .i64 N, .int .i64 T, .int .i64 S, .slice A n c] 32)).alloc (.cells #[.int .i64 0, .int .i64 0, .int .i64 0, .slice none 0 0] 32)) (w.heap.size + 1) 32 #[.int .i64 0, .int .i64 0, .int .i64 0, .slice none 0 0] := Blk.new2 (by simp)
  have HR0 := Lib.hid (hr.keep hb0 hB)
  have HB0 := Lib.hid hb0
  have HP0 := Lib.hid hp0
  have HQ0 := Lib.hid hq0
  have hz0 : ((w.alloc (.cells #[.int .i64 N, .int .i64 T, .int .i64 S, .slice A n c] 32)).alloc (.cells #[.int .i64 0, .int .i64 0, .int .i64 0, .slice none 0 0] 32)).heap.size = w.heap.size + 1 + 1 := by simp
  clear hr hb0 hp0 hq0
  go_enter Try.func49, Try.ntmps49
  go_wp2_with (fail)
  generalize ((w.alloc (.cells #[.int .i64 N, .int .i64 T, .int .i64 S, .slice A n c] 32)).alloc (.cells #[.int .i64 0, .int .i64 0, .int .i64 0, .slice none 0 0] 32)) = w0 at *
  (with_reducible refine (validSnapS_any N T S lo hi n c A ls _ HR0.out (by omega) hn).mono ?_)
  rintro e w1 ⟨rfl, hb1⟩
  have HP := Lib.hid (HP0.out.below hb1 (by omega))
  have HQ := Lib.hid (HQ0.out.below hb1 (by omega))
  have HR := Lib.hid (HR0.out.keep hb1 (by omega))
  have HB := Lib.hid (up HB0.out hb1)
  have hz1 := hb1.size
  clear hb1 HP0 HQ0 HR0 HB0
  cases h1 : vSnap N T S ls with
  | false =>
    have HX := Lib.hid (compOf_no (N := N) (T := T) (S := S) (R := ls) (z := z) (.inl h1))
    clear h1
    have hzz := (((HQ.out.put 0 (.int .i64 0)).put 1 (.int .i64 0)).put 2 (.int .i64 0)).put 3 (.slice none 0 0)
    have z0 := hzz.cell 0
    have z1 := hzz.cell 1
    have z2 := hzz.cell 2
    have z3 := hzz.cell 3
    simp at z0 z1 z2 z3
    have q0 := HQ.out.cell 0
    have q1 := HQ.out.cell 1
    have q2 := HQ.out.cell 2
    have q3 := HQ.out.cell 3
    have f0 := HQ.out.soft 0
    have f1 := HQ.out.soft 1
    have f2 := HQ.out.soft 2
    have f3 := HQ.out.soft 3
    have HBZ := Lib.hid ((((HB.out.setCell (p := ⟨w.heap.size + 1, 0, none⟩) (by show w.heap.size ≤ w.heap.size + 1; omega) (.int .i64 0)).setCell (p := ⟨w.heap.size + 1, 1, none⟩) (by show w.heap.size ≤ w.heap.size + 1; omega) (.int .i64 0)).setCell (p := ⟨w.heap.size + 1, 2, none⟩) (by show w.heap.size ≤ w.heap.size + 1; omega) (.int .i64 0)).setCell (p := ⟨w.heap.size + 1, 3, none⟩) (by show w.heap.size ≤ w.heap.size + 1; omega) (.slice none 0 0))
    clear hzz
    go_wp2
    exact bodyPost_ret (v := .tuple #[.agg #[.int .i64 0, .int .i64 0, .int .i64 0, .slice none 0 0], .bool false]) (by simp [results, Try.results49, go_sem, z0, z1, z2, z3]) rfl (SnPost.no HX.out HBZ.out)
  | true =>
  have hv := vSnap_iff.1 h1
  have hn16 : n ≤ 16 := by rw [← HL.out]; exact vSnap_len h1
  have e3 := HP.out.cell 3
  go_wp2_with (fail)
  (with_reducible refine (inRange_any _ _ _ _).mono ?_)
  rintro e w2 ⟨rfl, rfl⟩
  clear e3
  cases h2 : inR z 0 (n : Int) with
  | false =>
    have HX := Lib.hid (compOf_no (N := N) (T := T) (S := S) (R := ls) (z := z) (.inr (by rw [HL.out]; exact h2)))
    clear h1 hv h2
    have hzz := (((HQ.out.put 0 (.int .i64 0)).put 1 (.int .i64 0)).put 2 (.int .i64 0)).put 3 (.slice none 0 0)
    have z0 := hzz.cell 0
    have z1 := hzz.cell 1
    have z2 := hzz.cell 2
    have z3 := hzz.cell 3
    simp at z0 z1 z2 z3
    have q0 := HQ.out.cell 0
    have q1 := HQ.out.cell 1
    have q2 := HQ.out.cell 2
    have q3 := HQ.out.cell 3
    have f0 := HQ.out.soft 0
    have f1 := HQ.out.soft 1
    have f2 := HQ.out.soft 2
    have f3 := HQ.out.soft 3
    have HBZ := Lib.hid ((((HB.out.setCell (p := ⟨w.heap.size + 1, 0, none⟩) (by show w.heap.size ≤ w.heap.size + 1; omega) (.int .i64 0)).setCell (p := ⟨w.heap.size + 1, 1, none⟩) (by show w.heap.size ≤ w.heap.size + 1; omega) (.int .i64 0)).setCell (p := ⟨w.heap.size + 1, 2, none⟩) (by show w.heap.size ≤ w.heap.size + 1; omega) (.int .i64 0)).setCell (p := ⟨w.heap.size + 1, 3, none⟩) (by show w.heap.size ≤ w.heap.size + 1; omega) (.slice none 0 0))
    clear hzz
    go_wp2
    exact bodyPost_ret (v := .tuple #[.agg #[.int .i64 0, .int .i64 0, .int .i64 0, .slice none 0 0], .bool false]) (by simp [results, Try.results49, go_sem, z0, z1, z2, z3]) rfl (SnPost.no HX.out HBZ.out)
  | true =>
  rw [inR_iff] at h2
  obtain ⟨k, rfl⟩ : ∃ k : Nat, z = (k : Int) := ⟨z.toNat, by omega⟩
  have hkn : k ≤ n := by omega
  clear h2
  have HX := Lib.hid (compOf_yes h1 (show k ≤ ls.length by rw [HL.out]; exact hkn))
  have HTK := Lib.hid (HR.out.cutS hkn)
  have HRD := Lib.hid (HR.out.behindS hkn hcap)
  have HST := Lib.hid (show ∀ wx, Below w1.heap.size w1 wx → Calls Try.prog 72 #[.int .i64 S, .slice A k c] wx fun e w' => e = .returned (.int .i64 (stAfter S (ls.take k))) ∧ wx = w' from fun wx hb =>
    stateAfterS_any S lo hi k c A (ls.take k) wx (HTK.out.keep hb (by omega)) (by omega) hv.2.2.1 (fun p hp => (vLog_ok hv.2.2.2.1 (List.mem_of_mem_take hp)).2))
  have HN := Lib.hid hv.1
  clear h1 hv HTK
  generalize hq : stAfter S (ls.take k) = q at *
  clear hq
  generalize hAT : (if c = k then A else A.map fun x => x.add (k * 2)) = AT at *
  have HCL := Lib.hid (show ∀ wx, Below w1.heap.size w1 wx → Calls Try.prog 54 #[.slice AT (n - k) (c - k)] wx fun e w' => ∃ A9 c9, e = .returned (.slice A9 (n - k) c9) ∧ w'.ownsRow wx.heap.size 29 2 (.slice A9 (n - k) c9) (n - k) (pvs (ls.drop k)) ∧ Below wx.heap.size wx w' from fun wx hb =>
    (copyLogS_any lo hi (n - k) (c - k) AT (ls.drop k) wx (HRD.out.keep hb (by omega)) (Nat.le_trans (by omega) hb.size) (by omega)).mono (by
      rintro e w' ⟨v, rfl, ho, hb9⟩
      obtain ⟨A9, c9, rfl, _⟩ := own_form ho
      exact ⟨A9, c9, rfl, ho, hb9⟩))
  have HS := Lib.hid (show ∀ wx, Below w1.heap.size w1 wx → wx.cell? ⟨w.heap.size, 0, none⟩ = some (.int .i64 N) ∧ wx.cell? ⟨w.heap.size, 1, none⟩ = some (.int .i64 T) ∧ wx.cell? ⟨w.heap.size, 2, none⟩ = some (.int .i64 S) ∧ wx.cell? ⟨w.heap.size, 3, none⟩ = some (.slice A n c) from fun wx hb => ⟨(hb.cell (by show w.heap.size < _; omega)).trans (HP.out.cell 0), (hb.cell (by show w.heap.size < _; omega)).trans (HP.out.cell 1), (hb.cell (by show w.heap.size < _; omega)).trans (HP.out.cell 2), (hb.cell (by show w.heap.size < _; omega)).trans (HP.out.cell 3)⟩)
  have k0 : (0 : Int) ≤ (k : Int) := by omega
  have k1 : (k : Int) ≤ (n : Int) := by omega
  have k2 : (k : Int) ≤ (c : Int) := by omega
  have k3 : k ≤ c := by omega
  have hwn : IntKind.i64.wrap (N + k) = N + k := IntWalk.i64_in _ (by have := HN.out; omega)
  go_wp2_with (fail)
  go_region_held3 (fun wx => wx.cell? ⟨w.heap.size, 0, none⟩ = some (.int .i64 N) ∧ wx.cell? ⟨w.heap.size, 1, none⟩ = some (.int .i64 T) ∧ wx.cell? ⟨w.heap.size, 2, none⟩ = some (.int .i64 S) ∧ wx.cell? ⟨w.heap.size, 3, none⟩ = some (.slice A n c))
    (first | exact HS.out _ (Below.refl _ _) | exact HS.out _ (up_drew (Below.refl _ _)) | exact HS.out _ (up_drew (up_alloc (Below.refl _ _) _)) | exact HS.out _ (up_alloc (Below.refl _ _) _) | exact HS.out _ HB6.out | exact HS.out _ (up_alloc HB6.out _) | exact HS.out _ ((((HB6.out.setCell (p := ⟨w1.heap.size, 0, none⟩) (Nat.le_refl _) (.int .i64 (N + k))).setCell (p := ⟨w1.heap.size, 1, none⟩) (Nat.le_refl _) (.int .i64 T)).setCell (p := ⟨w1.heap.size, 2, none⟩) (Nat.le_refl _) (.int .i64 q)).setCell (p := ⟨w1.heap.size, 3, none⟩) (Nat.le_refl _) (.slice A9 (n - k) c9)))
    ((first
      | (go_at_call 72; (with_reducible refine (HST.out _ (up_drew (Below.refl _ _))).mono ?_); rintro e w8 ⟨rfl, hw8⟩; subst hw8)
      | (go_at_call 72; (with_reducible refine (HST.out _ (up_drew (up_alloc (Below.refl _ _) _))).mono ?_); rintro e w8 ⟨rfl, hw8⟩; subst hw8)
      | (go_at_call 72; (with_reducible refine (HST.out _ HB6.out).mono ?_); rintro e w8 ⟨rfl, hw8⟩; subst hw8)
      | (go_at_call 54; (with_reducible refine (HCL.out _ (up_drew (Below.refl _ _))).mono ?_); rintro e w6 ⟨A9, c9, rfl, ho6, hb6⟩; have HB6 := Lib.hid (up (up_drew (Below.refl _ w1)) hb6); have HO6 := Lib.hid ho6; have hE6 := True.intro; clear ho6 hb6)
      | (go_at_call 54; (with_reducible refine (HCL.out _ (up_drew (up_alloc (Below.refl _ _) _))).mono ?_); rintro e w6 ⟨A9, c9, rfl, ho6, hb6⟩; have HB6 := Lib.hid (up (up_drew (up_alloc (Below.refl _ w1) _)) hb6); have HO6 := Lib.hid ho6; have hE6 := ((Blk.new w1 32 #[.int .i64 0, .int .i64 0, .int .i64 0, .slice none 0 0]).drew).below hb6 ((Blk.new w1 32 #[.int .i64 0, .int .i64 0, .int .i64 0, .slice none 0 0]).drew).lt; have y0 := hE6.cell 0; have y1 := hE6.cell 1; have y2 := hE6.cell 2; have y3 := hE6.cell 3; have g0 := hE6.soft 0; have g1 := hE6.soft 1; have g2 := hE6.soft 2; have g3 := hE6.soft 3; clear ho6 hb6)
      | fail "no arm"))
  all_goals
    first
    | (have HE := Lib.hid (show Blk (w6.alloc (.cells #[.int .i64 (N + k), .int .i64 T, .int .i64 q, .slice A9 (n - k) c9] 32)) w6.heap.size 32 #[.int .i64 (N + k), .int .i64 T, .int .i64 q, .slice A9 (n - k) c9] from Blk.new _ _ _); have HBz := Lib.hid (show Below w1.heap.size w1 (w6.alloc (.cells #[.int .i64 (N + k), .int .i64 T, .int .i64 q, .slice A9 (n - k) c9] 32)) from up_alloc HB6.out _); have hs6 := HB6.out.size; have hne6 : ∀ k', (Value.slice A9 (n - k) c9).ownBlock = some k' → k' ≠ w6.heap.size ∧ k' ≠ w.heap.size + 1 := fun k' hk' => by have := HO6.out.lt k' hk'; simp only [World.size_drew, World.size_alloc] at this; omega
       have HOz := Lib.hid (own_base (HO6.out.alloc (.cells #[.int .i64 (N + k), .int .i64 T, .int .i64 q, .slice A9 (n - k) c9] 32)) (show w.heap.size ≤ _ by simp only [World.size_drew, World.size_alloc]; omega))
       generalize w6.alloc (.cells #[.int .i64 (N + k), .int .i64 T, .int .i64 q, .slice A9 (n - k) c9] 32) = wz at *; obtain ⟨g, hgg⟩ : ∃ g, g = w6.heap.size := ⟨_, rfl⟩; have hg : w1.heap.size ≤ g := by rw [hgg]; exact hs6
       rw [← hgg] at HE hne6 ⊢; clear hgg)
    | (have HE := Lib.hid (show Blk ((((w6.setCell ⟨w1.heap.size, 0, none⟩ (.int .i64 (N + k))).setCell ⟨w1.heap.size, 1, none⟩ (.int .i64 T)).setCell ⟨w1.heap.size, 2, none⟩ (.int .i64 q)).setCell ⟨w1.heap.size, 3, none⟩ (.slice A9 (n - k) c9)) w1.heap.size 32 #[.int .i64 (N + k), .int .i64 T, .int .i64 q, .slice A9 (n - k) c9] from by simpa using (((hE6.put 0 (.int .i64 (N + k))).put 1 (.int .i64 T)).put 2 (.int .i64 q)).put 3 (.slice A9 (n - k) c9)); have HBz := Lib.hid (show Below w1.heap.size w1 ((((w6.setCell ⟨w1.heap.size, 0, none⟩ (.int .i64 (N + k))).setCell ⟨w1.heap.size, 1, none⟩ (.int .i64 T)).setCell ⟨w1.heap.size, 2, none⟩ (.int .i64 q)).setCell ⟨w1.heap.size, 3, none⟩ (.slice A9 (n - k) c9)) from ((((HB6.out.setCell (p := ⟨w1.heap.size, 0, none⟩) (Nat.le_refl _) (.int .i64 (N + k))).setCell (p := ⟨w1.heap.size, 1, none⟩) (Nat.le_refl _) (.int .i64 T)).setCell (p := ⟨w1.heap.size, 2, none⟩) (Nat.le_refl _) (.int .i64 q)).setCell (p := ⟨w1.heap.size, 3, none⟩) (Nat.le_refl _) (.slice A9 (n - k) c9))); have hne6 : ∀ k', (Value.slice A9 (n - k) c9).ownBlock = some k' → k' ≠ w1.heap.size ∧ k' ≠ w.heap.size + 1 := fun k' hk' => by have := HO6.out.lt k' hk'; simp only [World.size_drew, World.size_alloc] at this; omega
       have HOz := Lib.hid (own_base (own_set (p := ⟨w1.heap.size, 3, none⟩) (own_set (p := ⟨w1.heap.size, 2, none⟩) (own_set (p := ⟨w1.heap.size, 1, none⟩) (own_set (p := ⟨w1.heap.size, 0, none⟩) HO6.out (.int .i64 (N + k)) (fun k' hk' => (hne6 k' hk').1)) (.int .i64 T) (fun k' hk' => (hne6 k' hk').1)) (.int .i64 q) (fun k' hk' => (hne6 k' hk').1)) (.slice A9 (n - k) c9) (fun k' hk' => (hne6 k' hk').1)) (show w.heap.size ≤ _ by simp only [World.size_drew, World.size_alloc]; omega))
       clear y0 y1 y2 y3 g0 g1 g2 g3 hE6; generalize ((((w6.setCell ⟨w1.heap.size, 0, none⟩ (.int .i64 (N + k))).setCell ⟨w1.heap.size, 1, none⟩ (.int .i64 T)).setCell ⟨w1.heap.size, 2, none⟩ (.int .i64 q)).setCell ⟨w1.heap.size, 3, none⟩ (.slice A9 (n - k) c9)) = wz at *; obtain ⟨g, hgg⟩ : ∃ g, g = w1.heap.size := ⟨_, rfl⟩; have hg : w1.heap.size ≤ g := by rw [hgg]; exact Nat.le_refl _
       rw [← hgg] at HE hne6 ⊢; clear hgg)
  all_goals
    clear HB6 HO6 HCL HST hAT HRD
    try clear hE6
    have hzz := HBz.out.size
    have hgl := HE.out.lt
    have HQz := Lib.hid (HQ.out.below HBz.out HQ.out.lt)
    have hql := HQ.out.lt
    have HRz := Lib.hid (HR.out.keep HBz.out (by omega))
    have HBB := Lib.hid (up HB.out HBz.out)
    have HM := Lib.hid (show (ls.drop k).length = n - k by rw [List.length_drop, HL.out])
    obtain ⟨e0, e1, e2, e3⟩ := HS.out _ HBz.out
    clear e0 e1 e2 HBz
    by_cases hk0 : k = 0
    case pos =>
      have dk : decide ((0 : Int) < (k : Int)) = false := decide_eq_false (by omega)
      have dk2 : decide (0 < k) = false := decide_eq_false (by omega)
      rw [if_pos hk0] at HX
      clear hk0
      have x0 := HE.out.cell 0
      have x1 := HE.out.cell 1
      have x2 := HE.out.cell 2
      have x3 := HE.out.cell 3
      go_wp2_with (fail)
      clear x0 x1 x2 x3
      obtain ⟨A10, c10, hv10, hk10, HR10, _⟩ := own_form HOz.out
      cases hv10
      have hzo := HE.out.lt
      (with_reducible refine (validSnapS_any (N + k) T q _ _ (n - k) c9 A9 (ls.drop k) _ HR10 (Nat.le_refl _) (by omega)).mono ?_)
      rintro e w10 ⟨rfl, hb10⟩
      clear HR10
      have HEX := Lib.hid (HE.out.below hb10 hzo)
      have HQX := Lib.hid (HQz.out.below hb10 HQz.out.lt)
      have HOX := Lib.hid (own_keep HOz.out hb10)
      have HBX := Lib.hid (up HBB.out hb10)
      clear hb10 HE HQz HOz HBB
      have hne : ∀ k', (Value.slice A9 (n - k) c9).ownBlock = some k' → k' ≠ w.heap.size + 1 := fun k' hk' => (hne6 k' hk').2
      cases hvx : vSnap (N + k) T q (ls.drop k) with
      | false =>
        have HY := Lib.hid (show compOf N T S ls (k : Int) = ((0, 0, 0, []), false) by rw [HX.out, hvx]; rfl)
        clear hvx
        have hzz := (((HQX.out.put 0 (.int .i64 0)).put 1 (.int .i64 0)).put 2 (.int .i64 0)).put 3 (.slice none 0 0)
        have z0 := hzz.cell 0
        have z1 := hzz.cell 1
        have z2 := hzz.cell 2
        have z3 := hzz.cell 3
        simp at z0 z1 z2 z3
        have q0 := HQX.out.cell 0
        have q1 := HQX.out.cell 1
        have q2 := HQX.out.cell 2
        have q3 := HQX.out.cell 3
        have f0 := HQX.out.soft 0
        have f1 := HQX.out.soft 1
        have f2 := HQX.out.soft 2
        have f3 := HQX.out.soft 3
        have HBZ := Lib.hid ((((HBX.out.setCell (p := ⟨w.heap.size + 1, 0, none⟩) (by show w.heap.size ≤ w.heap.size + 1; omega) (.int .i64 0)).setCell (p := ⟨w.heap.size + 1, 1, none⟩) (by show w.heap.size ≤ w.heap.size + 1; omega) (.int .i64 0)).setCell (p := ⟨w.heap.size + 1, 2, none⟩) (by show w.heap.size ≤ w.heap.size + 1; omega) (.int .i64 0)).setCell (p := ⟨w.heap.size + 1, 3, none⟩) (by show w.heap.size ≤ w.heap.size + 1; omega) (.slice none 0 0))
        clear hzz
        go_wp2
        exact bodyPost_ret (v := .tuple #[.agg #[.int .i64 0, .int .i64 0, .int .i64 0, .slice none 0 0], .bool false]) (by simp [results, Try.results49, go_sem, z0, z1, z2, z3]) rfl (SnPost.no HY.out HBZ.out)
      | true =>
        have HY := Lib.hid (show compOf N T S ls (k : Int) = ((N + k, T, q, ls.drop k), true) by rw [HX.out, hvx]; rfl)
        clear hvx
        have hzz := (((HQX.out.put 0 (.int .i64 (N + k))).put 1 (.int .i64 T)).put 2 (.int .i64 q)).put 3 (.slice A9 (n - k) c9)
        have z0 := hzz.cell 0
        have z1 := hzz.cell 1
        have z2 := hzz.cell 2
        have z3 := hzz.cell 3
        simp at z0 z1 z2 z3
        have q0 := HQX.out.cell 0
        have q1 := HQX.out.cell 1
        have q2 := HQX.out.cell 2
        have q3 := HQX.out.cell 3
        have f0 := HQX.out.soft 0
        have f1 := HQX.out.soft 1
        have f2 := HQX.out.soft 2
        have f3 := HQX.out.soft 3
        have x0 := HEX.out.cell 0
        have x1 := HEX.out.cell 1
        have x2 := HEX.out.cell 2
        have x3 := HEX.out.cell 3
        have HBZ := Lib.hid ((((HBX.out.setCell (p := ⟨w.heap.size + 1, 0, none⟩) (by show w.heap.size ≤ w.heap.size + 1; omega) (.int .i64 (N + k))).setCell (p := ⟨w.heap.size + 1, 1, none⟩) (by show w.heap.size ≤ w.heap.size + 1; omega) (.int .i64 T)).setCell (p := ⟨w.heap.size + 1, 2, none⟩) (by show w.heap.size ≤ w.heap.size + 1; omega) (.int .i64 q)).setCell (p := ⟨w.heap.size + 1, 3, none⟩) (by show w.heap.size ≤ w.heap.size + 1; omega) (.slice A9 (n - k) c9))
        have HOZ := Lib.hid (own_set (p := ⟨w.heap.size + 1, 3, none⟩) (own_set (p := ⟨w.heap.size + 1, 2, none⟩) (own_set (p := ⟨w.heap.size + 1, 1, none⟩) (own_set (p := ⟨w.heap.size + 1, 0, none⟩) HOX.out (.int .i64 (N + k)) hne) (.int .i64 T) hne) (.int .i64 q) hne) (.slice A9 (n - k) c9) hne)
        clear hzz
        go_wp2
        exact bodyPost_ret (v := .tuple #[.agg #[.int .i64 (N + k), .int .i64 T, .int .i64 q, .slice A9 (n - k) c9], .bool true]) (by simp [results, Try.results49, go_sem, z0, z1, z2, z3]) rfl (SnPost.own HY.out HM.out HOZ.out (Nat.le_refl _) HBZ.out)
    obtain ⟨b, off, x, y, hA, hbB, _, hg0, hc0, hc1⟩ := HRz.out.pair (k := k - 1) (by omega)
    subst hA
    have HTK := Lib.hid (show termOf ls k = x by have := termOf_get hg0; rwa [show k - 1 + 1 = k by omega] at this)
    rw [if_neg hk0, HTK.out] at HX
    clear hg0 HTK
    have hkk : ((k - 1 : Nat) : Int) = (k : Int) - 1 := by omega
    have hkw : IntKind.i64.wrap ((k : Int) - 1) = ((k - 1 : Nat) : Int) := by rw [IntWalk.i64_in _ (by omega)]; omega
    have dk : decide ((0 : Int) < (k : Int)) = true := decide_eq_true (by omega)
    have dk2 : decide (0 < k) = true := decide_eq_true (by omega)
    have hj0 : (0 : Int) ≤ ((k - 1 : Nat) : Int) := by omega
    have hjn : ((k - 1 : Nat) : Int) < (n : Int) := by omega
    have y1 := HE.out.cell 1
    have g1 := HE.out.soft 1
    have HE9 := Lib.hid (show Blk (wz.setCell ⟨g, 1, none⟩ (.int .i64 x)) g 32 #[.int .i64 (N + k), .int .i64 x, .int .i64 q, .slice A9 (n - k) c9] from by simpa using HE.out.put 1 (.int .i64 x))
    have HQ9 := Lib.hid (HQz.out.far (p := ⟨g, 1, none⟩) (by show w.heap.size + 1 ≠ g; omega) (.int .i64 x))
    have HO9 := Lib.hid (own_set (p := ⟨g, 1, none⟩) HOz.out (.int .i64 x) (fun k' hk' => (hne6 k' hk').1))
    have HB9 := Lib.hid (HBB.out.setCell (p := ⟨g, 1, none⟩) (by show w.heap.size ≤ g; omega) (.int .i64 x))
    clear HE HQz HOz HBB hk0
    have x0 := HE9.out.cell 0
    have x1 := HE9.out.cell 1
    have x2 := HE9.out.cell 2
    have x3 := HE9.out.cell 3
    go_wp2_with (fail)
    clear x0 x1 x2 x3
    clear y1 g1 hc0 hc1 e3
    generalize wz.setCell ⟨g, 1, none⟩ (.int .i64 x) = w9 at *
    obtain ⟨A10, c10, hv10, hk10, HR10, _⟩ := own_form HO9.out
    cases hv10
    have hzo := HE9.out.lt
    (with_reducible refine (validSnapS_any (N + k) x q _ _ (n - k) c9 A9 (ls.drop k) _ HR10 (Nat.le_refl _) (by omega)).mono ?_)
    rintro e w10 ⟨rfl, hb10⟩
    clear HR10
    have HEX := Lib.hid (HE9.out.below hb10 hzo)
    have HQX := Lib.hid (HQ9.out.below hb10 HQ9.out.lt)
    have HOX := Lib.hid (own_keep HO9.out hb10)
    have HBX := Lib.hid (up HB9.out hb10)
    clear hb10 HE9 HQ9 HO9 HB9
    have hne : ∀ k', (Value.slice A9 (n - k) c9).ownBlock = some k' → k' ≠ w.heap.size + 1 := fun k' hk' => (hne6 k' hk').2
    cases hvx : vSnap (N + k) x q (ls.drop k) with
    | false =>
      have HY := Lib.hid (show compOf N T S ls (k : Int) = ((0, 0, 0, []), false) by rw [HX.out, hvx]; rfl)
      clear hvx
      have hzz := (((HQX.out.put 0 (.int .i64 0)).put 1 (.int .i64 0)).put 2 (.int .i64 0)).put 3 (.slice none 0 0)
      have z0 := hzz.cell 0
      have z1 := hzz.cell 1
      have z2 := hzz.cell 2
      have z3 := hzz.cell 3
      simp at z0 z1 z2 z3
      have q0 := HQX.out.cell 0
      have q1 := HQX.out.cell 1
      have q2 := HQX.out.cell 2
      have q3 := HQX.out.cell 3
      have f0 := HQX.out.soft 0
      have f1 := HQX.out.soft 1
      have f2 := HQX.out.soft 2
      have f3 := HQX.out.soft 3
      have HBZ := Lib.hid ((((HBX.out.setCell (p := ⟨w.heap.size + 1, 0, none⟩) (by show w.heap.size ≤ w.heap.size + 1; omega) (.int .i64 0)).setCell (p := ⟨w.heap.size + 1, 1, none⟩) (by show w.heap.size ≤ w.heap.size + 1; omega) (.int .i64 0)).setCell (p := ⟨w.heap.size + 1, 2, none⟩) (by show w.heap.size ≤ w.heap.size + 1; omega) (.int .i64 0)).setCell (p := ⟨w.heap.size + 1, 3, none⟩) (by show w.heap.size ≤ w.heap.size + 1; omega) (.slice none 0 0))
      clear hzz
      go_wp2
      exact bodyPost_ret (v := .tuple #[.agg #[.int .i64 0, .int .i64 0, .int .i64 0, .slice none 0 0], .bool false]) (by simp [results, Try.results49, go_sem, z0, z1, z2, z3]) rfl (SnPost.no HY.out HBZ.out)
    | true =>
      have HY := Lib.hid (show compOf N T S ls (k : Int) = ((N + k, x, q, ls.drop k), true) by rw [HX.out, hvx]; rfl)
      clear hvx
      have hzz := (((HQX.out.put 0 (.int .i64 (N + k))).put 1 (.int .i64 x)).put 2 (.int .i64 q)).put 3 (.slice A9 (n - k) c9)
      have z0 := hzz.cell 0
      have z1 := hzz.cell 1
      have z2 := hzz.cell 2
      have z3 := hzz.cell 3
      simp at z0 z1 z2 z3
      have q0 := HQX.out.cell 0
      have q1 := HQX.out.cell 1
      have q2 := HQX.out.cell 2
      have q3 := HQX.out.cell 3
      have f0 := HQX.out.soft 0
      have f1 := HQX.out.soft 1
      have f2 := HQX.out.soft 2
      have f3 := HQX.out.soft 3
      have x0 := HEX.out.cell 0
      have x1 := HEX.out.cell 1
      have x2 := HEX.out.cell 2
      have x3 := HEX.out.cell 3
      have HBZ := Lib.hid ((((HBX.out.setCell (p := ⟨w.heap.size + 1, 0, none⟩) (by show w.heap.size ≤ w.heap.size + 1; omega) (.int .i64 (N + k))).setCell (p := ⟨w.heap.size + 1, 1, none⟩) (by show w.heap.size ≤ w.heap.size + 1; omega) (.int .i64 x)).setCell (p := ⟨w.heap.size + 1, 2, none⟩) (by show w.heap.size ≤ w.heap.size + 1; omega) (.int .i64 q)).setCell (p := ⟨w.heap.size + 1, 3, none⟩) (by show w.heap.size ≤ w.heap.size + 1; omega) (.slice A9 (n - k) c9))
      have HOZ := Lib.hid (own_set (p := ⟨w.heap.size + 1, 3, none⟩) (own_set (p := ⟨w.heap.size + 1, 2, none⟩) (own_set (p := ⟨w.heap.size + 1, 1, none⟩) (own_set (p := ⟨w.heap.size + 1, 0, none⟩) HOX.out (.int .i64 (N + k)) hne) (.int .i64 x) hne) (.int .i64 q) hne) (.slice A9 (n - k) c9) hne)
      clear hzz
      go_wp2
      exact bodyPost_ret (v := .tuple #[.agg #[.int .i64 (N + k), .int .i64 x, .int .i64 q, .slice A9 (n - k) c9], .bool true]) (by simp [results, Try.results49, go_sem, z0, z1, z2, z3]) rfl (SnPost.own HY.out HM.out HOZ.out (Nat.le_refl _) HBZ.out)
end Go.Proofs.Ytfpiejcfhdnjiaa
