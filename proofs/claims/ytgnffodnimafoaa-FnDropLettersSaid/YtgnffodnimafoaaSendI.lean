/- impl.SendLetter, impl.WaitLetter. (Written by gen/sendimpl.py.) -/
import Derived.Test.YtgnffodnimafoaaSendS
import Derived.Test.YtgnffodnimafoaaDelOne
import Derived.Test.YtgnffodnimafoaaPostO
set_option linter.unusedSimpArgs false
set_option linter.unusedVariables false
namespace Go.Proofs.Ytgnffodnimafoaa
open Go.RowKit

set_option maxRecDepth 100000 in
set_option maxHeartbeats 6400000 in
theorem SendLetterI_any (lo hi nn cn : Nat) (An : Option Addr) (ns : List Tri) (lo' hi' n c : Nat) (A : Option Addr) (fs : List Tri) (x0 x1 x2 : Int) (w : World) (hrn : Rd w lo hi 3 An nn (tvs ns)) (hB : hi ≤ w.heap.size) (hnn : nn ≤ 1048576)
    (hr : Rd w lo' hi' 3 A n (tvs fs)) (hB' : hi' ≤ w.heap.size) (hn : n ≤ 1048576) :
    Calls Try.prog 19 #[.agg #[.slice An nn cn, .slice A n c], .agg #[.int .i64 x0, .int .i64 x1, .int .i64 x2]] w (PostRes (sendOf ns fs (x0, x1, x2)).1 (.int .i64 (sendOf ns fs (x0, x1, x2)).2.1) (sendOf ns fs (x0, x1, x2)).2.2 w) := by
  obtain ⟨i0, hi0, hz0, hz1, hz2⟩ := info_parts infoLetter
  obtain ⟨j0, hj0, hy0, hy1, hy2⟩ := info_parts infoSub
  have HLN := Lib.hid hrn.len3
  have HLF := Lib.hid hr.len3
  have hb0 := up_alloc (up_alloc (up_alloc (Below.refl _ w) (.cells #[.slice An nn cn, .slice A n c] 26)) (.cells #[.int .i64 x0, .int .i64 x1, .int .i64 x2] 33)) (.cells #[.slice none 0 0, .slice none 0 0] 26)
  have hx0 : Blk (((w.alloc (.cells #[.slice An nn cn, .slice A n c] 26)).alloc (.cells #[.int .i64 x0, .int .i64 x1, .int .i64 x2] 33)).alloc (.cells #[.slice none 0 0, .slice none 0 0] 26)) w.heap.size 26 #[.slice An nn cn, .slice A n c] := ((Blk.new w _ _).alloc _).alloc _
  have hl0 : Blk (((w.alloc (.cells #[.slice An nn cn, .slice A n c] 26)).alloc (.cells #[.int .i64 x0, .int .i64 x1, .int .i64 x2] 33)).alloc (.cells #[.slice none 0 0, .slice none 0 0] 26)) (w.heap.size + 1) 33 #[.int .i64 x0, .int .i64 x1, .int .i64 x2] := Blk.alloc (Blk.new2 (by simp)) _
  have hq0 : Blk (((w.alloc (.cells #[.slice An nn cn, .slice A n c] 26)).alloc (.cells #[.int .i64 x0, .int .i64 x1, .int .i64 x2] 33)).alloc (.cells #[.slice none 0 0, .slice none 0 0] 26)) (w.heap.size + 1 + 1) 26 #[.slice none 0 0, .slice none 0 0] := Blk.new2 (by simp)
  have hsz : (((w.alloc (.cells #[.slice An nn cn, .slice A n c] 26)).alloc (.cells #[.int .i64 x0, .int .i64 x1, .int .i64 x2] 33)).alloc (.cells #[.slice none 0 0, .slice none 0 0] 26)).heap.size = w.heap.size + 1 + 1 + 1 := by simp
  go_enter Try.func19, Try.ntmps19
  go_wp2_with (fail)
  generalize hw0 : (((w.alloc (.cells #[.slice An nn cn, .slice A n c] 26)).alloc (.cells #[.int .i64 x0, .int .i64 x1, .int .i64 x2] 33)).alloc (.cells #[.slice none 0 0, .slice none 0 0] 26)) = w0 at *
  clear hw0
  have HRN := Lib.hid (hrn.keep hb0 hB)
  have HR := Lib.hid (hr.keep hb0 hB')
  have hB0 : hi ≤ w0.heap.size := Nat.le_trans hB hb0.size
  have hB0' : hi' ≤ w0.heap.size := Nat.le_trans hB' hb0.size
  have HB0 := Lib.hid hb0
  have HX0 := Lib.hid hx0
  have HL0 := Lib.hid hl0
  have HQ0 := Lib.hid hq0
  clear hrn hr hb0 hx0 hl0 hq0
  (with_reducible refine (officeOf_any lo hi nn cn An ns lo' hi' n c A fs w0 HRN.out hB0 hnn HR.out hB0' hn).mono ?_)
  rintro e w1 hOP
  rcases hOP with ⟨hV, rfl, hb1⟩ | ⟨hV, b1, b2, rfl, hm1, hm2, hb1⟩
  · have HV := Lib.hid hV
    clear hV
    have hs1 := hb1.size
    have hba := up hb1 (up_alloc (Below.refl _ w1) (.cells #[.map none, .map none] 59))
    have HBa := Lib.hid (up HB0.out hba)
    have HQa := Lib.hid (HQ0.out.below hba (by omega))
    clear hb1 hba HB0 HX0 HL0 HQ0 HRN HR
    have HW := Lib.hid (show sendOf ns fs (x0, x1, x2) = (([], []), -1, false) from send_no (by rw [HV.out]; rfl))
    have s0 := HQa.out.soft 0
    have s1 := HQa.out.soft 1
    have r0 : (w1.alloc (.cells #[.map none, .map none] 59)).cell? ⟨w.heap.size + 1 + 1, 0, none⟩ = some (.slice none 0 0) := HQa.out.cell 0
    have r1 : (w1.alloc (.cells #[.map none, .map none] 59)).cell? ⟨w.heap.size + 1 + 1, 1, none⟩ = some (.slice none 0 0) := HQa.out.cell 1
    have hz := (HQa.out.put 0 (.slice none 0 0)).put 1 (.slice none 0 0)
    have z0 := hz.cell 0
    have z1 := hz.cell 1
    simp at z0 z1
    have HBZ := Lib.hid ((HBa.out.setCell (p := ⟨w.heap.size + 1 + 1, 0, none⟩) (by show w.heap.size ≤ w.heap.size + 1 + 1; omega) (.slice none 0 0)).setCell (p := ⟨w.heap.size + 1 + 1, 1, none⟩) (by show w.heap.size ≤ w.heap.size + 1 + 1; omega) (.slice none 0 0))
    clear hz
    go_wp2
    rw [HW.out]
    exact bodyPost_ret (v := .tuple #[.agg #[.slice none 0 0, .slice none 0 0], .int .i64 (-1), .bool false]) (by simp [results, Try.results19, go_sem, z0, z1]) rfl ⟨none, 0, 0, none, 0, 0, rfl, ⟨World.ownsRow_nil _ _ _ _, World.ownsRow_nil _ _ _ _, fun g h => by cases h⟩, HBZ.out⟩
  have HV := Lib.hid hV
  obtain ⟨hl1, hl2⟩ : ns.length ≤ 10 ∧ fs.length ≤ 10 := ⟨(vPost_and.1 hV).2.2.1, (vPost_and.1 hV).2.2.2.2⟩
  rw [HLN.out] at hl1
  rw [HLF.out] at hl2
  have hs1 := hb1.size
  have hbo := up_alloc (Below.refl _ w1) (.cells #[.map (some b1), .map (some b2)] 59)
  have hba := up hb1 hbo
  have hO := Blk.new w1 59 #[.map (some b1), .map (some b2)]
  have hsa : (w1.alloc (.cells #[.map (some b1), .map (some b2)] 59)).heap.size = w1.heap.size + 1 := by simp
  have HM := Lib.hid (hm1.keep hbo (Nat.le_refl _))
  have HB1 := Lib.hid (up HB0.out hba)
  have HX1 := Lib.hid (HX0.out.below hba (by omega))
  have HL1 := Lib.hid (HL0.out.below hba (by omega))
  have HQ1 := Lib.hid (HQ0.out.below hba (by omega))
  have HRN1 := Lib.hid (HRN.out.keep hba hB0)
  have HR1 := Lib.hid (HR.out.keep hba hB0')
  have HO1 := Lib.hid hO
  have l0 : (w1.alloc (.cells #[.map (some b1), .map (some b2)] 59)).cell? ⟨w.heap.size + 1, 0, none⟩ = some (.int .i64 x0) := HL1.out.cell 0
  have l1 : (w1.alloc (.cells #[.map (some b1), .map (some b2)] 59)).cell? ⟨w.heap.size + 1, 1, none⟩ = some (.int .i64 x1) := HL1.out.cell 1
  have l2 : (w1.alloc (.cells #[.map (some b1), .map (some b2)] 59)).cell? ⟨w.heap.size + 1, 2, none⟩ = some (.int .i64 x2) := HL1.out.cell 2
  clear hm1 hm2 hV hb1 hbo hba hO HB0 HX0 HL0 HQ0 HRN HR
  go_wp2_with (fail)
  generalize hwa : (w1.alloc (.cells #[.map (some b1), .map (some b2)] 59)) = wa at *
  clear hwa
  (with_reducible refine (vLetI_any x0 x1 x2 wa).mono ?_)
  rintro e w2 ⟨rfl, hb2⟩
  have hs2 := hb2.size
  have HB2 := Lib.hid (up HB1.out hb2)
  have HX2 := Lib.hid (HX1.out.below hb2 (by omega))
  have HL2 := Lib.hid (HL1.out.below hb2 (by omega))
  have HQ2 := Lib.hid (HQ1.out.below hb2 (by omega))
  have HO2 := Lib.hid (HO1.out.below hb2 (by omega))
  have HM2 := Lib.hid (HM.out.keep hb2 (by omega))
  have HRN2 := Lib.hid (HRN1.out.keep hb2 (by omega))
  have HR2 := Lib.hid (HR1.out.keep hb2 (by omega))
  clear l0 l1 l2 hb2 HB1 HX1 HL1 HQ1 HO1 HM HRN1 HR1
  cases hA : vLet (x0, x1, x2) with
  | false =>
    have HA := Lib.hid hA
    clear hA
    have HW := Lib.hid (show sendOf ns fs (x0, x1, x2) = (([], []), -1, false) from send_no (by rw [HA.out, Bool.and_false]))
    have s0 := HQ2.out.soft 0
    have s1 := HQ2.out.soft 1
    have r0 : w2.cell? ⟨w.heap.size + 1 + 1, 0, none⟩ = some (.slice none 0 0) := HQ2.out.cell 0
    have r1 : w2.cell? ⟨w.heap.size + 1 + 1, 1, none⟩ = some (.slice none 0 0) := HQ2.out.cell 1
    have hz := (HQ2.out.put 0 (.slice none 0 0)).put 1 (.slice none 0 0)
    have z0 := hz.cell 0
    have z1 := hz.cell 1
    simp at z0 z1
    have HBZ := Lib.hid ((HB2.out.setCell (p := ⟨w.heap.size + 1 + 1, 0, none⟩) (by show w.heap.size ≤ w.heap.size + 1 + 1; omega) (.slice none 0 0)).setCell (p := ⟨w.heap.size + 1 + 1, 1, none⟩) (by show w.heap.size ≤ w.heap.size + 1 + 1; omega) (.slice none 0 0))
    clear hz
    go_wp2
    rw [HW.out]
    exact bodyPost_ret (v := .tuple #[.agg #[.slice none 0 0, .slice none 0 0], .int .i64 (-1), .bool false]) (by simp [results, Try.results19, go_sem, z0, z1]) rfl ⟨none, 0, 0, none, 0, 0, rfl, ⟨World.ownsRow_nil _ _ _ _, World.ownsRow_nil _ _ _ _, fun g h => by cases h⟩, HBZ.out⟩
  | true =>
  have HA := Lib.hid (show (vPost ns fs && vLet (x0, x1, x2)) = true by rw [HV.out, hA]; rfl)
  have HR6 := Lib.hid (show in64 (adL (x0, x1, x2)).1 ∧ in64 (adL (x0, x1, x2)).2 by
    simp only [vLet, Bool.and_eq_true, inR_iff] at hA
    simp only [adL, in64]
    omega)
  clear hA HV
  have k0 : w2.cell? ⟨w.heap.size, 0, none⟩ = some (.slice An nn cn) := HX2.out.cell 0
  have k1 : w2.cell? ⟨w.heap.size, 1, none⟩ = some (.slice A n c) := HX2.out.cell 1
  go_wp2_with (fail)
  (with_reducible refine (copyPost_any lo hi nn cn An ns lo' hi' n c A fs w2 HRN2.out (by omega) hnn HR2.out (by omega) hn).mono ?_)
  rintro e w3 ⟨A1, c1, A2, c2, rfl, ⟨ho1, ho2, hap⟩, hb3, hs33⟩
  have hs3 := hb3.size
  have hba := up hb3 (up_alloc (Below.refl _ w3) (.cells #[.slice A1 nn c1, .slice A2 n c2] 26))
  have hbb := up_alloc (Below.refl _ w3) (.cells #[.slice A1 nn c1, .slice A2 n c2] 26)
  have hN := Blk.new w3 26 #[.slice A1 nn c1, .slice A2 n c2]
  have hs4 : w3.heap.size < (w3.alloc (.cells #[.slice A1 nn c1, .slice A2 n c2] 26)).heap.size := by simp
  have HC1 := Lib.hid (own_keep ho1 hbb)
  have HC2 := Lib.hid (own_keep ho2 hbb)
  have HAP := Lib.hid hap
  have HLT1 := Lib.hid (fun g (h : (Value.slice A1 nn c1).ownBlock = some g) => ho1.lt g h)
  have HLT2 := Lib.hid (fun g (h : (Value.slice A2 n c2).ownBlock = some g) => ho2.lt g h)
  have HB4 := Lib.hid (up HB2.out hba)
  have HX4 := Lib.hid (HX2.out.below hba (by omega))
  have HL4 := Lib.hid (HL2.out.below hba (by omega))
  have HQ4 := Lib.hid (HQ2.out.below hba (by omega))
  have HO4 := Lib.hid (HO2.out.below hba (by omega))
  have HM4 := Lib.hid (HM2.out.keep hba (by omega))
  have HRN4 := Lib.hid (HRN2.out.keep hba (by omega))
  have HR4 := Lib.hid (HR2.out.keep hba (by omega))
  have HN4 := Lib.hid hN
  clear hN hba hbb hb3 ho1 ho2 hap HB2 HX2 HL2 HQ2 HO2 HM2 HRN2 HR2 k0 k1
  go_wp2_with (fail)
  generalize hw4 : (w3.alloc (.cells #[.slice A1 nn c1, .slice A2 n c2] 26)) = w4 at *
  clear hw4
  have o0 : w4.cell? ⟨w1.heap.size, 0, none⟩ = some (.map (some b1)) := HO4.out.cell 0
  have l0 : w4.cell? ⟨w.heap.size + 1, 0, none⟩ = some (.int .i64 x0) := HL4.out.cell 0
  have l1 : w4.cell? ⟨w.heap.size + 1, 1, none⟩ = some (.int .i64 x1) := HL4.out.cell 1
  have l2 : w4.cell? ⟨w.heap.size + 1, 2, none⟩ = some (.int .i64 x2) := HL4.out.cell 2
  have HFQ := Lib.hid (fun (wx : World) (hbx : Below w4.heap.size w4 wx) => firstQ_any _ _ b1 _ (adL (x0, x1, x2)) wx (HM4.out.keep hbx (by omega)) (by have := hbx.size; omega) HR6.out.1 HR6.out.2)
  by_cases hlt : firstAt adS ns (adL (x0, x1, x2)) < ns.length
  · obtain ⟨hh1, hh2⟩ := idx_head hlt
    obtain ⟨t, hg, _⟩ := firstAt_get hlt
    rw [hh1, hh2] at HFQ
    have HW := Lib.hid (send_hit HA.out rfl hg)
    have HG := Lib.hid hg
    rw [HLN.out] at hlt
    clear hh1 hh2 hg
    generalize firstAt adS ns (adL (x0, x1, x2)) = i at *
    go_region_held3 (fun w' => w'.cell? ⟨w1.heap.size, 0, none⟩ = some (.map (some b1)) ∧ w'.cell? ⟨w.heap.size + 1, 0, none⟩ = some (.int .i64 x0) ∧ w'.cell? ⟨w.heap.size + 1, 1, none⟩ = some (.int .i64 x1) ∧ w'.cell? ⟨w.heap.size + 1, 2, none⟩ = some (.int .i64 x2))
      (first
        | exact ⟨o0, l0, l1, l2⟩
        | exact ⟨(hb5.cell (by show w1.heap.size < w4.heap.size; omega)).trans o0, (hb5.cell (by show w.heap.size + 1 < w4.heap.size; omega)).trans l0, (hb5.cell (by show w.heap.size + 1 < w4.heap.size; omega)).trans l1, (hb5.cell (by show w.heap.size + 1 < w4.heap.size; omega)).trans l2⟩
        | exact ⟨(hb6.cell (by show w1.heap.size < w4.heap.size; omega)).trans o0, (hb6.cell (by show w.heap.size + 1 < w4.heap.size; omega)).trans l0, (hb6.cell (by show w.heap.size + 1 < w4.heap.size; omega)).trans l1, (hb6.cell (by show w.heap.size + 1 < w4.heap.size; omega)).trans l2⟩)
      ((first
        | (go_at_call 39; (with_reducible refine (letAd_any x0 x1 x2 _).mono ?_); rintro e w5 ⟨rfl, hb5'⟩; have hb5 : Below w4.heap.size w4 w5 := up (up_drew (Below.refl _ w4)) hb5')
        | (go_at_call 38; (with_reducible refine (HFQ.out w5 hb5).mono ?_); rintro e w6 ⟨rfl, hb6'⟩; have hb6 : Below w4.heap.size w4 w6 := up hb5 hb6')))
    have hs6 := hb6.size
    have HB6 := Lib.hid (up HB4.out hb6)
    have HX6 := Lib.hid (HX4.out.below hb6 (by omega))
    have HQ6 := Lib.hid (HQ4.out.below hb6 (by omega))
    have HN6 := Lib.hid (HN4.out.below hb6 (by omega))
    have HS6 := Lib.hid (HRN4.out.keep hb6 (by omega))
    have hc6 := own_keep HC1.out hb6
    have HK6 := Lib.hid (own_keep HC2.out hb6)
    obtain ⟨g, cg, hvg, hg1, hg2, hg3⟩ := own_first hc6 (by omega)
    injection hvg with e1 _ e2
    subst e1
    subst e2
    have HGL := Lib.hid (HLT1.out g rfl)
    have HDEL := Lib.hid (deleteSub_any _ g nn c1 i ns w6 hc6 hlt (by omega) hg3 hg1 hg2)
    have n0 : w6.cell? ⟨w3.heap.size, 0, none⟩ = some (.slice (some ⟨g, 0, none⟩) nn c1) := HN6.out.cell 0
    have q1 : IntKind.i64.wrap ((i : Int) + 1) = (i : Int) + 1 := by rw [IntKind.wrap_i64]; omega
    clear hb5 hb5' hb6 hb6' HFQ o0 l0 l1 l2 HB4 HX4 HL4 HQ4 HO4 HM4 HRN4 HR4 HN4 HC1 HC2 hc6
    go_wp2_with (fail)
    (with_reducible refine HDEL.out.mono ?_)
    rintro e w7 ⟨rfl, ho7, hg7⟩
    have hs7 := hg7.size
    have hgl := HGL.out
    have HN7 := Lib.hid (HN6.out.grown hg7 (fun e => by injection e with e; omega))
    have HX7 := Lib.hid (HX6.out.grown hg7 (fun e => by injection e with e; omega))
    have HQ7 := Lib.hid (HQ6.out.grown hg7 (fun e => by injection e with e; omega))
    have HB7 := Lib.hid (HB6.out.grown hg7 (by omega) (fun k hk => by injection hk with hk; omega))
    have HS7 := Lib.hid (HS6.out.far hg7 (by omega) (fun k hk => by injection hk with hk; omega))
    have HK7 := Lib.hid (HK6.out.kept hg7 (by
      cases hv : (Value.slice A2 n c2).ownBlock with
      | none => exact .inl rfl
      | some k => exact .inr fun e => by injection e with e; subst e; exact HAP.out _ rfl hv))
    have hlE : ∀ g', (Value.slice (some ⟨g, 0, none⟩) (nn - 1) c1).ownBlock = some g' → g' = g := fun g' h => by injection h with h; exact h.symm
    have HOE := Lib.hid (own_set ho7 (p := ⟨w3.heap.size, 0, none⟩) (.slice (some ⟨g, 0, none⟩) (nn - 1) c1) (fun g' h e => by have := hlE g' h; have e : g' = w3.heap.size := e; omega))
    have HOF := Lib.hid (own_set HK7.out (p := ⟨w3.heap.size, 0, none⟩) (.slice (some ⟨g, 0, none⟩) (nn - 1) c1) (fun g' h e => by have := (HLT2.out g' h).2; have e : g' = w3.heap.size := e; omega))
    have HNU := Lib.hid (HN7.out.put 0 (.slice (some ⟨g, 0, none⟩) (nn - 1) c1))
    have HQU := Lib.hid (HQ7.out.far (p := ⟨w3.heap.size, 0, none⟩) (by show _ ≠ w3.heap.size; omega) (.slice (some ⟨g, 0, none⟩) (nn - 1) c1))
    have HXU := Lib.hid (HX7.out.far (p := ⟨w3.heap.size, 0, none⟩) (by show _ ≠ w3.heap.size; omega) (.slice (some ⟨g, 0, none⟩) (nn - 1) c1))
    have HBU := Lib.hid (HB7.out.setCell (p := ⟨w3.heap.size, 0, none⟩) (by show _ ≤ w3.heap.size; omega) (.slice (some ⟨g, 0, none⟩) (nn - 1) c1))
    have HSU := Lib.hid (HS7.out.setCell (p := ⟨w3.heap.size, 0, none⟩) (.inr (by show _ ≤ w3.heap.size; omega)) (.slice (some ⟨g, 0, none⟩) (nn - 1) c1))
    have n7 := HN7.out.cell 0
    have m7 := HN7.out.soft 0
    simp at HNU
    have n0 : (w7.setCell ⟨w3.heap.size, 0, none⟩ (.slice (some ⟨g, 0, none⟩) (nn - 1) c1)).cell? ⟨w3.heap.size, 0, none⟩ = some (.slice (some ⟨g, 0, none⟩) (nn - 1) c1) := HNU.out.cell 0
    have n1 : (w7.setCell ⟨w3.heap.size, 0, none⟩ (.slice (some ⟨g, 0, none⟩) (nn - 1) c1)).cell? ⟨w3.heap.size, 1, none⟩ = some (.slice A2 n c2) := HNU.out.cell 1
    have r0 : (w7.setCell ⟨w3.heap.size, 0, none⟩ (.slice (some ⟨g, 0, none⟩) (nn - 1) c1)).cell? ⟨w.heap.size + 1 + 1, 0, none⟩ = some (.slice none 0 0) := HQU.out.cell 0
    have r1 : (w7.setCell ⟨w3.heap.size, 0, none⟩ (.slice (some ⟨g, 0, none⟩) (nn - 1) c1)).cell? ⟨w.heap.size + 1 + 1, 1, none⟩ = some (.slice none 0 0) := HQU.out.cell 1
    have s0 := HQU.out.soft 0
    have s1 := HQU.out.soft 1
    clear hg7 ho7 HN7 HX7 HQ7 HB7 HS7 HK7 HN6 HX6 HQ6 HB6 HS6 HK6 HDEL
    obtain ⟨y0, y1, y2⟩ := t
    have kx : (w7.setCell ⟨w3.heap.size, 0, none⟩ (.slice (some ⟨g, 0, none⟩) (nn - 1) c1)).cell? ⟨w.heap.size, 0, none⟩ = some (.slice An nn cn) := HXU.out.cell 0
    obtain ⟨b, off, y0', y1', y2', rfl, hbB, _, hg', hd0, _, _⟩ := HSU.out.trip hlt
    obtain rfl : y0 = y0' := by have h := HG.out; rw [hg'] at h; injection h with h; injection h with h _; exact h.symm
    have hi1 : (i : Int) < (nn : Int) := by omega
    have hi0' : (0 : Int) ≤ (i : Int) := by omega
    clear hg'
    go_wp2_with (fail)
    generalize w7.setCell ⟨w3.heap.size, 0, none⟩ (.slice (some ⟨g, 0, none⟩) (nn - 1) c1) = wU at *
    have HNV := Lib.hid ((HNU.out.far (p := ⟨w.heap.size + 1 + 1, 0, none⟩) (by show w3.heap.size ≠ w.heap.size + 1 + 1; omega) (.slice (some ⟨g, 0, none⟩) (nn - 1) c1)).far (p := ⟨w.heap.size + 1 + 1, 1, none⟩) (by show w3.heap.size ≠ w.heap.size + 1 + 1; omega) (.slice A2 n c2))
    have HXV := Lib.hid ((HXU.out.far (p := ⟨w.heap.size + 1 + 1, 0, none⟩) (by show w.heap.size ≠ w.heap.size + 1 + 1; omega) (.slice (some ⟨g, 0, none⟩) (nn - 1) c1)).far (p := ⟨w.heap.size + 1 + 1, 1, none⟩) (by show w.heap.size ≠ w.heap.size + 1 + 1; omega) (.slice A2 n c2))
    have HDV := Lib.hid ((World.cell?_setCell_other _ ⟨w.heap.size + 1 + 1, 1, none⟩ ⟨b, off + i * 3, none⟩ (.slice A2 n c2) (fun e => by injection e with e; omega)).trans ((World.cell?_setCell_other wU ⟨w.heap.size + 1 + 1, 0, none⟩ ⟨b, off + i * 3, none⟩ (.slice (some ⟨g, 0, none⟩) (nn - 1) c1) (fun e => by injection e with e; omega)).trans hd0))
    go_region_held3 (fun w' => w'.cell? ⟨w3.heap.size, 0, none⟩ = some (.slice (some ⟨g, 0, none⟩) (nn - 1) c1) ∧ w'.cell? ⟨w3.heap.size, 1, none⟩ = some (.slice A2 n c2) ∧ w'.cell? ⟨w.heap.size, 0, none⟩ = some (.slice (some ⟨b, off, none⟩) nn cn) ∧ w'.cell? ⟨b, off + i * 3, none⟩ = some (.int .i64 y0))
      (first | exact ⟨n0, n1, kx, hd0⟩ | exact ⟨HNV.out.cell 0, HNV.out.cell 1, HXV.out.cell 0, HDV.out⟩ | go_keep) (fail)
    have hz := (HQU.out.put 0 (.slice (some ⟨g, 0, none⟩) (nn - 1) c1)).put 1 (.slice A2 n c2)
    have z0 := hz.cell 0
    have z1 := hz.cell 1
    simp at z0 z1
    have HBZ := Lib.hid ((HBU.out.setCell (p := ⟨w.heap.size + 1 + 1, 0, none⟩) (by show w.heap.size ≤ w.heap.size + 1 + 1; omega) (.slice (some ⟨g, 0, none⟩) (nn - 1) c1)).setCell (p := ⟨w.heap.size + 1 + 1, 1, none⟩) (by show w.heap.size ≤ w.heap.size + 1 + 1; omega) (.slice A2 n c2))
    have HF1 := Lib.hid (own_base (own_set (own_set HOE.out (p := ⟨w.heap.size + 1 + 1, 0, none⟩) (.slice (some ⟨g, 0, none⟩) (nn - 1) c1) (fun g' h e => by have := hlE g' h; have e : g' = w.heap.size + 1 + 1 := e; omega)) (p := ⟨w.heap.size + 1 + 1, 1, none⟩) (.slice A2 n c2) (fun g' h e => by have := hlE g' h; have e : g' = w.heap.size + 1 + 1 := e; omega)) (show w.heap.size ≤ w2.heap.size + 1 + 1 by omega))
    have HF2 := Lib.hid (own_base (own_set (own_set HOF.out (p := ⟨w.heap.size + 1 + 1, 0, none⟩) (.slice (some ⟨g, 0, none⟩) (nn - 1) c1) (fun g' h e => by have := (HLT2.out g' h).1; have e : g' = w.heap.size + 1 + 1 := e; omega)) (p := ⟨w.heap.size + 1 + 1, 1, none⟩) (.slice A2 n c2) (fun g' h e => by have := (HLT2.out g' h).1; have e : g' = w.heap.size + 1 + 1 := e; omega)) (show w.heap.size ≤ w2.heap.size + 1 + 1 by omega))
    clear hz
    go_wp2
    rw [HW.out]
    refine bodyPost_ret (v := .tuple #[.agg #[(.slice (some ⟨g, 0, none⟩) (nn - 1) c1), (.slice A2 n c2)], .int .i64 y0, .bool true]) (by simp [results, Try.results19, go_sem, z0, z1]) rfl ⟨_, _, _, _, _, _, rfl, ⟨by first | exact HF1.out | exact own_keep HF1.out (up_drew (Below.refl _ _)), by first | exact HF2.out | exact own_keep HF2.out (up_drew (Below.refl _ _)), ?_⟩, by first | exact HBZ.out | exact up_drew HBZ.out⟩
    exact fun g1 h1 h2 => by have := hlE g1 h1; subst this; exact HAP.out _ rfl h2
  · have hnone := idx_none hlt
    have hhd : (idxOf adS ns (adL (x0, x1, x2))).headD 0 = 0 := by rw [List.isEmpty_iff.1 hnone]; rfl
    rw [hhd, hnone] at HFQ
    have HF := Lib.hid hlt
    clear hnone hhd hlt
    go_region_held3 (fun w' => w'.cell? ⟨w1.heap.size, 0, none⟩ = some (.map (some b1)) ∧ w'.cell? ⟨w.heap.size + 1, 0, none⟩ = some (.int .i64 x0) ∧ w'.cell? ⟨w.heap.size + 1, 1, none⟩ = some (.int .i64 x1) ∧ w'.cell? ⟨w.heap.size + 1, 2, none⟩ = some (.int .i64 x2))
      (first
        | exact ⟨o0, l0, l1, l2⟩
        | exact ⟨(hb5.cell (by show w1.heap.size < w4.heap.size; omega)).trans o0, (hb5.cell (by show w.heap.size + 1 < w4.heap.size; omega)).trans l0, (hb5.cell (by show w.heap.size + 1 < w4.heap.size; omega)).trans l1, (hb5.cell (by show w.heap.size + 1 < w4.heap.size; omega)).trans l2⟩
        | exact ⟨(hb6.cell (by show w1.heap.size < w4.heap.size; omega)).trans o0, (hb6.cell (by show w.heap.size + 1 < w4.heap.size; omega)).trans l0, (hb6.cell (by show w.heap.size + 1 < w4.heap.size; omega)).trans l1, (hb6.cell (by show w.heap.size + 1 < w4.heap.size; omega)).trans l2⟩)
      ((first
        | (go_at_call 39; (with_reducible refine (letAd_any x0 x1 x2 _).mono ?_); rintro e w5 ⟨rfl, hb5'⟩; have hb5 : Below w4.heap.size w4 w5 := up (up_drew (Below.refl _ w4)) hb5')
        | (go_at_call 38; (with_reducible refine (HFQ.out w5 hb5).mono ?_); rintro e w6 ⟨rfl, hb6'⟩; have hb6 : Below w4.heap.size w4 w6 := up hb5 hb6')))
    have hs6 := hb6.size
    have HB6 := Lib.hid (up HB4.out hb6)
    have HL6 := Lib.hid (HL4.out.below hb6 (by omega))
    have HQ6 := Lib.hid (HQ4.out.below hb6 (by omega))
    have HN6 := Lib.hid (HN4.out.below hb6 (by omega))
    have HE6 := Lib.hid (own_keep HC2.out hb6)
    have HK6 := Lib.hid (own_keep HC1.out hb6)
    have n1 : w6.cell? ⟨w3.heap.size, 1, none⟩ = some (.slice A2 n c2) := HN6.out.cell 1
    have p0 : w6.cell? ⟨w.heap.size + 1, 0, none⟩ = some (.int .i64 x0) := HL6.out.cell 0
    have p1 : w6.cell? ⟨w.heap.size + 1, 1, none⟩ = some (.int .i64 x1) := HL6.out.cell 1
    have p2 : w6.cell? ⟨w.heap.size + 1, 2, none⟩ = some (.int .i64 x2) := HL6.out.cell 2
    clear hb5 hb5' hb6 hb6' HFQ o0 l0 l1 l2 HB4 HX4 HL4 HQ4 HO4 HM4 HRN4 HR4 HN4 HC1 HC2
    go_wp2_with (at_builtin; refine wpList_append_rd _ rfl _ _ 24 rfl (w2.heap.size + 1 + 1) 33 i0 _ 3 24 Try.underlying24 hi0 hz0 hz1 hz2 rfl (by decide) _ _ _ rfl (HE6.out.alloc _) _ _ _ 1 1 (tvs [(x0, x1, x2)]) rfl (Rd.of_blk3 (Blk.new _ _ _)) (tvs_one _) ?c3 ?c4 ?c5 ?_)
    case c3 => unfold maxLen; omega
    case c4 => omega
    case c5 => simp; omega
    intro v7 w7 ho7 hg7 hl7
    have ho7' : w7.ownsRow (w2.heap.size + 1 + 1) 33 3 v7 (n + 1) (tvs (fs ++ [(x0, x1, x2)])) := by rw [tvs_append]; exact ho7
    obtain ⟨AN, cN, rfl, hcN, _⟩ := own_form ho7'
    have hs7 := hg7.size
    simp at hs7
    have hgr : ∀ k, (Value.slice A2 n c2).ownBlock = some k → w2.heap.size + 1 + 1 ≤ k ∧ k < w3.heap.size := HLT2.out
    have HN7 := Lib.hid ((HN6.out.alloc _).grown hg7 (fun e => by have := (hgr _ e.symm).2; omega))
    have HQ7 := Lib.hid ((HQ6.out.alloc _).grown hg7 (fun e => by have := (hgr _ e.symm).1; omega))
    have HB7 := Lib.hid ((up_alloc HB6.out _).grown hg7 (by simp; omega) (fun k hk => by have := (hgr k hk).1; omega))
    have HNE := Lib.hid (show ∀ k, (Value.slice AN (n + 1) cN).ownBlock = some k → w2.heap.size + 1 + 1 ≤ k ∧ k ≠ w3.heap.size ∧ (Value.slice A1 nn c1).ownBlock ≠ some k from fun k hk => by
      refine ⟨(ho7'.lt k hk).1, ?_⟩
      rcases hl7 with h | h
      · rw [h] at hk
        exact ⟨by have := (hgr k hk).2; omega, fun e => HAP.out k e hk⟩
      · rw [h] at hk
        simp at hk
        exact ⟨by omega, fun e => by have := (HLT1.out k e).2; omega⟩)
    have HK7 := Lib.hid ((HK6.out.alloc (.cells #[.int .i64 x0, .int .i64 x1, .int .i64 x2] 33)).kept hg7 (by
      cases hv : (Value.slice A1 nn c1).ownBlock with
      | none => exact .inl rfl
      | some k => exact .inr fun e => HAP.out k hv e.symm))
    have HOE := Lib.hid (own_set ho7' (p := ⟨w3.heap.size, 1, none⟩) (.slice AN (n + 1) cN) (fun g h e => (HNE.out g h).2.1 e))
    have HOF := Lib.hid (own_set HK7.out (p := ⟨w3.heap.size, 1, none⟩) (.slice AN (n + 1) cN) (fun g h e => by have := (HLT1.out g h).2; have e : g = w3.heap.size := e; omega))
    have HNU := Lib.hid (HN7.out.put 1 (.slice AN (n + 1) cN))
    have HQU := Lib.hid (HQ7.out.far (p := ⟨w3.heap.size, 1, none⟩) (by show _ ≠ w3.heap.size; omega) (.slice AN (n + 1) cN))
    have HBU := Lib.hid (HB7.out.setCell (p := ⟨w3.heap.size, 1, none⟩) (by show _ ≤ w3.heap.size; omega) (.slice AN (n + 1) cN))
    have n7 := HN7.out.cell 1
    have m7 := HN7.out.soft 1
    simp at HNU
    have hsU : w7.heap.size ≤ (w7.setCell ⟨w3.heap.size, 1, none⟩ (.slice AN (n + 1) cN)).heap.size := by simp [World.setCell]
    have t0 : (w7.setCell ⟨w3.heap.size, 1, none⟩ (.slice AN (n + 1) cN)).cell? ⟨w3.heap.size, 0, none⟩ = some (.slice A1 nn c1) := HNU.out.cell 0
    have t1 : (w7.setCell ⟨w3.heap.size, 1, none⟩ (.slice AN (n + 1) cN)).cell? ⟨w3.heap.size, 1, none⟩ = some (.slice AN (n + 1) cN) := HNU.out.cell 1
    clear hg7 ho7 ho7' hl7 hgr HN7 HQ7 HB7 HK7 HN6 HQ6 HB6 HL6 HE6 HK6 n1 p0 p1 p2
    go_wp2_with (fail)
    generalize w7.setCell ⟨w3.heap.size, 1, none⟩ (.slice AN (n + 1) cN) = wU at *
    (with_reducible refine (ValidPostI_any _ _ nn c1 A1 ns _ _ (n + 1) cN AN (fs ++ [(x0, x1, x2)]) wU (Rd.of_own HOF.out) (Nat.le_refl _) hnn (Rd.of_own HOE.out) (Nat.le_refl _) (by omega)).mono ?_)
    rintro e w5 ⟨rfl, hb5⟩
    have hs5 := hb5.size
    have HB5 := Lib.hid (up HBU.out hb5)
    have HQ5 := Lib.hid (HQU.out.below hb5 (by omega))
    have HN5 := Lib.hid (HNU.out.below hb5 (by omega))
    have HOE5 := Lib.hid (own_keep HOE.out hb5)
    have HOF5 := Lib.hid (own_keep HOF.out hb5)
    clear hb5 HBU HQU HNU HOE HOF t0 t1 n7 m7
    cases hP : vPost ns (fs ++ [(x0, x1, x2)]) with
    | false =>
      have HP := Lib.hid hP
      clear hP
      have HW := Lib.hid (show sendOf ns fs (x0, x1, x2) = (([], []), -1, false) from send_full HA.out HF.out HP.out)
      have s0 := HQ5.out.soft 0
      have s1 := HQ5.out.soft 1
      have r0 : w5.cell? ⟨w.heap.size + 1 + 1, 0, none⟩ = some (.slice none 0 0) := HQ5.out.cell 0
      have r1 : w5.cell? ⟨w.heap.size + 1 + 1, 1, none⟩ = some (.slice none 0 0) := HQ5.out.cell 1
      have hz := (HQ5.out.put 0 (.slice none 0 0)).put 1 (.slice none 0 0)
      have z0 := hz.cell 0
      have z1 := hz.cell 1
      simp at z0 z1
      have HBZ := Lib.hid ((HB5.out.setCell (p := ⟨w.heap.size + 1 + 1, 0, none⟩) (by show w.heap.size ≤ w.heap.size + 1 + 1; omega) (.slice none 0 0)).setCell (p := ⟨w.heap.size + 1 + 1, 1, none⟩) (by show w.heap.size ≤ w.heap.size + 1 + 1; omega) (.slice none 0 0))
      clear hz
      go_wp2
      rw [HW.out]
      exact bodyPost_ret (v := .tuple #[.agg #[.slice none 0 0, .slice none 0 0], .int .i64 (-1), .bool false]) (by simp [results, Try.results19, go_sem, z0, z1]) rfl ⟨none, 0, 0, none, 0, 0, rfl, ⟨World.ownsRow_nil _ _ _ _, World.ownsRow_nil _ _ _ _, fun g h => by cases h⟩, HBZ.out⟩
    | true =>
      have HW := Lib.hid (send_put HA.out HF.out hP)
      clear hP
      have n0 : w5.cell? ⟨w3.heap.size, 0, none⟩ = some (.slice A1 nn c1) := HN5.out.cell 0
      have n1 : w5.cell? ⟨w3.heap.size, 1, none⟩ = some (.slice AN (n + 1) cN) := HN5.out.cell 1
      have r0 : w5.cell? ⟨w.heap.size + 1 + 1, 0, none⟩ = some (.slice none 0 0) := HQ5.out.cell 0
      have r1 : w5.cell? ⟨w.heap.size + 1 + 1, 1, none⟩ = some (.slice none 0 0) := HQ5.out.cell 1
      have s0 := HQ5.out.soft 0
      have s1 := HQ5.out.soft 1
      have hz := (HQ5.out.put 0 (.slice A1 nn c1)).put 1 (.slice AN (n + 1) cN)
      have z0 := hz.cell 0
      have z1 := hz.cell 1
      simp at z0 z1
      have HBZ := Lib.hid ((HB5.out.setCell (p := ⟨w.heap.size + 1 + 1, 0, none⟩) (by show w.heap.size ≤ w.heap.size + 1 + 1; omega) (.slice A1 nn c1)).setCell (p := ⟨w.heap.size + 1 + 1, 1, none⟩) (by show w.heap.size ≤ w.heap.size + 1 + 1; omega) (.slice AN (n + 1) cN))
      have HF1 := Lib.hid (own_base (own_set (own_set HOE5.out (p := ⟨w.heap.size + 1 + 1, 0, none⟩) (.slice A1 nn c1) (fun g h e => by have := (HNE.out g h).1; have e : g = w.heap.size + 1 + 1 := e; omega)) (p := ⟨w.heap.size + 1 + 1, 1, none⟩) (.slice AN (n + 1) cN) (fun g h e => by have := (HNE.out g h).1; have e : g = w.heap.size + 1 + 1 := e; omega)) (show w.heap.size ≤ w2.heap.size + 1 + 1 by omega))
      have HF2 := Lib.hid (own_base (own_set (own_set HOF5.out (p := ⟨w.heap.size + 1 + 1, 0, none⟩) (.slice A1 nn c1) (fun g h e => by have := (HLT1.out g h).1; have e : g = w.heap.size + 1 + 1 := e; omega)) (p := ⟨w.heap.size + 1 + 1, 1, none⟩) (.slice AN (n + 1) cN) (fun g h e => by have := (HLT1.out g h).1; have e : g = w.heap.size + 1 + 1 := e; omega)) (show w.heap.size ≤ w2.heap.size + 1 + 1 by omega))
      clear hz
      go_wp2
      rw [HW.out]
      refine bodyPost_ret (v := .tuple #[.agg #[(.slice A1 nn c1), (.slice AN (n + 1) cN)], .int .i64 (-1), .bool true]) (by simp [results, Try.results19, go_sem, z0, z1]) rfl ⟨_, _, _, _, _, _, rfl, ⟨by first | exact HF2.out | exact own_keep HF2.out (up_drew (Below.refl _ _)), by first | exact HF1.out | exact own_keep HF1.out (up_drew (Below.refl _ _)), ?_⟩, by first | exact HBZ.out | exact up_drew HBZ.out⟩
      exact fun g h1 h2 => (HNE.out g h2).2.2 h1
set_option maxRecDepth 100000 in
set_option maxHeartbeats 6400000 in
theorem WaitLetterI_any (lo hi nn cn : Nat) (An : Option Addr) (ns : List Tri) (lo' hi' n c : Nat) (A : Option Addr) (fs : List Tri) (x0 x1 x2 : Int) (w : World) (hrn : Rd w lo hi 3 An nn (tvs ns)) (hB : hi ≤ w.heap.size) (hnn : nn ≤ 1048576)
    (hr : Rd w lo' hi' 3 A n (tvs fs)) (hB' : hi' ≤ w.heap.size) (hn : n ≤ 1048576) :
    Calls Try.prog 22 #[.agg #[.slice An nn cn, .slice A n c], .agg #[.int .i64 x0, .int .i64 x1, .int .i64 x2]] w (PostRes (waitOf ns fs (x0, x1, x2)).1 (.bool (waitOf ns fs (x0, x1, x2)).2.1) (waitOf ns fs (x0, x1, x2)).2.2 w) := by
  obtain ⟨i0, hi0, hz0, hz1, hz2⟩ := info_parts infoLetter
  obtain ⟨j0, hj0, hy0, hy1, hy2⟩ := info_parts infoSub
  have HLN := Lib.hid hrn.len3
  have HLF := Lib.hid hr.len3
  have hb0 := up_alloc (up_alloc (up_alloc (Below.refl _ w) (.cells #[.slice An nn cn, .slice A n c] 26)) (.cells #[.int .i64 x0, .int .i64 x1, .int .i64 x2] 42)) (.cells #[.slice none 0 0, .slice none 0 0] 26)
  have hx0 : Blk (((w.alloc (.cells #[.slice An nn cn, .slice A n c] 26)).alloc (.cells #[.int .i64 x0, .int .i64 x1, .int .i64 x2] 42)).alloc (.cells #[.slice none 0 0, .slice none 0 0] 26)) w.heap.size 26 #[.slice An nn cn, .slice A n c] := ((Blk.new w _ _).alloc _).alloc _
  have hl0 : Blk (((w.alloc (.cells #[.slice An nn cn, .slice A n c] 26)).alloc (.cells #[.int .i64 x0, .int .i64 x1, .int .i64 x2] 42)).alloc (.cells #[.slice none 0 0, .slice none 0 0] 26)) (w.heap.size + 1) 42 #[.int .i64 x0, .int .i64 x1, .int .i64 x2] := Blk.alloc (Blk.new2 (by simp)) _
  have hq0 : Blk (((w.alloc (.cells #[.slice An nn cn, .slice A n c] 26)).alloc (.cells #[.int .i64 x0, .int .i64 x1, .int .i64 x2] 42)).alloc (.cells #[.slice none 0 0, .slice none 0 0] 26)) (w.heap.size + 1 + 1) 26 #[.slice none 0 0, .slice none 0 0] := Blk.new2 (by simp)
  have hsz : (((w.alloc (.cells #[.slice An nn cn, .slice A n c] 26)).alloc (.cells #[.int .i64 x0, .int .i64 x1, .int .i64 x2] 42)).alloc (.cells #[.slice none 0 0, .slice none 0 0] 26)).heap.size = w.heap.size + 1 + 1 + 1 := by simp
  go_enter Try.func22, Try.ntmps22
  go_wp2_with (fail)
  generalize hw0 : (((w.alloc (.cells #[.slice An nn cn, .slice A n c] 26)).alloc (.cells #[.int .i64 x0, .int .i64 x1, .int .i64 x2] 42)).alloc (.cells #[.slice none 0 0, .slice none 0 0] 26)) = w0 at *
  clear hw0
  have HRN := Lib.hid (hrn.keep hb0 hB)
  have HR := Lib.hid (hr.keep hb0 hB')
  have hB0 : hi ≤ w0.heap.size := Nat.le_trans hB hb0.size
  have hB0' : hi' ≤ w0.heap.size := Nat.le_trans hB' hb0.size
  have HB0 := Lib.hid hb0
  have HX0 := Lib.hid hx0
  have HL0 := Lib.hid hl0
  have HQ0 := Lib.hid hq0
  clear hrn hr hb0 hx0 hl0 hq0
  (with_reducible refine (officeOf_any lo hi nn cn An ns lo' hi' n c A fs w0 HRN.out hB0 hnn HR.out hB0' hn).mono ?_)
  rintro e w1 hOP
  rcases hOP with ⟨hV, rfl, hb1⟩ | ⟨hV, b1, b2, rfl, hm1, hm2, hb1⟩
  · have HV := Lib.hid hV
    clear hV
    have hs1 := hb1.size
    have hba := up hb1 (up_alloc (Below.refl _ w1) (.cells #[.map none, .map none] 59))
    have HBa := Lib.hid (up HB0.out hba)
    have HQa := Lib.hid (HQ0.out.below hba (by omega))
    clear hb1 hba HB0 HX0 HL0 HQ0 HRN HR
    have HW := Lib.hid (show waitOf ns fs (x0, x1, x2) = (([], []), false, false) from wait_no (by rw [HV.out]; rfl))
    have s0 := HQa.out.soft 0
    have s1 := HQa.out.soft 1
    have r0 : (w1.alloc (.cells #[.map none, .map none] 59)).cell? ⟨w.heap.size + 1 + 1, 0, none⟩ = some (.slice none 0 0) := HQa.out.cell 0
    have r1 : (w1.alloc (.cells #[.map none, .map none] 59)).cell? ⟨w.heap.size + 1 + 1, 1, none⟩ = some (.slice none 0 0) := HQa.out.cell 1
    have hz := (HQa.out.put 0 (.slice none 0 0)).put 1 (.slice none 0 0)
    have z0 := hz.cell 0
    have z1 := hz.cell 1
    simp at z0 z1
    have HBZ := Lib.hid ((HBa.out.setCell (p := ⟨w.heap.size + 1 + 1, 0, none⟩) (by show w.heap.size ≤ w.heap.size + 1 + 1; omega) (.slice none 0 0)).setCell (p := ⟨w.heap.size + 1 + 1, 1, none⟩) (by show w.heap.size ≤ w.heap.size + 1 + 1; omega) (.slice none 0 0))
    clear hz
    go_wp2
    rw [HW.out]
    exact bodyPost_ret (v := .tuple #[.agg #[.slice none 0 0, .slice none 0 0], .bool false, .bool false]) (by simp [results, Try.results22, go_sem, z0, z1]) rfl ⟨none, 0, 0, none, 0, 0, rfl, ⟨World.ownsRow_nil _ _ _ _, World.ownsRow_nil _ _ _ _, fun g h => by cases h⟩, HBZ.out⟩
  have HV := Lib.hid hV
  obtain ⟨hl1, hl2⟩ : ns.length ≤ 10 ∧ fs.length ≤ 10 := ⟨(vPost_and.1 hV).2.2.1, (vPost_and.1 hV).2.2.2.2⟩
  rw [HLN.out] at hl1
  rw [HLF.out] at hl2
  have hs1 := hb1.size
  have hbo := up_alloc (Below.refl _ w1) (.cells #[.map (some b1), .map (some b2)] 59)
  have hba := up hb1 hbo
  have hO := Blk.new w1 59 #[.map (some b1), .map (some b2)]
  have hsa : (w1.alloc (.cells #[.map (some b1), .map (some b2)] 59)).heap.size = w1.heap.size + 1 := by simp
  have HM := Lib.hid (hm2.keep hbo (Nat.le_refl _))
  have HB1 := Lib.hid (up HB0.out hba)
  have HX1 := Lib.hid (HX0.out.below hba (by omega))
  have HL1 := Lib.hid (HL0.out.below hba (by omega))
  have HQ1 := Lib.hid (HQ0.out.below hba (by omega))
  have HRN1 := Lib.hid (HRN.out.keep hba hB0)
  have HR1 := Lib.hid (HR.out.keep hba hB0')
  have HO1 := Lib.hid hO
  have l0 : (w1.alloc (.cells #[.map (some b1), .map (some b2)] 59)).cell? ⟨w.heap.size + 1, 0, none⟩ = some (.int .i64 x0) := HL1.out.cell 0
  have l1 : (w1.alloc (.cells #[.map (some b1), .map (some b2)] 59)).cell? ⟨w.heap.size + 1, 1, none⟩ = some (.int .i64 x1) := HL1.out.cell 1
  have l2 : (w1.alloc (.cells #[.map (some b1), .map (some b2)] 59)).cell? ⟨w.heap.size + 1, 2, none⟩ = some (.int .i64 x2) := HL1.out.cell 2
  clear hm1 hm2 hV hb1 hbo hba hO HB0 HX0 HL0 HQ0 HRN HR
  go_wp2_with (fail)
  generalize hwa : (w1.alloc (.cells #[.map (some b1), .map (some b2)] 59)) = wa at *
  clear hwa
  (with_reducible refine (vSubI_any x0 x1 x2 wa).mono ?_)
  rintro e w2 ⟨rfl, hb2⟩
  have hs2 := hb2.size
  have HB2 := Lib.hid (up HB1.out hb2)
  have HX2 := Lib.hid (HX1.out.below hb2 (by omega))
  have HL2 := Lib.hid (HL1.out.below hb2 (by omega))
  have HQ2 := Lib.hid (HQ1.out.below hb2 (by omega))
  have HO2 := Lib.hid (HO1.out.below hb2 (by omega))
  have HM2 := Lib.hid (HM.out.keep hb2 (by omega))
  have HRN2 := Lib.hid (HRN1.out.keep hb2 (by omega))
  have HR2 := Lib.hid (HR1.out.keep hb2 (by omega))
  clear l0 l1 l2 hb2 HB1 HX1 HL1 HQ1 HO1 HM HRN1 HR1
  cases hA : vSub (x0, x1, x2) with
  | false =>
    have HA := Lib.hid hA
    clear hA
    have HW := Lib.hid (show waitOf ns fs (x0, x1, x2) = (([], []), false, false) from wait_no (by rw [HA.out, Bool.and_false]))
    have s0 := HQ2.out.soft 0
    have s1 := HQ2.out.soft 1
    have r0 : w2.cell? ⟨w.heap.size + 1 + 1, 0, none⟩ = some (.slice none 0 0) := HQ2.out.cell 0
    have r1 : w2.cell? ⟨w.heap.size + 1 + 1, 1, none⟩ = some (.slice none 0 0) := HQ2.out.cell 1
    have hz := (HQ2.out.put 0 (.slice none 0 0)).put 1 (.slice none 0 0)
    have z0 := hz.cell 0
    have z1 := hz.cell 1
    simp at z0 z1
    have HBZ := Lib.hid ((HB2.out.setCell (p := ⟨w.heap.size + 1 + 1, 0, none⟩) (by show w.heap.size ≤ w.heap.size + 1 + 1; omega) (.slice none 0 0)).setCell (p := ⟨w.heap.size + 1 + 1, 1, none⟩) (by show w.heap.size ≤ w.heap.size + 1 + 1; omega) (.slice none 0 0))
    clear hz
    go_wp2
    rw [HW.out]
    exact bodyPost_ret (v := .tuple #[.agg #[.slice none 0 0, .slice none 0 0], .bool false, .bool false]) (by simp [results, Try.results22, go_sem, z0, z1]) rfl ⟨none, 0, 0, none, 0, 0, rfl, ⟨World.ownsRow_nil _ _ _ _, World.ownsRow_nil _ _ _ _, fun g h => by cases h⟩, HBZ.out⟩
  | true =>
  have HA := Lib.hid (show (vPost ns fs && vSub (x0, x1, x2)) = true by rw [HV.out, hA]; rfl)
  have HR6 := Lib.hid (show in64 (adS (x0, x1, x2)).1 ∧ in64 (adS (x0, x1, x2)).2 by
    simp only [vSub, Bool.and_eq_true, inR_iff] at hA
    simp only [adS, in64]
    omega)
  clear hA HV
  have k0 : w2.cell? ⟨w.heap.size, 0, none⟩ = some (.slice An nn cn) := HX2.out.cell 0
  have k1 : w2.cell? ⟨w.heap.size, 1, none⟩ = some (.slice A n c) := HX2.out.cell 1
  go_wp2_with (fail)
  (with_reducible refine (copyPost_any lo hi nn cn An ns lo' hi' n c A fs w2 HRN2.out (by omega) hnn HR2.out (by omega) hn).mono ?_)
  rintro e w3 ⟨A1, c1, A2, c2, rfl, ⟨ho1, ho2, hap⟩, hb3, hs33⟩
  have hs3 := hb3.size
  have hba := up hb3 (up_alloc (Below.refl _ w3) (.cells #[.slice A1 nn c1, .slice A2 n c2] 26))
  have hbb := up_alloc (Below.refl _ w3) (.cells #[.slice A1 nn c1, .slice A2 n c2] 26)
  have hN := Blk.new w3 26 #[.slice A1 nn c1, .slice A2 n c2]
  have hs4 : w3.heap.size < (w3.alloc (.cells #[.slice A1 nn c1, .slice A2 n c2] 26)).heap.size := by simp
  have HC1 := Lib.hid (own_keep ho1 hbb)
  have HC2 := Lib.hid (own_keep ho2 hbb)
  have HAP := Lib.hid hap
  have HLT1 := Lib.hid (fun g (h : (Value.slice A1 nn c1).ownBlock = some g) => ho1.lt g h)
  have HLT2 := Lib.hid (fun g (h : (Value.slice A2 n c2).ownBlock = some g) => ho2.lt g h)
  have HB4 := Lib.hid (up HB2.out hba)
  have HX4 := Lib.hid (HX2.out.below hba (by omega))
  have HL4 := Lib.hid (HL2.out.below hba (by omega))
  have HQ4 := Lib.hid (HQ2.out.below hba (by omega))
  have HO4 := Lib.hid (HO2.out.below hba (by omega))
  have HM4 := Lib.hid (HM2.out.keep hba (by omega))
  have HRN4 := Lib.hid (HRN2.out.keep hba (by omega))
  have HR4 := Lib.hid (HR2.out.keep hba (by omega))
  have HN4 := Lib.hid hN
  clear hN hba hbb hb3 ho1 ho2 hap HB2 HX2 HL2 HQ2 HO2 HM2 HRN2 HR2 k0 k1
  go_wp2_with (fail)
  generalize hw4 : (w3.alloc (.cells #[.slice A1 nn c1, .slice A2 n c2] 26)) = w4 at *
  clear hw4
  have o0 : w4.cell? ⟨w1.heap.size, 1, none⟩ = some (.map (some b2)) := HO4.out.cell 1
  have l0 : w4.cell? ⟨w.heap.size + 1, 0, none⟩ = some (.int .i64 x0) := HL4.out.cell 0
  have l1 : w4.cell? ⟨w.heap.size + 1, 1, none⟩ = some (.int .i64 x1) := HL4.out.cell 1
  have l2 : w4.cell? ⟨w.heap.size + 1, 2, none⟩ = some (.int .i64 x2) := HL4.out.cell 2
  have HFQ := Lib.hid (fun (wx : World) (hbx : Below w4.heap.size w4 wx) => firstQ_any _ _ b2 _ (adS (x0, x1, x2)) wx (HM4.out.keep hbx (by omega)) (by have := hbx.size; omega) HR6.out.1 HR6.out.2)
  by_cases hlt : firstAt adL fs (adS (x0, x1, x2)) < fs.length
  · obtain ⟨hh1, hh2⟩ := idx_head hlt
    obtain ⟨t, hg, _⟩ := firstAt_get hlt
    rw [hh1, hh2] at HFQ
    have HW := Lib.hid (wait_hit HA.out rfl hg)
    have HG := Lib.hid hg
    rw [HLF.out] at hlt
    clear hh1 hh2 hg
    generalize firstAt adL fs (adS (x0, x1, x2)) = i at *
    go_region_held3 (fun w' => w'.cell? ⟨w1.heap.size, 1, none⟩ = some (.map (some b2)) ∧ w'.cell? ⟨w.heap.size + 1, 0, none⟩ = some (.int .i64 x0) ∧ w'.cell? ⟨w.heap.size + 1, 1, none⟩ = some (.int .i64 x1) ∧ w'.cell? ⟨w.heap.size + 1, 2, none⟩ = some (.int .i64 x2))
      (first
        | exact ⟨o0, l0, l1, l2⟩
        | exact ⟨(hb5.cell (by show w1.heap.size < w4.heap.size; omega)).trans o0, (hb5.cell (by show w.heap.size + 1 < w4.heap.size; omega)).trans l0, (hb5.cell (by show w.heap.size + 1 < w4.heap.size; omega)).trans l1, (hb5.cell (by show w.heap.size + 1 < w4.heap.size; omega)).trans l2⟩
        | exact ⟨(hb6.cell (by show w1.heap.size < w4.heap.size; omega)).trans o0, (hb6.cell (by show w.heap.size + 1 < w4.heap.size; omega)).trans l0, (hb6.cell (by show w.heap.size + 1 < w4.heap.size; omega)).trans l1, (hb6.cell (by show w.heap.size + 1 < w4.heap.size; omega)).trans l2⟩)
      ((first
        | (go_at_call 44; (with_reducible refine (subAd_any x0 x1 x2 _).mono ?_); rintro e w5 ⟨rfl, hb5'⟩; have hb5 : Below w4.heap.size w4 w5 := up (up_drew (Below.refl _ w4)) hb5')
        | (go_at_call 38; (with_reducible refine (HFQ.out w5 hb5).mono ?_); rintro e w6 ⟨rfl, hb6'⟩; have hb6 : Below w4.heap.size w4 w6 := up hb5 hb6')))
    have hs6 := hb6.size
    have HB6 := Lib.hid (up HB4.out hb6)
    have HX6 := Lib.hid (HX4.out.below hb6 (by omega))
    have HQ6 := Lib.hid (HQ4.out.below hb6 (by omega))
    have HN6 := Lib.hid (HN4.out.below hb6 (by omega))
    have HS6 := Lib.hid (HR4.out.keep hb6 (by omega))
    have hc6 := own_keep HC2.out hb6
    have HK6 := Lib.hid (own_keep HC1.out hb6)
    obtain ⟨g, cg, hvg, hg1, hg2, hg3⟩ := own_first hc6 (by omega)
    injection hvg with e1 _ e2
    subst e1
    subst e2
    have HGL := Lib.hid (HLT2.out g rfl)
    have HDEL := Lib.hid (deleteLetter_any _ g n c2 i fs w6 hc6 hlt (by omega) hg3 hg1 hg2)
    have n1 : w6.cell? ⟨w3.heap.size, 1, none⟩ = some (.slice (some ⟨g, 0, none⟩) n c2) := HN6.out.cell 1
    have q1 : IntKind.i64.wrap ((i : Int) + 1) = (i : Int) + 1 := by rw [IntKind.wrap_i64]; omega
    clear hb5 hb5' hb6 hb6' HFQ o0 l0 l1 l2 HB4 HX4 HL4 HQ4 HO4 HM4 HRN4 HR4 HN4 HC1 HC2 hc6
    go_wp2_with (fail)
    (with_reducible refine HDEL.out.mono ?_)
    rintro e w7 ⟨rfl, ho7, hg7⟩
    have hs7 := hg7.size
    have hgl := HGL.out
    have HN7 := Lib.hid (HN6.out.grown hg7 (fun e => by injection e with e; omega))
    have HX7 := Lib.hid (HX6.out.grown hg7 (fun e => by injection e with e; omega))
    have HQ7 := Lib.hid (HQ6.out.grown hg7 (fun e => by injection e with e; omega))
    have HB7 := Lib.hid (HB6.out.grown hg7 (by omega) (fun k hk => by injection hk with hk; omega))
    have HS7 := Lib.hid (HS6.out.far hg7 (by omega) (fun k hk => by injection hk with hk; omega))
    have HK7 := Lib.hid (HK6.out.kept hg7 (by
      cases hv : (Value.slice A1 nn c1).ownBlock with
      | none => exact .inl rfl
      | some k => exact .inr fun e => by injection e with e; subst e; exact HAP.out _ hv rfl))
    have hlE : ∀ g', (Value.slice (some ⟨g, 0, none⟩) (n - 1) c2).ownBlock = some g' → g' = g := fun g' h => by injection h with h; exact h.symm
    have HOE := Lib.hid (own_set ho7 (p := ⟨w3.heap.size, 1, none⟩) (.slice (some ⟨g, 0, none⟩) (n - 1) c2) (fun g' h e => by have := hlE g' h; have e : g' = w3.heap.size := e; omega))
    have HOF := Lib.hid (own_set HK7.out (p := ⟨w3.heap.size, 1, none⟩) (.slice (some ⟨g, 0, none⟩) (n - 1) c2) (fun g' h e => by have := (HLT1.out g' h).2; have e : g' = w3.heap.size := e; omega))
    have HNU := Lib.hid (HN7.out.put 1 (.slice (some ⟨g, 0, none⟩) (n - 1) c2))
    have HQU := Lib.hid (HQ7.out.far (p := ⟨w3.heap.size, 1, none⟩) (by show _ ≠ w3.heap.size; omega) (.slice (some ⟨g, 0, none⟩) (n - 1) c2))
    have HXU := Lib.hid (HX7.out.far (p := ⟨w3.heap.size, 1, none⟩) (by show _ ≠ w3.heap.size; omega) (.slice (some ⟨g, 0, none⟩) (n - 1) c2))
    have HBU := Lib.hid (HB7.out.setCell (p := ⟨w3.heap.size, 1, none⟩) (by show _ ≤ w3.heap.size; omega) (.slice (some ⟨g, 0, none⟩) (n - 1) c2))
    have HSU := Lib.hid (HS7.out.setCell (p := ⟨w3.heap.size, 1, none⟩) (.inr (by show _ ≤ w3.heap.size; omega)) (.slice (some ⟨g, 0, none⟩) (n - 1) c2))
    have n7 := HN7.out.cell 1
    have m7 := HN7.out.soft 1
    simp at HNU
    have n0 : (w7.setCell ⟨w3.heap.size, 1, none⟩ (.slice (some ⟨g, 0, none⟩) (n - 1) c2)).cell? ⟨w3.heap.size, 0, none⟩ = some (.slice A1 nn c1) := HNU.out.cell 0
    have n1 : (w7.setCell ⟨w3.heap.size, 1, none⟩ (.slice (some ⟨g, 0, none⟩) (n - 1) c2)).cell? ⟨w3.heap.size, 1, none⟩ = some (.slice (some ⟨g, 0, none⟩) (n - 1) c2) := HNU.out.cell 1
    have r0 : (w7.setCell ⟨w3.heap.size, 1, none⟩ (.slice (some ⟨g, 0, none⟩) (n - 1) c2)).cell? ⟨w.heap.size + 1 + 1, 0, none⟩ = some (.slice none 0 0) := HQU.out.cell 0
    have r1 : (w7.setCell ⟨w3.heap.size, 1, none⟩ (.slice (some ⟨g, 0, none⟩) (n - 1) c2)).cell? ⟨w.heap.size + 1 + 1, 1, none⟩ = some (.slice none 0 0) := HQU.out.cell 1
    have s0 := HQU.out.soft 0
    have s1 := HQU.out.soft 1
    clear hg7 ho7 HN7 HX7 HQ7 HB7 HS7 HK7 HN6 HX6 HQ6 HB6 HS6 HK6 HDEL
    have hz := (HQU.out.put 0 (.slice A1 nn c1)).put 1 (.slice (some ⟨g, 0, none⟩) (n - 1) c2)
    have z0 := hz.cell 0
    have z1 := hz.cell 1
    simp at z0 z1
    have HBZ := Lib.hid ((HBU.out.setCell (p := ⟨w.heap.size + 1 + 1, 0, none⟩) (by show w.heap.size ≤ w.heap.size + 1 + 1; omega) (.slice A1 nn c1)).setCell (p := ⟨w.heap.size + 1 + 1, 1, none⟩) (by show w.heap.size ≤ w.heap.size + 1 + 1; omega) (.slice (some ⟨g, 0, none⟩) (n - 1) c2))
    have HF1 := Lib.hid (own_base (own_set (own_set HOE.out (p := ⟨w.heap.size + 1 + 1, 0, none⟩) (.slice A1 nn c1) (fun g' h e => by have := hlE g' h; have e : g' = w.heap.size + 1 + 1 := e; omega)) (p := ⟨w.heap.size + 1 + 1, 1, none⟩) (.slice (some ⟨g, 0, none⟩) (n - 1) c2) (fun g' h e => by have := hlE g' h; have e : g' = w.heap.size + 1 + 1 := e; omega)) (show w.heap.size ≤ w2.heap.size + 1 + 1 by omega))
    have HF2 := Lib.hid (own_base (own_set (own_set HOF.out (p := ⟨w.heap.size + 1 + 1, 0, none⟩) (.slice A1 nn c1) (fun g' h e => by have := (HLT1.out g' h).1; have e : g' = w.heap.size + 1 + 1 := e; omega)) (p := ⟨w.heap.size + 1 + 1, 1, none⟩) (.slice (some ⟨g, 0, none⟩) (n - 1) c2) (fun g' h e => by have := (HLT1.out g' h).1; have e : g' = w.heap.size + 1 + 1 := e; omega)) (show w.heap.size ≤ w2.heap.size + 1 + 1 by omega))
    clear hz
    go_wp2
    rw [HW.out]
    refine bodyPost_ret (v := .tuple #[.agg #[(.slice A1 nn c1), (.slice (some ⟨g, 0, none⟩) (n - 1) c2)], .bool true, .bool true]) (by simp [results, Try.results22, go_sem, z0, z1]) rfl ⟨_, _, _, _, _, _, rfl, ⟨by first | exact HF2.out | exact own_keep HF2.out (up_drew (Below.refl _ _)), by first | exact HF1.out | exact own_keep HF1.out (up_drew (Below.refl _ _)), ?_⟩, by first | exact HBZ.out | exact up_drew HBZ.out⟩
    exact fun g1 h1 h2 => by have := hlE g1 h2; subst this; exact HAP.out _ h1 rfl
  · have hnone := idx_none hlt
    have hhd : (idxOf adL fs (adS (x0, x1, x2))).headD 0 = 0 := by rw [List.isEmpty_iff.1 hnone]; rfl
    rw [hhd, hnone] at HFQ
    have HF := Lib.hid hlt
    clear hnone hhd hlt
    go_region_held3 (fun w' => w'.cell? ⟨w1.heap.size, 1, none⟩ = some (.map (some b2)) ∧ w'.cell? ⟨w.heap.size + 1, 0, none⟩ = some (.int .i64 x0) ∧ w'.cell? ⟨w.heap.size + 1, 1, none⟩ = some (.int .i64 x1) ∧ w'.cell? ⟨w.heap.size + 1, 2, none⟩ = some (.int .i64 x2))
      (first
        | exact ⟨o0, l0, l1, l2⟩
        | exact ⟨(hb5.cell (by show w1.heap.size < w4.heap.size; omega)).trans o0, (hb5.cell (by show w.heap.size + 1 < w4.heap.size; omega)).trans l0, (hb5.cell (by show w.heap.size + 1 < w4.heap.size; omega)).trans l1, (hb5.cell (by show w.heap.size + 1 < w4.heap.size; omega)).trans l2⟩
        | exact ⟨(hb6.cell (by show w1.heap.size < w4.heap.size; omega)).trans o0, (hb6.cell (by show w.heap.size + 1 < w4.heap.size; omega)).trans l0, (hb6.cell (by show w.heap.size + 1 < w4.heap.size; omega)).trans l1, (hb6.cell (by show w.heap.size + 1 < w4.heap.size; omega)).trans l2⟩)
      ((first
        | (go_at_call 44; (with_reducible refine (subAd_any x0 x1 x2 _).mono ?_); rintro e w5 ⟨rfl, hb5'⟩; have hb5 : Below w4.heap.size w4 w5 := up (up_drew (Below.refl _ w4)) hb5')
        | (go_at_call 38; (with_reducible refine (HFQ.out w5 hb5).mono ?_); rintro e w6 ⟨rfl, hb6'⟩; have hb6 : Below w4.heap.size w4 w6 := up hb5 hb6')))
    have hs6 := hb6.size
    have HB6 := Lib.hid (up HB4.out hb6)
    have HL6 := Lib.hid (HL4.out.below hb6 (by omega))
    have HQ6 := Lib.hid (HQ4.out.below hb6 (by omega))
    have HN6 := Lib.hid (HN4.out.below hb6 (by omega))
    have HE6 := Lib.hid (own_keep HC1.out hb6)
    have HK6 := Lib.hid (own_keep HC2.out hb6)
    have n0 : w6.cell? ⟨w3.heap.size, 0, none⟩ = some (.slice A1 nn c1) := HN6.out.cell 0
    have p0 : w6.cell? ⟨w.heap.size + 1, 0, none⟩ = some (.int .i64 x0) := HL6.out.cell 0
    have p1 : w6.cell? ⟨w.heap.size + 1, 1, none⟩ = some (.int .i64 x1) := HL6.out.cell 1
    have p2 : w6.cell? ⟨w.heap.size + 1, 2, none⟩ = some (.int .i64 x2) := HL6.out.cell 2
    clear hb5 hb5' hb6 hb6' HFQ o0 l0 l1 l2 HB4 HX4 HL4 HQ4 HO4 HM4 HRN4 HR4 HN4 HC1 HC2
    go_wp2_with (at_builtin; refine wpList_append_rd _ rfl _ _ 23 rfl (w2.heap.size + 1 + 1) 42 j0 _ 3 24 Try.underlying23 hj0 hy0 hy1 hy2 rfl (by decide) _ _ _ rfl (HE6.out.alloc _) _ _ _ 1 1 (tvs [(x0, x1, x2)]) rfl (Rd.of_blk3 (Blk.new _ _ _)) (tvs_one _) ?c3 ?c4 ?c5 ?_)
    case c3 => unfold maxLen; omega
    case c4 => omega
    case c5 => simp; omega
    intro v7 w7 ho7 hg7 hl7
    have ho7' : w7.ownsRow (w2.heap.size + 1 + 1) 42 3 v7 (nn + 1) (tvs (ns ++ [(x0, x1, x2)])) := by rw [tvs_append]; exact ho7
    obtain ⟨AN, cN, rfl, hcN, _⟩ := own_form ho7'
    have hs7 := hg7.size
    simp at hs7
    have hgr : ∀ k, (Value.slice A1 nn c1).ownBlock = some k → w2.heap.size + 1 + 1 ≤ k ∧ k < w3.heap.size := HLT1.out
    have HN7 := Lib.hid ((HN6.out.alloc _).grown hg7 (fun e => by have := (hgr _ e.symm).2; omega))
    have HQ7 := Lib.hid ((HQ6.out.alloc _).grown hg7 (fun e => by have := (hgr _ e.symm).1; omega))
    have HB7 := Lib.hid ((up_alloc HB6.out _).grown hg7 (by simp; omega) (fun k hk => by have := (hgr k hk).1; omega))
    have HNE := Lib.hid (show ∀ k, (Value.slice AN (nn + 1) cN).ownBlock = some k → w2.heap.size + 1 + 1 ≤ k ∧ k ≠ w3.heap.size ∧ (Value.slice A2 n c2).ownBlock ≠ some k from fun k hk => by
      refine ⟨(ho7'.lt k hk).1, ?_⟩
      rcases hl7 with h | h
      · rw [h] at hk
        exact ⟨by have := (hgr k hk).2; omega, fun e => HAP.out k hk e⟩
      · rw [h] at hk
        simp at hk
        exact ⟨by omega, fun e => by have := (HLT2.out k e).2; omega⟩)
    have HK7 := Lib.hid ((HK6.out.alloc (.cells #[.int .i64 x0, .int .i64 x1, .int .i64 x2] 42)).kept hg7 (by
      cases hv : (Value.slice A2 n c2).ownBlock with
      | none => exact .inl rfl
      | some k => exact .inr fun e => HAP.out k e.symm hv))
    have HOE := Lib.hid (own_set ho7' (p := ⟨w3.heap.size, 0, none⟩) (.slice AN (nn + 1) cN) (fun g h e => (HNE.out g h).2.1 e))
    have HOF := Lib.hid (own_set HK7.out (p := ⟨w3.heap.size, 0, none⟩) (.slice AN (nn + 1) cN) (fun g h e => by have := (HLT2.out g h).2; have e : g = w3.heap.size := e; omega))
    have HNU := Lib.hid (HN7.out.put 0 (.slice AN (nn + 1) cN))
    have HQU := Lib.hid (HQ7.out.far (p := ⟨w3.heap.size, 0, none⟩) (by show _ ≠ w3.heap.size; omega) (.slice AN (nn + 1) cN))
    have HBU := Lib.hid (HB7.out.setCell (p := ⟨w3.heap.size, 0, none⟩) (by show _ ≤ w3.heap.size; omega) (.slice AN (nn + 1) cN))
    have n7 := HN7.out.cell 0
    have m7 := HN7.out.soft 0
    simp at HNU
    have hsU : w7.heap.size ≤ (w7.setCell ⟨w3.heap.size, 0, none⟩ (.slice AN (nn + 1) cN)).heap.size := by simp [World.setCell]
    have t0 : (w7.setCell ⟨w3.heap.size, 0, none⟩ (.slice AN (nn + 1) cN)).cell? ⟨w3.heap.size, 0, none⟩ = some (.slice AN (nn + 1) cN) := HNU.out.cell 0
    have t1 : (w7.setCell ⟨w3.heap.size, 0, none⟩ (.slice AN (nn + 1) cN)).cell? ⟨w3.heap.size, 1, none⟩ = some (.slice A2 n c2) := HNU.out.cell 1
    clear hg7 ho7 ho7' hl7 hgr HN7 HQ7 HB7 HK7 HN6 HQ6 HB6 HL6 HE6 HK6 n0 p0 p1 p2
    go_wp2_with (fail)
    generalize w7.setCell ⟨w3.heap.size, 0, none⟩ (.slice AN (nn + 1) cN) = wU at *
    (with_reducible refine (ValidPostI_any _ _ (nn + 1) cN AN (ns ++ [(x0, x1, x2)]) _ _ n c2 A2 fs wU (Rd.of_own HOE.out) (Nat.le_refl _) (by omega) (Rd.of_own HOF.out) (Nat.le_refl _) hn).mono ?_)
    rintro e w5 ⟨rfl, hb5⟩
    have hs5 := hb5.size
    have HB5 := Lib.hid (up HBU.out hb5)
    have HQ5 := Lib.hid (HQU.out.below hb5 (by omega))
    have HN5 := Lib.hid (HNU.out.below hb5 (by omega))
    have HOE5 := Lib.hid (own_keep HOE.out hb5)
    have HOF5 := Lib.hid (own_keep HOF.out hb5)
    clear hb5 HBU HQU HNU HOE HOF t0 t1 n7 m7
    cases hP : vPost (ns ++ [(x0, x1, x2)]) fs with
    | false =>
      have HP := Lib.hid hP
      clear hP
      have HW := Lib.hid (show waitOf ns fs (x0, x1, x2) = (([], []), false, false) from wait_full HA.out HF.out HP.out)
      have s0 := HQ5.out.soft 0
      have s1 := HQ5.out.soft 1
      have r0 : w5.cell? ⟨w.heap.size + 1 + 1, 0, none⟩ = some (.slice none 0 0) := HQ5.out.cell 0
      have r1 : w5.cell? ⟨w.heap.size + 1 + 1, 1, none⟩ = some (.slice none 0 0) := HQ5.out.cell 1
      have hz := (HQ5.out.put 0 (.slice none 0 0)).put 1 (.slice none 0 0)
      have z0 := hz.cell 0
      have z1 := hz.cell 1
      simp at z0 z1
      have HBZ := Lib.hid ((HB5.out.setCell (p := ⟨w.heap.size + 1 + 1, 0, none⟩) (by show w.heap.size ≤ w.heap.size + 1 + 1; omega) (.slice none 0 0)).setCell (p := ⟨w.heap.size + 1 + 1, 1, none⟩) (by show w.heap.size ≤ w.heap.size + 1 + 1; omega) (.slice none 0 0))
      clear hz
      go_wp2
      rw [HW.out]
      exact bodyPost_ret (v := .tuple #[.agg #[.slice none 0 0, .slice none 0 0], .bool false, .bool false]) (by simp [results, Try.results22, go_sem, z0, z1]) rfl ⟨none, 0, 0, none, 0, 0, rfl, ⟨World.ownsRow_nil _ _ _ _, World.ownsRow_nil _ _ _ _, fun g h => by cases h⟩, HBZ.out⟩
    | true =>
      have HW := Lib.hid (wait_put HA.out HF.out hP)
      clear hP
      have n0 : w5.cell? ⟨w3.heap.size, 0, none⟩ = some (.slice AN (nn + 1) cN) := HN5.out.cell 0
      have n1 : w5.cell? ⟨w3.heap.size, 1, none⟩ = some (.slice A2 n c2) := HN5.out.cell 1
      have r0 : w5.cell? ⟨w.heap.size + 1 + 1, 0, none⟩ = some (.slice none 0 0) := HQ5.out.cell 0
      have r1 : w5.cell? ⟨w.heap.size + 1 + 1, 1, none⟩ = some (.slice none 0 0) := HQ5.out.cell 1
      have s0 := HQ5.out.soft 0
      have s1 := HQ5.out.soft 1
      have hz := (HQ5.out.put 0 (.slice AN (nn + 1) cN)).put 1 (.slice A2 n c2)
      have z0 := hz.cell 0
      have z1 := hz.cell 1
      simp at z0 z1
      have HBZ := Lib.hid ((HB5.out.setCell (p := ⟨w.heap.size + 1 + 1, 0, none⟩) (by show w.heap.size ≤ w.heap.size + 1 + 1; omega) (.slice AN (nn + 1) cN)).setCell (p := ⟨w.heap.size + 1 + 1, 1, none⟩) (by show w.heap.size ≤ w.heap.size + 1 + 1; omega) (.slice A2 n c2))
      have HF1 := Lib.hid (own_base (own_set (own_set HOE5.out (p := ⟨w.heap.size + 1 + 1, 0, none⟩) (.slice AN (nn + 1) cN) (fun g h e => by have := (HNE.out g h).1; have e : g = w.heap.size + 1 + 1 := e; omega)) (p := ⟨w.heap.size + 1 + 1, 1, none⟩) (.slice A2 n c2) (fun g h e => by have := (HNE.out g h).1; have e : g = w.heap.size + 1 + 1 := e; omega)) (show w.heap.size ≤ w2.heap.size + 1 + 1 by omega))
      have HF2 := Lib.hid (own_base (own_set (own_set HOF5.out (p := ⟨w.heap.size + 1 + 1, 0, none⟩) (.slice AN (nn + 1) cN) (fun g h e => by have := (HLT2.out g h).1; have e : g = w.heap.size + 1 + 1 := e; omega)) (p := ⟨w.heap.size + 1 + 1, 1, none⟩) (.slice A2 n c2) (fun g h e => by have := (HLT2.out g h).1; have e : g = w.heap.size + 1 + 1 := e; omega)) (show w.heap.size ≤ w2.heap.size + 1 + 1 by omega))
      clear hz
      go_wp2
      rw [HW.out]
      refine bodyPost_ret (v := .tuple #[.agg #[(.slice AN (nn + 1) cN), (.slice A2 n c2)], .bool false, .bool true]) (by simp [results, Try.results22, go_sem, z0, z1]) rfl ⟨_, _, _, _, _, _, rfl, ⟨by first | exact HF1.out | exact own_keep HF1.out (up_drew (Below.refl _ _)), by first | exact HF2.out | exact own_keep HF2.out (up_drew (Below.refl _ _)), ?_⟩, by first | exact HBZ.out | exact up_drew HBZ.out⟩
      exact fun g h1 h2 => (HNE.out g h1).2.2 h2
end Go.Proofs.Ytgnffodnimafoaa
