/- spec.SendLetter, spec.WaitLetter. (Written by gen/sendspec2.py.) -/
import Derived.Test.YtgnffodnimafoaaSendS
set_option linter.unusedSimpArgs false
set_option linter.unusedVariables false
namespace Go.Proofs.Ytgnffodnimafoaa
open Go.RowKit

set_option maxRecDepth 100000 in
set_option maxHeartbeats 6400000 in
theorem SendLetterS_any (lo hi nn cn : Nat) (An : Option Addr) (ns : List Tri) (lo' hi' n c : Nat) (A : Option Addr) (fs : List Tri) (x0 x1 x2 : Int) (w : World) (hrn : Rd w lo hi 3 An nn (tvs ns)) (hB : hi ≤ w.heap.size) (hnn : nn ≤ 1048576)
    (hr : Rd w lo' hi' 3 A n (tvs fs)) (hB' : hi' ≤ w.heap.size) (hn : n ≤ 1048576) (hcn : nn ≤ cn) (hc : n ≤ c) :
    Calls Try.prog 20 #[.agg #[.slice An nn cn, .slice A n c], .agg #[.int .i64 x0, .int .i64 x1, .int .i64 x2]] w (PostRes (sendOf ns fs (x0, x1, x2)).1 (.int .i64 (sendOf ns fs (x0, x1, x2)).2.1) (sendOf ns fs (x0, x1, x2)).2.2 w) := by
  obtain ⟨i0, hi0, hz0, hz1, hz2⟩ := info_parts infoLetter
  obtain ⟨j0, hj0, hy0, hy1, hy2⟩ := info_parts infoSub
  have HLN := Lib.hid hrn.len3
  have HLF := Lib.hid hr.len3
  have hb0 := up_alloc (up_alloc (up_alloc (Below.refl _ w) (.cells #[.slice An nn cn, .slice A n c] 26)) (.cells #[.int .i64 x0, .int .i64 x1, .int .i64 x2] 33)) (.cells #[.slice none 0 0, .slice none 0 0] 26)
  have hx0 : Blk (((w.alloc (.cells #[.slice An nn cn, .slice A n c] 26)).alloc (.cells #[.int .i64 x0, .int .i64 x1, .int .i64 x2] 33)).alloc (.cells #[.slice none 0 0, .slice none 0 0] 26)) w.heap.size 26 #[.slice An nn cn, .slice A n c] := ((Blk.new w _ _).alloc _).alloc _
  have hl0 : Blk (((w.alloc (.cells #[.slice An nn cn, .slice A n c] 26)).alloc (.cells #[.int .i64 x0, .int .i64 x1, .int .i64 x2] 33)).alloc (.cells #[.slice none 0 0, .slice none 0 0] 26)) (w.heap.size + 1) 33 #[.int .i64 x0, .int .i64 x1, .int .i64 x2] := Blk.alloc (Blk.new2 (by simp)) _
  have hq0 : Blk (((w.alloc (.cells #[.slice An nn cn, .slice A n c] 26)).alloc (.cells #[.int .i64 x0, .int .i64 x1, .int .i64 x2] 33)).alloc (.cells #[.slice none 0 0, .slice none 0 0] 26)) (w.heap.size + 1 + 1) 26 #[.slice none 0 0, .slice none 0 0] := Blk.new2 (by simp)
  have hsz : (((w.alloc (.cells #[.slice An nn cn, .slice A n c] 26)).alloc (.cells #[.int .i64 x0, .int .i64 x1, .int .i64 x2] 33)).alloc (.cells #[.slice none 0 0, .slice none 0 0] 26)).heap.size = w.heap.size + 1 + 1 + 1 := by simp
  go_enter Try.func20, Try.ntmps20
  go_wp2_with (fail)
  generalize hw0 : (((w.alloc (.cells #[.slice An nn cn, .slice A n c] 26)).alloc (.cells #[.int .i64 x0, .int .i64 x1, .int .i64 x2] 33)).alloc (.cells #[.slice none 0 0, .slice none 0 0] 26)) = w0 at *
  clear hw0
  have HRN := Lib.hid (hrn.keep hb0 hB)
  have HR := Lib.hid (hr.keep hb0 hB')
  have hB0 : hi ≤ w0.heap.size := Nat.le_trans hB hb0.size
  have hB0' : hi' ≤ w0.heap.size := Nat.le_trans hB' hb0.size
  have HB0 := Lib.hid hb0
  have HX0 := Lib.hid hx0
  have HL0 := Lib.hid hl0
  have HQ0 := Lib.hid hq0
  clear hrn hr hb0 hx0 hl0 hq0
  (with_reducible refine (validPostS_any lo hi nn cn An ns lo' hi' n c A fs w0 HRN.out hB0 hnn HR.out hB0' hn).mono ?_)
  rintro e w1 ⟨rfl, hb1⟩
  have hs1 := hb1.size
  have HB1 := Lib.hid (up HB0.out hb1)
  have HX1 := Lib.hid (HX0.out.below hb1 (by omega))
  have HL1 := Lib.hid (HL0.out.below hb1 (by omega))
  have HQ1 := Lib.hid (HQ0.out.below hb1 (by omega))
  have HRN1 := Lib.hid (HRN.out.keep hb1 hB0)
  have HR1 := Lib.hid (HR.out.keep hb1 hB0')
  clear hb1 HB0 HX0 HL0 HQ0 HRN HR
  cases hV : vPost ns fs with
  | false =>
    have HV := Lib.hid hV
    clear hV
    have HW := Lib.hid (show sendOf ns fs (x0, x1, x2) = (([], []), -1, false) from send_no (by rw [HV.out]; rfl))
    have s0 := HQ1.out.soft 0
    have s1 := HQ1.out.soft 1
    have r0 : w1.cell? ⟨w.heap.size + 1 + 1, 0, none⟩ = some (.slice none 0 0) := HQ1.out.cell 0
    have r1 : w1.cell? ⟨w.heap.size + 1 + 1, 1, none⟩ = some (.slice none 0 0) := HQ1.out.cell 1
    have hz := (HQ1.out.put 0 (.slice none 0 0)).put 1 (.slice none 0 0)
    have z0 := hz.cell 0
    have z1 := hz.cell 1
    simp at z0 z1
    have HBZ := Lib.hid ((HB1.out.setCell (p := ⟨w.heap.size + 1 + 1, 0, none⟩) (by show w.heap.size ≤ w.heap.size + 1 + 1; omega) (.slice none 0 0)).setCell (p := ⟨w.heap.size + 1 + 1, 1, none⟩) (by show w.heap.size ≤ w.heap.size + 1 + 1; omega) (.slice none 0 0))
    clear hz
    go_wp2
    rw [HW.out]
    exact bodyPost_ret (v := .tuple #[.agg #[.slice none 0 0, .slice none 0 0], .int .i64 (-1), .bool false]) (by simp [results, Try.results20, go_sem, z0, z1]) rfl ⟨none, 0, 0, none, 0, 0, rfl, ⟨World.ownsRow_nil _ _ _ _, World.ownsRow_nil _ _ _ _, fun g h => by cases h⟩, HBZ.out⟩
  | true =>
  have HV := Lib.hid hV
  obtain ⟨hl1, hl2⟩ : ns.length ≤ 10 ∧ fs.length ≤ 10 := ⟨(vPost_and.1 hV).2.2.1, (vPost_and.1 hV).2.2.2.2⟩
  rw [HLN.out] at hl1
  rw [HLF.out] at hl2
  clear hV
  have l0 : w1.cell? ⟨w.heap.size + 1, 0, none⟩ = some (.int .i64 x0) := HL1.out.cell 0
  have l1 : w1.cell? ⟨w.heap.size + 1, 1, none⟩ = some (.int .i64 x1) := HL1.out.cell 1
  have l2 : w1.cell? ⟨w.heap.size + 1, 2, none⟩ = some (.int .i64 x2) := HL1.out.cell 2
  have hba := up_alloc (Below.refl _ w1) (.cells #[.int .i64 x0, .int .i64 x1, .int .i64 x2] 33)
  have hnew := Blk.new w1 33 #[.int .i64 x0, .int .i64 x1, .int .i64 x2]
  have HNEW := Lib.hid (show Rd (w1.alloc (.cells #[.int .i64 x0, .int .i64 x1, .int .i64 x2] 33)) w1.heap.size (w1.heap.size + 1) 3 (some ⟨w1.heap.size, 0, none⟩) 1 (tvs [(x0, x1, x2)]) from Rd.of_blk3 hnew)
  have HB2 := Lib.hid (up HB1.out hba)
  have HX2 := Lib.hid (HX1.out.below hba (by omega))
  have HL2 := Lib.hid (HL1.out.below hba (by omega))
  have HQ2 := Lib.hid (HQ1.out.below hba (by omega))
  have HRN2 := Lib.hid (HRN1.out.keep hba (by omega))
  have HR2 := Lib.hid (HR1.out.keep hba (by omega))
  have hsa : (w1.alloc (.cells #[.int .i64 x0, .int .i64 x1, .int .i64 x2] 33)).heap.size = w1.heap.size + 1 := by simp
  clear hba hnew HB1 HX1 HL1 HQ1 HRN1 HR1
  go_wp2_with (fail)
  (with_reducible refine (validLetters_any _ _ 1 1 (some ⟨w1.heap.size, 0, none⟩) [(x0, x1, x2)] _ HNEW.out (by omega)).mono ?_)
  rintro e w2 ⟨rfl, hw2⟩
  rw [hw2] at HB2 HX2 HL2 HQ2 HRN2 HR2 hsa
  clear hw2 HNEW l0 l1 l2
  rw [show vLets [(x0, x1, x2)] = vLet (x0, x1, x2) by simp [vLets]]
  cases hA : vLet (x0, x1, x2) with
  | false =>
    have HA := Lib.hid hA
    clear hA
    have HW := Lib.hid (show sendOf ns fs (x0, x1, x2) = (([], []), -1, false) from send_no (by rw [HA.out, Bool.and_false]))
    have s0 := HQ2.out.soft 0
    have s1 := HQ2.out.soft 1
    have r0 : w2.cell? ⟨w.heap.size + 1 + 1, 0, none⟩ = some (.slice none 0 0) := HQ2.out.cell 0
    have r1 : w2.cell? ⟨w.heap.size + 1 + 1, 1, none⟩ = some (.slice none 0 0) := HQ2.out.cell 1
    have hz := (HQ2.out.put 0 (.slice none 0 0)).put 1 (.slice none 0 0)
    have z0 := hz.cell 0
    have z1 := hz.cell 1
    simp at z0 z1
    have HBZ := Lib.hid ((HB2.out.setCell (p := ⟨w.heap.size + 1 + 1, 0, none⟩) (by show w.heap.size ≤ w.heap.size + 1 + 1; omega) (.slice none 0 0)).setCell (p := ⟨w.heap.size + 1 + 1, 1, none⟩) (by show w.heap.size ≤ w.heap.size + 1 + 1; omega) (.slice none 0 0))
    clear hz
    go_wp2
    rw [HW.out]
    exact bodyPost_ret (v := .tuple #[.agg #[.slice none 0 0, .slice none 0 0], .int .i64 (-1), .bool false]) (by simp [results, Try.results20, go_sem, z0, z1]) rfl ⟨none, 0, 0, none, 0, 0, rfl, ⟨World.ownsRow_nil _ _ _ _, World.ownsRow_nil _ _ _ _, fun g h => by cases h⟩, HBZ.out⟩
  | true =>
  have HA := Lib.hid (show (vPost ns fs && vLet (x0, x1, x2)) = true by rw [HV.out, hA]; rfl)
  clear hA HV
  have k0 : w2.cell? ⟨w.heap.size, 0, none⟩ = some (.slice An nn cn) := HX2.out.cell 0
  have k1 : w2.cell? ⟨w.heap.size, 1, none⟩ = some (.slice A n c) := HX2.out.cell 1
  go_wp2_with (fail)
  (with_reducible refine (copyPostS_any lo hi nn cn An ns lo' hi' n c A fs w2 HRN2.out (by omega) hnn HR2.out (by omega) hn).mono ?_)
  rintro e w3 ⟨A1, c1, A2, c2, rfl, ⟨ho1, ho2, hap⟩, hb3⟩
  have hs3 := hb3.size
  have hba := up hb3 (up_alloc (Below.refl _ w3) (.cells #[.slice A1 nn c1, .slice A2 n c2] 26))
  have hbb := up_alloc (Below.refl _ w3) (.cells #[.slice A1 nn c1, .slice A2 n c2] 26)
  have hN := Blk.new w3 26 #[.slice A1 nn c1, .slice A2 n c2]
  have hs4 : (w3.alloc (.cells #[.slice A1 nn c1, .slice A2 n c2] 26)).heap.size = w3.heap.size + 1 := by simp
  have HO1 := Lib.hid (own_keep ho1 hbb)
  have HO2 := Lib.hid (own_keep ho2 hbb)
  have HAP := Lib.hid hap
  have HLT1 := Lib.hid (fun g (h : (Value.slice A1 nn c1).ownBlock = some g) => ho1.lt g h)
  have HLT2 := Lib.hid (fun g (h : (Value.slice A2 n c2).ownBlock = some g) => ho2.lt g h)
  have HB4 := Lib.hid (up HB2.out hba)
  have HX4 := Lib.hid (HX2.out.below hba (by omega))
  have HL4 := Lib.hid (HL2.out.below hba (by omega))
  have HQ4 := Lib.hid (HQ2.out.below hba (by omega))
  have HRN4 := Lib.hid (HRN2.out.keep hba (by omega))
  have HR4 := Lib.hid (HR2.out.keep hba (by omega))
  have HN4 := Lib.hid hN
  clear hN hba hbb hb3 ho1 ho2 hap HB2 HX2 HL2 HQ2 HRN2 HR2 k0 k1
  go_wp2
  generalize hw4 : (w3.alloc (.cells #[.slice A1 nn c1, .slice A2 n c2] 26)) = w4 at *
  clear hw4
  go_loopw [8] (fun iv wr => ∃ (i : Nat), i ≤ nn ∧ iv = .int .i64 i ∧ Hid (i ≤ firstAt adS ns (adL (x0, x1, x2))) ∧ Below w4.heap.size w4 wr)
     (fun iv _ => nn - (intOf iv).toNat)
  case atStart => exact ⟨0, by omega, rfl, Nat.zero_le _, Below.refl _ _⟩
  case round =>
    obtain ⟨i, hi_, rfl, hF, hb⟩ := hrel
    have hsr := hb.size
    have HBR := Lib.hid (up HB4.out hb)
    have HXR := Lib.hid (HX4.out.below hb (by omega))
    have HLR := Lib.hid (HL4.out.below hb (by omega))
    have HQR := Lib.hid (HQ4.out.below hb (by omega))
    have HNR := Lib.hid (HN4.out.below hb (by omega))
    have HRNR := Lib.hid (HRN4.out.keep hb (by omega))
    have HRR := Lib.hid (HR4.out.keep hb (by omega))
    have HO1R := Lib.hid (own_keep HO1.out hb)
    have HO2R := Lib.hid (own_keep HO2.out hb)
    have HBW := Lib.hid hb
    have k0 : wr.cell? ⟨w.heap.size, 0, none⟩ = some (.slice An nn cn) := HXR.out.cell 0
    have l0 : wr.cell? ⟨w.heap.size + 1, 0, none⟩ = some (.int .i64 x0) := HLR.out.cell 0
    have l1 : wr.cell? ⟨w.heap.size + 1, 1, none⟩ = some (.int .i64 x1) := HLR.out.cell 1
    clear hb
    by_cases hlt : i < nn
    · obtain ⟨b, off, y0, y1, y2, rfl, hbB, _, hg, hc0, hc1, hc2⟩ := HRNR.out.trip hlt
      have hi1 : (i : Int) < (nn : Int) := by omega
      have hi0' : (0 : Int) ≤ (i : Int) := by omega
      have HG := Lib.hid hg
      clear hg
      by_cases h1 : y1 = x0
      · have h1' : (y1 == x0) = true := by simpa using h1
        by_cases h2 : y2 = x1
        · have h2' : (y2 == x1) = true := by simpa using h2
          have HF := Lib.hid (firstAt_hit HG.out (by simp [adS, adL, h1, h2]) hF.out)
          have HW := Lib.hid (send_hit HA.out HF.out HG.out)
          clear h1 h2
          go_wp2
          go_quiet (fail)
          go_wp2_with (fail)
          have hbq := up_drewN (Below.refl _ wr) nq
          have hsq : wr.heap.size ≤ (wr.drewN nq).heap.size := Nat.le_refl _
          have HBq := Lib.hid (up HBR.out hbq)
          have HXq := Lib.hid (HXR.out.below hbq (by omega))
          have HQq := Lib.hid (HQR.out.below hbq (by omega))
          have HNq := Lib.hid (HNR.out.below hbq (by omega))
          have HSq := Lib.hid (HRNR.out.keep hbq (by omega))
          have HOq := Lib.hid (own_keep HO2R.out hbq)
          clear hbq HBR HXR HLR HQR HNR HRNR HRR HO1R HO2R HBW l0 l1 k0 h1' h2' hc0 hc1 hc2
          generalize wr.drewN nq = wq at *
          have k0 : wq.cell? ⟨w.heap.size, 0, none⟩ = some (.slice (some ⟨b, off, none⟩) nn cn) := HXq.out.cell 0
          have HCUT := Lib.hid (show Rd wq lo hi 3 (some ⟨b, off, none⟩) i (tvs (ns.take i)) from tvs_take ns i ▸ HSq.out.cut (by omega))
          obtain ⟨AT, hAT, hRT⟩ := HSq.out.behind hlt hcn
          have HRT := Lib.hid hRT
          clear hRT
          have p1 : (i : Int) + 1 ≤ (nn : Int) := by omega
          have p2 : (0 : Int) ≤ (i : Int) + 1 := by omega
          have p3 : (i : Int) ≤ (cn : Int) := by omega
          have p4 : (nn : Int) ≤ (cn : Int) := by omega
          have p5 : (i : Int) + 1 ≤ (cn : Int) := by omega
          have p6 : ((i : Int) + 1).toNat = i + 1 := by omega
          have p7 : i ≤ cn := by omega
          have p8 : i + 1 ≤ cn := by omega
          have p9 : IntKind.i64.wrap ((i : Int) + 1) = (i : Int) + 1 := by rw [IntKind.wrap_i64]; omega
          go_region_held3 (fun w' => w'.cell? ⟨w.heap.size, 0, none⟩ = some (.slice (some ⟨b, off, none⟩) nn cn))
            (first
              | exact k0
              | exact kU
              | go_keep
              | (rw [hgS.cell_far _ (by simp; omega) (by simp [Value.ownBlock]; omega)]; assumption)
              | (rw [hgT.cell_far _ (by have := hgS.size; simp at this ⊢; omega) (fun e => by have := (hoS.lt _ e.symm).1; simp at this; omega)]; assumption))
            ((first
              | (refine step_append_rd _ (by rfl) (.tmp 48) (.tmp 52) 23 (by rfl) wq.heap.size 42 j0 _ 3 24 Try.underlying23 hj0 hy0 hy1 hy2 rfl (by omega) (.slice (some ⟨wq.heap.size, 0, none⟩) 0 0) 0 [] (by rfl) (own_of_blk (by repeat (first | (with_reducible exact Blk.new _ _ _) | (with_reducible refine Blk.drew ?_))) (Nat.le_refl _)) lo hi (some ⟨b, off, none⟩) i cn (tvs (ns.take i)) (by rfl) (HCUT.out.keep (B := wq.heap.size) (by repeat (first | (with_reducible exact Below.refl _ _) | (with_reducible refine up_drew ?_) | (with_reducible refine up_alloc ?_ _))) (by omega)) (tvs_one _) (by unfold maxLen; omega) (by omega) (by simp) ?_
                 intro vS wS hoS hgS hlS
                 rw [Nat.zero_add, List.nil_append] at hoS)
              | (refine step_append_rd _ (by rfl) (.tmp 53) (.tmp 58) 23 (by rfl) wq.heap.size 42 j0 _ 3 24 Try.underlying23 hj0 hy0 hy1 hy2 rfl (by omega) vS i (tvs (ns.take i)) (by rfl) hoS lo hi (some AT) (nn - (i + 1)) (cn - (i + 1)) (tvs (ns.drop (i + 1))) (by rfl) (HRT.out.keep (show Below wq.heap.size wq wS from (Below.grown (up_drew (up_alloc (Below.refl _ wq) _)) hgS (by simp) (fun k hk => by simp [Value.ownBlock] at hk; omega))) (by omega)) (tvs_one _) (by unfold maxLen; omega) (by omega) (by have := hgS.size; simp at this; omega) ?_
                 intro vT wT hoT hgT hlT
                 rw [show i + (nn - (i + 1)) = nn - 1 by omega, ← tvs_append, ← List.eraseIdx_eq_take_drop_succ] at hoT
                 obtain ⟨AN, cN, rfl, hcN, _⟩ := own_form hoT
                 have hsT := hgT.size
                 have hsS := hgS.size
                 simp at hsS
                 have HNT := Lib.hid (show Blk wT w3.heap.size 26 #[.slice A1 nn c1, .slice A2 n c2] from ((HNq.out.alloc _).drew.grown hgS (by first | (simp [Value.ownBlock]; done) | (simp [Value.ownBlock]; omega))).grown hgT (fun e => by have := (hoS.lt _ e.symm).1; omega))
                 have HXT := Lib.hid (show Blk wT w.heap.size 26 _ from ((HXq.out.alloc _).drew.grown hgS (by first | (simp [Value.ownBlock]; done) | (simp [Value.ownBlock]; omega))).grown hgT (fun e => by have := (hoS.lt _ e.symm).1; omega))
                 have HQT := Lib.hid (show Blk wT (w.heap.size + 1 + 1) 26 _ from ((HQq.out.alloc _).drew.grown hgS (by first | (simp [Value.ownBlock]; done) | (simp [Value.ownBlock]; omega))).grown hgT (fun e => by have := (hoS.lt _ e.symm).1; omega))
                 have HBT := Lib.hid (up HBq.out (show Below wq.heap.size wq wT from (Below.grown (Below.grown (up_drew (up_alloc (Below.refl _ wq) _)) hgS (by simp) (fun k hk => by simp [Value.ownBlock] at hk; omega)) hgT (by omega) (fun k hk => (hoS.lt k hk).1))))
                 have HST := Lib.hid (HSq.out.keep (show Below wq.heap.size wq wT from (Below.grown (Below.grown (up_drew (up_alloc (Below.refl _ wq) _)) hgS (by simp) (fun k hk => by simp [Value.ownBlock] at hk; omega)) hgT (by omega) (fun k hk => (hoS.lt k hk).1))) (by omega))
                 have HOT := Lib.hid (own_keep HOq.out (show Below wq.heap.size wq wT from (Below.grown (Below.grown (up_drew (up_alloc (Below.refl _ wq) _)) hgS (by simp) (fun k hk => by simp [Value.ownBlock] at hk; omega)) hgT (by omega) (fun k hk => (hoS.lt k hk).1))))
                 have kU := (HXT.out.far (p := ⟨w3.heap.size, 0, none⟩) (by show _ ≠ w3.heap.size; omega) (.slice AN (nn - 1) cN)).cell 0
                 have n0 := HNT.out.cell 0
                 have f0 := HNT.out.soft 0)))
          have HOE := Lib.hid (own_set hoT (p := ⟨w3.heap.size, 0, none⟩) (.slice AN (nn - 1) cN) (fun g h e => by have := (hoT.lt g h).1; have e : g = w3.heap.size := e; omega))
          have HOF := Lib.hid (own_set HOT.out (p := ⟨w3.heap.size, 0, none⟩) (.slice AN (nn - 1) cN) (fun g h e => by have := (HLT2.out g h).2; have e : g = w3.heap.size := e; omega))
          have hne : ∀ g, (Value.slice AN (nn - 1) cN).ownBlock = some g → w3.heap.size < g := fun g h => by have := (hoT.lt g h).1; omega
          have HNE := Lib.hid hne
          have HNU := Lib.hid (HNT.out.put 0 (.slice AN (nn - 1) cN))
          have HQU := Lib.hid (HQT.out.far (p := ⟨w3.heap.size, 0, none⟩) (by show _ ≠ w3.heap.size; omega) (.slice AN (nn - 1) cN))
          have HXU := Lib.hid (HXT.out.far (p := ⟨w3.heap.size, 0, none⟩) (by show _ ≠ w3.heap.size; omega) (.slice AN (nn - 1) cN))
          have HBU := Lib.hid (HBT.out.setCell (p := ⟨w3.heap.size, 0, none⟩) (by show _ ≤ w3.heap.size; omega) (.slice AN (nn - 1) cN))
          have HSU := Lib.hid (HST.out.setCell (p := ⟨w3.heap.size, 0, none⟩) (.inr (by show _ ≤ w3.heap.size; omega)) (.slice AN (nn - 1) cN))
          have hsU : (wT.setCell ⟨w3.heap.size, 0, none⟩ (.slice AN (nn - 1) cN)).heap.size = wT.heap.size := by simp [World.setCell]
          clear kU hgS hgT hlS hlT hoS hoT hne HNT HXT HQT HBT HST HOT n0 f0 k0 HCUT HRT hAT HBq HXq HQq HNq HSq HOq
          go_wp2_with (fail)
          generalize wT.setCell ⟨w3.heap.size, 0, none⟩ (.slice AN (nn - 1) cN) = wU at *
          simp at HNU
          have n0 : wU.cell? ⟨w3.heap.size, 0, none⟩ = some (.slice AN (nn - 1) cN) := HNU.out.cell 0
          have n1 : wU.cell? ⟨w3.heap.size, 1, none⟩ = some (.slice A2 n c2) := HNU.out.cell 1
          have r0 : wU.cell? ⟨w.heap.size + 1 + 1, 0, none⟩ = some (.slice none 0 0) := HQU.out.cell 0
          have r1 : wU.cell? ⟨w.heap.size + 1 + 1, 1, none⟩ = some (.slice none 0 0) := HQU.out.cell 1
          have s0 := HQU.out.soft 0
          have s1 := HQU.out.soft 1
          have kx : wU.cell? ⟨w.heap.size, 0, none⟩ = some (.slice (some ⟨b, off, none⟩) nn cn) := HXU.out.cell 0
          obtain ⟨b', off', z0', z1', z2', hA', _, _, hg', hd0, _, _⟩ := HSU.out.trip hlt
          injection hA' with hA'; injection hA' with e1 e2; subst e1; subst e2
          obtain rfl : y0 = z0' := by have h := HG.out; rw [hg'] at h; injection h with h; injection h with h _; exact h.symm
          clear hg'
          have HNV := Lib.hid ((HNU.out.far (p := ⟨w.heap.size + 1 + 1, 0, none⟩) (by show w3.heap.size ≠ w.heap.size + 1 + 1; omega) (.slice AN (nn - 1) cN)).far (p := ⟨w.heap.size + 1 + 1, 1, none⟩) (by show w3.heap.size ≠ w.heap.size + 1 + 1; omega) (.slice A2 n c2))
          have HXV := Lib.hid ((HXU.out.far (p := ⟨w.heap.size + 1 + 1, 0, none⟩) (by show w.heap.size ≠ w.heap.size + 1 + 1; omega) (.slice AN (nn - 1) cN)).far (p := ⟨w.heap.size + 1 + 1, 1, none⟩) (by show w.heap.size ≠ w.heap.size + 1 + 1; omega) (.slice A2 n c2))
          have HDV := Lib.hid ((World.cell?_setCell_other _ ⟨w.heap.size + 1 + 1, 1, none⟩ ⟨b, off + i * 3, none⟩ (.slice A2 n c2) (fun e => by injection e with e; omega)).trans ((World.cell?_setCell_other wU ⟨w.heap.size + 1 + 1, 0, none⟩ ⟨b, off + i * 3, none⟩ (.slice AN (nn - 1) cN) (fun e => by injection e with e; omega)).trans hd0))
          go_region_held3 (fun w' => w'.cell? ⟨w3.heap.size, 0, none⟩ = some (.slice AN (nn - 1) cN) ∧ w'.cell? ⟨w3.heap.size, 1, none⟩ = some (.slice A2 n c2) ∧ w'.cell? ⟨w.heap.size, 0, none⟩ = some (.slice (some ⟨b, off, none⟩) nn cn) ∧ w'.cell? ⟨b, off + i * 3, none⟩ = some (.int .i64 y0))
            (first | exact ⟨n0, n1, kx, hd0⟩ | exact ⟨HNV.out.cell 0, HNV.out.cell 1, HXV.out.cell 0, HDV.out⟩ | go_keep) (fail)
          have hz := (HQU.out.put 0 (.slice AN (nn - 1) cN)).put 1 (.slice A2 n c2)
          have z0 := hz.cell 0
          have z1 := hz.cell 1
          simp at z0 z1
          have HBZ := Lib.hid ((HBU.out.setCell (p := ⟨w.heap.size + 1 + 1, 0, none⟩) (by show w.heap.size ≤ w.heap.size + 1 + 1; omega) (.slice AN (nn - 1) cN)).setCell (p := ⟨w.heap.size + 1 + 1, 1, none⟩) (by show w.heap.size ≤ w.heap.size + 1 + 1; omega) (.slice A2 n c2))
          have HF1 := Lib.hid (own_base (own_set (own_set HOE.out (p := ⟨w.heap.size + 1 + 1, 0, none⟩) (.slice AN (nn - 1) cN) (fun g h e => by have := HNE.out g h; have e : g = w.heap.size + 1 + 1 := e; omega)) (p := ⟨w.heap.size + 1 + 1, 1, none⟩) (.slice A2 n c2) (fun g h e => by have := HNE.out g h; have e : g = w.heap.size + 1 + 1 := e; omega)) (show w.heap.size ≤ wq.heap.size by omega))
          have HF2 := Lib.hid (own_base (own_set (own_set HOF.out (p := ⟨w.heap.size + 1 + 1, 0, none⟩) (.slice AN (nn - 1) cN) (fun g h e => by have := (HLT2.out g h).1; have e : g = w.heap.size + 1 + 1 := e; omega)) (p := ⟨w.heap.size + 1 + 1, 1, none⟩) (.slice A2 n c2) (fun g h e => by have := (HLT2.out g h).1; have e : g = w.heap.size + 1 + 1 := e; omega)) (show w.heap.size ≤ w2.heap.size by omega))
          clear hz
          go_wp2
          rw [HW.out]
          refine bodyPost_ret (v := .tuple #[.agg #[(.slice AN (nn - 1) cN), (.slice A2 n c2)], .int .i64 y0, .bool true]) (by simp [results, Try.results20, go_sem, z0, z1]) rfl ⟨_, _, _, _, _, _, rfl, ⟨by first | exact HF1.out | exact own_keep HF1.out (up_drew (Below.refl _ _)), by first | exact HF2.out | exact own_keep HF2.out (up_drew (Below.refl _ _)), ?_⟩, by first | exact HBZ.out | exact up_drew HBZ.out⟩
          exact fun g h1 h2 => by have := HNE.out g h1; have := (HLT2.out g h2).2; omega
        · have h2' : (y2 == x1) = false := by simpa using h2
          have HF := Lib.hid (firstAt_miss HG.out (by simp [adS, adL]; intro _; exact h2) hF.out)
          clear h2
          go_wp2
          try (go_quiet (fail); go_wp2)
          go_roundw
          case rel => exact ⟨i + 1, by omega, by go_num, HF.out, by first | exact HBW.out | exact up_drewN HBW.out _⟩
          case measure => simp [intOf]; omega
      · have h1' : (y1 == x0) = false := by simpa using h1
        have HF := Lib.hid (firstAt_miss HG.out (by simp [adS, adL]; intro h; exact absurd h h1) hF.out)
        clear h1
        go_wp2
        try (go_quiet (fail); go_wp2)
        go_roundw
        case rel => exact ⟨i + 1, by omega, by go_num, HF.out, by first | exact HBW.out | exact up_drewN HBW.out _⟩
        case measure => simp [intOf]; omega
    · have HF := Lib.hid (show ¬ firstAt adS ns (adL (x0, x1, x2)) < ns.length by have h1 := hF.out; have h2 := HLN.out; omega)
      clear l0 l1 hF
      have kP : wr.cell? ⟨w.heap.size, 1, none⟩ = some (.slice A n c) := HXR.out.cell 1
      have l0 : wr.cell? ⟨w.heap.size + 1, 0, none⟩ = some (.int .i64 x0) := HLR.out.cell 0
      have l1 : wr.cell? ⟨w.heap.size + 1, 1, none⟩ = some (.int .i64 x1) := HLR.out.cell 1
      have l2 : wr.cell? ⟨w.heap.size + 1, 2, none⟩ = some (.int .i64 x2) := HLR.out.cell 2
      have HRP := Lib.hid HRR.out
      go_wp2_with (fail)
      clear k0 HRNR HRR HBW
      have OA := Lib.hid (show ((wr.alloc (.cells #[] 33)).drew).ownsRow wr.heap.size 33 3 (.slice (some ⟨wr.heap.size, 0, none⟩) 0 0) 0 [] from own_of_blk (Blk.new wr _ _).drew (Nat.le_refl _))
      have OB := Lib.hid (show (((wr.alloc (.cells #[] 33)).alloc (.cells #[.int .i64 x0, .int .i64 x1, .int .i64 x2] 33)).drew).ownsRow wr.heap.size 33 3 (.slice (some ⟨wr.heap.size, 0, none⟩) 0 0) 0 [] from own_of_blk ((Blk.new wr _ _).alloc _).drew (Nat.le_refl _))
      have OC := Lib.hid (show (((wr.alloc (.cells #[.int .i64 x0, .int .i64 x1, .int .i64 x2] 33)).alloc (.cells #[] 33)).drew).ownsRow wr.heap.size 33 3 (.slice (some ⟨wr.heap.size + 1, 0, none⟩) 0 0) 0 [] from own_of_blk (Blk.new2 (by simp)).drew (Nat.le_succ _))
      have SA := Lib.hid (HRP.out.keep (up_drew (up_alloc (Below.refl _ wr) (.cells #[] 33))) (by omega))
      have SB := Lib.hid (HRP.out.keep (up_drew (up_alloc (up_alloc (Below.refl _ wr) (.cells #[] 33)) (.cells #[.int .i64 x0, .int .i64 x1, .int .i64 x2] 33))) (by omega))
      have SC := Lib.hid (HRP.out.keep (up_drew (up_alloc (up_alloc (Below.refl _ wr) (.cells #[.int .i64 x0, .int .i64 x1, .int .i64 x2] 33)) (.cells #[] 33))) (by omega))
      have FB := Lib.hid (show Blk (((wr.alloc (.cells #[] 33)).alloc (.cells #[.int .i64 x0, .int .i64 x1, .int .i64 x2] 33)).drew) (wr.heap.size + 1) 33 #[.int .i64 x0, .int .i64 x1, .int .i64 x2] from (Blk.new2 (by simp)).drew)
      have FC := Lib.hid (show Blk (((wr.alloc (.cells #[.int .i64 x0, .int .i64 x1, .int .i64 x2] 33)).alloc (.cells #[] 33)).drew) wr.heap.size 33 #[.int .i64 x0, .int .i64 x1, .int .i64 x2] from ((Blk.new wr _ _).alloc _).drew)
      go_region_held3 (fun w' => w'.cell? ⟨w.heap.size, 1, none⟩ = some (.slice A n c) ∧ w'.cell? ⟨w.heap.size + 1, 0, none⟩ = some (.int .i64 x0) ∧ w'.cell? ⟨w.heap.size + 1, 1, none⟩ = some (.int .i64 x1) ∧ w'.cell? ⟨w.heap.size + 1, 2, none⟩ = some (.int .i64 x2))
        (first
          | exact ⟨kP, l0, l1, l2⟩
          | exact ⟨kU, lU0, lU1, lU2⟩
          | (go_split_ands; refine ⟨by go_keep, by go_keep, by go_keep, by go_keep⟩)
          | (go_split_ands; refine ⟨?_, ?_, ?_, ?_⟩ <;> (rw [hgS.cell_far _ (by simp; omega) (by simp [Value.ownBlock]; omega)]; assumption))
          | (go_split_ands; refine ⟨?_, ?_, ?_, ?_⟩ <;> (rw [hgT.cell_far _ (by have := hgS.size; simp at this ⊢; omega) (fun e => by have := (hoS.lt _ e.symm).1; simp at this; omega)]; assumption)))
        ((first
          | (refine step_append_rd _ (by rfl) (.tmp 68) (.tmp 70) 24 (by rfl) wr.heap.size 33 i0 _ 3 24 Try.underlying24 hi0 hz0 hz1 hz2 rfl (by omega) (.slice (some ⟨wr.heap.size, 0, none⟩) 0 0) 0 [] (by rfl) OA.out lo' hi' A n c (tvs fs) (by rfl) SA.out (tvs_one _) (by unfold maxLen; omega) (by omega) (by simp; try omega) ?_
             intro vS wS hoS hgS hlS
             rw [Nat.zero_add, List.nil_append] at hoS
             have hw1 : wr.heap.size ≤ wS.heap.size := by have h9 := hgS.size; simp at h9; omega
             skip)
          | (refine step_append_rd _ (by rfl) (.tmp 68) (.tmp 70) 24 (by rfl) wr.heap.size 33 i0 _ 3 24 Try.underlying24 hi0 hz0 hz1 hz2 rfl (by omega) (.slice (some ⟨wr.heap.size, 0, none⟩) 0 0) 0 [] (by rfl) OB.out lo' hi' A n c (tvs fs) (by rfl) SB.out (tvs_one _) (by unfold maxLen; omega) (by omega) (by simp; try omega) ?_
             intro vS wS hoS hgS hlS
             rw [Nat.zero_add, List.nil_append] at hoS
             have hw1 : wr.heap.size ≤ wS.heap.size := by have h9 := hgS.size; simp at h9; omega
             have HFW := Lib.hid (FB.out.grown hgS (by simp [Value.ownBlock])))
          | (refine step_append_rd _ (by rfl) (.tmp 68) (.tmp 70) 24 (by rfl) wr.heap.size 33 i0 _ 3 24 Try.underlying24 hi0 hz0 hz1 hz2 rfl (by omega) (.slice (some ⟨wr.heap.size + 1, 0, none⟩) 0 0) 0 [] (by rfl) OC.out lo' hi' A n c (tvs fs) (by rfl) SC.out (tvs_one _) (by unfold maxLen; omega) (by omega) (by simp; try omega) ?_
             intro vS wS hoS hgS hlS
             rw [Nat.zero_add, List.nil_append] at hoS
             have hw1 : wr.heap.size ≤ wS.heap.size := by have h9 := hgS.size; simp at h9; omega
             have HFW := Lib.hid (FC.out.grown hgS (by simp [Value.ownBlock])))
          | (refine step_append_rd _ (by rfl) (.tmp 71) (.tmp 73) 24 (by rfl) wr.heap.size 33 i0 _ 3 24 Try.underlying24 hi0 hz0 hz1 hz2 rfl (by omega) vS n (tvs fs) (by rfl) hoS (wr.heap.size + 1) (wr.heap.size + 1 + 1) (some ⟨wr.heap.size + 1, 0, none⟩) 1 1 (tvs [(x0, x1, x2)]) (by rfl) (Rd.of_blk3 HFW.out) (tvs_one _) (by unfold maxLen; omega) (by omega) hw1 ?_
             intro vT wT hoT hgT hlT
             rw [← tvs_append] at hoT
             obtain ⟨AN, cN, rfl, hcN, _⟩ := own_form hoT
             have hTT := (show ∀ g t cs, Blk wr g t cs → g < wr.heap.size → Blk wT g t cs from fun g t cs hk hlt => ((((hk.alloc _).alloc _).drew).grown hgS (by simp [Value.ownBlock]; omega)).grown hgT (fun e => by have := (hoS.lt _ e.symm).1; omega))
             have HNT := Lib.hid (show Blk wT w3.heap.size 26 #[.slice A1 nn c1, .slice A2 n c2] from hTT _ _ _ HNR.out (by omega))
             have HXT := Lib.hid (show Blk wT w.heap.size 26 #[.slice An nn cn, .slice A n c] from hTT _ _ _ HXR.out (by omega))
             have HLL := Lib.hid (show Blk wT (w.heap.size + 1) 33 #[.int .i64 x0, .int .i64 x1, .int .i64 x2] from hTT _ _ _ HLR.out (by omega))
             have HQT := Lib.hid (show Blk wT (w.heap.size + 1 + 1) 26 #[.slice none 0 0, .slice none 0 0] from hTT _ _ _ HQR.out (by omega))
             have hbT : Below wr.heap.size wr wT := (Below.grown (Below.grown (up_drew (up_alloc (up_alloc (Below.refl _ wr) _) _)) hgS (by first | (simp; done) | (simp; omega)) (fun k hk => by simp [Value.ownBlock] at hk; omega)) hgT hw1 (fun k hk => (hoS.lt k hk).1))
             have hsT := hbT.size
             have HBT := Lib.hid (up HBR.out hbT)
             have HOT := Lib.hid (own_keep HO1R.out hbT)
             have kU := (HXT.out.far (p := ⟨w3.heap.size, 1, none⟩) (by show _ ≠ w3.heap.size; omega) (.slice AN (n + 1) cN)).cell 1
             have lU := HLL.out.far (p := ⟨w3.heap.size, 1, none⟩) (by show _ ≠ w3.heap.size; omega) (.slice AN (n + 1) cN)
             have lU0 := lU.cell 0
             have lU1 := lU.cell 1
             have lU2 := lU.cell 2
             have n1 := HNT.out.cell 1
             have f1 := HNT.out.soft 1
             clear lU hbT hTT)
          | (refine step_append_rd _ (by rfl) (.tmp 71) (.tmp 73) 24 (by rfl) wr.heap.size 33 i0 _ 3 24 Try.underlying24 hi0 hz0 hz1 hz2 rfl (by omega) vS n (tvs fs) (by rfl) hoS (wr.heap.size) (wr.heap.size + 1) (some ⟨wr.heap.size, 0, none⟩) 1 1 (tvs [(x0, x1, x2)]) (by rfl) (Rd.of_blk3 HFW.out) (tvs_one _) (by unfold maxLen; omega) (by omega) hw1 ?_
             intro vT wT hoT hgT hlT
             rw [← tvs_append] at hoT
             obtain ⟨AN, cN, rfl, hcN, _⟩ := own_form hoT
             have hTT := (show ∀ g t cs, Blk wr g t cs → g < wr.heap.size → Blk wT g t cs from fun g t cs hk hlt => ((((hk.alloc _).alloc _).drew).grown hgS (by simp [Value.ownBlock]; omega)).grown hgT (fun e => by have := (hoS.lt _ e.symm).1; omega))
             have HNT := Lib.hid (show Blk wT w3.heap.size 26 #[.slice A1 nn c1, .slice A2 n c2] from hTT _ _ _ HNR.out (by omega))
             have HXT := Lib.hid (show Blk wT w.heap.size 26 #[.slice An nn cn, .slice A n c] from hTT _ _ _ HXR.out (by omega))
             have HLL := Lib.hid (show Blk wT (w.heap.size + 1) 33 #[.int .i64 x0, .int .i64 x1, .int .i64 x2] from hTT _ _ _ HLR.out (by omega))
             have HQT := Lib.hid (show Blk wT (w.heap.size + 1 + 1) 26 #[.slice none 0 0, .slice none 0 0] from hTT _ _ _ HQR.out (by omega))
             have hbT : Below wr.heap.size wr wT := (Below.grown (Below.grown (up_drew (up_alloc (up_alloc (Below.refl _ wr) _) _)) hgS (by first | (simp; done) | (simp; omega)) (fun k hk => by simp [Value.ownBlock] at hk; omega)) hgT hw1 (fun k hk => (hoS.lt k hk).1))
             have hsT := hbT.size
             have HBT := Lib.hid (up HBR.out hbT)
             have HOT := Lib.hid (own_keep HO1R.out hbT)
             have kU := (HXT.out.far (p := ⟨w3.heap.size, 1, none⟩) (by show _ ≠ w3.heap.size; omega) (.slice AN (n + 1) cN)).cell 1
             have lU := HLL.out.far (p := ⟨w3.heap.size, 1, none⟩) (by show _ ≠ w3.heap.size; omega) (.slice AN (n + 1) cN)
             have lU0 := lU.cell 0
             have lU1 := lU.cell 1
             have lU2 := lU.cell 2
             have n1 := HNT.out.cell 1
             have f1 := HNT.out.soft 1
             clear lU hbT hTT)
          | (refine step_append_rd _ (by rfl) (.tmp 71) (.tmp 73) 24 (by rfl) wr.heap.size 33 i0 _ 3 24 Try.underlying24 hi0 hz0 hz1 hz2 rfl (by omega) vS n (tvs fs) (by rfl) (hoS.alloc _) (wS.heap.size) (wS.heap.size + 1) (some ⟨wS.heap.size, 0, none⟩) 1 1 (tvs [(x0, x1, x2)]) (by rfl) (Rd.of_blk3 (Blk.new _ _ _)) (tvs_one _) (by unfold maxLen; omega) (by omega) (Nat.le_trans hw1 (by simp)) ?_
             intro vT wT hoT hgT hlT
             rw [← tvs_append] at hoT
             obtain ⟨AN, cN, rfl, hcN, _⟩ := own_form hoT
             have hTT := (show ∀ g t cs, Blk wr g t cs → g < wr.heap.size → Blk wT g t cs from fun g t cs hk hlt => ((((hk.alloc _).drew).grown hgS (by simp [Value.ownBlock]; omega)).alloc _).grown hgT (fun e => by have := (hoS.lt _ e.symm).1; omega))
             have HNT := Lib.hid (show Blk wT w3.heap.size 26 #[.slice A1 nn c1, .slice A2 n c2] from hTT _ _ _ HNR.out (by omega))
             have HXT := Lib.hid (show Blk wT w.heap.size 26 #[.slice An nn cn, .slice A n c] from hTT _ _ _ HXR.out (by omega))
             have HLL := Lib.hid (show Blk wT (w.heap.size + 1) 33 #[.int .i64 x0, .int .i64 x1, .int .i64 x2] from hTT _ _ _ HLR.out (by omega))
             have HQT := Lib.hid (show Blk wT (w.heap.size + 1 + 1) 26 #[.slice none 0 0, .slice none 0 0] from hTT _ _ _ HQR.out (by omega))
             have hbT : Below wr.heap.size wr wT := (Below.grown (up_alloc (Below.grown (up_drew (up_alloc (Below.refl _ wr) _)) hgS (by first | (simp; done) | (simp; omega)) (fun k hk => by simp [Value.ownBlock] at hk; omega)) _) hgT (Nat.le_trans hw1 (by simp)) (fun k hk => (hoS.lt k hk).1))
             have hsT := hbT.size
             have HBT := Lib.hid (up HBR.out hbT)
             have HOT := Lib.hid (own_keep HO1R.out hbT)
             have kU := (HXT.out.far (p := ⟨w3.heap.size, 1, none⟩) (by show _ ≠ w3.heap.size; omega) (.slice AN (n + 1) cN)).cell 1
             have lU := HLL.out.far (p := ⟨w3.heap.size, 1, none⟩) (by show _ ≠ w3.heap.size; omega) (.slice AN (n + 1) cN)
             have lU0 := lU.cell 0
             have lU1 := lU.cell 1
             have lU2 := lU.cell 2
             have n1 := HNT.out.cell 1
             have f1 := HNT.out.soft 1
             clear lU hbT hTT)))
      all_goals
        have HOE := Lib.hid (own_set hoT (p := ⟨w3.heap.size, 1, none⟩) (.slice AN (n + 1) cN) (fun g h e => by have := (hoT.lt g h).1; have e : g = w3.heap.size := e; omega))
        have HOF := Lib.hid (own_set HOT.out (p := ⟨w3.heap.size, 1, none⟩) (.slice AN (n + 1) cN) (fun g h e => by have := (HLT1.out g h).2; have e : g = w3.heap.size := e; omega))
        have hne : ∀ g, (Value.slice AN (n + 1) cN).ownBlock = some g → w3.heap.size < g := fun g h => by have := (hoT.lt g h).1; omega
        have HNE := Lib.hid hne
        have HNU := Lib.hid (HNT.out.put 1 (.slice AN (n + 1) cN))
        have HQU := Lib.hid (HQT.out.far (p := ⟨w3.heap.size, 1, none⟩) (by show _ ≠ w3.heap.size; omega) (.slice AN (n + 1) cN))
        have HBU := Lib.hid (HBT.out.setCell (p := ⟨w3.heap.size, 1, none⟩) (by show _ ≤ w3.heap.size; omega) (.slice AN (n + 1) cN))
        have hsU : wT.heap.size ≤ (wT.setCell ⟨w3.heap.size, 1, none⟩ (.slice AN (n + 1) cN)).heap.size := by simp [World.setCell]
        clear kU lU0 lU1 lU2 hgS hgT hlS hlT hoS hoT hne HNT HXT HLL HQT HBT HOT n1 f1 kP l0 l1 l2 HBR HXR HLR HQR HNR HO1R HO2R HRP OA OB OC SA SB SC FB FC
        generalize wT.setCell ⟨w3.heap.size, 1, none⟩ (.slice AN (n + 1) cN) = wU at *
        simp at HNU
        have n0 : wU.cell? ⟨w3.heap.size, 0, none⟩ = some (.slice A1 nn c1) := HNU.out.cell 0
        have n1 : wU.cell? ⟨w3.heap.size, 1, none⟩ = some (.slice AN (n + 1) cN) := HNU.out.cell 1
        have HV5 := Lib.hid (validPostS_any _ _ nn c1 A1 ns _ _ (n + 1) cN AN (fs ++ [(x0, x1, x2)]) wU (Rd.of_own HOF.out) (Nat.le_refl _) hnn (Rd.of_own HOE.out) (Nat.le_refl _) (by omega))
        go_wp2_with (fail)
        (with_reducible refine HV5.out.mono ?_)
        rintro e w5 ⟨rfl, hb5⟩
        have hs5 := hb5.size
        have HB5 := Lib.hid (up HBU.out hb5)
        have HQ5 := Lib.hid (HQU.out.below hb5 (by omega))
        have HN5 := Lib.hid (HNU.out.below hb5 (by omega))
        have HOE5 := Lib.hid (own_keep HOE.out hb5)
        have HOF5 := Lib.hid (own_keep HOF.out hb5)
        clear hb5 HBU HQU HNU HOE HOF n0 n1 HV5
        cases hP : vPost ns (fs ++ [(x0, x1, x2)]) with
        | false =>
          have HP := Lib.hid hP
          clear hP
          have HW := Lib.hid (show sendOf ns fs (x0, x1, x2) = (([], []), -1, false) from send_full HA.out HF.out HP.out)
          have s0 := HQ5.out.soft 0
          have s1 := HQ5.out.soft 1
          have r0 : w5.cell? ⟨w.heap.size + 1 + 1, 0, none⟩ = some (.slice none 0 0) := HQ5.out.cell 0
          have r1 : w5.cell? ⟨w.heap.size + 1 + 1, 1, none⟩ = some (.slice none 0 0) := HQ5.out.cell 1
          have hz := (HQ5.out.put 0 (.slice none 0 0)).put 1 (.slice none 0 0)
          have z0 := hz.cell 0
          have z1 := hz.cell 1
          simp at z0 z1
          have HBZ := Lib.hid ((HB5.out.setCell (p := ⟨w.heap.size + 1 + 1, 0, none⟩) (by show w.heap.size ≤ w.heap.size + 1 + 1; omega) (.slice none 0 0)).setCell (p := ⟨w.heap.size + 1 + 1, 1, none⟩) (by show w.heap.size ≤ w.heap.size + 1 + 1; omega) (.slice none 0 0))
          clear hz
          go_wp2
          rw [HW.out]
          exact bodyPost_ret (v := .tuple #[.agg #[.slice none 0 0, .slice none 0 0], .int .i64 (-1), .bool false]) (by simp [results, Try.results20, go_sem, z0, z1]) rfl ⟨none, 0, 0, none, 0, 0, rfl, ⟨World.ownsRow_nil _ _ _ _, World.ownsRow_nil _ _ _ _, fun g h => by cases h⟩, HBZ.out⟩
        | true =>
          have HW := Lib.hid (send_put HA.out HF.out hP)
          clear hP
          have n0 : w5.cell? ⟨w3.heap.size, 0, none⟩ = some (.slice A1 nn c1) := HN5.out.cell 0
          have n1 : w5.cell? ⟨w3.heap.size, 1, none⟩ = some (.slice AN (n + 1) cN) := HN5.out.cell 1
          have r0 : w5.cell? ⟨w.heap.size + 1 + 1, 0, none⟩ = some (.slice none 0 0) := HQ5.out.cell 0
          have r1 : w5.cell? ⟨w.heap.size + 1 + 1, 1, none⟩ = some (.slice none 0 0) := HQ5.out.cell 1
          have s0 := HQ5.out.soft 0
          have s1 := HQ5.out.soft 1
          have hz := (HQ5.out.put 0 (.slice A1 nn c1)).put 1 (.slice AN (n + 1) cN)
          have z0 := hz.cell 0
          have z1 := hz.cell 1
          simp at z0 z1
          have HBZ := Lib.hid ((HB5.out.setCell (p := ⟨w.heap.size + 1 + 1, 0, none⟩) (by show w.heap.size ≤ w.heap.size + 1 + 1; omega) (.slice A1 nn c1)).setCell (p := ⟨w.heap.size + 1 + 1, 1, none⟩) (by show w.heap.size ≤ w.heap.size + 1 + 1; omega) (.slice AN (n + 1) cN))
          have HF1 := Lib.hid (own_base (own_set (own_set HOE5.out (p := ⟨w.heap.size + 1 + 1, 0, none⟩) (.slice A1 nn c1) (fun g h e => by have := HNE.out g h; have e : g = w.heap.size + 1 + 1 := e; omega)) (p := ⟨w.heap.size + 1 + 1, 1, none⟩) (.slice AN (n + 1) cN) (fun g h e => by have := HNE.out g h; have e : g = w.heap.size + 1 + 1 := e; omega)) (show w.heap.size ≤ wr.heap.size by omega))
          have HF2 := Lib.hid (own_base (own_set (own_set HOF5.out (p := ⟨w.heap.size + 1 + 1, 0, none⟩) (.slice A1 nn c1) (fun g h e => by have := (HLT1.out g h).1; have e : g = w.heap.size + 1 + 1 := e; omega)) (p := ⟨w.heap.size + 1 + 1, 1, none⟩) (.slice AN (n + 1) cN) (fun g h e => by have := (HLT1.out g h).1; have e : g = w.heap.size + 1 + 1 := e; omega)) (show w.heap.size ≤ w2.heap.size by omega))
          clear hz
          go_wp2
          rw [HW.out]
          refine bodyPost_ret (v := .tuple #[.agg #[(.slice A1 nn c1), (.slice AN (n + 1) cN)], .int .i64 (-1), .bool true]) (by simp [results, Try.results20, go_sem, z0, z1]) rfl ⟨_, _, _, _, _, _, rfl, ⟨by first | exact HF2.out | exact own_keep HF2.out (up_drew (Below.refl _ _)), by first | exact HF1.out | exact own_keep HF1.out (up_drew (Below.refl _ _)), ?_⟩, by first | exact HBZ.out | exact up_drew HBZ.out⟩
          exact fun g h1 h2 => by have := HNE.out g h2; have := (HLT1.out g h1).2; omega
set_option maxRecDepth 100000 in
set_option maxHeartbeats 6400000 in
theorem WaitLetterS_any (lo hi nn cn : Nat) (An : Option Addr) (ns : List Tri) (lo' hi' n c : Nat) (A : Option Addr) (fs : List Tri) (x0 x1 x2 : Int) (w : World) (hrn : Rd w lo hi 3 An nn (tvs ns)) (hB : hi ≤ w.heap.size) (hnn : nn ≤ 1048576)
    (hr : Rd w lo' hi' 3 A n (tvs fs)) (hB' : hi' ≤ w.heap.size) (hn : n ≤ 1048576) (hcn : nn ≤ cn) (hc : n ≤ c) :
    Calls Try.prog 26 #[.agg #[.slice An nn cn, .slice A n c], .agg #[.int .i64 x0, .int .i64 x1, .int .i64 x2]] w (PostRes (waitOf ns fs (x0, x1, x2)).1 (.bool (waitOf ns fs (x0, x1, x2)).2.1) (waitOf ns fs (x0, x1, x2)).2.2 w) := by
  obtain ⟨i0, hi0, hz0, hz1, hz2⟩ := info_parts infoLetter
  obtain ⟨j0, hj0, hy0, hy1, hy2⟩ := info_parts infoSub
  have HLN := Lib.hid hrn.len3
  have HLF := Lib.hid hr.len3
  have hb0 := up_alloc (up_alloc (up_alloc (Below.refl _ w) (.cells #[.slice An nn cn, .slice A n c] 26)) (.cells #[.int .i64 x0, .int .i64 x1, .int .i64 x2] 42)) (.cells #[.slice none 0 0, .slice none 0 0] 26)
  have hx0 : Blk (((w.alloc (.cells #[.slice An nn cn, .slice A n c] 26)).alloc (.cells #[.int .i64 x0, .int .i64 x1, .int .i64 x2] 42)).alloc (.cells #[.slice none 0 0, .slice none 0 0] 26)) w.heap.size 26 #[.slice An nn cn, .slice A n c] := ((Blk.new w _ _).alloc _).alloc _
  have hl0 : Blk (((w.alloc (.cells #[.slice An nn cn, .slice A n c] 26)).alloc (.cells #[.int .i64 x0, .int .i64 x1, .int .i64 x2] 42)).alloc (.cells #[.slice none 0 0, .slice none 0 0] 26)) (w.heap.size + 1) 42 #[.int .i64 x0, .int .i64 x1, .int .i64 x2] := Blk.alloc (Blk.new2 (by simp)) _
  have hq0 : Blk (((w.alloc (.cells #[.slice An nn cn, .slice A n c] 26)).alloc (.cells #[.int .i64 x0, .int .i64 x1, .int .i64 x2] 42)).alloc (.cells #[.slice none 0 0, .slice none 0 0] 26)) (w.heap.size + 1 + 1) 26 #[.slice none 0 0, .slice none 0 0] := Blk.new2 (by simp)
  have hsz : (((w.alloc (.cells #[.slice An nn cn, .slice A n c] 26)).alloc (.cells #[.int .i64 x0, .int .i64 x1, .int .i64 x2] 42)).alloc (.cells #[.slice none 0 0, .slice none 0 0] 26)).heap.size = w.heap.size + 1 + 1 + 1 := by simp
  go_enter Try.func26, Try.ntmps26
  go_wp2_with (fail)
  generalize hw0 : (((w.alloc (.cells #[.slice An nn cn, .slice A n c] 26)).alloc (.cells #[.int .i64 x0, .int .i64 x1, .int .i64 x2] 42)).alloc (.cells #[.slice none 0 0, .slice none 0 0] 26)) = w0 at *
  clear hw0
  have HRN := Lib.hid (hrn.keep hb0 hB)
  have HR := Lib.hid (hr.keep hb0 hB')
  have hB0 : hi ≤ w0.heap.size := Nat.le_trans hB hb0.size
  have hB0' : hi' ≤ w0.heap.size := Nat.le_trans hB' hb0.size
  have HB0 := Lib.hid hb0
  have HX0 := Lib.hid hx0
  have HL0 := Lib.hid hl0
  have HQ0 := Lib.hid hq0
  clear hrn hr hb0 hx0 hl0 hq0
  (with_reducible refine (validPostS_any lo hi nn cn An ns lo' hi' n c A fs w0 HRN.out hB0 hnn HR.out hB0' hn).mono ?_)
  rintro e w1 ⟨rfl, hb1⟩
  have hs1 := hb1.size
  have HB1 := Lib.hid (up HB0.out hb1)
  have HX1 := Lib.hid (HX0.out.below hb1 (by omega))
  have HL1 := Lib.hid (HL0.out.below hb1 (by omega))
  have HQ1 := Lib.hid (HQ0.out.below hb1 (by omega))
  have HRN1 := Lib.hid (HRN.out.keep hb1 hB0)
  have HR1 := Lib.hid (HR.out.keep hb1 hB0')
  clear hb1 HB0 HX0 HL0 HQ0 HRN HR
  cases hV : vPost ns fs with
  | false =>
    have HV := Lib.hid hV
    clear hV
    have HW := Lib.hid (show waitOf ns fs (x0, x1, x2) = (([], []), false, false) from wait_no (by rw [HV.out]; rfl))
    have s0 := HQ1.out.soft 0
    have s1 := HQ1.out.soft 1
    have r0 : w1.cell? ⟨w.heap.size + 1 + 1, 0, none⟩ = some (.slice none 0 0) := HQ1.out.cell 0
    have r1 : w1.cell? ⟨w.heap.size + 1 + 1, 1, none⟩ = some (.slice none 0 0) := HQ1.out.cell 1
    have hz := (HQ1.out.put 0 (.slice none 0 0)).put 1 (.slice none 0 0)
    have z0 := hz.cell 0
    have z1 := hz.cell 1
    simp at z0 z1
    have HBZ := Lib.hid ((HB1.out.setCell (p := ⟨w.heap.size + 1 + 1, 0, none⟩) (by show w.heap.size ≤ w.heap.size + 1 + 1; omega) (.slice none 0 0)).setCell (p := ⟨w.heap.size + 1 + 1, 1, none⟩) (by show w.heap.size ≤ w.heap.size + 1 + 1; omega) (.slice none 0 0))
    clear hz
    go_wp2
    rw [HW.out]
    exact bodyPost_ret (v := .tuple #[.agg #[.slice none 0 0, .slice none 0 0], .bool false, .bool false]) (by simp [results, Try.results26, go_sem, z0, z1]) rfl ⟨none, 0, 0, none, 0, 0, rfl, ⟨World.ownsRow_nil _ _ _ _, World.ownsRow_nil _ _ _ _, fun g h => by cases h⟩, HBZ.out⟩
  | true =>
  have HV := Lib.hid hV
  obtain ⟨hl1, hl2⟩ : ns.length ≤ 10 ∧ fs.length ≤ 10 := ⟨(vPost_and.1 hV).2.2.1, (vPost_and.1 hV).2.2.2.2⟩
  rw [HLN.out] at hl1
  rw [HLF.out] at hl2
  clear hV
  have l0 : w1.cell? ⟨w.heap.size + 1, 0, none⟩ = some (.int .i64 x0) := HL1.out.cell 0
  have l1 : w1.cell? ⟨w.heap.size + 1, 1, none⟩ = some (.int .i64 x1) := HL1.out.cell 1
  have l2 : w1.cell? ⟨w.heap.size + 1, 2, none⟩ = some (.int .i64 x2) := HL1.out.cell 2
  have hba := up_alloc (Below.refl _ w1) (.cells #[.int .i64 x0, .int .i64 x1, .int .i64 x2] 42)
  have hnew := Blk.new w1 42 #[.int .i64 x0, .int .i64 x1, .int .i64 x2]
  have HNEW := Lib.hid (show Rd (w1.alloc (.cells #[.int .i64 x0, .int .i64 x1, .int .i64 x2] 42)) w1.heap.size (w1.heap.size + 1) 3 (some ⟨w1.heap.size, 0, none⟩) 1 (tvs [(x0, x1, x2)]) from Rd.of_blk3 hnew)
  have HB2 := Lib.hid (up HB1.out hba)
  have HX2 := Lib.hid (HX1.out.below hba (by omega))
  have HL2 := Lib.hid (HL1.out.below hba (by omega))
  have HQ2 := Lib.hid (HQ1.out.below hba (by omega))
  have HRN2 := Lib.hid (HRN1.out.keep hba (by omega))
  have HR2 := Lib.hid (HR1.out.keep hba (by omega))
  have hsa : (w1.alloc (.cells #[.int .i64 x0, .int .i64 x1, .int .i64 x2] 42)).heap.size = w1.heap.size + 1 := by simp
  clear hba hnew HB1 HX1 HL1 HQ1 HRN1 HR1
  go_wp2_with (fail)
  (with_reducible refine (validSubs_any _ _ 1 1 (some ⟨w1.heap.size, 0, none⟩) [(x0, x1, x2)] _ HNEW.out (by omega)).mono ?_)
  rintro e w2 ⟨rfl, hw2⟩
  rw [hw2] at HB2 HX2 HL2 HQ2 HRN2 HR2 hsa
  clear hw2 HNEW l0 l1 l2
  rw [show vSubs [(x0, x1, x2)] = vSub (x0, x1, x2) by simp [vSubs]]
  cases hA : vSub (x0, x1, x2) with
  | false =>
    have HA := Lib.hid hA
    clear hA
    have HW := Lib.hid (show waitOf ns fs (x0, x1, x2) = (([], []), false, false) from wait_no (by rw [HA.out, Bool.and_false]))
    have s0 := HQ2.out.soft 0
    have s1 := HQ2.out.soft 1
    have r0 : w2.cell? ⟨w.heap.size + 1 + 1, 0, none⟩ = some (.slice none 0 0) := HQ2.out.cell 0
    have r1 : w2.cell? ⟨w.heap.size + 1 + 1, 1, none⟩ = some (.slice none 0 0) := HQ2.out.cell 1
    have hz := (HQ2.out.put 0 (.slice none 0 0)).put 1 (.slice none 0 0)
    have z0 := hz.cell 0
    have z1 := hz.cell 1
    simp at z0 z1
    have HBZ := Lib.hid ((HB2.out.setCell (p := ⟨w.heap.size + 1 + 1, 0, none⟩) (by show w.heap.size ≤ w.heap.size + 1 + 1; omega) (.slice none 0 0)).setCell (p := ⟨w.heap.size + 1 + 1, 1, none⟩) (by show w.heap.size ≤ w.heap.size + 1 + 1; omega) (.slice none 0 0))
    clear hz
    go_wp2
    rw [HW.out]
    exact bodyPost_ret (v := .tuple #[.agg #[.slice none 0 0, .slice none 0 0], .bool false, .bool false]) (by simp [results, Try.results26, go_sem, z0, z1]) rfl ⟨none, 0, 0, none, 0, 0, rfl, ⟨World.ownsRow_nil _ _ _ _, World.ownsRow_nil _ _ _ _, fun g h => by cases h⟩, HBZ.out⟩
  | true =>
  have HA := Lib.hid (show (vPost ns fs && vSub (x0, x1, x2)) = true by rw [HV.out, hA]; rfl)
  clear hA HV
  have k0 : w2.cell? ⟨w.heap.size, 0, none⟩ = some (.slice An nn cn) := HX2.out.cell 0
  have k1 : w2.cell? ⟨w.heap.size, 1, none⟩ = some (.slice A n c) := HX2.out.cell 1
  go_wp2_with (fail)
  (with_reducible refine (copyPostS_any lo hi nn cn An ns lo' hi' n c A fs w2 HRN2.out (by omega) hnn HR2.out (by omega) hn).mono ?_)
  rintro e w3 ⟨A1, c1, A2, c2, rfl, ⟨ho1, ho2, hap⟩, hb3⟩
  have hs3 := hb3.size
  have hba := up hb3 (up_alloc (Below.refl _ w3) (.cells #[.slice A1 nn c1, .slice A2 n c2] 26))
  have hbb := up_alloc (Below.refl _ w3) (.cells #[.slice A1 nn c1, .slice A2 n c2] 26)
  have hN := Blk.new w3 26 #[.slice A1 nn c1, .slice A2 n c2]
  have hs4 : (w3.alloc (.cells #[.slice A1 nn c1, .slice A2 n c2] 26)).heap.size = w3.heap.size + 1 := by simp
  have HO1 := Lib.hid (own_keep ho1 hbb)
  have HO2 := Lib.hid (own_keep ho2 hbb)
  have HAP := Lib.hid hap
  have HLT1 := Lib.hid (fun g (h : (Value.slice A1 nn c1).ownBlock = some g) => ho1.lt g h)
  have HLT2 := Lib.hid (fun g (h : (Value.slice A2 n c2).ownBlock = some g) => ho2.lt g h)
  have HB4 := Lib.hid (up HB2.out hba)
  have HX4 := Lib.hid (HX2.out.below hba (by omega))
  have HL4 := Lib.hid (HL2.out.below hba (by omega))
  have HQ4 := Lib.hid (HQ2.out.below hba (by omega))
  have HRN4 := Lib.hid (HRN2.out.keep hba (by omega))
  have HR4 := Lib.hid (HR2.out.keep hba (by omega))
  have HN4 := Lib.hid hN
  clear hN hba hbb hb3 ho1 ho2 hap HB2 HX2 HL2 HQ2 HRN2 HR2 k0 k1
  go_wp2
  generalize hw4 : (w3.alloc (.cells #[.slice A1 nn c1, .slice A2 n c2] 26)) = w4 at *
  clear hw4
  go_loopw [8] (fun iv wr => ∃ (i : Nat), i ≤ n ∧ iv = .int .i64 i ∧ Hid (i ≤ firstAt adL fs (adS (x0, x1, x2))) ∧ Below w4.heap.size w4 wr)
     (fun iv _ => n - (intOf iv).toNat)
  case atStart => exact ⟨0, by omega, rfl, Nat.zero_le _, Below.refl _ _⟩
  case round =>
    obtain ⟨i, hi_, rfl, hF, hb⟩ := hrel
    have hsr := hb.size
    have HBR := Lib.hid (up HB4.out hb)
    have HXR := Lib.hid (HX4.out.below hb (by omega))
    have HLR := Lib.hid (HL4.out.below hb (by omega))
    have HQR := Lib.hid (HQ4.out.below hb (by omega))
    have HNR := Lib.hid (HN4.out.below hb (by omega))
    have HRNR := Lib.hid (HRN4.out.keep hb (by omega))
    have HRR := Lib.hid (HR4.out.keep hb (by omega))
    have HO1R := Lib.hid (own_keep HO1.out hb)
    have HO2R := Lib.hid (own_keep HO2.out hb)
    have HBW := Lib.hid hb
    have k1 : wr.cell? ⟨w.heap.size, 1, none⟩ = some (.slice A n c) := HXR.out.cell 1
    have l0 : wr.cell? ⟨w.heap.size + 1, 1, none⟩ = some (.int .i64 x1) := HLR.out.cell 1
    have l1 : wr.cell? ⟨w.heap.size + 1, 2, none⟩ = some (.int .i64 x2) := HLR.out.cell 2
    clear hb
    by_cases hlt : i < n
    · obtain ⟨b, off, y0, y1, y2, rfl, hbB, _, hg, hc0, hc1, hc2⟩ := HRR.out.trip hlt
      have hi1 : (i : Int) < (n : Int) := by omega
      have hi0' : (0 : Int) ≤ (i : Int) := by omega
      have HG := Lib.hid hg
      clear hg
      by_cases h1 : y0 = x1
      · have h1' : (y0 == x1) = true := by simpa using h1
        by_cases h2 : y1 = x2
        · have h2' : (y1 == x2) = true := by simpa using h2
          have HF := Lib.hid (firstAt_hit HG.out (by simp [adL, adS, h1, h2]) hF.out)
          have HW := Lib.hid (wait_hit HA.out HF.out HG.out)
          clear h1 h2
          go_wp2
          go_quiet (fail)
          go_wp2_with (fail)
          have hbq := up_drewN (Below.refl _ wr) nq
          have hsq : wr.heap.size ≤ (wr.drewN nq).heap.size := Nat.le_refl _
          have HBq := Lib.hid (up HBR.out hbq)
          have HXq := Lib.hid (HXR.out.below hbq (by omega))
          have HQq := Lib.hid (HQR.out.below hbq (by omega))
          have HNq := Lib.hid (HNR.out.below hbq (by omega))
          have HSq := Lib.hid (HRR.out.keep hbq (by omega))
          have HOq := Lib.hid (own_keep HO1R.out hbq)
          clear hbq HBR HXR HLR HQR HNR HRNR HRR HO1R HO2R HBW l0 l1 k1 h1' h2' hc0 hc1 hc2
          generalize wr.drewN nq = wq at *
          have k0 : wq.cell? ⟨w.heap.size, 1, none⟩ = some (.slice (some ⟨b, off, none⟩) n c) := HXq.out.cell 1
          have HCUT := Lib.hid (show Rd wq lo' hi' 3 (some ⟨b, off, none⟩) i (tvs (fs.take i)) from tvs_take fs i ▸ HSq.out.cut (by omega))
          obtain ⟨AT, hAT, hRT⟩ := HSq.out.behind hlt hc
          have HRT := Lib.hid hRT
          clear hRT
          have p1 : (i : Int) + 1 ≤ (n : Int) := by omega
          have p2 : (0 : Int) ≤ (i : Int) + 1 := by omega
          have p3 : (i : Int) ≤ (c : Int) := by omega
          have p4 : (n : Int) ≤ (c : Int) := by omega
          have p5 : (i : Int) + 1 ≤ (c : Int) := by omega
          have p6 : ((i : Int) + 1).toNat = i + 1 := by omega
          have p7 : i ≤ c := by omega
          have p8 : i + 1 ≤ c := by omega
          have p9 : IntKind.i64.wrap ((i : Int) + 1) = (i : Int) + 1 := by rw [IntKind.wrap_i64]; omega
          go_region_held3 (fun w' => w'.cell? ⟨w.heap.size, 1, none⟩ = some (.slice (some ⟨b, off, none⟩) n c))
            (first
              | exact k0
              | exact kU
              | go_keep
              | (rw [hgS.cell_far _ (by simp; omega) (by simp [Value.ownBlock]; omega)]; assumption)
              | (rw [hgT.cell_far _ (by have := hgS.size; simp at this ⊢; omega) (fun e => by have := (hoS.lt _ e.symm).1; simp at this; omega)]; assumption))
            ((first
              | (refine step_append_rd _ (by rfl) (.tmp 48) (.tmp 52) 24 (by rfl) wq.heap.size 33 i0 _ 3 24 Try.underlying24 hi0 hz0 hz1 hz2 rfl (by omega) (.slice (some ⟨wq.heap.size, 0, none⟩) 0 0) 0 [] (by rfl) (own_of_blk (by repeat (first | (with_reducible exact Blk.new _ _ _) | (with_reducible refine Blk.drew ?_))) (Nat.le_refl _)) lo' hi' (some ⟨b, off, none⟩) i c (tvs (fs.take i)) (by rfl) (HCUT.out.keep (B := wq.heap.size) (by repeat (first | (with_reducible exact Below.refl _ _) | (with_reducible refine up_drew ?_) | (with_reducible refine up_alloc ?_ _))) (by omega)) (tvs_one _) (by unfold maxLen; omega) (by omega) (by simp) ?_
                 intro vS wS hoS hgS hlS
                 rw [Nat.zero_add, List.nil_append] at hoS)
              | (refine step_append_rd _ (by rfl) (.tmp 53) (.tmp 58) 24 (by rfl) wq.heap.size 33 i0 _ 3 24 Try.underlying24 hi0 hz0 hz1 hz2 rfl (by omega) vS i (tvs (fs.take i)) (by rfl) hoS lo' hi' (some AT) (n - (i + 1)) (c - (i + 1)) (tvs (fs.drop (i + 1))) (by rfl) (HRT.out.keep (show Below wq.heap.size wq wS from (Below.grown (up_drew (up_alloc (Below.refl _ wq) _)) hgS (by simp) (fun k hk => by simp [Value.ownBlock] at hk; omega))) (by omega)) (tvs_one _) (by unfold maxLen; omega) (by omega) (by have := hgS.size; simp at this; omega) ?_
                 intro vT wT hoT hgT hlT
                 rw [show i + (n - (i + 1)) = n - 1 by omega, ← tvs_append, ← List.eraseIdx_eq_take_drop_succ] at hoT
                 obtain ⟨AN, cN, rfl, hcN, _⟩ := own_form hoT
                 have hsT := hgT.size
                 have hsS := hgS.size
                 simp at hsS
                 have HNT := Lib.hid (show Blk wT w3.heap.size 26 #[.slice A1 nn c1, .slice A2 n c2] from ((HNq.out.alloc _).drew.grown hgS (by first | (simp [Value.ownBlock]; done) | (simp [Value.ownBlock]; omega))).grown hgT (fun e => by have := (hoS.lt _ e.symm).1; omega))
                 have HXT := Lib.hid (show Blk wT w.heap.size 26 _ from ((HXq.out.alloc _).drew.grown hgS (by first | (simp [Value.ownBlock]; done) | (simp [Value.ownBlock]; omega))).grown hgT (fun e => by have := (hoS.lt _ e.symm).1; omega))
                 have HQT := Lib.hid (show Blk wT (w.heap.size + 1 + 1) 26 _ from ((HQq.out.alloc _).drew.grown hgS (by first | (simp [Value.ownBlock]; done) | (simp [Value.ownBlock]; omega))).grown hgT (fun e => by have := (hoS.lt _ e.symm).1; omega))
                 have HBT := Lib.hid (up HBq.out (show Below wq.heap.size wq wT from (Below.grown (Below.grown (up_drew (up_alloc (Below.refl _ wq) _)) hgS (by simp) (fun k hk => by simp [Value.ownBlock] at hk; omega)) hgT (by omega) (fun k hk => (hoS.lt k hk).1))))
                 have HST := Lib.hid (HSq.out.keep (show Below wq.heap.size wq wT from (Below.grown (Below.grown (up_drew (up_alloc (Below.refl _ wq) _)) hgS (by simp) (fun k hk => by simp [Value.ownBlock] at hk; omega)) hgT (by omega) (fun k hk => (hoS.lt k hk).1))) (by omega))
                 have HOT := Lib.hid (own_keep HOq.out (show Below wq.heap.size wq wT from (Below.grown (Below.grown (up_drew (up_alloc (Below.refl _ wq) _)) hgS (by simp) (fun k hk => by simp [Value.ownBlock] at hk; omega)) hgT (by omega) (fun k hk => (hoS.lt k hk).1))))
                 have kU := (HXT.out.far (p := ⟨w3.heap.size, 1, none⟩) (by show _ ≠ w3.heap.size; omega) (.slice AN (n - 1) cN)).cell 1
                 have n1 := HNT.out.cell 1
                 have f1 := HNT.out.soft 1)))
          have HOE := Lib.hid (own_set hoT (p := ⟨w3.heap.size, 1, none⟩) (.slice AN (n - 1) cN) (fun g h e => by have := (hoT.lt g h).1; have e : g = w3.heap.size := e; omega))
          have HOF := Lib.hid (own_set HOT.out (p := ⟨w3.heap.size, 1, none⟩) (.slice AN (n - 1) cN) (fun g h e => by have := (HLT1.out g h).2; have e : g = w3.heap.size := e; omega))
          have hne : ∀ g, (Value.slice AN (n - 1) cN).ownBlock = some g → w3.heap.size < g := fun g h => by have := (hoT.lt g h).1; omega
          have HNE := Lib.hid hne
          have HNU := Lib.hid (HNT.out.put 1 (.slice AN (n - 1) cN))
          have HQU := Lib.hid (HQT.out.far (p := ⟨w3.heap.size, 1, none⟩) (by show _ ≠ w3.heap.size; omega) (.slice AN (n - 1) cN))
          have HXU := Lib.hid (HXT.out.far (p := ⟨w3.heap.size, 1, none⟩) (by show _ ≠ w3.heap.size; omega) (.slice AN (n - 1) cN))
          have HBU := Lib.hid (HBT.out.setCell (p := ⟨w3.heap.size, 1, none⟩) (by show _ ≤ w3.heap.size; omega) (.slice AN (n - 1) cN))
          have HSU := Lib.hid (HST.out.setCell (p := ⟨w3.heap.size, 1, none⟩) (.inr (by show _ ≤ w3.heap.size; omega)) (.slice AN (n - 1) cN))
          have hsU : (wT.setCell ⟨w3.heap.size, 1, none⟩ (.slice AN (n - 1) cN)).heap.size = wT.heap.size := by simp [World.setCell]
          clear kU hgS hgT hlS hlT hoS hoT hne HNT HXT HQT HBT HST HOT n1 f1 k0 HCUT HRT hAT HBq HXq HQq HNq HSq HOq
          generalize wT.setCell ⟨w3.heap.size, 1, none⟩ (.slice AN (n - 1) cN) = wU at *
          simp at HNU
          have n0 : wU.cell? ⟨w3.heap.size, 0, none⟩ = some (.slice A1 nn c1) := HNU.out.cell 0
          have n1 : wU.cell? ⟨w3.heap.size, 1, none⟩ = some (.slice AN (n - 1) cN) := HNU.out.cell 1
          have r0 : wU.cell? ⟨w.heap.size + 1 + 1, 0, none⟩ = some (.slice none 0 0) := HQU.out.cell 0
          have r1 : wU.cell? ⟨w.heap.size + 1 + 1, 1, none⟩ = some (.slice none 0 0) := HQU.out.cell 1
          have s0 := HQU.out.soft 0
          have s1 := HQU.out.soft 1
          have hz := (HQU.out.put 0 (.slice A1 nn c1)).put 1 (.slice AN (n - 1) cN)
          have z0 := hz.cell 0
          have z1 := hz.cell 1
          simp at z0 z1
          have HBZ := Lib.hid ((HBU.out.setCell (p := ⟨w.heap.size + 1 + 1, 0, none⟩) (by show w.heap.size ≤ w.heap.size + 1 + 1; omega) (.slice A1 nn c1)).setCell (p := ⟨w.heap.size + 1 + 1, 1, none⟩) (by show w.heap.size ≤ w.heap.size + 1 + 1; omega) (.slice AN (n - 1) cN))
          have HF1 := Lib.hid (own_base (own_set (own_set HOE.out (p := ⟨w.heap.size + 1 + 1, 0, none⟩) (.slice A1 nn c1) (fun g h e => by have := HNE.out g h; have e : g = w.heap.size + 1 + 1 := e; omega)) (p := ⟨w.heap.size + 1 + 1, 1, none⟩) (.slice AN (n - 1) cN) (fun g h e => by have := HNE.out g h; have e : g = w.heap.size + 1 + 1 := e; omega)) (show w.heap.size ≤ wq.heap.size by omega))
          have HF2 := Lib.hid (own_base (own_set (own_set HOF.out (p := ⟨w.heap.size + 1 + 1, 0, none⟩) (.slice A1 nn c1) (fun g h e => by have := (HLT1.out g h).1; have e : g = w.heap.size + 1 + 1 := e; omega)) (p := ⟨w.heap.size + 1 + 1, 1, none⟩) (.slice AN (n - 1) cN) (fun g h e => by have := (HLT1.out g h).1; have e : g = w.heap.size + 1 + 1 := e; omega)) (show w.heap.size ≤ w2.heap.size by omega))
          clear hz
          go_wp2
          rw [HW.out]
          refine bodyPost_ret (v := .tuple #[.agg #[(.slice A1 nn c1), (.slice AN (n - 1) cN)], .bool true, .bool true]) (by simp [results, Try.results26, go_sem, z0, z1]) rfl ⟨_, _, _, _, _, _, rfl, ⟨by first | exact HF2.out | exact own_keep HF2.out (up_drew (Below.refl _ _)), by first | exact HF1.out | exact own_keep HF1.out (up_drew (Below.refl _ _)), ?_⟩, by first | exact HBZ.out | exact up_drew HBZ.out⟩
          exact fun g h1 h2 => by have := HNE.out g h2; have := (HLT1.out g h1).2; omega
        · have h2' : (y1 == x2) = false := by simpa using h2
          have HF := Lib.hid (firstAt_miss HG.out (by simp [adL, adS]; intro _; exact h2) hF.out)
          clear h2
          go_wp2
          try (go_quiet (fail); go_wp2)
          go_roundw
          case rel => exact ⟨i + 1, by omega, by go_num, HF.out, by first | exact HBW.out | exact up_drewN HBW.out _⟩
          case measure => simp [intOf]; omega
      · have h1' : (y0 == x1) = false := by simpa using h1
        have HF := Lib.hid (firstAt_miss HG.out (by simp [adL, adS]; intro h; exact absurd h h1) hF.out)
        clear h1
        go_wp2
        try (go_quiet (fail); go_wp2)
        go_roundw
        case rel => exact ⟨i + 1, by omega, by go_num, HF.out, by first | exact HBW.out | exact up_drewN HBW.out _⟩
        case measure => simp [intOf]; omega
    · have HF := Lib.hid (show ¬ firstAt adL fs (adS (x0, x1, x2)) < fs.length by have h1 := hF.out; have h2 := HLF.out; omega)
      clear l0 l1 hF
      have kP : wr.cell? ⟨w.heap.size, 0, none⟩ = some (.slice An nn cn) := HXR.out.cell 0
      have l0 : wr.cell? ⟨w.heap.size + 1, 0, none⟩ = some (.int .i64 x0) := HLR.out.cell 0
      have l1 : wr.cell? ⟨w.heap.size + 1, 1, none⟩ = some (.int .i64 x1) := HLR.out.cell 1
      have l2 : wr.cell? ⟨w.heap.size + 1, 2, none⟩ = some (.int .i64 x2) := HLR.out.cell 2
      have HRP := Lib.hid HRNR.out
      go_wp2_with (fail)
      clear k1 HRNR HRR HBW
      have OA := Lib.hid (show ((wr.alloc (.cells #[] 42)).drew).ownsRow wr.heap.size 42 3 (.slice (some ⟨wr.heap.size, 0, none⟩) 0 0) 0 [] from own_of_blk (Blk.new wr _ _).drew (Nat.le_refl _))
      have OB := Lib.hid (show (((wr.alloc (.cells #[] 42)).alloc (.cells #[.int .i64 x0, .int .i64 x1, .int .i64 x2] 42)).drew).ownsRow wr.heap.size 42 3 (.slice (some ⟨wr.heap.size, 0, none⟩) 0 0) 0 [] from own_of_blk ((Blk.new wr _ _).alloc _).drew (Nat.le_refl _))
      have OC := Lib.hid (show (((wr.alloc (.cells #[.int .i64 x0, .int .i64 x1, .int .i64 x2] 42)).alloc (.cells #[] 42)).drew).ownsRow wr.heap.size 42 3 (.slice (some ⟨wr.heap.size + 1, 0, none⟩) 0 0) 0 [] from own_of_blk (Blk.new2 (by simp)).drew (Nat.le_succ _))
      have SA := Lib.hid (HRP.out.keep (up_drew (up_alloc (Below.refl _ wr) (.cells #[] 42))) (by omega))
      have SB := Lib.hid (HRP.out.keep (up_drew (up_alloc (up_alloc (Below.refl _ wr) (.cells #[] 42)) (.cells #[.int .i64 x0, .int .i64 x1, .int .i64 x2] 42))) (by omega))
      have SC := Lib.hid (HRP.out.keep (up_drew (up_alloc (up_alloc (Below.refl _ wr) (.cells #[.int .i64 x0, .int .i64 x1, .int .i64 x2] 42)) (.cells #[] 42))) (by omega))
      have FB := Lib.hid (show Blk (((wr.alloc (.cells #[] 42)).alloc (.cells #[.int .i64 x0, .int .i64 x1, .int .i64 x2] 42)).drew) (wr.heap.size + 1) 42 #[.int .i64 x0, .int .i64 x1, .int .i64 x2] from (Blk.new2 (by simp)).drew)
      have FC := Lib.hid (show Blk (((wr.alloc (.cells #[.int .i64 x0, .int .i64 x1, .int .i64 x2] 42)).alloc (.cells #[] 42)).drew) wr.heap.size 42 #[.int .i64 x0, .int .i64 x1, .int .i64 x2] from ((Blk.new wr _ _).alloc _).drew)
      go_region_held3 (fun w' => w'.cell? ⟨w.heap.size, 0, none⟩ = some (.slice An nn cn) ∧ w'.cell? ⟨w.heap.size + 1, 0, none⟩ = some (.int .i64 x0) ∧ w'.cell? ⟨w.heap.size + 1, 1, none⟩ = some (.int .i64 x1) ∧ w'.cell? ⟨w.heap.size + 1, 2, none⟩ = some (.int .i64 x2))
        (first
          | exact ⟨kP, l0, l1, l2⟩
          | exact ⟨kU, lU0, lU1, lU2⟩
          | (go_split_ands; refine ⟨by go_keep, by go_keep, by go_keep, by go_keep⟩)
          | (go_split_ands; refine ⟨?_, ?_, ?_, ?_⟩ <;> (rw [hgS.cell_far _ (by simp; omega) (by simp [Value.ownBlock]; omega)]; assumption))
          | (go_split_ands; refine ⟨?_, ?_, ?_, ?_⟩ <;> (rw [hgT.cell_far _ (by have := hgS.size; simp at this ⊢; omega) (fun e => by have := (hoS.lt _ e.symm).1; simp at this; omega)]; assumption)))
        ((first
          | (refine step_append_rd _ (by rfl) (.tmp 62) (.tmp 64) 23 (by rfl) wr.heap.size 42 j0 _ 3 24 Try.underlying23 hj0 hy0 hy1 hy2 rfl (by omega) (.slice (some ⟨wr.heap.size, 0, none⟩) 0 0) 0 [] (by rfl) OA.out lo hi An nn cn (tvs ns) (by rfl) SA.out (tvs_one _) (by unfold maxLen; omega) (by omega) (by simp; try omega) ?_
             intro vS wS hoS hgS hlS
             rw [Nat.zero_add, List.nil_append] at hoS
             have hw1 : wr.heap.size ≤ wS.heap.size := by have h9 := hgS.size; simp at h9; omega
             skip)
          | (refine step_append_rd _ (by rfl) (.tmp 62) (.tmp 64) 23 (by rfl) wr.heap.size 42 j0 _ 3 24 Try.underlying23 hj0 hy0 hy1 hy2 rfl (by omega) (.slice (some ⟨wr.heap.size, 0, none⟩) 0 0) 0 [] (by rfl) OB.out lo hi An nn cn (tvs ns) (by rfl) SB.out (tvs_one _) (by unfold maxLen; omega) (by omega) (by simp; try omega) ?_
             intro vS wS hoS hgS hlS
             rw [Nat.zero_add, List.nil_append] at hoS
             have hw1 : wr.heap.size ≤ wS.heap.size := by have h9 := hgS.size; simp at h9; omega
             have HFW := Lib.hid (FB.out.grown hgS (by simp [Value.ownBlock])))
          | (refine step_append_rd _ (by rfl) (.tmp 62) (.tmp 64) 23 (by rfl) wr.heap.size 42 j0 _ 3 24 Try.underlying23 hj0 hy0 hy1 hy2 rfl (by omega) (.slice (some ⟨wr.heap.size + 1, 0, none⟩) 0 0) 0 [] (by rfl) OC.out lo hi An nn cn (tvs ns) (by rfl) SC.out (tvs_one _) (by unfold maxLen; omega) (by omega) (by simp; try omega) ?_
             intro vS wS hoS hgS hlS
             rw [Nat.zero_add, List.nil_append] at hoS
             have hw1 : wr.heap.size ≤ wS.heap.size := by have h9 := hgS.size; simp at h9; omega
             have HFW := Lib.hid (FC.out.grown hgS (by simp [Value.ownBlock])))
          | (refine step_append_rd _ (by rfl) (.tmp 65) (.tmp 67) 23 (by rfl) wr.heap.size 42 j0 _ 3 24 Try.underlying23 hj0 hy0 hy1 hy2 rfl (by omega) vS nn (tvs ns) (by rfl) hoS (wr.heap.size + 1) (wr.heap.size + 1 + 1) (some ⟨wr.heap.size + 1, 0, none⟩) 1 1 (tvs [(x0, x1, x2)]) (by rfl) (Rd.of_blk3 HFW.out) (tvs_one _) (by unfold maxLen; omega) (by omega) hw1 ?_
             intro vT wT hoT hgT hlT
             rw [← tvs_append] at hoT
             obtain ⟨AN, cN, rfl, hcN, _⟩ := own_form hoT
             have hTT := (show ∀ g t cs, Blk wr g t cs → g < wr.heap.size → Blk wT g t cs from fun g t cs hk hlt => ((((hk.alloc _).alloc _).drew).grown hgS (by simp [Value.ownBlock]; omega)).grown hgT (fun e => by have := (hoS.lt _ e.symm).1; omega))
             have HNT := Lib.hid (show Blk wT w3.heap.size 26 #[.slice A1 nn c1, .slice A2 n c2] from hTT _ _ _ HNR.out (by omega))
             have HXT := Lib.hid (show Blk wT w.heap.size 26 #[.slice An nn cn, .slice A n c] from hTT _ _ _ HXR.out (by omega))
             have HLL := Lib.hid (show Blk wT (w.heap.size + 1) 42 #[.int .i64 x0, .int .i64 x1, .int .i64 x2] from hTT _ _ _ HLR.out (by omega))
             have HQT := Lib.hid (show Blk wT (w.heap.size + 1 + 1) 26 #[.slice none 0 0, .slice none 0 0] from hTT _ _ _ HQR.out (by omega))
             have hbT : Below wr.heap.size wr wT := (Below.grown (Below.grown (up_drew (up_alloc (up_alloc (Below.refl _ wr) _) _)) hgS (by first | (simp; done) | (simp; omega)) (fun k hk => by simp [Value.ownBlock] at hk; omega)) hgT hw1 (fun k hk => (hoS.lt k hk).1))
             have hsT := hbT.size
             have HBT := Lib.hid (up HBR.out hbT)
             have HOT := Lib.hid (own_keep HO2R.out hbT)
             have kU := (HXT.out.far (p := ⟨w3.heap.size, 0, none⟩) (by show _ ≠ w3.heap.size; omega) (.slice AN (nn + 1) cN)).cell 0
             have lU := HLL.out.far (p := ⟨w3.heap.size, 0, none⟩) (by show _ ≠ w3.heap.size; omega) (.slice AN (nn + 1) cN)
             have lU0 := lU.cell 0
             have lU1 := lU.cell 1
             have lU2 := lU.cell 2
             have n0 := HNT.out.cell 0
             have f0 := HNT.out.soft 0
             clear lU hbT hTT)
          | (refine step_append_rd _ (by rfl) (.tmp 65) (.tmp 67) 23 (by rfl) wr.heap.size 42 j0 _ 3 24 Try.underlying23 hj0 hy0 hy1 hy2 rfl (by omega) vS nn (tvs ns) (by rfl) hoS (wr.heap.size) (wr.heap.size + 1) (some ⟨wr.heap.size, 0, none⟩) 1 1 (tvs [(x0, x1, x2)]) (by rfl) (Rd.of_blk3 HFW.out) (tvs_one _) (by unfold maxLen; omega) (by omega) hw1 ?_
             intro vT wT hoT hgT hlT
             rw [← tvs_append] at hoT
             obtain ⟨AN, cN, rfl, hcN, _⟩ := own_form hoT
             have hTT := (show ∀ g t cs, Blk wr g t cs → g < wr.heap.size → Blk wT g t cs from fun g t cs hk hlt => ((((hk.alloc _).alloc _).drew).grown hgS (by simp [Value.ownBlock]; omega)).grown hgT (fun e => by have := (hoS.lt _ e.symm).1; omega))
             have HNT := Lib.hid (show Blk wT w3.heap.size 26 #[.slice A1 nn c1, .slice A2 n c2] from hTT _ _ _ HNR.out (by omega))
             have HXT := Lib.hid (show Blk wT w.heap.size 26 #[.slice An nn cn, .slice A n c] from hTT _ _ _ HXR.out (by omega))
             have HLL := Lib.hid (show Blk wT (w.heap.size + 1) 42 #[.int .i64 x0, .int .i64 x1, .int .i64 x2] from hTT _ _ _ HLR.out (by omega))
             have HQT := Lib.hid (show Blk wT (w.heap.size + 1 + 1) 26 #[.slice none 0 0, .slice none 0 0] from hTT _ _ _ HQR.out (by omega))
             have hbT : Below wr.heap.size wr wT := (Below.grown (Below.grown (up_drew (up_alloc (up_alloc (Below.refl _ wr) _) _)) hgS (by first | (simp; done) | (simp; omega)) (fun k hk => by simp [Value.ownBlock] at hk; omega)) hgT hw1 (fun k hk => (hoS.lt k hk).1))
             have hsT := hbT.size
             have HBT := Lib.hid (up HBR.out hbT)
             have HOT := Lib.hid (own_keep HO2R.out hbT)
             have kU := (HXT.out.far (p := ⟨w3.heap.size, 0, none⟩) (by show _ ≠ w3.heap.size; omega) (.slice AN (nn + 1) cN)).cell 0
             have lU := HLL.out.far (p := ⟨w3.heap.size, 0, none⟩) (by show _ ≠ w3.heap.size; omega) (.slice AN (nn + 1) cN)
             have lU0 := lU.cell 0
             have lU1 := lU.cell 1
             have lU2 := lU.cell 2
             have n0 := HNT.out.cell 0
             have f0 := HNT.out.soft 0
             clear lU hbT hTT)
          | (refine step_append_rd _ (by rfl) (.tmp 65) (.tmp 67) 23 (by rfl) wr.heap.size 42 j0 _ 3 24 Try.underlying23 hj0 hy0 hy1 hy2 rfl (by omega) vS nn (tvs ns) (by rfl) (hoS.alloc _) (wS.heap.size) (wS.heap.size + 1) (some ⟨wS.heap.size, 0, none⟩) 1 1 (tvs [(x0, x1, x2)]) (by rfl) (Rd.of_blk3 (Blk.new _ _ _)) (tvs_one _) (by unfold maxLen; omega) (by omega) (Nat.le_trans hw1 (by simp)) ?_
             intro vT wT hoT hgT hlT
             rw [← tvs_append] at hoT
             obtain ⟨AN, cN, rfl, hcN, _⟩ := own_form hoT
             have hTT := (show ∀ g t cs, Blk wr g t cs → g < wr.heap.size → Blk wT g t cs from fun g t cs hk hlt => ((((hk.alloc _).drew).grown hgS (by simp [Value.ownBlock]; omega)).alloc _).grown hgT (fun e => by have := (hoS.lt _ e.symm).1; omega))
             have HNT := Lib.hid (show Blk wT w3.heap.size 26 #[.slice A1 nn c1, .slice A2 n c2] from hTT _ _ _ HNR.out (by omega))
             have HXT := Lib.hid (show Blk wT w.heap.size 26 #[.slice An nn cn, .slice A n c] from hTT _ _ _ HXR.out (by omega))
             have HLL := Lib.hid (show Blk wT (w.heap.size + 1) 42 #[.int .i64 x0, .int .i64 x1, .int .i64 x2] from hTT _ _ _ HLR.out (by omega))
             have HQT := Lib.hid (show Blk wT (w.heap.size + 1 + 1) 26 #[.slice none 0 0, .slice none 0 0] from hTT _ _ _ HQR.out (by omega))
             have hbT : Below wr.heap.size wr wT := (Below.grown (up_alloc (Below.grown (up_drew (up_alloc (Below.refl _ wr) _)) hgS (by first | (simp; done) | (simp; omega)) (fun k hk => by simp [Value.ownBlock] at hk; omega)) _) hgT (Nat.le_trans hw1 (by simp)) (fun k hk => (hoS.lt k hk).1))
             have hsT := hbT.size
             have HBT := Lib.hid (up HBR.out hbT)
             have HOT := Lib.hid (own_keep HO2R.out hbT)
             have kU := (HXT.out.far (p := ⟨w3.heap.size, 0, none⟩) (by show _ ≠ w3.heap.size; omega) (.slice AN (nn + 1) cN)).cell 0
             have lU := HLL.out.far (p := ⟨w3.heap.size, 0, none⟩) (by show _ ≠ w3.heap.size; omega) (.slice AN (nn + 1) cN)
             have lU0 := lU.cell 0
             have lU1 := lU.cell 1
             have lU2 := lU.cell 2
             have n0 := HNT.out.cell 0
             have f0 := HNT.out.soft 0
             clear lU hbT hTT)))
      all_goals
        have HOE := Lib.hid (own_set hoT (p := ⟨w3.heap.size, 0, none⟩) (.slice AN (nn + 1) cN) (fun g h e => by have := (hoT.lt g h).1; have e : g = w3.heap.size := e; omega))
        have HOF := Lib.hid (own_set HOT.out (p := ⟨w3.heap.size, 0, none⟩) (.slice AN (nn + 1) cN) (fun g h e => by have := (HLT2.out g h).2; have e : g = w3.heap.size := e; omega))
        have hne : ∀ g, (Value.slice AN (nn + 1) cN).ownBlock = some g → w3.heap.size < g := fun g h => by have := (hoT.lt g h).1; omega
        have HNE := Lib.hid hne
        have HNU := Lib.hid (HNT.out.put 0 (.slice AN (nn + 1) cN))
        have HQU := Lib.hid (HQT.out.far (p := ⟨w3.heap.size, 0, none⟩) (by show _ ≠ w3.heap.size; omega) (.slice AN (nn + 1) cN))
        have HBU := Lib.hid (HBT.out.setCell (p := ⟨w3.heap.size, 0, none⟩) (by show _ ≤ w3.heap.size; omega) (.slice AN (nn + 1) cN))
        have hsU : wT.heap.size ≤ (wT.setCell ⟨w3.heap.size, 0, none⟩ (.slice AN (nn + 1) cN)).heap.size := by simp [World.setCell]
        clear kU lU0 lU1 lU2 hgS hgT hlS hlT hoS hoT hne HNT HXT HLL HQT HBT HOT n0 f0 kP l0 l1 l2 HBR HXR HLR HQR HNR HO1R HO2R HRP OA OB OC SA SB SC FB FC
        generalize wT.setCell ⟨w3.heap.size, 0, none⟩ (.slice AN (nn + 1) cN) = wU at *
        simp at HNU
        have n0 : wU.cell? ⟨w3.heap.size, 0, none⟩ = some (.slice AN (nn + 1) cN) := HNU.out.cell 0
        have n1 : wU.cell? ⟨w3.heap.size, 1, none⟩ = some (.slice A2 n c2) := HNU.out.cell 1
        have HV5 := Lib.hid (validPostS_any _ _ (nn + 1) cN AN (ns ++ [(x0, x1, x2)]) _ _ n c2 A2 fs wU (Rd.of_own HOE.out) (Nat.le_refl _) (by omega) (Rd.of_own HOF.out) (Nat.le_refl _) hn)
        go_wp2_with (fail)
        (with_reducible refine HV5.out.mono ?_)
        rintro e w5 ⟨rfl, hb5⟩
        have hs5 := hb5.size
        have HB5 := Lib.hid (up HBU.out hb5)
        have HQ5 := Lib.hid (HQU.out.below hb5 (by omega))
        have HN5 := Lib.hid (HNU.out.below hb5 (by omega))
        have HOE5 := Lib.hid (own_keep HOE.out hb5)
        have HOF5 := Lib.hid (own_keep HOF.out hb5)
        clear hb5 HBU HQU HNU HOE HOF n0 n1 HV5
        cases hP : vPost (ns ++ [(x0, x1, x2)]) fs with
        | false =>
          have HP := Lib.hid hP
          clear hP
          have HW := Lib.hid (show waitOf ns fs (x0, x1, x2) = (([], []), false, false) from wait_full HA.out HF.out HP.out)
          have s0 := HQ5.out.soft 0
          have s1 := HQ5.out.soft 1
          have r0 : w5.cell? ⟨w.heap.size + 1 + 1, 0, none⟩ = some (.slice none 0 0) := HQ5.out.cell 0
          have r1 : w5.cell? ⟨w.heap.size + 1 + 1, 1, none⟩ = some (.slice none 0 0) := HQ5.out.cell 1
          have hz := (HQ5.out.put 0 (.slice none 0 0)).put 1 (.slice none 0 0)
          have z0 := hz.cell 0
          have z1 := hz.cell 1
          simp at z0 z1
          have HBZ := Lib.hid ((HB5.out.setCell (p := ⟨w.heap.size + 1 + 1, 0, none⟩) (by show w.heap.size ≤ w.heap.size + 1 + 1; omega) (.slice none 0 0)).setCell (p := ⟨w.heap.size + 1 + 1, 1, none⟩) (by show w.heap.size ≤ w.heap.size + 1 + 1; omega) (.slice none 0 0))
          clear hz
          go_wp2
          rw [HW.out]
          exact bodyPost_ret (v := .tuple #[.agg #[.slice none 0 0, .slice none 0 0], .bool false, .bool false]) (by simp [results, Try.results26, go_sem, z0, z1]) rfl ⟨none, 0, 0, none, 0, 0, rfl, ⟨World.ownsRow_nil _ _ _ _, World.ownsRow_nil _ _ _ _, fun g h => by cases h⟩, HBZ.out⟩
        | true =>
          have HW := Lib.hid (wait_put HA.out HF.out hP)
          clear hP
          have n0 : w5.cell? ⟨w3.heap.size, 0, none⟩ = some (.slice AN (nn + 1) cN) := HN5.out.cell 0
          have n1 : w5.cell? ⟨w3.heap.size, 1, none⟩ = some (.slice A2 n c2) := HN5.out.cell 1
          have r0 : w5.cell? ⟨w.heap.size + 1 + 1, 0, none⟩ = some (.slice none 0 0) := HQ5.out.cell 0
          have r1 : w5.cell? ⟨w.heap.size + 1 + 1, 1, none⟩ = some (.slice none 0 0) := HQ5.out.cell 1
          have s0 := HQ5.out.soft 0
          have s1 := HQ5.out.soft 1
          have hz := (HQ5.out.put 0 (.slice AN (nn + 1) cN)).put 1 (.slice A2 n c2)
          have z0 := hz.cell 0
          have z1 := hz.cell 1
          simp at z0 z1
          have HBZ := Lib.hid ((HB5.out.setCell (p := ⟨w.heap.size + 1 + 1, 0, none⟩) (by show w.heap.size ≤ w.heap.size + 1 + 1; omega) (.slice AN (nn + 1) cN)).setCell (p := ⟨w.heap.size + 1 + 1, 1, none⟩) (by show w.heap.size ≤ w.heap.size + 1 + 1; omega) (.slice A2 n c2))
          have HF1 := Lib.hid (own_base (own_set (own_set HOE5.out (p := ⟨w.heap.size + 1 + 1, 0, none⟩) (.slice AN (nn + 1) cN) (fun g h e => by have := HNE.out g h; have e : g = w.heap.size + 1 + 1 := e; omega)) (p := ⟨w.heap.size + 1 + 1, 1, none⟩) (.slice A2 n c2) (fun g h e => by have := HNE.out g h; have e : g = w.heap.size + 1 + 1 := e; omega)) (show w.heap.size ≤ wr.heap.size by omega))
          have HF2 := Lib.hid (own_base (own_set (own_set HOF5.out (p := ⟨w.heap.size + 1 + 1, 0, none⟩) (.slice AN (nn + 1) cN) (fun g h e => by have := (HLT2.out g h).1; have e : g = w.heap.size + 1 + 1 := e; omega)) (p := ⟨w.heap.size + 1 + 1, 1, none⟩) (.slice A2 n c2) (fun g h e => by have := (HLT2.out g h).1; have e : g = w.heap.size + 1 + 1 := e; omega)) (show w.heap.size ≤ w2.heap.size by omega))
          clear hz
          go_wp2
          rw [HW.out]
          refine bodyPost_ret (v := .tuple #[.agg #[(.slice AN (nn + 1) cN), (.slice A2 n c2)], .bool false, .bool true]) (by simp [results, Try.results26, go_sem, z0, z1]) rfl ⟨_, _, _, _, _, _, rfl, ⟨by first | exact HF1.out | exact own_keep HF1.out (up_drew (Below.refl _ _)), by first | exact HF2.out | exact own_keep HF2.out (up_drew (Below.refl _ _)), ?_⟩, by first | exact HBZ.out | exact up_drew HBZ.out⟩
          exact fun g h1 h2 => by have := HNE.out g h1; have := (HLT2.out g h2).2; omega
end Go.Proofs.Ytgnffodnimafoaa
