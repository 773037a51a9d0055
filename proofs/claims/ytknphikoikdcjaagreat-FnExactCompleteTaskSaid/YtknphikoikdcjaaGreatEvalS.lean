/- spec.eval and spec.EvalCondition: the value of a condition. -/
import Derived.Test.YtknphikoikdcjaaGreatEvalA
import Derived.Deep.RegionWith
import Derived.StillTailTactics
set_option linter.unusedSimpArgs false
set_option linter.unusedVariables false
namespace Go.Proofs.YtknphikoikdcjaaGreat
open Go.RowKit

theorem infoIntE : (Tryz.prog.info? 3).map (fun i => (i.zero, i.size, i.bytes)) = some (some (.int .i64 0), 1, 8) := by kernel_rfl

theorem take_one_more (l : List Value) (u v : Value) : (l ++ [u, v]).take (l.length + 1) = l ++ [u] := by
  rw [List.take_append, List.take_of_length_le (by omega)]; simp
theorem scan_next {ps : List (Int × Int)} {k : Nat} {x y : Int} {vs st : List Int} (hg : ps[k]? = some (x, y)) (hv : vPart x y = true) (hn : needs1 x ≤ st.length) (h : scanD (ps.drop k) st.length = some 1) :
    scanD (ps.drop (k + 1)) (stepV vs (x, y) st).length = some 1 := by
  rw [stepV_length hn, ← scanD_step hg hv hn]; exact h

set_option maxRecDepth 100000 in
set_option maxHeartbeats 1600000 in
theorem evalS_any (lo hi n c lo' hi' n' c' : Nat) (A A' : Option Addr) (ps : List (Int × Int)) (vs : List Int) (w : World) (hr : Rd w lo hi 2 A n (pvs ps)) (hB : hi ≤ w.heap.size) (hr' : Rd w lo' hi' 1 A' n' (ivs vs)) (hB' : hi' ≤ w.heap.size) (hV : vCond ps = true) (hvs : vVals vs = true) :
    Calls Tryz.prog 197 #[.slice A n c, .slice A' n' c'] w fun e w' => e = .returned (.int .i64 ((evalL vs ps []).getD 0 0)) ∧ Below w.heap.size w w' := by
  have HL := Lib.hid hr.len2
  have HL' := Lib.hid hr'.len1
  obtain ⟨i0, hi0, hz0, hz1, hz2⟩ := info_parts infoIntE
  have hn12 := vCond_len hV
  rw [HL.out] at hn12
  obtain ⟨hn1, hn12⟩ := hn12
  have h4 := vVals_len hvs
  rw [HL'.out] at h4
  subst h4
  have HV := Lib.hid hV
  have HVS := Lib.hid hvs
  have HS0 := Lib.hid (vCond_scan hV)
  clear hV hvs
  have hown1 : (w.alloc (.cells #[] 3)).ownsRow w.heap.size 3 1 (.slice (some ⟨w.heap.size, 0, none⟩) 0 0) ([] : List Int).length (ivs []) := World.ownsRow_made w #[] 0 (Nat.le_refl _) (by unfold maxLen; omega) (by simp)
  go_enter Tryz.func197, Tryz.ntmps197
  go_wp2
  go_loopw [5, 6] (fun sv iv wr => ∃ (k : Nat) (st : List Int), k ≤ n ∧ iv = .int .i64 k ∧ wr.ownsRow w.heap.size 3 1 sv st.length (ivs st) ∧ Hid (scanD (ps.drop k) st.length = some 1) ∧ Hid (evalL vs ps [] = evalL vs (ps.drop k) st) ∧ Small st ∧ Below w.heap.size w wr ∧ st.length ≤ k)
     (fun _ iv _ => n - (intOf iv).toNat)
  case atStart => exact ⟨0, [], by omega, rfl, hown1, HS0, rfl, (fun x hx => nomatch hx), up_alloc (Below.refl _ _) _, Nat.le_refl _⟩
  case round =>
    clear hown1
    obtain ⟨k, st, hk, rfl, hown, hS, hE, hsm, hbl, hlk⟩ := hrel
    have hsz := hbl.size
    obtain ⟨As, cs, rfl, hlc, _, _⟩ := own_form hown
    have hsb : st.length ≤ 12 := by omega
    by_cases hlt : k < n
    · obtain ⟨b, off, x, y, rfl, hbB, _, hg, hc0, hc1⟩ := (hr.keep hbl hB).pair hlt
      have hvp := vCond_parts HV.out hg
      have hnd := scan_need hg hS.out
      have HS2 := Lib.hid (scan_next (vs := vs) hg hvp hnd hS.out)
      have HE2 := Lib.hid (hE.out.trans (evalL_step hg))
      have hsm2 := stepV_small hvp HVS.out hsm
      have HP := Lib.hid hvp
      clear hg hS hE hvp
      by_cases h0 : x = 0
      · subst h0
        have HN := Lib.hid (stepV_0 vs st y)
        clear hnd
        go_wp2_with (at_builtin; refine wpList_append_own _ rfl _ _ 26 rfl w.heap.size 3 i0 (.int .i64 0) 1 8 Tryz.underlying26 hi0 hz0 hz1 hz2 rfl (by decide) _ _ _ rfl (hown.alloc _) _ 1 1 [.int .i64 y] rfl rfl (cell_one_new _ _ _) ?c2 ?c3 ?c4 ?c5 ?_)
        case c2 => intro u hu; simp at hu; subst hu; rfl
        case c3 => unfold maxLen; omega
        case c4 => omega
        case c5 => have := hbl.size; simp; omega
        intro v' w4 hown4 hg4 _
        have hbl4 := up_grown (up_alloc hbl _) (hown.alloc _) hg4 (Nat.le_refl _)
        clear hown hg4 hbl
        go_wp2
        go_roundw
        case rel =>
          refine ⟨k + 1, st ++ [y], by omega, by go_num, ?_, ?_, ?_, ?_, hbl4, by simp; omega⟩
          · rw [ivs_append, List.length_append]; exact hown4
          · rw [Hid, ← HN.out]; exact HS2.out
          · rw [Hid, ← HN.out]; exact HE2.out
          · rw [← HN.out]; exact hsm2
        case measure => simp [intOf]; omega
      by_cases h1 : x = 1
      · subst h1
        have HN := Lib.hid (stepV_1 vs st y)
        have hy := vPart_var HP.out
        obtain ⟨j, rfl⟩ := Int.eq_ofNat_of_zero_le (show 0 ≤ y by omega)
        have hj : j < 4 := by omega
        obtain ⟨b', off', z, rfl, _, _, hgz, hcz⟩ := (hr'.keep hbl hB').one hj
        have hz' : vs.getD ((j : Int)).toNat 0 = z := by rw [Int.toNat_natCast, List.getD_eq_getElem?_getD, hgz]; rfl
        rw [hz'] at HN
        clear hgz hz' hnd h0 hy
        go_wp2_with (at_builtin; refine wpList_append_own _ rfl _ _ 26 rfl w.heap.size 3 i0 (.int .i64 0) 1 8 Tryz.underlying26 hi0 hz0 hz1 hz2 rfl (by decide) _ _ _ rfl (hown.alloc _) _ 1 1 [.int .i64 z] rfl rfl (cell_one_new _ _ _) ?c2 ?c3 ?c4 ?c5 ?_)
        case c2 => intro u hu; simp at hu; subst hu; rfl
        case c3 => unfold maxLen; omega
        case c4 => omega
        case c5 => have := hbl.size; simp; omega
        intro v' w4 hown4 hg4 _
        have hbl4 := up_grown (up_alloc hbl _) (hown.alloc _) hg4 (Nat.le_refl _)
        clear hown hg4 hbl
        go_wp2
        go_roundw
        case rel =>
          refine ⟨k + 1, st ++ [z], by omega, by go_num, ?_, ?_, ?_, ?_, hbl4, by simp; omega⟩
          · rw [ivs_append, List.length_append]; exact hown4
          · rw [Hid, ← HN.out]; exact HS2.out
          · rw [Hid, ← HN.out]; exact HE2.out
          · rw [← HN.out]; exact hsm2
        case measure => simp [intOf]; omega
      have g0 : (x == 0) = false := by simpa using h0
      have g1 : (x == 1) = false := by simpa using h1
      by_cases h2 : x = 2
      · subst h2
        have hl1 : 1 ≤ st.length := by have : needs1 2 = 1 := by simp [needs1]
                                       omega
        obtain ⟨g, cc, hv, hg1, hg2, hgc⟩ := own_first hown hl1
        injection hv with hv1 hv2 hv3
        subst hv1; subst hv3
        obtain ⟨s, a, rfl⟩ := last_one hl1
        have HN := Lib.hid (stepV_2 vs s y a)
        have hsl : (s ++ [a]).length = s.length + 1 := by simp
        have hsb' : s.length ≤ 12 := by omega
        have hd := hown.cellAt s.length (by omega)
        rw [ivs_append, List.getElem?_append_right (by rw [ivs_length]; omega), ivs_length, Nat.sub_self] at hd
        simp only [ivs, List.map_cons, List.map_nil, List.getElem?_cons_zero] at hd
        have hf := hown.frozenAt s.length
        have hst := (hown.stored s.length (.int .i64 (tr (a == 0)))).1
        have e1 : (ivs (s ++ [a])).set s.length (.int .i64 (tr (a == 0))) = ivs (s ++ [tr (a == 0)]) := by
          rw [ivs_append, List.set_append_right _ _ (by rw [ivs_length]; omega), ivs_length, Nat.sub_self, ivs_append]; rfl
        rw [e1] at hst
        have HST := Lib.hid hst
        clear hst e1 hown hnd h0 h1
        simp only [hsl] at *
        go_wp2_with (go_at_call 144; refine (toInt_any _ _).mono ?_; rintro e w' ⟨rfl, rfl⟩)
        go_roundw
        case rel => exact ⟨k + 1, s ++ [tr (a == 0)], by omega, by go_num, by rw [List.length_append]; exact HST.out, by rw [← HN.out]; exact HS2, by rw [← HN.out]; exact HE2, by rw [← HN.out]; exact hsm2, hbl.setCell (p := ⟨g, _, none⟩) hg1 _, by simp; omega⟩
        case measure => simp [intOf]; omega
      · have g2 : (x == 2) = false := by simpa using h2
        have hx3 : 3 ≤ x := by
          have := vPart_kinds HP.out
          omega
        have hn2 : needs1 x = 2 := by unfold needs1; rw [if_neg (by omega), if_neg h2]
        have hl2 : 2 ≤ st.length := by omega
        obtain ⟨g, cc, hv, hg1, hg2, hgc⟩ := own_first hown (by omega)
        injection hv with hv1 hv2 hv3
        subst hv1; subst hv3
        obtain ⟨s, a, b2, rfl⟩ := last_two hl2
        have HN := Lib.hid (stepV_op vs s x y a b2 hx3)
        have hsl : (s ++ [a, b2]).length = s.length + 2 := by simp
        have hsb' : s.length ≤ 12 := by omega
        have ha := hsm a (by simp)
        have hb := hsm b2 (by simp)
        have hd := hown.cellAt s.length (by omega)
        rw [ivs_append, List.getElem?_append_right (by rw [ivs_length]; omega), ivs_length, Nat.sub_self] at hd
        simp only [ivs, List.map_cons, List.map_nil, List.getElem?_cons_zero] at hd
        have hd' := hown.cellAt (s.length + 1) (by omega)
        rw [ivs_append, List.getElem?_append_right (by rw [ivs_length]; omega), ivs_length, Nat.add_sub_cancel_left] at hd'
        simp only [ivs, List.map_cons, List.map_nil, List.getElem?_cons_zero, List.getElem?_cons_succ] at hd'
        have hf := hown.frozenAt s.length
        have hst := own_cut (hown.stored s.length (.int .i64 (opv x a b2))).1 (m := s.length + 1) (by omega)
        have e1 : ((ivs (s ++ [a, b2])).set s.length (.int .i64 (opv x a b2))).take ((s.length + 1) * 1) = ivs (s ++ [opv x a b2]) := by
          rw [ivs_append, List.set_append_right _ _ (by rw [ivs_length]; omega), ivs_length, Nat.sub_self, ivs_append, Nat.mul_one]
          have := take_one_more (ivs s) (.int .i64 (opv x a b2)) (.int .i64 b2)
          rw [ivs_length] at this
          exact this
        rw [e1] at hst
        have HST := Lib.hid hst
        clear hst e1 hown hnd h0 h1 h2 hn2 hl2
        simp only [hsl] at *
        have w1 : IntKind.i64.wrap (s.length : Int) = (s.length : Int) := IntWalk.i64_in _ (by omega)
        have w2 : IntKind.i64.wrap ((s.length : Int) + 1) = (s.length : Int) + 1 := IntWalk.i64_in _ (by omega)
        have w7 : IntKind.i64.wrap ((s.length : Int) + 2 - 1) = (s.length : Int) + 1 := by rw [IntWalk.i64_in _ (by omega)]; omega
        have w8 : ((s.length : Int) + 1).toNat = s.length + 1 := by omega
        have w3 : (0 : Int) ≤ (s.length : Int) := by omega
        have w4 : (0 : Int) ≤ (s.length : Int) + 1 := by omega
        have w5 : (s.length : Int) < (s.length : Int) + 2 := by omega
        have w6 : (s.length : Int) + 1 < (s.length : Int) + 2 := by omega
        have hk0 : (0 : Int) ≤ (k : Int) := by omega
        have hkn : (k : Int) < (n : Int) := by omega
        go_wp2_with (fail)
        refine wp_region_still_tail 20 (by kernel_rfl) (by kernel_rfl) ?_
        simp only [List.take_succ_cons, List.take_zero, List.drop_succ_cons, List.drop_zero]
        repeat still_step
        still_call ((operate_any x a b2 _ ha hb).mono fun _ _ h => ⟨h.1, h.2.symm⟩)
        repeat still_step
        refine wpStill_nil ?_
        clear w1 w2 w7
        change wpList _ _ _ _ _ wr.drew
        go_wp2
        go_roundw
        case rel => exact ⟨k + 1, s ++ [opv x a b2], by omega, by go_num, by rw [List.length_append]; exact HST.out, by rw [← HN.out]; exact HS2, by rw [← HN.out]; exact HE2, by rw [← HN.out]; exact hsm2, up_drew (hbl.setCell (p := ⟨g, _, none⟩) hg1 _), by simp; omega⟩
        case measure => simp [intOf]; omega
    · obtain rfl : k = n := by omega
      have hS' := hS.out
      rw [List.drop_of_length_le (by rw [HL.out]; omega)] at hS'
      have hst1 : st.length = 1 := by
        simp only [scanD] at hS'
        have := Option.some.inj hS'
        omega
      have hE' := hE.out
      rw [List.drop_of_length_le (by rw [HL.out]; omega)] at hE'
      have HE := Lib.hid hE'
      obtain ⟨z, rfl⟩ : ∃ z, st = [z] := by
        match st, hst1 with
        | [z], _ => exact ⟨z, rfl⟩
      obtain ⟨g, cc, hv, hg1, hg2, hgc⟩ := own_first hown (by simp)
      injection hv with hv1 hv2 hv3
      subst hv1; subst hv3
      have hd := hown.cellAt 0 (by simp)
      simp only [ivs, List.map_cons, List.map_nil, List.getElem?_cons_zero] at hd
      clear hS hS' hE hE' hown hst1
      go_wp2
      go_ret
      exact ⟨ret_int (by rw [HE.out]; rfl), hbl⟩

end Go.Proofs.YtknphikoikdcjaaGreat
