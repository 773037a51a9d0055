/- impl.queuesOf: the indices of a list by addresses. (Written by gen/queues.py.) -/
import Derived.Test.YtgnffodnimafoaaPostI
import Derived.Test.YtgnffodnimafoaaPostK
import Derived.Deep.RegionLaw
import Derived.Deep.RegionHeld3
set_option linter.unusedSimpArgs false
set_option linter.unusedVariables false
namespace Go.Proofs.Ytgnffodnimafoaa
open Go.RowKit Go.Maps

theorem mth_validLetter (x y z : Int) (fuel : Nat) (w : World) : (method (fuel + 1) 33 (.agg #[.int .i64 x, .int .i64 y, .int .i64 z]) "loop.example/processengine/impl.isValid").run Try.prog w = .ok (37, .agg #[.int .i64 x, .int .i64 y, .int .i64 z]) w := by kernel_rfl
theorem nil_validLetter (x y z : Int) (fuel : Nat) (w : World) : (nilAhead (fuel + 1) 33 (.agg #[.int .i64 x, .int .i64 y, .int .i64 z]) "loop.example/processengine/impl.isValid").run Try.prog w = .ok (some false) w := by kernel_rfl
theorem cal_validLetter (a : Value) (w : World) : (callFunc 37 #[a]).run Try.prog w = .ok (.enter 37 #[a]) w := by kernel_rfl
theorem mth_adLetter (x y z : Int) (fuel : Nat) (w : World) : (method (fuel + 1) 33 (.agg #[.int .i64 x, .int .i64 y, .int .i64 z]) "loop.example/processengine/impl.address").run Try.prog w = .ok (39, .agg #[.int .i64 x, .int .i64 y, .int .i64 z]) w := by kernel_rfl
theorem nil_adLetter (x y z : Int) (fuel : Nat) (w : World) : (nilAhead (fuel + 1) 33 (.agg #[.int .i64 x, .int .i64 y, .int .i64 z]) "loop.example/processengine/impl.address").run Try.prog w = .ok (some false) w := by kernel_rfl
theorem cal_adLetter (a : Value) (w : World) : (callFunc 39 #[a]).run Try.prog w = .ok (.enter 39 #[a]) w := by kernel_rfl
set_option maxRecDepth 100000 in
set_option maxHeartbeats 3200000 in
theorem queuesLetter_any (lo hi n c : Nat) (A : Option Addr) (ss : List Tri) (w : World) (hr : Rd w lo hi 3 A n (tvs ss)) (hB : hi ≤ w.heap.size) (hn : n ≤ 1048576) :
    Calls Try.prog 52 #[.slice A n c, .int .i64 10] w (QPost adL (vLets ss) ss w) := by
  have HL := Lib.hid hr.len3
  by_cases hbig : 10 < n
  · have hbig' : decide ((10 : Int) < (n : Int)) = true := decide_eq_true (by omega)
    have HX := Lib.hid (show vLets ss = false by rw [vLets, HL.out, decide_eq_false (by omega), Bool.and_false])
    go_enter Try.func52, Try.ntmps52
    go_wp2
    exact bodyPost_ret (v := .tuple #[.map none, .bool false]) (by simp [results, Try.results52, go_sem]) rfl (.inl ⟨HX.out, rfl, Below.refl _ _⟩)
  have hbig' : decide ((10 : Int) < (n : Int)) = false := decide_eq_false (by omega)
  have hbig2 : decide (10 < n) = false := decide_eq_false (by omega)
  obtain ⟨i0, hi0, hz0, hz1, hz2⟩ := info_parts infoIntQ
  have hmm := @run_makeMap Try.prog
  have hmv := mth_validLetter
  have hnv := nil_validLetter
  have hcv := cal_validLetter
  have hma := mth_adLetter
  have hna := nil_adLetter
  have hca := cal_adLetter
  go_enter Try.func52, Try.ntmps52
  go_wp2
  clear hmm
  go_loopw [16] (fun iv wr => ∃ (k : Nat) (sel : Int × Int → Option Value), k ≤ n ∧ iv = .int .i64 k ∧ Hid (ss.all vLet = (ss.drop k).all vLet) ∧ w.heap.size < wr.heap.size ∧ Hid (KMap mk2 Try.prog 68 wr w.heap.size k sel ∧ KRows wr (w.heap.size + 1) 3 sel (fun a => idxUp adL ss a k) ∧ (∀ z v, sel z = some v → idxUp adL ss z k ≠ []) ∧ Below w.heap.size w wr))
     (fun iv _ => n - (intOf iv).toNat)
  case atStart => exact ⟨0, fun _ => none, by omega, rfl, rfl, by simp, KMap.made _ _ _ _, (KRows.start _ _ _).congr fun a => by simp [idxUp], fun z v h => (by cases h), up_alloc (Below.refl _ _) _⟩
  case round =>
    obtain ⟨k, sel, hk, rfl, hS, hws, hW⟩ := hrel
    obtain ⟨hm, hrw, hne, hbl⟩ := hW.out
    have HNE := Lib.hid hne
    have HM := Lib.hid hm
    have HR := Lib.hid hrw
    have HB := Lib.hid hbl
    clear hm hrw hne hbl hW
    by_cases hlt : k < n
    · obtain ⟨b, off, x, y, z, hA, hbB, _, hg, hc0, hc1, hc2⟩ := (hr.keep HB.out hB).trip hlt
      subst hA
      have hkn : (k : Int) < (n : Int) := by omega
      have hk0 : (0 : Int) ≤ (k : Int) := by omega
      have HG := Lib.hid hg
      have hq := (show Qs w (wr.alloc (.cells #[.int .i64 x, .int .i64 y, .int .i64 z] 33)) wr.heap.size 33 #[.int .i64 x, .int .i64 y, .int .i64 z] k sel (fun a => idxUp adL ss a k) from
        ⟨Blk.new wr _ _, HM.out.alloc _, HR.out.kept (World.grownBy_alloc wr _ none) (fun j e => by cases e), fun z g hg => by have := ((HR.out.1 z).lt g hg).2; omega, hws, up_alloc HB.out _⟩)
      have HQ := Lib.hid hq
      clear hq hg
      cases hv : vLet (x, y, z) with
      | false =>
        have HX := Lib.hid (show vLets ss = false by rw [vLets, hS.out, all_missQ HG.out hv]; rfl)
        go_wp2_with (fail)
        (with_reducible refine (vLetI_any x y z _).mono ?_)
        rintro e w2 ⟨rfl, hb2⟩
        rw [hv]
        have HQ2 := Lib.hid (HQ.out.below hb2)
        clear hv hb2 HQ
        go_wp2
        exact bodyPost_ret (v := .tuple #[.map none, .bool false]) (by simp [results, Try.results52, go_sem]) rfl (.inl ⟨HX.out, rfl, HQ2.out.bel⟩)
      | true =>
        have HV := Lib.hid hv
        have hrg : 0 ≤ (adL (x, y, z)).1 ∧ (adL (x, y, z)).1 ≤ 99 ∧ 0 ≤ (adL (x, y, z)).2 ∧ (adL (x, y, z)).2 ≤ 99 := by
          simp only [vLet, Bool.and_eq_true, inR_iff] at hv
          simp only [adL]
          omega
        have h641 : in64 (adL (x, y, z)).1 := by unfold in64; omega
        have h642 : in64 (adL (x, y, z)).2 := by unfold in64; omega
        go_wp2_with (fail)
        (with_reducible refine (vLetI_any x y z _).mono ?_)
        rintro e w2 ⟨rfl, hb2⟩
        rw [hv]
        have HQ2 := Lib.hid (HQ.out.below hb2)
        clear hv hb2 HQ hc0 hc1 hc2
        have hwr := HQ2.out.lt
        have HQd := Lib.hid (HQ2.out.below (up_drew (Below.refl _ w2)))
        have HQa := Lib.hid (HQ2.out.below (up_drew (up_alloc (Below.refl _ w2) (.cells #[.int .i64 (k : Int)] 3))))
        have HNa := Lib.hid (Blk.new w2 3 #[.int .i64 (k : Int)]).drew
        obtain ⟨av, hav⟩ : ∃ a, a = adL (x, y, z) := ⟨_, rfl⟩
        have HAV := Lib.hid hav
        have d0 := HQd.out.el.cell 0
        have d1 := HQd.out.el.cell 1
        have d2 := HQd.out.el.cell 2
        have a0 := HQa.out.el.cell 0
        have a1 := HQa.out.el.cell 1
        have a2 := HQa.out.el.cell 2
        obtain ⟨kl, hkl⟩ := addrKey w av (by rw [HAV.out]; exact h641) (by rw [HAV.out]; exact h642)
        have HKL := Lib.hid hkl
        have hul := idxUp_le adL ss av k
        clear hav hkl HQ2
        go_wp2_with (fail)
        go_region_law (first
          | (go_simp; go_at_call 39; (with_reducible refine (letAd_any x y z _).mono ?_); rw [← HAV.out]; rintro e w6 ⟨rfl, hb6⟩
             have HQ6 := Lib.hid (show Qs w w6 wr.heap.size 33 #[.int .i64 x, .int .i64 y, .int .i64 z] k sel (fun a => idxUp adL ss a k) from by first | exact HQ5.out.below hb6 | exact HQ5a.out.below hb6)
             try have HN6 := Lib.hid (HN5.out.below hb6 HN5.out.lt)
             try have HM6 := Lib.hid (HN5a.out.below hb6 HN5a.out.lt)
             have hsa6 : (w6.alloc (.cells #[.int .i64 (k : Int)] 3)).heap.size = w6.heap.size + 1 := by simp
             have HQ6a := Lib.hid (HQ6.out.below (up_alloc (Below.refl _ w6) (.cells #[.int .i64 (k : Int)] 3)))
             have hl6 := HQ6.out.look (z := av) (by rw [HAV.out]; exact h641) (by rw [HAV.out]; exact h642)
             have hl6a := HQ6a.out.look (z := av) (by rw [HAV.out]; exact h641) (by rw [HAV.out]; exact h642)
             clear hb6)
          | (go_simp; go_at_call 39; (with_reducible refine (letAd_any x y z _).mono ?_); rw [← HAV.out]; rintro e w5 ⟨rfl, hb5⟩
             have HQ5 := Lib.hid (show Qs w w5 wr.heap.size 33 #[.int .i64 x, .int .i64 y, .int .i64 z] k sel (fun a => idxUp adL ss a k) from by first | exact HQd.out.below hb5 | exact HQa.out.below hb5)
             try have HN5 := Lib.hid (HNa.out.below hb5 HNa.out.lt)
             have HQ5a := Lib.hid (HQ5.out.below (up_alloc (Below.refl _ w5) (.cells #[.int .i64 (k : Int)] 3)))
             have HN5a := Lib.hid (Blk.new w5 3 #[.int .i64 (k : Int)])
             have e0 := HQ5.out.el.cell 0
             have e1 := HQ5.out.el.cell 1
             have e2 := HQ5.out.el.cell 2
             have f0 := HQ5a.out.el.cell 0
             have f1 := HQ5a.out.el.cell 1
             have f2 := HQ5a.out.el.cell 2
             clear hb5)
          | (refine step_append_lies _ (by rfl) _ _ _ (by rfl) (w.heap.size + 1) 3 i0 _ 1 8 Try.underlying52 hi0 hz0 hz1 hz2 rfl (by omega) (rowAt (sel av)) (idxUp adL ss av k).length (ivs (idxUp adL ss av k)) (by rfl) (HQ6a.out.rows.1 av)
               ⟨w6.heap.size, 0, none⟩ 1 1 [.int .i64 (k : Int)] (by rfl) (by rfl) (World.news_of_block (cs := #[.int .i64 (k : Int)]) (t := 3) (fr := (0, 0)) (heap_alloc_new w6 _)) (by simp [Value.oneCell'])
               (by omega) (by unfold maxLen; omega) (by omega) (by have := HQ6a.out.el.lt; have := HQ6a.out.lt; omega) (w6.heap.size + 1) (by simp) ?_
             intro g cap w7 hown7 hgrow hat hlt7
             have HX := Lib.hid HQ6a.out
             obtain ⟨w8, hrun8, hmp8, hgrow8⟩ := (HQ6a.out.mp.kept hgrow (fun e => by have := ((HQ6a.out.rows.1 av).lt _ e.symm).1; omega)).put keyedAddr mk2_inj Try.underlying57 (by unfold maxLen; omega) (HKL.out) (.slice (some ⟨g, 0, none⟩) ((idxUp adL ss av k).length + 1) cap))
          | (refine step_append_lies _ (by rfl) _ _ _ (by rfl) (w.heap.size + 1) 3 i0 _ 1 8 Try.underlying52 hi0 hz0 hz1 hz2 rfl (by omega) (rowAt (sel av)) (idxUp adL ss av k).length (ivs (idxUp adL ss av k)) (by rfl) (HQ6.out.rows.1 av)
               ⟨w2.heap.size, 0, none⟩ 1 1 [.int .i64 (k : Int)] (by rfl) (by rfl) (World.news_of_block (cs := #[.int .i64 (k : Int)]) (t := 3) (fr := (0, 0)) HN6.out) (by simp [Value.oneCell'])
               (by omega) (by unfold maxLen; omega) (by omega) (by have := HQ6.out.el.lt; have := HQ6.out.lt; omega) w6.heap.size rfl ?_
             intro g cap w7 hown7 hgrow hat hlt7
             have HX := Lib.hid HQ6.out
             obtain ⟨w8, hrun8, hmp8, hgrow8⟩ := (HQ6.out.mp.kept hgrow (fun e => by have := ((HQ6.out.rows.1 av).lt _ e.symm).1; omega)).put keyedAddr mk2_inj Try.underlying57 (by unfold maxLen; omega) (HKL.out) (.slice (some ⟨g, 0, none⟩) ((idxUp adL ss av k).length + 1) cap))
          | (refine step_append_lies _ (by rfl) _ _ _ (by rfl) (w.heap.size + 1) 3 i0 _ 1 8 Try.underlying52 hi0 hz0 hz1 hz2 rfl (by omega) (rowAt (sel av)) (idxUp adL ss av k).length (ivs (idxUp adL ss av k)) (by rfl) (HQ6.out.rows.1 av)
               ⟨w5.heap.size, 0, none⟩ 1 1 [.int .i64 (k : Int)] (by rfl) (by rfl) (World.news_of_block (cs := #[.int .i64 (k : Int)]) (t := 3) (fr := (0, 0)) HM6.out) (by simp [Value.oneCell'])
               (by omega) (by unfold maxLen; omega) (by omega) (by have := HQ6.out.el.lt; have := HQ6.out.lt; omega) w6.heap.size rfl ?_
             intro g cap w7 hown7 hgrow hat hlt7
             have HX := Lib.hid HQ6.out
             obtain ⟨w8, hrun8, hmp8, hgrow8⟩ := (HQ6.out.mp.kept hgrow (fun e => by have := ((HQ6.out.rows.1 av).lt _ e.symm).1; omega)).put keyedAddr mk2_inj Try.underlying57 (by unfold maxLen; omega) (HKL.out) (.slice (some ⟨g, 0, none⟩) ((idxUp adL ss av k).length + 1) cap)))
        all_goals
          have hsb := HX.out.bel.size
          have hlo := (HX.out.rows.1 av).lt
          have hr8 := (HX.out.rows.appended hgrow hown7 (hat.imp (fun h => h.symm) (fun h => ⟨g, rfl, by omega⟩))).kept hgrow8 (fun j hj => by injection hj with hj; omega)
          have hb8 := ((HX.out.bel.grown hgrow hsb (fun j hj => by have := hlo j hj; omega)).grown hgrow8 (Nat.le_trans hsb hgrow.size) (fun j hj => by injection hj with hj; omega))
          have hs8 : w.heap.size < w8.heap.size := by have := hgrow.size; have := hgrow8.size; have := HX.out.lt; have := HX.out.el.lt; omega
          have hge : ∀ a, kG (fun a => idxUp adL ss a k) av (k : Int) a = idxUp adL ss a (k + 1) := fun a => by
            simp only [kG]
            by_cases h : a = av
            · rw [if_pos h, idxUp_yes HG.out (by rw [h, HAV.out])]
            · rw [if_neg h, idxUp_no HG.out (by rw [← HAV.out]; exact fun e => h e.symm)]
          have HR8 := Lib.hid (hr8.congr (G' := fun a => idxUp adL ss a (k + 1)) hge)
          have HN8 := Lib.hid (show ∀ z v, kSel sel av (.slice (some ⟨g, 0, none⟩) ((idxUp adL ss av k).length + 1) cap) z = some v → idxUp adL ss z (k + 1) ≠ [] from fun z v h => by
            rw [← hge z]
            simp only [kG]
            by_cases hz : z = av
            · rw [if_pos hz]; simp
            · rw [if_neg hz]
              simp only [kSel, if_neg hz] at h
              exact HNE.out z v h)
          have HB8 := Lib.hid hb8
          have HM8 := Lib.hid hmp8
          have HS8 := Lib.hid (hS.out.trans (all_hitQ HG.out HV.out))
          clear hr8 hb8 hmp8 hgrow8 hown7 hgrow hat hlt7 hsb hlo hge
          go_wp2
          go_roundw
          case rel => exact ⟨k + 1, _, by omega, by go_num, HS8, hs8, ⟨HM8.out, HR8.out, HN8.out, HB8.out⟩⟩
          case measure => simp [intOf]; omega
    · obtain rfl : k = n := by omega
      have HX := Lib.hid (show vLets ss = true by
        rw [vLets, hS.out, List.drop_of_length_le (by rw [HL.out]; omega), HL.out, decide_eq_true (by omega)]; rfl)
      have HO := Lib.hid (show KRowMap mk2 Try.prog 68 wr w.heap.size wr.heap.size w.heap.size (idxOf adL ss) from by
        have h := KRowMap.of_rows (lo := w.heap.size) HR.out HM.out HNE.out (by omega) (Nat.le_refl _)
        have e : (fun a => idxUp adL ss a k) = idxOf adL ss := by funext a; rw [idxOf, HL.out]
        rw [e] at h
        exact h)
      go_wp2
      exact bodyPost_ret (v := .tuple #[.map (some w.heap.size), .bool true]) (by simp [results, Try.results52, go_sem]) rfl (.inr ⟨HX.out, _, rfl, HO.out, HB.out⟩)
end Go.Proofs.Ytgnffodnimafoaa
