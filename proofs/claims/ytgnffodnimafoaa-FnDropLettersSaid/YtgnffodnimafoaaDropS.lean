/- spec.DropLetters: a post office without old letters. -/
import Derived.Test.YtgnffodnimafoaaPostS
import Derived.Test.YtgnffodnimafoaaExSub
import Derived.Test.YtgnffodnimafoaaExLetter
set_option linter.unusedSimpArgs false
set_option linter.unusedVariables false
namespace Go.Proofs.Ytgnffodnimafoaa
open Go.RowKit

/-- The letters that are not old. -/
def keptOf (ls : List Tri) (z : Int) : List Tri := ls.filter fun l => decide (z ≤ l.2.2)
def dropOf (ss ls : List Tri) (z : Int) : List Tri × List Tri := if vPost ss ls then (ss, keptOf ls z) else ([], [])
theorem kept_le (ls : List Tri) (z : Int) : (keptOf ls z).length ≤ ls.length := List.length_filter_le _ _
theorem kept_step {ls : List Tri} {z : Int} {k : Nat} {t : Tri} (hg : ls[k]? = some t) : keptOf (ls.take (k + 1)) z = keptOf (ls.take k) z ++ (if z ≤ t.2.2 then [t] else []) := by
  obtain ⟨hk, he⟩ := List.getElem?_eq_some_iff.1 hg
  rw [List.take_add_one, hg]
  by_cases h : z ≤ t.2.2 <;> simp [keptOf, h]
theorem vPost_lens {ss ls : List Tri} (h : vPost ss ls = true) : ss.length ≤ 10 ∧ ls.length ≤ 10 := by
  simp only [vPost, vSubs, vLets, Bool.and_eq_true, decide_eq_true_eq] at h
  exact ⟨h.1.2.2, h.2.2⟩
/-- What DropLetters answers. -/
def DropPost (ss ls : List Tri) (z : Int) (w : World) (e : Ending) (w' : World) : Prop :=
  ∃ A1 n1 c1 A2 n2 c2, e = .returned (.agg #[.slice A1 n1 c1, .slice A2 n2 c2]) ∧ Rd w' w.heap.size w'.heap.size 3 A1 n1 (tvs (dropOf ss ls z).1) ∧ Rd w' w.heap.size w'.heap.size 3 A2 n2 (tvs (dropOf ss ls z).2) ∧ Below w.heap.size w w'
set_option maxRecDepth 100000 in
set_option maxHeartbeats 1600000 in
theorem DropLettersS_any (lo hi nn cn : Nat) (An : Option Addr) (ns : List Tri) (lo' hi' n c : Nat) (A : Option Addr) (fs : List Tri) (z : Int) (w : World) (hrn : Rd w lo hi 3 An nn (tvs ns)) (hB : hi ≤ w.heap.size) (hnn : nn ≤ 1048576)
    (hr : Rd w lo' hi' 3 A n (tvs fs)) (hB' : hi' ≤ w.heap.size) (hn : n ≤ 1048576) :
    Calls Try.prog 15 #[.agg #[.slice An nn cn, .slice A n c], .int .i64 z] w (DropPost ns fs z w) := by
  have HLN := Lib.hid hrn.len3
  have HLF := Lib.hid hr.len3
  obtain ⟨i0, hi0, hz0, hz1, hz2⟩ := info_parts infoLetter
  obtain ⟨j0, hj0, hy0, hy1, hy2⟩ := info_parts infoSub
  have hb0 := up_alloc (up_alloc (Below.refl _ w) (.cells #[.slice An nn cn, .slice A n c] 26)) (.cells #[.slice none 0 0, .slice none 0 0] 26)
  have hp0 := (Blk.new w 26 #[.slice An nn cn, .slice A n c]).alloc (.cells #[.slice none 0 0, .slice none 0 0] 26)
  have hq0 := Blk.new (w.alloc (.cells #[.slice An nn cn, .slice A n c] 26)) 26 #[.slice none 0 0, .slice none 0 0]
  have e1 : (w.alloc (.cells #[.slice An nn cn, .slice A n c] 26)).heap.size = w.heap.size + 1 := by simp
  have e2 : ((w.alloc (.cells #[.slice An nn cn, .slice A n c] 26)).alloc (.cells #[.slice none 0 0, .slice none 0 0] 26)).heap.size = w.heap.size + 1 + 1 := by simp
  rw [e1] at hq0
  have HC := Lib.hid (validPostS_any lo hi nn cn An ns lo' hi' n c A fs _ (hrn.keep hb0 hB) (Nat.le_trans hB hb0.size) hnn (hr.keep hb0 hB') (Nat.le_trans hB' hb0.size) hn)
  have HB0 := Lib.hid hb0
  have HP0 := Lib.hid hp0
  have HQ0 := Lib.hid hq0
  have HE2 := Lib.hid e2
  clear hb0 hp0 hq0 e1 e2
  go_enter Try.func15, Try.ntmps15
  go_wp2_with (fail)
  (with_reducible refine HC.out.mono ?_)
  clear HC
  rintro e w1 ⟨rfl, hb1⟩
  have hs1 := hb1.size
  rw [HE2.out] at hs1
  have HB1 := Lib.hid (up HB0.out hb1)
  have HP1 := Lib.hid (HP0.out.below hb1 (by rw [HE2.out]; omega))
  have HQ1 := Lib.hid (HQ0.out.below hb1 (by rw [HE2.out]; omega))
  clear hb1 HB0 HP0 HQ0 HE2
  cases hV : vPost ns fs with
  | false =>
    have HX := Lib.hid (show dropOf ns fs z = ([], []) by simp [dropOf, hV])
    have s0 := HQ1.out.soft 0
    have s1 := HQ1.out.soft 1
    have r0 : w1.cell? ⟨w.heap.size + 1, 0, none⟩ = some (.slice none 0 0) := HQ1.out.cell 0
    have r1 : w1.cell? ⟨w.heap.size + 1, 1, none⟩ = some (.slice none 0 0) := HQ1.out.cell 1
    have hz := (HQ1.out.put 0 (.slice none 0 0)).put 1 (.slice none 0 0)
    have z0 := hz.cell 0
    have z1 := hz.cell 1
    simp at z0 z1
    have HBZ := Lib.hid ((HB1.out.setCell (p := ⟨w.heap.size + 1, 0, none⟩) (by show w.heap.size ≤ w.heap.size + 1; omega) (.slice none 0 0)).setCell (p := ⟨w.heap.size + 1, 1, none⟩) (by show w.heap.size ≤ w.heap.size + 1; omega) (.slice none 0 0))
    clear hz hV
    go_wp2
    refine bodyPost_ret (v := .agg #[.slice none 0 0, .slice none 0 0]) (by simp [results, Try.results15, go_sem, z0, z1]) rfl ⟨none, 0, 0, none, 0, 0, rfl, ?_, ?_, HBZ.out⟩
    · rw [HX.out]; exact Rd.nil _ _ _ _ _
    · rw [HX.out]; exact Rd.nil _ _ _ _ _
  | true =>
    have HX := Lib.hid (show dropOf ns fs z = (ns, keptOf fs z) by simp [dropOf, hV])
    obtain ⟨hl1, hl2⟩ := vPost_lens hV
    rw [HLN.out] at hl1
    rw [HLF.out] at hl2
    have hown1 : (w1.alloc (.cells #[] 33)).ownsRow w1.heap.size 33 3 (.slice (some ⟨w1.heap.size, 0, none⟩) 0 0) 0 [] := World.ownsRow_made w1 #[] 0 (Nat.le_refl _) (by unfold maxLen; omega) (by simp)
    have hbm := up_alloc (Below.refl _ w1) (.cells #[] 33)
    clear hV
    go_wp2
    go_loopw [5, 6] (fun v iv wr => ∃ (k m : Nat), k ≤ n ∧ m ≤ k ∧ iv = .int .i64 k ∧ Hid ((keptOf (fs.take k) z).length = m) ∧ Hid (wr.ownsRow w1.heap.size 33 3 v m (tvs (keptOf (fs.take k) z))) ∧ Hid (Below w1.heap.size w1 wr))
       (fun _ iv _ => n - (intOf iv).toNat)
    case atStart => exact ⟨0, 0, by omega, by omega, rfl, rfl, hown1, hbm⟩
    case round =>
      clear hown1 hbm
      obtain ⟨k, m, hk, hm, rfl, hL, hO, hW⟩ := hrel
      have HPW := Lib.hid (HP1.out.below hW.out (by omega))
      have k0 : wr.cell? ⟨w.heap.size, 0, none⟩ = some (.slice An nn cn) := HPW.out.cell 0
      have k1 : wr.cell? ⟨w.heap.size, 1, none⟩ = some (.slice A n c) := HPW.out.cell 1
      have HBW := Lib.hid (up HB1.out hW.out)
      have hsw := hW.out.size
      by_cases hlt : k < n
      · obtain ⟨b, off, x, y, u, rfl, hbB, _, hg, hc0, hc1, hc2⟩ := (hr.keep HBW.out hB').trip hlt
        have hkn : (k : Int) < (n : Int) := by omega
        have hk0 : (0 : Int) ≤ (k : Int) := by omega
        have HS := Lib.hid (kept_step (z := z) hg)
        clear hg
        by_cases hz : u ≥ z
        · go_wp2_with (at_builtin; refine wpList_append_own _ rfl _ _ 24 rfl w1.heap.size 33 i0 _ 3 24 Try.underlying24 hi0 hz0 hz1 hz2 rfl (by decide) _ _ _ rfl (hO.out.alloc _) _ 1 1 [.int .i64 x, .int .i64 y, .int .i64 u] rfl rfl (World.news_of_block (heap_alloc_new _ _)) ?c2 ?c3 ?c4 ?c5 ?_)
          case c2 => exact ⟨rfl, rfl, rfl⟩
          case c3 => unfold maxLen; omega
          case c4 => omega
          case c5 => first | omega | (simp; omega)
          intro v3 w3 hown3 hg3 _
          have hb3 := up_grown (up_alloc hW.out _) (hO.out.alloc _) hg3 (Nat.le_refl _)
          have HS2 := Lib.hid (show keptOf (fs.take (k + 1)) z = keptOf (fs.take k) z ++ [(x, y, u)] by rw [HS.out, if_pos hz])
          have HO3 := Lib.hid hown3
          have HB3 := Lib.hid hb3
          clear hown3 hg3 hb3
          go_wp2
          go_roundw
          case rel => exact ⟨k + 1, m + 1, by omega, by omega, by go_num, by rw [HS2.out, List.length_append, hL.out]; rfl, by rw [HS2.out, tvs_append]; exact HO3.out, HB3.out⟩
          case measure => simp [intOf]; omega
        · have HS2 := Lib.hid (show keptOf (fs.take (k + 1)) z = keptOf (fs.take k) z by rw [HS.out, if_neg hz, List.append_nil])
          go_wp2
          go_roundw
          case rel => exact ⟨k + 1, m, by omega, by omega, by go_num, by rw [HS2.out]; exact hL.out, by rw [HS2.out]; exact hO.out, hW.out⟩
          case measure => simp [intOf]; omega
      · obtain rfl : k = n := by omega
        have ek : fs.take k = fs := List.take_of_length_le (by rw [HLF.out]; omega)
        rw [ek] at hO hL
        clear ek
        have hown1 : (wr.alloc (.cells #[] 42)).ownsRow wr.heap.size 42 3 (.slice (some ⟨wr.heap.size, 0, none⟩) 0 0) 0 [] := World.ownsRow_made wr #[] 0 (Nat.le_refl _) (by unfold maxLen; omega) (by simp)
        have hbl := up_alloc (Below.refl _ wr) (.cells #[] 42)
        have hr1 := (hrn.keep HBW.out hB).keep hbl (Nat.le_trans hB HBW.out.size)
        have ka : (wr.alloc (.cells #[] 42)).cell? ⟨w.heap.size, 0, none⟩ = some (.slice An nn cn) := (HPW.out.alloc (.cells #[] 42)).cell 0
        go_wp2_with (at_builtin; refine wpList_append_rd _ rfl _ _ 23 rfl wr.heap.size 42 j0 _ 3 24 Try.underlying23 hj0 hy0 hy1 hy2 rfl (by decide) _ _ _ rfl hown1 lo hi An nn cn (tvs ns) rfl hr1 (tvs_one ns) ?c3 ?c4 ?c5 ?_)
        case c3 => unfold maxLen; omega
        case c4 => omega
        case c5 => simp
        intro v2 w2 hown2 hg2 _
        have hb2 := up_grown hbl hown1 hg2 (Nat.le_refl _)
        try simp only [Nat.zero_add, List.nil_append] at hown2
        have HO2 := Lib.hid hown2
        have HB2 := Lib.hid hb2
        have HOL := Lib.hid (own_keep hO.out hb2)
        have hs2 := hb2.size
        clear hown1 hown2 hg2 hr1 hbl hb2
        obtain ⟨A1, c1, rfl, _, hrd1, _⟩ := own_form HO2.out
        obtain ⟨A2, c2, hv2, _, hrd2, _⟩ := own_form HOL.out
        subst hv2
        have hq := HQ1.out.below (up hW.out HB2.out) (by omega)
        have s0 := hq.soft 0
        have s1 := hq.soft 1
        have r0 : w2.cell? ⟨w.heap.size + 1, 0, none⟩ = some (.slice none 0 0) := hq.cell 0
        have r1 : w2.cell? ⟨w.heap.size + 1, 1, none⟩ = some (.slice none 0 0) := hq.cell 1
        have hz := (hq.put 0 (.slice A1 nn c1)).put 1 (.slice A2 m c2)
        have z0 := hz.cell 0
        have z1 := hz.cell 1
        simp at z0 z1
        have HBZ := Lib.hid (((up HBW.out HB2.out).setCell (p := ⟨w.heap.size + 1, 0, none⟩) (by show w.heap.size ≤ w.heap.size + 1; omega) (.slice A1 nn c1)).setCell (p := ⟨w.heap.size + 1, 1, none⟩) (by show w.heap.size ≤ w.heap.size + 1; omega) (.slice A2 m c2))
        clear hz hq
        have HF1 := Lib.hid (show Rd _ wr.heap.size w2.heap.size 3 A1 nn (tvs ns) from (hrd1.setCell (p := ⟨w.heap.size + 1, 0, none⟩) (.inl (by show w.heap.size + 1 < _; omega)) (.slice A1 nn c1)).setCell (p := ⟨w.heap.size + 1, 1, none⟩) (.inl (by show w.heap.size + 1 < _; omega)) (.slice A2 m c2))
        have HF2 := Lib.hid (show Rd _ w1.heap.size w2.heap.size 3 A2 m (tvs (keptOf fs z)) from (hrd2.setCell (p := ⟨w.heap.size + 1, 0, none⟩) (.inl (by show w.heap.size + 1 < _; omega)) (.slice A1 nn c1)).setCell (p := ⟨w.heap.size + 1, 1, none⟩) (.inl (by show w.heap.size + 1 < _; omega)) (.slice A2 m c2))
        have hfin : w2.heap.size = ((w2.setCell ⟨w.heap.size + 1, 0, none⟩ (.slice A1 nn c1)).setCell ⟨w.heap.size + 1, 1, none⟩ (.slice A2 m c2)).heap.size := by simp [World.setCell]
        have HFS := Lib.hid hfin
        clear hfin hrd1 hrd2
        go_wp2
        refine bodyPost_ret (v := .agg #[.slice A1 nn c1, .slice A2 m c2]) (by simp [results, Try.results15, go_sem, z0, z1]) rfl ⟨A1, nn, c1, A2, m, c2, rfl, ?_, ?_, HBZ.out⟩
        · rw [HX.out]
          exact HF1.out.wide (by omega) (by rw [← HFS.out]; exact Nat.le_refl _)
        · rw [HX.out]
          exact HF2.out.wide (by omega) (by rw [← HFS.out]; exact Nat.le_refl _)
end Go.Proofs.Ytgnffodnimafoaa
