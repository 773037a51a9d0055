/- The program's logs: lastTerm, isValid, ValidLog, NewerLog, firstSame, CommonPart. -/
import Derived.Test.YtfpiejcfhdnjiaaLogMath
import Derived.Test.YtfpiejcfhdnjiaaExInt
import Derived.Lib.MinMax
import Derived.BigQuiet
import Derived.Deep.RegionHeld3
import Derived.Deep.RegionLaw
set_option linter.unusedSimpArgs false
set_option linter.unusedVariables false
namespace Go.Proofs.Ytfpiejcfhdnjiaa
open Go.RowKit

theorem pvs_takeI : ∀ (ps : List (Int × Int)) (k : Nat), (pvs ps).take (k * 2) = pvs (ps.take k)
  | [], k => by simp [pvs]
  | p :: ps, 0 => by simp [pvs]
  | p :: ps, k + 1 => by
    rw [show (k + 1) * 2 = k * 2 + 1 + 1 by omega, List.take_succ_cons, show pvs (p :: ps) = .int .i64 p.1 :: .int .i64 p.2 :: pvs ps from rfl, List.take_succ_cons, List.take_succ_cons, pvs_takeI ps k]
    rfl
theorem Rd.cut2 {w : World} {lo hi n m : Nat} {A : Option Addr} {ps : List En} (h : Rd w lo hi 2 A n (pvs ps)) (hm : m ≤ n) : Rd w lo hi 2 A m (pvs (ps.take m)) := by
  have := h.cut hm; rwa [pvs_takeI] at this
theorem termOf_take (ps : List En) {m k : Nat} (hm : m ≤ k) : termOf (ps.take k) m = termOf ps m := by
  cases m with
  | zero => rfl
  | succ m => simp only [termOf]; rw [List.getElem?_take, if_pos (by omega)]
theorem rise_term {ps : List En} {k : Nat} {x y : Int} (hg : ps[k]? = some (x, y)) (ho : okEn (x, y) = true) :
    riseFrom (aheadT ps k) (ps.drop k) = if x < termOf ps k then false else riseFrom (aheadT ps (k + 1)) (ps.drop (k + 1)) := by
  have hx : 1 ≤ x := by
    have : inR x 1 9 = true := by simp only [okEn, Bool.and_eq_true] at ho; exact ho.1
    rw [inR_iff] at this; omega
  cases k with
  | zero =>
    rw [if_neg (by show ¬ x < 0; omega)]
    exact rise_step hg ho (fun y h => by cases h)
  | succ j =>
    have hj : j < ps.length := by have := (List.getElem?_eq_some_iff.1 hg).1; omega
    have hgj : ps[j]? = some ps[j] := List.getElem?_eq_getElem hj
    have ha := aheadT_get hgj
    rw [termOf_get hgj]
    split
    · rename_i h
      exact rise_bad hg (.inr ⟨_, ha, h⟩)
    · rename_i h
      refine rise_step hg ho (fun y hy => ?_)
      rw [ha] at hy
      injection hy with hy
      subst hy
      show ps[j].1 ≤ x
      omega
set_option maxHeartbeats 800000 in
theorem lastTermI_any (lo hi n c : Nat) (A : Option Addr) (ps : List En) (w : World) (hr : Rd w lo hi 2 A n (pvs ps)) (hn : n ≤ 1048576) :
    Calls Try.prog 43 #[.slice A n c] w fun e w' => e = .returned (.int .i64 (termOf ps n)) ∧ w = w' := by
  rcases Nat.eq_zero_or_pos n with rfl | hz
  · go_enter Try.func43, Try.ntmps43
    go_wp2
    go_ret
    exact ⟨rfl, rfl⟩
  · obtain ⟨j, rfl⟩ : ∃ j, n = j + 1 := ⟨n - 1, by omega⟩
    obtain ⟨b, off, x, y, hA, hbB, _, hg, hc0, hc1⟩ := hr.pair (k := j) (by omega)
    subst hA
    have HT := Lib.hid (termOf_get hg)
    clear hg hr
    have hj1 : IntKind.i64.wrap (((j + 1 : Nat) : Int) - 1) = (j : Int) := by rw [IntWalk.i64_in _ (by omega)]; omega
    have hj0 : (0 : Int) ≤ (j : Int) := by omega
    have hjn : (j : Int) < ((j + 1 : Nat) : Int) := by omega
    have hne : (((j + 1 : Nat) : Int) == 0) = false := by rw [beq_eq_false_iff_ne]; omega
    go_enter Try.func43, Try.ntmps43
    go_wp2
    go_ret
    exact ⟨by rw [HT.out]; rfl, rfl⟩
set_option maxHeartbeats 1600000 in
theorem entryValidI_any (x y : Int) (w : World) :
    Calls Try.prog 68 #[.agg #[.int .i64 x, .int .i64 y]] w fun e w' => e = .returned (.bool (okEn (x, y))) ∧ Below w.heap.size w w' := by
  have hb := up_alloc (Below.refl _ w) (.cells #[.int .i64 x, .int .i64 y] 29)
  have HX := Lib.hid (show okEn (x, y) = (decide (1 ≤ x) && decide (x ≤ 9) && (decide (0 ≤ y) && decide (y ≤ 99))) from rfl)
  cases h1 : decide (1 ≤ x) with
  | false =>
    have HY := Lib.hid (show okEn (x, y) = false by rw [HX.out, h1]; rfl)
    go_enter Try.func68, Try.ntmps68
    go_wp2
    go_ret
    exact ⟨by rw [HY.out]; rfl, hb⟩
  | true =>
  cases h2 : decide (x ≤ 9) with
  | false =>
    have HY := Lib.hid (show okEn (x, y) = false by rw [HX.out, h2]; simp)
    go_enter Try.func68, Try.ntmps68
    go_wp2
    go_ret
    exact ⟨by rw [HY.out]; rfl, hb⟩
  | true =>
  cases h3 : decide (0 ≤ y) with
  | false =>
    have HY := Lib.hid (show okEn (x, y) = false by rw [HX.out, h3]; simp)
    go_enter Try.func68, Try.ntmps68
    go_wp2
    go_ret
    exact ⟨by rw [HY.out]; rfl, hb⟩
  | true =>
  cases h4 : decide (y ≤ 99) with
  | false =>
    have HY := Lib.hid (show okEn (x, y) = false by rw [HX.out, h4]; simp)
    go_enter Try.func68, Try.ntmps68
    go_wp2
    go_ret
    exact ⟨by rw [HY.out]; rfl, hb⟩
  | true =>
    have HY := Lib.hid (show okEn (x, y) = true by rw [HX.out, h1, h2, h3, h4]; rfl)
    go_enter Try.func68, Try.ntmps68
    go_wp2
    go_ret
    exact ⟨by rw [HY.out]; rfl, hb⟩
set_option maxRecDepth 100000 in
set_option maxHeartbeats 3200000 in
theorem ValidLogI_any (lo hi n c : Nat) (A : Option Addr) (ps : List En) (w : World) (hr : Rd w lo hi 2 A n (pvs ps)) (hB : hi ≤ w.heap.size) (hn : n ≤ 1048576) (hcap : n ≤ c) :
    Calls Try.prog 37 #[.slice A n c] w fun e w' => e = .returned (.bool (vLog ps)) ∧ Below w.heap.size w w' := by
  have HL := Lib.hid hr.len2
  by_cases hbig : (16 : Int) < (n : Int)
  · have HX := Lib.hid (show vLog ps = false by rw [vLog, HL.out, decide_eq_false (by omega)]; simp)
    go_enter Try.func37, Try.ntmps37
    go_wp2
    go_ret
    exact ⟨ret_bool HX.out.symm, Below.refl _ _⟩
  have HW := Lib.hid (show vLog ps = rise ps by rw [vLog, HL.out, decide_eq_true (by omega)]; simp)
  have HR := Lib.hid hr
  clear hr
  go_enter Try.func37, Try.ntmps37
  go_wp2
  go_loopw [10] (fun iv wr => ∃ (k : Nat), k ≤ n ∧ iv = .int .i64 k ∧ Hid (rise ps = riseFrom (aheadT ps k) (ps.drop k)) ∧ Hid (Below w.heap.size w wr))
     (fun iv _ => n - (intOf iv).toNat)
  case atStart => exact ⟨0, by omega, rfl, rfl, Below.refl _ _⟩
  case round =>
    obtain ⟨k, hk, rfl, hS, HB⟩ := hrel
    by_cases hlt : k < n
    case neg =>
      obtain rfl : n = k := by omega
      have HX := Lib.hid (show vLog ps = true by rw [HW.out, hS.out, List.drop_of_length_le (by rw [HL.out]; omega)]; cases aheadT ps n <;> rfl)
      go_wp2
      go_ret
      exact ⟨ret_bool HX.out.symm, HB.out⟩
    have HR1 := Lib.hid (HR.out.keep HB.out hB)
    obtain ⟨b, off, x, y, hA, hbB, _, hg, hc0, hc1⟩ := HR1.out.pair hlt
    subst hA
    have hkn : (k : Int) < (n : Int) := by omega
    have hk0 : (0 : Int) ≤ (k : Int) := by omega
    have hkc : (k : Int) ≤ (c : Int) := by omega
    have hsz := HB.out.size
    have HG := Lib.hid hg
    clear hg
    have HBX := Lib.hid (up_alloc HB.out (.cells #[.int .i64 x, .int .i64 y] 29))
    have HE := Lib.hid (Blk.new wr 29 #[.int .i64 x, .int .i64 y])
    have HLT := Lib.hid (show ∀ wx, Below w.heap.size w wx → Calls Try.prog 43 #[.slice (some ⟨b, off, none⟩) k c] wx fun e w' => e = .returned (.int .i64 (termOf ps k)) ∧ wx = w' from fun wx hb => by
      have := lastTermI_any lo hi k c (some ⟨b, off, none⟩) (ps.take k) wx ((HR.out.keep hb hB).cut2 hk) (by omega)
      rwa [termOf_take ps (Nat.le_refl k)] at this)
    obtain ⟨p, hp⟩ : ∃ p, p = wr.heap.size := ⟨_, rfl⟩
    rw [← hp] at HE
    have hpl := HE.out.lt
    go_wp2_with (fail)
    rw [← hp]
    generalize hw5 : wr.alloc (.cells #[.int .i64 x, .int .i64 y] 29) = w5 at *
    clear hw5 hp hc0 hc1
    have HS := Lib.hid (show ∀ wx, Below w5.heap.size w5 wx → wx.cell? ⟨p, 0, none⟩ = some (.int .i64 x) ∧ wx.cell? ⟨p, 1, none⟩ = some (.int .i64 y) from fun wx hb => ⟨(HE.out.below hb HE.out.lt).cell 0, (HE.out.below hb HE.out.lt).cell 1⟩)
    have HC := Lib.hid (show ∀ wx, Below w5.heap.size w5 wx → Calls Try.prog 68 #[.agg #[.int .i64 x, .int .i64 y]] wx fun e w' => e = .returned (.bool (okEn (x, y))) ∧ Below w5.heap.size w5 w' from fun wx hb => (entryValidI_any x y wx).mono fun e w' ⟨h1, h2⟩ => ⟨h1, up hb h2⟩)
    cases ho : okEn (x, y) with
    | false =>
      have HX := Lib.hid (show vLog ps = false by rw [HW.out, hS.out, rise_bad HG.out (.inl ho)])
      rw [ho] at HC
      obtain ⟨c0, c1⟩ := HS.out _ (up_drew (Below.refl _ _))
      obtain ⟨c2, c3⟩ := HS.out _ (Below.refl _ _)
      refine wp_region_any (by kernel_rfl) ?_
      try (change wpAny _ _ _ _ _ _ _ (World.drew _))
      refine wpAny_ready (rs := [0]) (by kernel_rfl) (by simp) ?_
      refine AllReady.cons rfl (fun K hK => ?_) AllReady.nil
      go_simp
      try (refine hK _ _ ?_)
      try clear hK
      try clear K
      refine wpAny_ready (rs := [1]) (by kernel_rfl) (by simp) ?_
      refine AllReady.cons rfl (fun K hK => ?_) AllReady.nil
      go_simp
      (go_at_call 68; (with_reducible refine (HC.out _ (up_drew (Below.refl _ _))).mono ?_); rintro e w6 ⟨rfl, hb6⟩; have HB6 := Lib.hid hb6; clear hb6)
      try go_simp
      try (refine hK _ _ ?_)
      try clear hK
      try clear K
      refine wpAny_ready (rs := [2]) (by kernel_rfl) (by simp) ?_
      refine AllReady.cons rfl (fun K hK => ?_) AllReady.nil
      go_simp
      try (refine hK _ _ ?_)
      try clear hK
      try clear K
      refine wpAny_ready (rs := [3]) (by kernel_rfl) (by simp) ?_
      refine AllReady.cons rfl (fun K hK => ?_) AllReady.nil
      go_simp
      try (refine hK _ _ ?_)
      try clear hK
      try clear K
      refine wpAny_take (i := 4) (v := undef) rfl (by kernel_rfl) (by kernel_rfl) (by kernel_rfl) (fun _ _ _ h => h) (Or.inr ⟨by rfl, rfl⟩) ?_
      refine wpAny_take (i := 5) (v := undef) rfl (by kernel_rfl) (by kernel_rfl) (by kernel_rfl) (fun _ _ _ h => h) (Or.inr ⟨by rfl, rfl⟩) ?_
      refine wpAny_take (i := 6) (v := undef) rfl (by kernel_rfl) (by kernel_rfl) (by kernel_rfl) (fun _ _ _ h => h) (Or.inr ⟨by rfl, rfl⟩) ?_
      refine wpAny_take (i := 7) (v := undef) rfl (by kernel_rfl) (by kernel_rfl) (by kernel_rfl) (fun _ _ _ h => h) (Or.inr ⟨by rfl, rfl⟩) ?_
      refine wpAny_take (i := 8) (v := undef) rfl (by kernel_rfl) (by kernel_rfl) (by kernel_rfl) (fun _ _ _ h => h) (Or.inr ⟨by rfl, rfl⟩) ?_
      refine wpAny_take (i := 9) (v := undef) rfl (by kernel_rfl) (by kernel_rfl) (by kernel_rfl) (fun _ _ _ h => h) (Or.inr ⟨by rfl, rfl⟩) ?_
      refine wpAny_take (i := 10) (v := undef) rfl (by kernel_rfl) (by kernel_rfl) (by kernel_rfl) (fun _ _ _ h => h) (Or.inr ⟨by rfl, rfl⟩) ?_
      refine wpAny_ready (rs := [11]) (by kernel_rfl) (by simp) ?_
      refine AllReady.cons rfl (fun K hK => ?_) AllReady.nil
      go_simp
      try (refine hK _ _ ?_)
      try clear hK
      try clear K
      refine wpAny_done (by kernel_rfl) ?_ _
      go_wp2
      go_ret
      exact ⟨ret_bool HX.out.symm, up HBX.out HB6.out⟩
    | true =>
      have HT := Lib.hid (rise_term HG.out ho)
      rw [ho] at HC
      generalize termOf ps k = T at *
      by_cases hxT : x < T
      · have hd : decide (x < T) = true := decide_eq_true hxT
        have HX := Lib.hid (show vLog ps = false by rw [HW.out, hS.out, HT.out, if_pos hxT])
        go_region_held3 (fun wx => wx.cell? ⟨p, 0, none⟩ = some (.int .i64 x) ∧ wx.cell? ⟨p, 1, none⟩ = some (.int .i64 y))
          (first | exact HS.out _ (Below.refl _ _) | exact HS.out _ (up_drew (Below.refl _ _)) | exact HS.out _ HB6.out)
          ((first
            | (go_at_call 68; (with_reducible refine (HC.out _ (up_drew (Below.refl _ _))).mono ?_); rintro e w6 ⟨rfl, hb6⟩; have HB6 := Lib.hid hb6; clear hb6)
            | (go_at_call 43; (with_reducible refine (HLT.out _ (up HBX.out HB6.out)).mono ?_); rintro e w7 ⟨rfl, rfl⟩)))
        all_goals
          go_wp2
          go_ret
          exact ⟨ret_bool HX.out.symm, up HBX.out HB6.out⟩
      · have hd : decide (x < T) = false := decide_eq_false hxT
        have HX := Lib.hid (show rise ps = riseFrom (aheadT ps (k + 1)) (ps.drop (k + 1)) by rw [hS.out, HT.out, if_neg hxT])
        go_region_held3 (fun wx => wx.cell? ⟨p, 0, none⟩ = some (.int .i64 x) ∧ wx.cell? ⟨p, 1, none⟩ = some (.int .i64 y))
          (first | exact HS.out _ (Below.refl _ _) | exact HS.out _ (up_drew (Below.refl _ _)) | exact HS.out _ HB6.out)
          ((first
            | (go_at_call 68; (with_reducible refine (HC.out _ (up_drew (Below.refl _ _))).mono ?_); rintro e w6 ⟨rfl, hb6⟩; have HB6 := Lib.hid hb6; clear hb6)
            | (go_at_call 43; (with_reducible refine (HLT.out _ (up HBX.out HB6.out)).mono ?_); rintro e w7 ⟨rfl, rfl⟩)))
        all_goals
          go_wp2
          go_roundw
          case rel => exact ⟨k + 1, by omega, by go_num, HX, up HBX.out HB6.out⟩
          case measure => simp [intOf]; omega
end Go.Proofs.Ytfpiejcfhdnjiaa
