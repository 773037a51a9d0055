/- Merged: TimP, TimQ, TimR, TimT, TimV, TimW. -/
import Derived.Test.YtknphikoikdcjaaGreatTimA
/- The heap's Push. -/
set_option linter.unusedSimpArgs false
set_option linter.unusedVariables false
namespace Go.Proofs.YtknphikoikdcjaaGreat
open Go.RowKit

theorem infoTimerP : (Tryz.prog.info? 96).map (fun i => (i.zero, i.size, i.bytes)) = some (some (.agg #[.int .i64 0, .int .i64 0]), 2, 16) := by kernel_rfl
/-- A row of the call's own that is not empty: where it stands. -/
theorem own_at {w : World} {base : Nat} {e : TypeId} {size : Nat} {v : Value} {n : Nat} {xs : List Value} (h : w.ownsRow base e size v n xs) (hn : 0 < n) : ∃ g c, v = .slice (some ⟨g, 0, none⟩) n c := by
  rcases h.2 with ⟨h1, h2⟩ | ⟨g, cap, cur, rfl, _⟩
  · exact absurd h2 (by omega)
  · exact ⟨g, cap, rfl⟩
/-- What a heap behind a pointer owes after a row grew in its place and the pointer's cell was stored. -/
theorem HpM.grow {w w' : World} {p po base g n c B0 : Nat} {ts : List Tm} {x y : Int} {v : Value} (h : HpM w p po base g n c ts) (hB : B0 ≤ base) (hBp : B0 ≤ p) {wx : World} (hbx : Below w.heap.size w wx)
    (ho : w'.ownsRow base 96 2 v (n + 1) (pvs ts ++ [.int .i64 x, .int .i64 y])) (hg : wx.grownBy w' (some g)) (hl : v.ownBlock = some g ∨ v.ownBlock = some wx.heap.size) :
    w'.cell? ⟨p, po, none⟩ = some (.slice (some ⟨g, 0, none⟩) n c) ∧ w'.frozen? ⟨p, po, none⟩ = false ∧ ∃ g' c', v = .slice (some ⟨g', 0, none⟩) (n + 1) c' ∧ HpM (w'.setCell ⟨p, po, none⟩ v) p po base g' (n + 1) c' (ts ++ [(x, y)]) ∧ Below B0 w (w'.setCell ⟨p, po, none⟩ v) := by
  have hx := h.below hbx
  have hbl := hg.block p hx.pl (fun e => hx.ne (by injection e))
  have hc : w'.cell? ⟨p, po, none⟩ = some (.slice (some ⟨g, 0, none⟩) n c) := (World.cell?_of_block (w := wx) (a := ⟨p, po, none⟩) hbl).trans hx.cell
  have hf : w'.frozen? ⟨p, po, none⟩ = false := (World.frozen?_of_block (w := wx) (a := ⟨p, po, none⟩) hbl).trans hx.soft
  obtain ⟨g', c', rfl⟩ := own_at ho (by omega)
  have hne : p ≠ g' := by
    have := hx.pl
    have := h.ne
    simp only [Value.ownBlock, Option.some.injEq] at hl
    omega
  have hgb := h.gb
  refine ⟨hc, hf, g', c', rfl, ⟨World.cell?_setCell_same _ _ _ hc, by rw [World.frozen?_setCell]; exact hf, ?_, hne, ?_⟩, ?_⟩
  · have := ho.kept (grown_set w' ⟨p, po, none⟩ (.slice (some ⟨g', 0, none⟩) (n + 1) c')) (by simp [Value.ownBlock]; exact fun e => hne e.symm)
    rw [pvs_append]
    exact this
  · have := (grown_set w' ⟨p, po, none⟩ (.slice (some ⟨g', 0, none⟩) (n + 1) c')).size
    exact Nat.lt_of_lt_of_le (Nat.lt_of_lt_of_le hx.pl hg.size) this
  · have hb0 : Below B0 w wx := ⟨hbx.os, hbx.tape, hbx.output, hbx.size, fun i hi => hbx.block i (by omega)⟩
    have hb1 : Below B0 w w' := hb0.grown hg (by have := hbx.size; omega) (fun j e => by injection e with e; omega)
    exact hb1.grown (grown_set w' _ _) (by have := hb1.size; omega) (fun j e => by injection e with e; subst e; exact hBp)
theorem tas_Timer (t : TypeId) (v : Value) (w : World) : (Instr.typeAssert (.iface 96 v) t 96 true).run Tryz.prog w = .ok (.tuple #[v, .bool true]) w := by kernel_rfl
end Go.Proofs.YtknphikoikdcjaaGreat


/- container/heap's Push at the timers. -/
namespace Go.Proofs.YtknphikoikdcjaaGreat
open Go.RowKit

end Go.Proofs.YtknphikoikdcjaaGreat


/- container/heap's down at the timers. -/
namespace Go.Proofs.YtknphikoikdcjaaGreat
open Go.RowKit

set_option maxRecDepth 100000 in
set_option maxHeartbeats 3200000 in
theorem heapDownG_any (p po base g n c : Nat) (ts : List Tm) (w : World) (h : HpM w p po base g (n + 1) c ts) (hn : n + 1 ≤ 1048576) (hD : DownInv ts 0 n) :
    Calls Tryz.prog 202 #[.iface 220 (.pointer (some ⟨p, po, none⟩)), .int .i64 0, .int .i64 (n : Int)] w fun e w' => (∃ b, e = .returned (.bool b)) ∧ ∃ us, us.Perm ts ∧ HeapN us n ∧ tmv us n = tmv ts n ∧ HpM w' p po base g (n + 1) c us ∧ w.grownBy w' (some g) := by
  have HH := Lib.hid h
  have HD := Lib.hid hD
  have hlen := h.len
  clear h hD
  go_enter Tryz.func202, Tryz.ntmps202
  go_wp2_with (fail)
  go_loopw [7, 8, 9, 10] (fun iv _ _ _ wr => ∃ (i : Nat) (us : List Tm), iv = .int .i64 i ∧ i ≤ n ∧ Hid (DownInv us i n) ∧ Hid (us.Perm ts) ∧ Hid (tmv us n = tmv ts n) ∧ Hid (HpM wr p po base g (n + 1) c us) ∧ Hid (w.grownBy wr (some g)))
     (fun iv _ _ _ _ => n - (intOf iv).toNat)
  case atStart => exact ⟨0, ts, rfl, by omega, HD.out, List.Perm.refl _, rfl, HH.out, ⟨rfl, rfl, rfl, Nat.le_refl _, fun _ _ _ => rfl⟩⟩
  case round =>
    clear HH HD
    obtain ⟨i, us, rfl, hi, HD, HP, HT, HH, HB⟩ := hrel
    have hul : us.length = n + 1 := HH.out.len
    by_cases hend : n ≤ 2 * i + 1
    · have HE := Lib.hid (HD.out.done (fun k h0 hk he => by omega))
      have g1 : (n : Int) ≤ 2 * (i : Int) + 1 := by omega
      go_wp2_with (fail)
      go_ret
      refine ⟨?_, us, HP.out, HE.out, HT.out, HH.out, HB.out⟩
      by_cases h : 0 < i <;> simp [h]
    obtain ⟨j1, hj1⟩ : ∃ j1, j1 = 2 * i + 1 := ⟨_, rfl⟩
    obtain ⟨j2, hj2⟩ : ∃ j2, j2 = j1 + 1 := ⟨_, rfl⟩
    have w1 : 2 * (i : Int) + 1 = (j1 : Int) := by omega
    have w2 : (j1 : Int) + 1 = (j2 : Int) := by omega
    have g1 : (j1 : Int) < (n : Int) := by omega
    have g2 : (0 : Int) ≤ (j1 : Int) := by omega
    have w3 : IntKind.i64.wrap (j2 : Int) = (j2 : Int) := IntWalk.i64_in _ (by omega)
    have w4 : IntKind.i64.wrap (j1 : Int) = (j1 : Int) := IntWalk.i64_in _ (by omega)
    have HJ1 := Lib.hid hj1
    have HJ2 := Lib.hid hj2
    have hjn : j1 < n := by omega
    have c0 := HH.out.cell
    have hml : ∀ fuel, (method (fuel + 1) 220 (.pointer (some ⟨p, po, none⟩)) "Less").run Tryz.prog wr = .ok (235, .slice (some ⟨g, 0, none⟩) (n + 1) c) wr := fun fuel => mth_Less p po _ fuel wr c0
    have hnl := nil_Less p po
    have hcl := cal_Less
    clear hj1 hj2 hend
    by_cases h2n : j2 < n
    · have g3 : (j2 : Int) < (n : Int) := by omega
      go_wp2_with (fail)
      (with_reducible refine (HeapLess_any base _ (n + 1) c (some ⟨g, 0, none⟩) us _ (Rd.of_own HH.out.own) (Nat.le_refl _) hn j2 j1 (by omega) (by omega)).mono ?_)
      rintro e w3a ⟨rfl, hb3⟩
      have HH3 := Lib.hid (HH.out.below hb3)
      have HB3 := Lib.hid (show w.grownBy w3a (some g) from HB.out.trans ⟨hb3.os, hb3.tape, hb3.output, hb3.size, fun i hi _ => hb3.block i hi⟩)
      clear hb3 c0 hml
      have c3 := HH3.out.cell
      have hmlB : ∀ fuel, (method (fuel + 1) 220 (.pointer (some ⟨p, po, none⟩)) "Less").run Tryz.prog w3a = .ok (235, .slice (some ⟨g, 0, none⟩) (n + 1) c) w3a := fun fuel => mth_Less p po _ fuel w3a c3
      cases hl2 : tlt (tmv us j2) (tmv us j1) with
      | true =>
        have HMIN : Hid (∀ s, 0 < s → s < n → (s - 1) / 2 = i → tlt (tmv us s) (tmv us j2) = false) := by
          intro s h0 hsn hp
          have hs : s = j1 ∨ s = j2 := by have := HJ1.out; have := HJ2.out; omega
          rw [tlt_iff] at hl2
          rcases hs with rfl | rfl <;> (rw [tlt_not]; omega)
        clear hl2
        go_wp2_with (fail)
        (with_reducible refine (HeapLess_any base _ (n + 1) c (some ⟨g, 0, none⟩) us _ (Rd.of_own HH3.out.own) (Nat.le_refl _) hn j2 i (by omega) (by omega)).mono ?_)
        rintro e w5 ⟨rfl, hb5⟩
        have HH5 := Lib.hid (HH3.out.below hb5)
        have HB5 := Lib.hid (show w.grownBy w5 (some g) from HB3.out.trans ⟨hb5.os, hb5.tape, hb5.output, hb5.size, fun i hi _ => hb5.block i hi⟩)
        clear hb5
        try clear hmlB
        try clear hml
        try clear c0
        try clear c3
        cases hlt : tlt (tmv us j2) (tmv us i) with
        | false =>
          have HE := Lib.hid (HD.out.done (fun k h0 hk he => by
            have h1 := HMIN.out k h0 hk he
            rw [tlt_not] at h1 hlt ⊢
            omega))
          clear hlt
          go_wp2_with (fail)
          go_ret
          refine ⟨?_, us, HP.out, HE.out, HT.out, HH5.out, HB5.out⟩
          by_cases h : 0 < i <;> simp [h]
        | true =>
          have HU2 := Lib.hid (HD.out.swap (j := j2) (by have := HJ1.out; have := HJ2.out; omega) (by have := HJ1.out; have := HJ2.out; omega) (by omega) hlt HMIN.out)
          have HP2 := Lib.hid ((swapL_perm (l := us) (i := i) (j := j2) (by omega) (by omega)).trans HP.out)
          have HT2 := Lib.hid (show tmv (swapL us i j2) n = tmv ts n by rw [swapL_at (by omega) (by omega), if_neg (by omega), if_neg (by omega)]; exact HT.out)
          clear hlt
          have c5 := HH5.out.cell
          have hms : ∀ fuel, (method (fuel + 1) 220 (.pointer (some ⟨p, po, none⟩)) "Swap").run Tryz.prog w5 = .ok (236, .slice (some ⟨g, 0, none⟩) (n + 1) c) w5 := fun fuel => mth_Swap p po _ fuel w5 c5
          have hns := nil_Swap p po
          have hcs := cal_Swap
          go_wp2_with (fail)
          (with_reducible refine (HeapSwap_any base g (n + 1) c us w5 HH5.out.own hn i j2 (by omega) (by omega)).mono ?_)
          rintro e w6 ⟨rfl, ho6, hg6⟩
          clear c5 hms
          have HH6 := Lib.hid (HH5.out.swap ho6 hg6)
          have HB6 := Lib.hid (show w.grownBy w6 (some g) from HB5.out.trans hg6)
          clear ho6 hg6
          go_wp2_with (fail)
          go_roundw
          case rel => exact ⟨j2, swapL us i j2, rfl, by omega, HU2, HP2, HT2, HH6, HB6⟩
          case measure => have := HJ1.out; have := HJ2.out; simp [intOf]; omega
      | false =>
        have HMIN : Hid (∀ s, 0 < s → s < n → (s - 1) / 2 = i → tlt (tmv us s) (tmv us j1) = false) := by
          intro s h0 hsn hp
          have hs : s = j1 ∨ s = j2 := by have := HJ1.out; have := HJ2.out; omega
          rcases hs with rfl | rfl
          · rw [tlt_not]; omega
          · exact hl2
        clear hl2
        go_wp2_with (fail)
        (with_reducible refine (HeapLess_any base _ (n + 1) c (some ⟨g, 0, none⟩) us _ (Rd.of_own HH3.out.own) (Nat.le_refl _) hn j1 i (by omega) (by omega)).mono ?_)
        rintro e w5 ⟨rfl, hb5⟩
        have HH5 := Lib.hid (HH3.out.below hb5)
        have HB5 := Lib.hid (show w.grownBy w5 (some g) from HB3.out.trans ⟨hb5.os, hb5.tape, hb5.output, hb5.size, fun i hi _ => hb5.block i hi⟩)
        clear hb5
        try clear hmlB
        try clear hml
        try clear c0
        try clear c3
        cases hlt : tlt (tmv us j1) (tmv us i) with
        | false =>
          have HE := Lib.hid (HD.out.done (fun k h0 hk he => by
            have h1 := HMIN.out k h0 hk he
            rw [tlt_not] at h1 hlt ⊢
            omega))
          clear hlt
          go_wp2_with (fail)
          go_ret
          refine ⟨?_, us, HP.out, HE.out, HT.out, HH5.out, HB5.out⟩
          by_cases h : 0 < i <;> simp [h]
        | true =>
          have HU2 := Lib.hid (HD.out.swap (j := j1) (by have := HJ1.out; have := HJ2.out; omega) (by have := HJ1.out; have := HJ2.out; omega) (by omega) hlt HMIN.out)
          have HP2 := Lib.hid ((swapL_perm (l := us) (i := i) (j := j1) (by omega) (by omega)).trans HP.out)
          have HT2 := Lib.hid (show tmv (swapL us i j1) n = tmv ts n by rw [swapL_at (by omega) (by omega), if_neg (by omega), if_neg (by omega)]; exact HT.out)
          clear hlt
          have c5 := HH5.out.cell
          have hms : ∀ fuel, (method (fuel + 1) 220 (.pointer (some ⟨p, po, none⟩)) "Swap").run Tryz.prog w5 = .ok (236, .slice (some ⟨g, 0, none⟩) (n + 1) c) w5 := fun fuel => mth_Swap p po _ fuel w5 c5
          have hns := nil_Swap p po
          have hcs := cal_Swap
          go_wp2_with (fail)
          (with_reducible refine (HeapSwap_any base g (n + 1) c us w5 HH5.out.own hn i j1 (by omega) (by omega)).mono ?_)
          rintro e w6 ⟨rfl, ho6, hg6⟩
          clear c5 hms
          have HH6 := Lib.hid (HH5.out.swap ho6 hg6)
          have HB6 := Lib.hid (show w.grownBy w6 (some g) from HB5.out.trans hg6)
          clear ho6 hg6
          go_wp2_with (fail)
          go_roundw
          case rel => exact ⟨j1, swapL us i j1, rfl, by omega, HU2, HP2, HT2, HH6, HB6⟩
          case measure => have := HJ1.out; have := HJ2.out; simp [intOf]; omega
    · have g3 : (n : Int) ≤ (j2 : Int) := by omega
      have HMIN : Hid (∀ s, 0 < s → s < n → (s - 1) / 2 = i → tlt (tmv us s) (tmv us j1) = false) := by
        intro s h0 hsn hp
        have hs : s = j1 ∨ s = j2 := by have := HJ1.out; have := HJ2.out; omega
        rcases hs with rfl | rfl
        · rw [tlt_not]; omega
        · omega
      go_wp2_with (fail)
      (with_reducible refine (HeapLess_any base _ (n + 1) c (some ⟨g, 0, none⟩) us _ (Rd.of_own HH.out.own) (Nat.le_refl _) hn j1 i (by omega) (by omega)).mono ?_)
      rintro e w5 ⟨rfl, hb5⟩
      have HH5 := Lib.hid (HH.out.below hb5)
      have HB5 := Lib.hid (show w.grownBy w5 (some g) from HB.out.trans ⟨hb5.os, hb5.tape, hb5.output, hb5.size, fun i hi _ => hb5.block i hi⟩)
      clear hb5
      try clear hmlB
      try clear hml
      try clear c0
      try clear c3
      cases hlt : tlt (tmv us j1) (tmv us i) with
      | false =>
        have HE := Lib.hid (HD.out.done (fun k h0 hk he => by
          have h1 := HMIN.out k h0 hk he
          rw [tlt_not] at h1 hlt ⊢
          omega))
        clear hlt
        go_wp2_with (fail)
        go_ret
        refine ⟨?_, us, HP.out, HE.out, HT.out, HH5.out, HB5.out⟩
        by_cases h : 0 < i <;> simp [h]
      | true =>
        have HU2 := Lib.hid (HD.out.swap (j := j1) (by have := HJ1.out; have := HJ2.out; omega) (by have := HJ1.out; have := HJ2.out; omega) (by omega) hlt HMIN.out)
        have HP2 := Lib.hid ((swapL_perm (l := us) (i := i) (j := j1) (by omega) (by omega)).trans HP.out)
        have HT2 := Lib.hid (show tmv (swapL us i j1) n = tmv ts n by rw [swapL_at (by omega) (by omega), if_neg (by omega), if_neg (by omega)]; exact HT.out)
        clear hlt
        have c5 := HH5.out.cell
        have hms : ∀ fuel, (method (fuel + 1) 220 (.pointer (some ⟨p, po, none⟩)) "Swap").run Tryz.prog w5 = .ok (236, .slice (some ⟨g, 0, none⟩) (n + 1) c) w5 := fun fuel => mth_Swap p po _ fuel w5 c5
        have hns := nil_Swap p po
        have hcs := cal_Swap
        go_wp2_with (fail)
        (with_reducible refine (HeapSwap_any base g (n + 1) c us w5 HH5.out.own hn i j1 (by omega) (by omega)).mono ?_)
        rintro e w6 ⟨rfl, ho6, hg6⟩
        clear c5 hms
        have HH6 := Lib.hid (HH5.out.swap ho6 hg6)
        have HB6 := Lib.hid (show w.grownBy w6 (some g) from HB5.out.trans hg6)
        clear ho6 hg6
        go_wp2_with (fail)
        go_roundw
        case rel => exact ⟨j1, swapL us i j1, rfl, by omega, HU2, HP2, HT2, HH6, HB6⟩
        case measure => have := HJ1.out; have := HJ2.out; simp [intOf]; omega
end Go.Proofs.YtknphikoikdcjaaGreat


/- container/heap's Pop at the timers. -/
namespace Go.Proofs.YtknphikoikdcjaaGreat
open Go.RowKit

theorem pvs_takeT : ∀ (ps : List (Int × Int)) (k : Nat), (pvs ps).take (k * 2) = pvs (ps.take k)
  | [], k => by simp [pvs]
  | p :: ps, 0 => by simp [pvs]
  | p :: ps, k + 1 => by
    rw [show (k + 1) * 2 = k * 2 + 1 + 1 by omega, List.take_succ_cons, show pvs (p :: ps) = .int .i64 p.1 :: .int .i64 p.2 :: pvs ps from rfl, List.take_succ_cons, List.take_succ_cons, pvs_takeT ps k]
    rfl
/-- The heap behind the pointer when its last timer is taken off. -/
theorem HpM.pop {w : World} {p po base g n c B0 : Nat} {us : List Tm} (h : HpM w p po base g (n + 1) c us) (hBp : B0 ≤ p) (o : Obj) :
    HpM ((w.setCell ⟨p, po, none⟩ (.slice (some ⟨g, 0, none⟩) n c)).alloc o) p po base g n c (us.take n) ∧ Below B0 w ((w.setCell ⟨p, po, none⟩ (.slice (some ⟨g, 0, none⟩) n c)).alloc o) := by
  have h1 := own_cut h.own (m := n) (by omega)
  rw [pvs_takeT] at h1
  have h2 := h1.kept (grown_set w ⟨p, po, none⟩ (.slice (some ⟨g, 0, none⟩) n c)) (by simp [Value.ownBlock]; exact fun e => h.ne e.symm)
  have hs := (grown_set w ⟨p, po, none⟩ (.slice (some ⟨g, 0, none⟩) n c)).size
  have hm : HpM (w.setCell ⟨p, po, none⟩ (.slice (some ⟨g, 0, none⟩) n c)) p po base g n c (us.take n) := ⟨World.cell?_setCell_same _ _ _ h.cell, by rw [World.frozen?_setCell]; exact h.soft, h2, h.ne, Nat.lt_of_lt_of_le h.pl hs⟩
  refine ⟨hm.below (up_alloc (Below.refl _ _) o), ?_⟩
  have hb : Below B0 w (w.setCell ⟨p, po, none⟩ (.slice (some ⟨g, 0, none⟩) n c)) := (Below.refl B0 w).grown (grown_set w _ _) (by have := h.pl; omega) (fun j e => by injection e with e; subst e; exact hBp)
  exact hb.alloc (by have := h.pl; omega) o
set_option maxRecDepth 100000 in
set_option maxHeartbeats 3200000 in
theorem heapPop_any (p po base g n c B0 : Nat) (ts : List Tm) (w : World) (h : HpM w p po base g (n + 1) c ts) (hB : B0 ≤ base) (hBp : B0 ≤ p) (hn : n + 1 ≤ 1048576) (hH : HeapN ts ts.length) :
    Calls Tryz.prog 181 #[.iface 220 (.pointer (some ⟨p, po, none⟩))] w fun e w' => e = .returned (.iface 96 (.agg #[.int .i64 (tmv ts 0).1, .int .i64 (tmv ts 0).2])) ∧ ∃ us, (tmv ts 0 :: us).Perm ts ∧ HeapN us us.length ∧ HpM w' p po base g n c us ∧ Below B0 w w' ∧ (∀ t cs, Blk w p t cs → Blk w' p t (cs.setIfInBounds po (.slice (some ⟨g, 0, none⟩) n c))) ∧ (∀ m, m < w.heap.size → m ≠ p → m ≠ g → w'.heap[m]? = w.heap[m]?) := by
  have HH := Lib.hid h
  have hlen := h.len
  have c0 := h.cell
  clear h
  have hml : ∀ fuel, (method (fuel + 1) 220 (.pointer (some ⟨p, po, none⟩)) "Len").run Tryz.prog w = .ok (234, .slice (some ⟨g, 0, none⟩) (n + 1) c) w := fun fuel => mth_Len p po _ fuel w c0
  have hnl := nil_Len p po
  have hcl := cal_Len
  have w1e : IntKind.i64.wrap (((n + 1 : Nat) : Int) - 1) = (n : Int) := by rw [IntWalk.i64_in _ (by omega)]; omega
  have w2e : IntKind.i64.wrap ((n : Int) + 1 - 1) = (n : Int) := by rw [IntWalk.i64_in _ (by omega)]; omega
  have w3e : (n : Int) + 1 - 1 = (n : Int) := by omega
  go_enter Tryz.func181, Tryz.ntmps181
  go_wp2_with (fail)
  (with_reducible refine (HeapLen_any _ _ _ _).mono ?_)
  rintro e w2 ⟨rfl, rfl⟩
  clear hml hnl hcl
  have hms : ∀ fuel, (method (fuel + 1) 220 (.pointer (some ⟨p, po, none⟩)) "Swap").run Tryz.prog w = .ok (236, .slice (some ⟨g, 0, none⟩) (n + 1) c) w := fun fuel => mth_Swap p po _ fuel w c0
  have hns := nil_Swap p po
  have hcs := cal_Swap
  go_wp2_with (fail)
  have hsw := HeapSwap_any base g (n + 1) c ts w HH.out.own hn 0 n (by omega) (by omega)
  rw [show ((0 : Nat) : Int) = 0 from rfl] at hsw
  (with_reducible refine hsw.mono ?_)
  rintro e w3 ⟨rfl, ho3, hg3⟩
  clear c0 hms
  have HH3 := Lib.hid (HH.out.swap ho3 hg3)
  have HG3 := Lib.hid hg3
  have HB3 := Lib.hid (show Below B0 w w3 from (Below.refl B0 w).grown hg3 (by have := HH.out.gb; omega) (fun x e => by injection e with e; have := HH.out.gb; omega))
  clear ho3 hg3
  go_wp2_with (fail)
  (with_reducible refine (heapDownG_any p po base g n c (swapL ts 0 n) w3 HH3.out hn (DownInv.start hH hlen)).mono ?_)
  rintro e w4 ⟨⟨b, rfl⟩, us, hp, hh, ht, hm, hgd⟩
  have hb : Below B0 w3 w4 := (Below.refl B0 w3).grown hgd (by have := HH3.out.gb; omega) (fun z e => by injection e with e; have := HH3.out.gb; omega)
  have HGD := Lib.hid (HG3.out.trans hgd)
  clear hgd
  have HP := Lib.hid hp
  have HK := Lib.hid hh
  have HT := Lib.hid (show tmv us n = tmv ts 0 by rw [ht, swapL_at (by omega) (by omega), if_pos rfl])
  have HM := Lib.hid hm
  have HB := Lib.hid hb
  clear hp hh hm hb ht
  have hmp := mth_Pop p po
  have hnp := nil_Pop p po
  have hcp := cal_Pop
  go_wp2_with (fail)
  obtain ⟨b2, off2, x, y, e, _, _, hg, hd0, hd1⟩ := (Rd.of_own HM.out.own).pair (k := n) (by omega)
  cases e
  have hxy : tmv us n = (x, y) := tmv_is hg
  have hx0 : tmv ts 0 = (x, y) := HT.out.symm.trans hxy
  simp only [Nat.zero_add] at hd0 hd1
  (with_reducible refine (HeapPop_any p po g n c x y w4 HM.out.cell HM.out.soft HM.out.pl HM.out.gb.2 hd0 hd1 (by omega) (by have := (own_form HM.out.own); obtain ⟨_, _, e, h1, _⟩ := this; injection e with e1 e2 e3; omega)).mono ?_)
  rintro e w5 ⟨rfl, rfl⟩
  obtain ⟨hm5, hb5⟩ := HM.out.pop hBp (.cells #[.int .i64 x, .int .i64 y] 96)
  have HM5 := Lib.hid hm5
  have HB5 := Lib.hid hb5
  have HK5 := Lib.hid (HK.out.take (by have := HM.out.len; omega))
  have HP5 := Lib.hid (show ((x, y) :: us.take n).Perm ts by
    have := pop_perm hlen (HP.out.trans (swapL_perm (by omega) (by omega))) HT.out
    rwa [hx0] at this)
  have HQ5 := Lib.hid (show ∀ t cs, Blk w p t cs → Blk ((w4.setCell ⟨p, po, none⟩ (.slice (some ⟨g, 0, none⟩) n c)).alloc (.cells #[.int .i64 x, .int .i64 y] 96)) p t (cs.setIfInBounds po (.slice (some ⟨g, 0, none⟩) n c)) from fun t cs hq => ((hq.grown HGD.out (fun e => HM.out.ne (by injection e))).put po _).alloc _)
  have HU5 := Lib.hid (show ∀ m, m < w.heap.size → m ≠ p → m ≠ g → ((w4.setCell ⟨p, po, none⟩ (.slice (some ⟨g, 0, none⟩) n c)).alloc (.cells #[.int .i64 x, .int .i64 y] 96)).heap[m]? = w.heap[m]? from fun m h1 h2 h3 => (Below.heap_alloc _ _ m (by have := HGD.out.size; simp; omega)).trans ((Below.heap_setCell _ ⟨p, po, none⟩ _ m h2).trans (HGD.out.block m h1 (fun e => h3 (by injection e)))))
  clear hm5 hb5 hd0 hd1 hg hmp hnp hcp
  go_wp2
  go_ret
  rw [hx0]
  refine ⟨rfl, us.take n, HP5.out, HK5.out, HM5.out, ?_, HQ5.out, HU5.out⟩
  exact ⟨HB5.out.os.trans (HB.out.os.trans HB3.out.os), HB5.out.tape.trans (HB.out.tape.trans HB3.out.tape), HB5.out.output.trans (HB.out.output.trans HB3.out.output), Nat.le_trans HB3.out.size (Nat.le_trans HB.out.size HB5.out.size), fun i hi => (HB5.out.block i hi).trans ((HB.out.block i hi).trans (HB3.out.block i hi))⟩
end Go.Proofs.YtknphikoikdcjaaGreat


/- The heap's Push and container/heap's Push where the row may be none. -/
namespace Go.Proofs.YtknphikoikdcjaaGreat
open Go.RowKit

/-- A heap of timers behind a pointer, its row perhaps none. -/
structure HpV (w : World) (p po base : Nat) (v : Value) (n : Nat) (ts : List Tm) : Prop where
  cell : w.cell? ⟨p, po, none⟩ = some v
  soft : w.frozen? ⟨p, po, none⟩ = false
  own : w.ownsRow base 96 2 v n (pvs ts)
  ne : v.ownBlock ≠ some p
  pl : p < w.heap.size
theorem HpM.v {w : World} {p po base g n c : Nat} {ts : List Tm} (h : HpM w p po base g n c ts) : HpV w p po base (.slice (some ⟨g, 0, none⟩) n c) n ts :=
  ⟨h.cell, h.soft, h.own, fun e => h.ne (by simp only [Value.ownBlock, Option.some.injEq] at e; exact e.symm), h.pl⟩
theorem HpV.len {w : World} {p po base n : Nat} {v : Value} {ts : List Tm} (h : HpV w p po base v n ts) : ts.length = n := by
  have := h.own.1
  rw [pvs_length] at this
  omega
theorem HpV.below {w w' : World} {p po base n : Nat} {v : Value} {ts : List Tm} (h : HpV w p po base v n ts) (hb : Below w.heap.size w w') : HpV w' p po base v n ts :=
  ⟨(hb.cell (p := ⟨p, po, none⟩) h.pl).trans h.cell, (World.frozen?_of_block (hb.block p h.pl)).trans h.soft, own_keep h.own hb, h.ne, Nat.lt_of_lt_of_le h.pl hb.size⟩
theorem HpV.grow {w w' : World} {p po base n B0 : Nat} {v0 : Value} {ts : List Tm} {x y : Int} {v : Value} (h : HpV w p po base v0 n ts) (hB : B0 ≤ base) (hBp : B0 ≤ p) {wx : World} (hbx : Below w.heap.size w wx)
    (ho : w'.ownsRow base 96 2 v (n + 1) (pvs ts ++ [.int .i64 x, .int .i64 y])) (hg : wx.grownBy w' v0.ownBlock) (hl : v.ownBlock = v0.ownBlock ∨ v.ownBlock = some wx.heap.size) :
    w'.cell? ⟨p, po, none⟩ = some v0 ∧ w'.frozen? ⟨p, po, none⟩ = false ∧ ∃ g' c', v = .slice (some ⟨g', 0, none⟩) (n + 1) c' ∧ HpM (w'.setCell ⟨p, po, none⟩ v) p po base g' (n + 1) c' (ts ++ [(x, y)]) ∧ Below B0 w (w'.setCell ⟨p, po, none⟩ v) ∧ (∀ m, m < w.heap.size → m ≠ p → v0.ownBlock ≠ some m → (w'.setCell ⟨p, po, none⟩ v).heap[m]? = w.heap[m]? ∧ m ≠ g') := by
  have hx := h.below hbx
  have hbl := hg.block p hx.pl (fun e => hx.ne e.symm)
  have hc : w'.cell? ⟨p, po, none⟩ = some v0 := (World.cell?_of_block (w := wx) (a := ⟨p, po, none⟩) hbl).trans hx.cell
  have hf : w'.frozen? ⟨p, po, none⟩ = false := (World.frozen?_of_block (w := wx) (a := ⟨p, po, none⟩) hbl).trans hx.soft
  obtain ⟨g', c', rfl⟩ := own_at ho (by omega)
  have hne : p ≠ g' := by
    have h1 := hx.pl
    have h2 := h.ne
    rcases hl with e | e
    · intro e2; apply h2; rw [← e]; simp [Value.ownBlock, e2]
    · simp only [Value.ownBlock, Option.some.injEq] at e; omega
  have hlt := h.own.lt
  refine ⟨hc, hf, g', c', rfl, ⟨World.cell?_setCell_same _ _ _ hc, by rw [World.frozen?_setCell]; exact hf, ?_, hne, ?_⟩, ?_, ?_⟩
  · have := ho.kept (grown_set w' ⟨p, po, none⟩ (.slice (some ⟨g', 0, none⟩) (n + 1) c')) (by simp [Value.ownBlock]; exact fun e => hne e.symm)
    rw [pvs_append]
    exact this
  · have := (grown_set w' ⟨p, po, none⟩ (.slice (some ⟨g', 0, none⟩) (n + 1) c')).size
    exact Nat.lt_of_lt_of_le (Nat.lt_of_lt_of_le hx.pl hg.size) this
  · have hpl := h.pl
    have hb0 : Below B0 w wx := ⟨hbx.os, hbx.tape, hbx.output, hbx.size, fun i hi => hbx.block i (by omega)⟩
    have hb1 : Below B0 w w' := hb0.grown hg (by have := hbx.size; omega) (fun j e => by have := (hlt j e).1; omega)
    exact hb1.grown (grown_set w' _ _) (by have := hb1.size; omega) (fun j e => by injection e with e; subst e; exact hBp)
  · intro m hm hmp hmv
    have h1 : w'.heap[m]? = w.heap[m]? := (hg.block m (by have := hbx.size; omega) (fun e => hmv e.symm)).trans (hbx.block m hm)
    have h2 : (w'.setCell ⟨p, po, none⟩ (.slice (some ⟨g', 0, none⟩) (n + 1) c')).heap[m]? = w'.heap[m]? := (grown_set w' ⟨p, po, none⟩ (.slice (some ⟨g', 0, none⟩) (n + 1) c')).block m (by have := hbx.size; have := hg.size; omega) (fun e => by injection e with e; exact hmp e)
    refine ⟨h2.trans h1, fun e => ?_⟩
    rcases hl with e2 | e2
    · exact hmv (by rw [← e2]; simp [Value.ownBlock, e])
    · simp only [Value.ownBlock, Option.some.injEq] at e2
      have := hbx.size
      omega
set_option maxRecDepth 100000 in
set_option maxHeartbeats 3200000 in
theorem HeapPushV_any (p po base n B0 : Nat) (v : Value) (ts : List Tm) (x y : Int) (w : World) (h : HpV w p po base v n ts) (hbase : base ≤ w.heap.size) (hB : B0 ≤ base) (hBp : B0 ≤ p) (hn : n + 1 ≤ 1048576) :
    Calls Tryz.prog 238 #[.pointer (some ⟨p, po, none⟩), .iface 96 (.agg #[.int .i64 x, .int .i64 y])] w fun e w' => e = .returned (.tuple #[]) ∧ ∃ g' c', HpM w' p po base g' (n + 1) c' (ts ++ [(x, y)]) ∧ Below B0 w w' ∧ (∀ m, m < w.heap.size → m ≠ p → v.ownBlock ≠ some m → w'.heap[m]? = w.heap[m]? ∧ m ≠ g') := by
  have HH := Lib.hid h
  obtain ⟨i0, hi0, hz0, hz1, hz2⟩ := info_parts infoTimerP
  have hul : (pvs ts).length = n * 2 := by rw [pvs_length, h.len]
  have hta := fun t => tas_Timer t (.agg #[.int .i64 x, .int .i64 y]) w
  clear h
  go_enter Tryz.func238, Tryz.ntmps238
  go_wp2_with (fail)
  clear hta
  have hb1 := up_alloc (Below.refl _ w) (.cells #[.int .i64 x, .int .i64 y] 96)
  have hk1 := Blk.new w 96 #[.int .i64 x, .int .i64 y]
  have hs1 : (w.alloc (.cells #[.int .i64 x, .int .i64 y] 96)).heap.size = w.heap.size + 1 := by simp
  have hp1 := (HH.out.below hb1).cell
  have hf1 := (HH.out.below hb1).soft
  have k0 := hk1.cell 0
  have k1 := hk1.cell 1
  generalize hw1 : w.alloc (.cells #[.int .i64 x, .int .i64 y] 96) = w1 at *
  clear hw1
  have k0 : w1.cell? ⟨w.heap.size, 0, none⟩ = some (.int .i64 x) := k0
  have k1 : w1.cell? ⟨w.heap.size, 1, none⟩ = some (.int .i64 y) := k1
  have hpl1 : p < w1.heap.size := by have := HH.out.pl; omega
  have HSW : Hid (∀ wx : World, Below w1.heap.size w1 wx → wx.cell? ⟨p, po, none⟩ = some v ∧ wx.cell? ⟨w.heap.size, 0, none⟩ = some (.int .i64 x) ∧ wx.cell? ⟨w.heap.size, 1, none⟩ = some (.int .i64 y)) := fun wx hbx => ⟨(hbx.cell (p := ⟨p, po, none⟩) hpl1).trans hp1, (hbx.cell (p := ⟨w.heap.size, 0, none⟩) (by simp only; omega)).trans k0, (hbx.cell (p := ⟨w.heap.size, 1, none⟩) (by simp only; omega)).trans k1⟩
  have HB1 := Lib.hid hb1
  have HA := Lib.hid (show Below w.heap.size w (w1.alloc (.cells #[.int .i64 x, .int .i64 y] 96)).drew from up_drew (up_alloc hb1 _))
  have HR : Hid (Rd (w1.alloc (.cells #[.int .i64 x, .int .i64 y] 96)).drew (w.heap.size + 1) (w.heap.size + 1 + 1) 2 (some ⟨w.heap.size + 1, 0, none⟩) 1 [.int .i64 x, .int .i64 y]) := by
    have := (Blk.new w1 96 #[.int .i64 x, .int .i64 y]).drew
    rw [hs1] at this
    exact rd_of_blkT (n := 1) (size := 2) this rfl
  have HZ : Hid ((w1.alloc (.cells #[.int .i64 x, .int .i64 y] 96)).drew.heap.size = w.heap.size + 1 + 1) := by
    show (w1.alloc (.cells #[.int .i64 x, .int .i64 y] 96)).heap.size = _
    simp [hs1]
  have q2 := (HSW.out _ (up_alloc (Below.refl _ w1) (.cells #[.int .i64 x, .int .i64 y] 96))).1
  have q3 := (HSW.out _ (up_drew (up_alloc (Below.refl _ w1) (.cells #[.int .i64 x, .int .i64 y] 96)))).1
  have q4 := (HSW.out _ (up_drew (Below.refl _ w1))).1
  have q5 := (HSW.out _ (up_drew (Below.refl _ w1))).2.1
  have q6 := (HSW.out _ (up_drew (Below.refl _ w1))).2.2
  clear hb1 hk1 hf1
  go_region_law ((first
      | (refine step_append_rd _ (by rfl) _ _ _ (by rfl) base 96 i0 _ 2 16 Tryz.underlying112 hi0 hz0 hz1 hz2 rfl (by omega) v n (pvs ts) (by rfl) (HH.out.below HA.out).own (w.heap.size + 1) (w.heap.size + 1 + 1) _ 1 1 [.int .i64 x, .int .i64 y] (by rfl) HR.out (by intro u hu; simp at hu; rcases hu with rfl | rfl <;> rfl) (by unfold maxLen; omega) (by omega) (by have := HZ.out; omega) ?_
         intro v1 w3 ho1 hg1 hl1
         obtain ⟨hc3, hf3, g', c', rfl, HF, HB, HM⟩ := HH.out.grow hB hBp HA.out ho1 hg1 hl1
         have HM := Lib.hid HM
         have HF := Lib.hid HF
         have HB := Lib.hid HB
         clear ho1 hg1 hl1)))
  all_goals
    go_wp2
    refine bodyPost_end (v := .tuple #[]) ?_ rfl ?_
    · simp [results, Tryz.results238, go_sem]
    exact ⟨rfl, g', c', HF.out, HB.out, HM.out⟩
set_option maxRecDepth 100000 in
set_option maxHeartbeats 3200000 in
theorem heapPushV_any (p po base n B0 : Nat) (v : Value) (ts : List Tm) (x y : Int) (w : World) (h : HpV w p po base v n ts) (hbase : base ≤ w.heap.size) (hB : B0 ≤ base) (hBp : B0 ≤ p) (hn : n + 1 ≤ 1048576) (hH : HeapN ts ts.length) :
    Calls Tryz.prog 177 #[.iface 220 (.pointer (some ⟨p, po, none⟩)), .iface 96 (.agg #[.int .i64 x, .int .i64 y])] w fun e w' => e = .returned (.tuple #[]) ∧ ∃ g' c' us, us.Perm (ts ++ [(x, y)]) ∧ HeapN us us.length ∧ HpM w' p po base g' (n + 1) c' us ∧ Below B0 w w' ∧ (∀ m, m < w.heap.size → m ≠ p → v.ownBlock ≠ some m → w'.heap[m]? = w.heap[m]? ∧ m ≠ g') := by
  have HH := Lib.hid h
  have hlen := h.len
  clear h
  have hmp := mth_Push p po
  have hnp := nil_Push p po
  have hcp := cal_Push
  go_enter Tryz.func177, Tryz.ntmps177
  go_wp2_with (fail)
  (with_reducible refine (HeapPushV_any p po base n B0 v ts x y _ HH.out hbase hB hBp hn).mono ?_)
  rintro e w1 ⟨rfl, g', c', h1, hb1, hm1⟩
  have HM1 := Lib.hid hm1
  clear hm1
  have H1 := Lib.hid h1
  have HB1 := Lib.hid hb1
  have c1 := h1.cell
  clear h1 hb1 hmp hnp hcp
  have hml : ∀ fuel, (method (fuel + 1) 220 (.pointer (some ⟨p, po, none⟩)) "Len").run Tryz.prog w1 = .ok (234, .slice (some ⟨g', 0, none⟩) (n + 1) c') w1 := fun fuel => mth_Len p po _ fuel w1 c1
  have hnl := nil_Len p po
  have hcl := cal_Len
  go_wp2_with (fail)
  (with_reducible refine (HeapLen_any _ _ _ _).mono ?_)
  rintro e w2 ⟨rfl, rfl⟩
  clear c1 hml hnl hcl
  have w1e : IntKind.i64.wrap (((n + 1 : Nat) : Int) - 1) = (n : Int) := by rw [IntWalk.i64_in _ (by omega)]; omega
  have w2e : IntKind.i64.wrap ((n : Int) + 1 - 1) = (n : Int) := by rw [IntWalk.i64_in _ (by omega)]; omega
  have w3e : (n : Int) + 1 - 1 = (n : Int) := by omega
  go_wp2_with (fail)
  have hU : UpInv (ts ++ [(x, y)]) n := by have := UpInv.start hH (x, y); rwa [hlen] at this
  (with_reducible refine (heapUpG_any p po base g' (n + 1) c' (ts ++ [(x, y)]) n _ H1.out hn hU).mono ?_)
  rintro e w3 ⟨rfl, us, hp, hh, hm, hgu⟩
  have hb : Below B0 w1 w3 := (Below.refl B0 w1).grown hgu (by have := HB1.out.size; omega) (fun z e => by injection e with e; have := H1.out.gb; omega)
  have HM3 := Lib.hid (show ∀ m, m < w.heap.size → m ≠ p → v.ownBlock ≠ some m → w3.heap[m]? = w.heap[m]? ∧ m ≠ g' from fun m h1 h2 h3 => ⟨(hgu.block m (by have := HB1.out.size; omega) (fun e => (HM1.out m h1 h2 h3).2 (by injection e with e))).trans (HM1.out m h1 h2 h3).1, (HM1.out m h1 h2 h3).2⟩)
  clear hgu
  have HP := Lib.hid hp
  have HK := Lib.hid hh
  have HM := Lib.hid hm
  have HB := Lib.hid hb
  clear hp hh hm hb
  go_wp2
  refine bodyPost_end (v := .tuple #[]) ?_ rfl ?_
  · simp [results, Tryz.results177, go_sem]
  exact ⟨rfl, g', c', us, HP.out, HK.out, HM.out, ⟨HB.out.os.trans HB1.out.os, HB.out.tape.trans HB1.out.tape, HB.out.output.trans HB1.out.output, Nat.le_trans HB1.out.size HB.out.size, fun i hi => (HB.out.block i hi).trans (HB1.out.block i hi)⟩, HM3.out⟩
end Go.Proofs.YtknphikoikdcjaaGreat


/- slices.Clone at the heap of timers. -/
namespace Go.Proofs.YtknphikoikdcjaaGreat
open Go.RowKit

set_option maxRecDepth 100000 in
set_option maxHeartbeats 800000 in
theorem cloneTimers_any (lo hi n c : Nat) (A : Option Addr) (ps : List Tm) (w : World) (hr : Rd w lo hi 2 A n (pvs ps)) (hB : hi ≤ w.heap.size) (hn : n ≤ 1048576) :
    Calls Tryz.prog 133 #[.slice A n c] w fun e w' => ∃ A9 c9, e = .returned (.slice A9 n c9) ∧ w'.ownsRow w.heap.size 96 2 (.slice A9 n c9) n (pvs ps) ∧ Below w.heap.size w w' := by
  have HL := Lib.hid hr.len2
  obtain ⟨i0, hi0, hz0, hz1, hz2⟩ := info_parts infoTimerP
  cases A with
  | none =>
    obtain rfl : n = 0 := by
      rcases Nat.eq_zero_or_pos n with h | h
      · exact h
      · obtain ⟨_, _, e, _⟩ := hr.form h; cases e
    obtain rfl : ps = [] := List.eq_nil_of_length_eq_zero HL.out
    clear hr
    have q22 : ∀ (w : World) (a : Option Addr) (n c n' c' : Nat), (binOp .eql 112 (.slice a n c) (.slice none n' c')).run Tryz.prog w = .ok (.bool a.isNone) w := fun w a n c n' c' => Lib.run_eql_slice_nil w _ _ a n c n' c' Tryz.underlying112
    go_enter Tryz.func133, Tryz.ntmps133
    go_wp2
    go_ret
    exact ⟨none, 0, rfl, World.ownsRow_nil _ _ _ _, Below.refl _ _⟩
  | some a =>
    have hown1 : (w.alloc (.cells #[] 96)).ownsRow w.heap.size 96 2 (.slice (some ⟨w.heap.size, 0, none⟩) 0 0) 0 [] := World.ownsRow_made w #[] 0 (Nat.le_refl _) (by unfold maxLen; omega) (by simp)
    have hbl := up_alloc (Below.refl _ w) (.cells #[] 96)
    have hr1 := hr.keep hbl hB
    have q22 : ∀ (w : World) (a : Option Addr) (n c n' c' : Nat), (binOp .eql 112 (.slice a n c) (.slice none n' c')).run Tryz.prog w = .ok (.bool a.isNone) w := fun w a n c n' c' => Lib.run_eql_slice_nil w _ _ a n c n' c' Tryz.underlying112
    go_enter Tryz.func133, Tryz.ntmps133
    go_wp2_with (at_builtin; refine wpList_append_rd _ rfl _ _ 112 rfl w.heap.size 96 i0 _ 2 16 Tryz.underlying112 hi0 hz0 hz1 hz2 rfl (by decide) _ _ _ rfl hown1 lo hi (some a) n c (pvs ps) rfl hr1 (pvs_one ps) ?c3 ?c4 ?c5 ?_)
    case c3 => unfold maxLen; omega
    case c4 => omega
    case c5 => simp
    intro v2 w2 hown2 hg2 _
    have hb2 := up_grown hbl hown1 hg2 (Nat.le_refl _)
    try simp only [Nat.zero_add, List.nil_append] at hown2
    have HO := Lib.hid hown2
    clear hown1 hown2 hg2 hr1 hbl
    obtain ⟨A2, c2, hv2, _⟩ := own_form HO.out
    subst hv2
    go_wp2
    go_ret
    exact ⟨A2, c2, rfl, HO.out, hb2⟩
end Go.Proofs.YtknphikoikdcjaaGreat

