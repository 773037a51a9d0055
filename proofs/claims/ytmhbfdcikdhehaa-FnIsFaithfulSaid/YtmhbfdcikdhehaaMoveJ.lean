/- impl.migrationOf. (Written by gen/movemig.py.) -/
import Derived.Test.YtmhbfdcikdhehaaMoveI
set_option linter.unusedSimpArgs false
set_option linter.unusedVariables false
namespace Go.Proofs.Ytmhbfdcikdhehaa
open Go.RowKit

theorem mig_store {w0 w : World} {q : Nat} {a0 a1 a2 a3 a4 a5 a6 a7 a8 : Value} (h : Blk w q 73 #[a0, a1, a2, a3, a4, a5, a6, a7, a8]) (hb : Below w0.heap.size w0 w) (hq : w0.heap.size ≤ q) (v0 v1 v2 v3 v4 v5 v6 v7 v8 : Value) :
    (((((((((w.setCell ⟨q, 0, none⟩ (v0)).setCell ⟨q, 1, none⟩ (v1)).setCell ⟨q, 2, none⟩ (v2)).setCell ⟨q, 3, none⟩ (v3)).setCell ⟨q, 4, none⟩ (v4)).setCell ⟨q, 5, none⟩ (v5)).setCell ⟨q, 6, none⟩ (v6)).setCell ⟨q, 7, none⟩ (v7)).setCell ⟨q, 8, none⟩ (v8)).cell? ⟨q, 0, none⟩ = some v0 ∧
    (((((((((w.setCell ⟨q, 0, none⟩ (v0)).setCell ⟨q, 1, none⟩ (v1)).setCell ⟨q, 2, none⟩ (v2)).setCell ⟨q, 3, none⟩ (v3)).setCell ⟨q, 4, none⟩ (v4)).setCell ⟨q, 5, none⟩ (v5)).setCell ⟨q, 6, none⟩ (v6)).setCell ⟨q, 7, none⟩ (v7)).setCell ⟨q, 8, none⟩ (v8)).cell? ⟨q, 1, none⟩ = some v1 ∧
    (((((((((w.setCell ⟨q, 0, none⟩ (v0)).setCell ⟨q, 1, none⟩ (v1)).setCell ⟨q, 2, none⟩ (v2)).setCell ⟨q, 3, none⟩ (v3)).setCell ⟨q, 4, none⟩ (v4)).setCell ⟨q, 5, none⟩ (v5)).setCell ⟨q, 6, none⟩ (v6)).setCell ⟨q, 7, none⟩ (v7)).setCell ⟨q, 8, none⟩ (v8)).cell? ⟨q, 2, none⟩ = some v2 ∧
    (((((((((w.setCell ⟨q, 0, none⟩ (v0)).setCell ⟨q, 1, none⟩ (v1)).setCell ⟨q, 2, none⟩ (v2)).setCell ⟨q, 3, none⟩ (v3)).setCell ⟨q, 4, none⟩ (v4)).setCell ⟨q, 5, none⟩ (v5)).setCell ⟨q, 6, none⟩ (v6)).setCell ⟨q, 7, none⟩ (v7)).setCell ⟨q, 8, none⟩ (v8)).cell? ⟨q, 3, none⟩ = some v3 ∧
    (((((((((w.setCell ⟨q, 0, none⟩ (v0)).setCell ⟨q, 1, none⟩ (v1)).setCell ⟨q, 2, none⟩ (v2)).setCell ⟨q, 3, none⟩ (v3)).setCell ⟨q, 4, none⟩ (v4)).setCell ⟨q, 5, none⟩ (v5)).setCell ⟨q, 6, none⟩ (v6)).setCell ⟨q, 7, none⟩ (v7)).setCell ⟨q, 8, none⟩ (v8)).cell? ⟨q, 4, none⟩ = some v4 ∧
    (((((((((w.setCell ⟨q, 0, none⟩ (v0)).setCell ⟨q, 1, none⟩ (v1)).setCell ⟨q, 2, none⟩ (v2)).setCell ⟨q, 3, none⟩ (v3)).setCell ⟨q, 4, none⟩ (v4)).setCell ⟨q, 5, none⟩ (v5)).setCell ⟨q, 6, none⟩ (v6)).setCell ⟨q, 7, none⟩ (v7)).setCell ⟨q, 8, none⟩ (v8)).cell? ⟨q, 5, none⟩ = some v5 ∧
    (((((((((w.setCell ⟨q, 0, none⟩ (v0)).setCell ⟨q, 1, none⟩ (v1)).setCell ⟨q, 2, none⟩ (v2)).setCell ⟨q, 3, none⟩ (v3)).setCell ⟨q, 4, none⟩ (v4)).setCell ⟨q, 5, none⟩ (v5)).setCell ⟨q, 6, none⟩ (v6)).setCell ⟨q, 7, none⟩ (v7)).setCell ⟨q, 8, none⟩ (v8)).cell? ⟨q, 6, none⟩ = some v6 ∧
    (((((((((w.setCell ⟨q, 0, none⟩ (v0)).setCell ⟨q, 1, none⟩ (v1)).setCell ⟨q, 2, none⟩ (v2)).setCell ⟨q, 3, none⟩ (v3)).setCell ⟨q, 4, none⟩ (v4)).setCell ⟨q, 5, none⟩ (v5)).setCell ⟨q, 6, none⟩ (v6)).setCell ⟨q, 7, none⟩ (v7)).setCell ⟨q, 8, none⟩ (v8)).cell? ⟨q, 7, none⟩ = some v7 ∧
    (((((((((w.setCell ⟨q, 0, none⟩ (v0)).setCell ⟨q, 1, none⟩ (v1)).setCell ⟨q, 2, none⟩ (v2)).setCell ⟨q, 3, none⟩ (v3)).setCell ⟨q, 4, none⟩ (v4)).setCell ⟨q, 5, none⟩ (v5)).setCell ⟨q, 6, none⟩ (v6)).setCell ⟨q, 7, none⟩ (v7)).setCell ⟨q, 8, none⟩ (v8)).cell? ⟨q, 8, none⟩ = some v8 ∧
    Hid (Below w0.heap.size w0 (((((((((w.setCell ⟨q, 0, none⟩ (v0)).setCell ⟨q, 1, none⟩ (v1)).setCell ⟨q, 2, none⟩ (v2)).setCell ⟨q, 3, none⟩ (v3)).setCell ⟨q, 4, none⟩ (v4)).setCell ⟨q, 5, none⟩ (v5)).setCell ⟨q, 6, none⟩ (v6)).setCell ⟨q, 7, none⟩ (v7)).setCell ⟨q, 8, none⟩ (v8)) ∧ (((((((((w.setCell ⟨q, 0, none⟩ (v0)).setCell ⟨q, 1, none⟩ (v1)).setCell ⟨q, 2, none⟩ (v2)).setCell ⟨q, 3, none⟩ (v3)).setCell ⟨q, 4, none⟩ (v4)).setCell ⟨q, 5, none⟩ (v5)).setCell ⟨q, 6, none⟩ (v6)).setCell ⟨q, 7, none⟩ (v7)).setCell ⟨q, 8, none⟩ (v8)).heap.size = w.heap.size ∧ ∀ i, i ≠ q → (((((((((w.setCell ⟨q, 0, none⟩ (v0)).setCell ⟨q, 1, none⟩ (v1)).setCell ⟨q, 2, none⟩ (v2)).setCell ⟨q, 3, none⟩ (v3)).setCell ⟨q, 4, none⟩ (v4)).setCell ⟨q, 5, none⟩ (v5)).setCell ⟨q, 6, none⟩ (v6)).setCell ⟨q, 7, none⟩ (v7)).setCell ⟨q, 8, none⟩ (v8)).heap[i]? = w.heap[i]?) := by
  have hZ := (((((((((h.put 0 v0).put 1 v1).put 2 v2).put 3 v3).put 4 v4).put 5 v5).put 6 v6).put 7 v7).put 8 v8)
  have b0 := hZ.cell 0
  have b1 := hZ.cell 1
  have b2 := hZ.cell 2
  have b3 := hZ.cell 3
  have b4 := hZ.cell 4
  have b5 := hZ.cell 5
  have b6 := hZ.cell 6
  have b7 := hZ.cell 7
  have b8 := hZ.cell 8
  simp at b0 b1 b2 b3 b4 b5 b6 b7 b8
  refine ⟨b0, b1, b2, b3, b4, b5, b6, b7, b8, (((((((((hb.setCell (p := ⟨q, 0, none⟩) hq v0).setCell (p := ⟨q, 1, none⟩) hq v1).setCell (p := ⟨q, 2, none⟩) hq v2).setCell (p := ⟨q, 3, none⟩) hq v3).setCell (p := ⟨q, 4, none⟩) hq v4).setCell (p := ⟨q, 5, none⟩) hq v5).setCell (p := ⟨q, 6, none⟩) hq v6).setCell (p := ⟨q, 7, none⟩) hq v7).setCell (p := ⟨q, 8, none⟩) hq v8), by simp [World.setCell], fun i hi => ?_⟩
  rw [Below.heap_setCell _ _ _ _ hi, Below.heap_setCell _ _ _ _ hi, Below.heap_setCell _ _ _ _ hi, Below.heap_setCell _ _ _ _ hi, Below.heap_setCell _ _ _ _ hi, Below.heap_setCell _ _ _ _ hi, Below.heap_setCell _ _ _ _ hi, Below.heap_setCell _ _ _ _ hi, Below.heap_setCell _ _ _ _ hi]
def MigPost (ns : List (Int × Int)) (fs : List Flw) (nsq : List (Int × Int)) (gs : List Flw) (fl : List Int) (An : Option Addr) (nn cn : Nat) (Af : Option Addr) (lf cf : Nat) (Aq : Option Addr) (nq cq : Nat) (Ag : Option Addr) (lg cg : Nat) (w : World) (e : Ending) (w' : World) : Prop :=
  ((vProc ns fs && vProc nsq gs && vMap fs gs fl) = false ∧ e = .returned (.tuple #[.agg #[.slice none 0 0, .slice none 0 0, .map none, .map none, .slice none 0 0, .slice none 0 0, .map none, .map none, .map none], .bool false]) ∧ Below w.heap.size w w') ∨
  (vProc ns fs = true ∧ vProc nsq gs = true ∧ vMap fs gs fl = true ∧ ∃ x2 x3 y2 y3 fb m, e = .returned (.tuple #[.agg #[.slice An nn cn, .slice Af lf cf, .map x2, .map x3, .slice Aq nq cq, .slice Ag lg cg, .map y2, .map y3, .map (some fb)], .bool true]) ∧ IMap Try.prog 3 w' fb m (flAt fl) ∧ m ≤ fl.length ∧ w.heap.size ≤ fb ∧ Below w.heap.size w w')
theorem netOf_gen (lo hi nn cn : Nat) (An : Option Addr) (ns : List (Int × Int)) (lo' hi' lf cf : Nat) (Af : Option Addr) (fs : List Flw) (w : World) (hrn : Rd w lo hi 2 An nn (pvs ns)) (hB : hi ≤ w.heap.size) (hnn : nn ≤ 1048576)
    (hr : Fls w lo' hi' Af lf fs) (hB' : hi' ≤ w.heap.size) (hn : lf ≤ 1048576) :
    Calls Try.prog 65 #[.agg #[.slice An nn cn, .slice Af lf cf]] w fun e w' => ∃ A0 n0 c0 A1 n1 c1 m0 m1, e = .returned (.tuple #[.agg #[.slice A0 n0 c0, .slice A1 n1 c1, .map m0, .map m1], .bool (vProc ns fs)]) ∧ Below w.heap.size w w' ∧ (vProc ns fs = true → Value.slice A0 n0 c0 = .slice An nn cn ∧ Value.slice A1 n1 c1 = .slice Af lf cf) :=
  (netOf_any lo hi nn cn An ns lo' hi' lf cf Af fs w hrn hB hnn hr hB' hn).mono fun e w' h => by
    rcases h with ⟨hV, rfl, hb⟩ | ⟨hV, bo, bi, rfl, _, _, hb⟩
    · exact ⟨none, 0, 0, none, 0, 0, none, none, by rw [hV], hb, fun h => by rw [hV] at h; cases h⟩
    · exact ⟨_, _, _, _, _, _, some bo, some bi, by rw [hV]; rfl, hb, fun _ => ⟨rfl, rfl⟩⟩
theorem flAt_put {fl : List Int} {k : Nat} {f : Int} (hf : fl[k]? = some f) (hf1 : f ≠ -1) (z : Int) : (if z = (k : Int) then some (Value.int .i64 f) else flAt (fl.take k) z) = flAt (fl.take (k + 1)) z := by
  have hk := (List.getElem?_eq_some_iff.1 hf).1
  unfold flAt
  by_cases e : z = (k : Int)
  · subst e
    have h1 : (0 : Int) ≤ (k : Int) := by omega
    have h2 : (fl.take (k + 1))[k]? = some f := by rw [List.getElem?_take, if_pos (by omega)]; exact hf
    simp only [h1, if_true, Int.toNat_natCast, h2, hf1, if_false]
  · rw [if_neg e]
    split
    case isFalse => rfl
    case isTrue h0 =>
      obtain ⟨j, rfl⟩ := Int.eq_ofNat_of_zero_le h0
      rw [Int.toNat_natCast, List.getElem?_take, List.getElem?_take]
      by_cases hj : j < k
      · rw [if_pos hj, if_pos (by omega)]
      · rw [if_neg hj, if_neg (by omega)]
theorem flAt_skip {fl : List Int} {k : Nat} (hf : fl[k]? = some (-1)) (z : Int) : flAt (fl.take k) z = flAt (fl.take (k + 1)) z := by
  have hk := (List.getElem?_eq_some_iff.1 hf).1
  unfold flAt
  split
  case isFalse => rfl
  case isTrue h0 =>
    obtain ⟨j, rfl⟩ := Int.eq_ofNat_of_zero_le h0
    rw [Int.toNat_natCast, List.getElem?_take, List.getElem?_take]
    by_cases hj : j < k
    · rw [if_pos hj, if_pos (by omega)]
    · rw [if_neg hj]
      by_cases he : j = k
      · subst he
        rw [if_pos (by omega), hf]; rfl
      · rw [if_neg (by omega)]
theorem flAt_none (fl : List Int) (z : Int) : none = flAt (fl.take 0) z := by
  unfold flAt
  split
  · rfl
  · rfl
set_option maxRecDepth 100000 in
set_option maxHeartbeats 40000000 in
theorem migrationOf_any (lo hi nn cn : Nat) (An : Option Addr) (ns : List (Int × Int)) (lo1 hi1 lf cf : Nat) (Af : Option Addr) (fs : List Flw) (lo2 hi2 nq cq : Nat) (Aq : Option Addr) (nsq : List (Int × Int)) (lo3 hi3 lg cg : Nat) (Ag : Option Addr) (gs : List Flw)
    (lo4 hi4 n4 c4 : Nat) (A4 : Option Addr) (fl : List Int) (w : World)
    (hrn : Rd w lo hi 2 An nn (pvs ns)) (hB : hi ≤ w.heap.size) (hnn : nn ≤ 1048576) (hr : Fls w lo1 hi1 Af lf fs) (hB1 : hi1 ≤ w.heap.size) (hn : lf ≤ 1048576)
    (hrq : Rd w lo2 hi2 2 Aq nq (pvs nsq)) (hB2 : hi2 ≤ w.heap.size) (hnq : nq ≤ 1048576) (hrg : Fls w lo3 hi3 Ag lg gs) (hB3 : hi3 ≤ w.heap.size) (hng : lg ≤ 1048576)
    (h4 : Rd w lo4 hi4 1 A4 n4 (ivs fl)) (hB4 : hi4 ≤ w.heap.size) (hn4 : n4 ≤ 1048576) :
    Calls Try.prog 34 #[.agg #[.slice An nn cn, .slice Af lf cf], .agg #[.slice Aq nq cq, .slice Ag lg cg], .slice A4 n4 c4] w (MigPost ns fs nsq gs fl An nn cn Af lf cf Aq nq cq Ag lg cg w) := by
  have hb1 := up_alloc (up_alloc (up_alloc (Below.refl _ w) (.cells #[.slice An nn cn, .slice Af lf cf] 26)) (.cells #[.slice Aq nq cq, .slice Ag lg cg] 26)) (.cells #[.slice none 0 0, .slice none 0 0, .map none, .map none, .slice none 0 0, .slice none 0 0, .map none, .map none, .map none] 73)
  have hp1 := ((Blk.new w 26 #[.slice An nn cn, .slice Af lf cf]).alloc (.cells #[.slice Aq nq cq, .slice Ag lg cg] 26)).alloc (.cells #[.slice none 0 0, .slice none 0 0, .map none, .map none, .slice none 0 0, .slice none 0 0, .map none, .map none, .map none] 73)
  have hq1 : Blk (((w.alloc (.cells #[.slice An nn cn, .slice Af lf cf] 26)).alloc (.cells #[.slice Aq nq cq, .slice Ag lg cg] 26)).alloc (.cells #[.slice none 0 0, .slice none 0 0, .map none, .map none, .slice none 0 0, .slice none 0 0, .map none, .map none, .map none] 73)) (w.heap.size + 1) 26 #[.slice Aq nq cq, .slice Ag lg cg] := by
    have := (Blk.new (w.alloc (.cells #[.slice An nn cn, .slice Af lf cf] 26)) 26 #[.slice Aq nq cq, .slice Ag lg cg]).alloc (.cells #[.slice none 0 0, .slice none 0 0, .map none, .map none, .slice none 0 0, .slice none 0 0, .map none, .map none, .map none] 73)
    simpa using this
  have ht1 : Blk (((w.alloc (.cells #[.slice An nn cn, .slice Af lf cf] 26)).alloc (.cells #[.slice Aq nq cq, .slice Ag lg cg] 26)).alloc (.cells #[.slice none 0 0, .slice none 0 0, .map none, .map none, .slice none 0 0, .slice none 0 0, .map none, .map none, .map none] 73)) (w.heap.size + 1 + 1) 73 #[.slice none 0 0, .slice none 0 0, .map none, .map none, .slice none 0 0, .slice none 0 0, .map none, .map none, .map none] := by
    have := Blk.new ((w.alloc (.cells #[.slice An nn cn, .slice Af lf cf] 26)).alloc (.cells #[.slice Aq nq cq, .slice Ag lg cg] 26)) 73 #[.slice none 0 0, .slice none 0 0, .map none, .map none, .slice none 0 0, .slice none 0 0, .map none, .map none, .map none]
    simpa using this
  have hs1 : (((w.alloc (.cells #[.slice An nn cn, .slice Af lf cf] 26)).alloc (.cells #[.slice Aq nq cq, .slice Ag lg cg] 26)).alloc (.cells #[.slice none 0 0, .slice none 0 0, .map none, .map none, .slice none 0 0, .slice none 0 0, .map none, .map none, .map none] 73)).heap.size = w.heap.size + 1 + 1 + 1 := by simp
  have HF := Lib.hid hr.1
  have HG := Lib.hid hrg.1
  have HL4 := Lib.hid h4.len1
  have HC := Lib.hid (netOf_gen lo hi nn cn An ns lo1 hi1 lf cf Af fs _ (hrn.keep hb1 hB) (by omega) hnn (hr.keep hb1 hB1) (by omega) hn)
  have hmm := @run_makeMap Try.prog
  go_enter Try.func34, Try.ntmps34
  go_wp2_with (fail)
  (with_reducible refine HC.out.mono ?_)
  clear HC
  rintro e w1 ⟨Ax, nx, cx, Ay, ny, cy, mx, my, rfl, hb2, hx⟩
  have HX := Lib.hid hx
  have hb3 := up_alloc (up hb1 hb2) (.cells #[.slice Ax nx cx, .slice Ay ny cy, .map mx, .map my] 69)
  have hs2 := hb2.size
  rw [hs1] at hs2
  have hs3 : (w1.alloc (.cells #[.slice Ax nx cx, .slice Ay ny cy, .map mx, .map my] 69)).heap.size = w1.heap.size + 1 := by simp
  have hp2 := (hp1.below hb2 (by omega)).alloc (.cells #[.slice Ax nx cx, .slice Ay ny cy, .map mx, .map my] 69)
  have hq2 := (hq1.below hb2 (by omega)).alloc (.cells #[.slice Ax nx cx, .slice Ay ny cy, .map mx, .map my] 69)
  have ht2 := (ht1.below hb2 (by omega)).alloc (.cells #[.slice Ax nx cx, .slice Ay ny cy, .map mx, .map my] 69)
  have hf2 := Blk.new w1 69 #[.slice Ax nx cx, .slice Ay ny cy, .map mx, .map my]
  have HC := Lib.hid (netOf_gen lo2 hi2 nq cq Aq nsq lo3 hi3 lg cg Ag gs _ (hrq.keep hb3 hB2) (Nat.le_trans hB2 hb3.size) hnq (hrg.keep hb3 hB3) (Nat.le_trans hB3 hb3.size) hng)
  have q0 := hq2.cell 0
  have q1 := hq2.cell 1
  simp only [List.getElem?_toArray, List.getElem?_cons_zero, List.getElem?_cons_succ] at q0 q1
  clear hb1 hb2 hp1 hq1 ht1 hx
  go_wp2_with (fail)
  (with_reducible refine HC.out.mono ?_)
  clear HC q0 q1
  rintro e w2 ⟨Au, nu, cu, Av, nv, cv, mu, mv, rfl, hb4, hy⟩
  have HY := Lib.hid hy
  have hs4 := hb4.size
  rw [hs3] at hs4
  have hb5 := up_alloc (up hb3 hb4) (.cells #[.slice Au nu cu, .slice Av nv cv, .map mu, .map mv] 69)
  have hp3 := (hp2.below hb4 (by omega)).alloc (.cells #[.slice Au nu cu, .slice Av nv cv, .map mu, .map mv] 69)
  have hq3 := (hq2.below hb4 (by omega)).alloc (.cells #[.slice Au nu cu, .slice Av nv cv, .map mu, .map mv] 69)
  have ht3 := (ht2.below hb4 (by omega)).alloc (.cells #[.slice Au nu cu, .slice Av nv cv, .map mu, .map mv] 69)
  have hf3 := (hf2.below hb4 (by omega)).alloc (.cells #[.slice Au nu cu, .slice Av nv cv, .map mu, .map mv] 69)
  have hg3 := Blk.new w2 69 #[.slice Au nu cu, .slice Av nv cv, .map mu, .map mv]
  have hs5 : (w2.alloc (.cells #[.slice Au nu cu, .slice Av nv cv, .map mu, .map mv] 69)).heap.size = w2.heap.size + 1 := by simp
  have HB5 := Lib.hid hb5
  have HP3 := Lib.hid hp3
  have HQ3 := Lib.hid hq3
  have HT3 := Lib.hid ht3
  have HF3 := Lib.hid hf3
  have HG3 := Lib.hid hg3
  clear hb3 hb4 hb5 hp2 hp3 hq2 hq3 ht2 ht3 hf2 hf3 hg3 hy hs1
  have p1 := HP3.out.cell 1
  simp only [List.getElem?_toArray, List.getElem?_cons_zero, List.getElem?_cons_succ] at p1
  cases hV : vProc ns fs with
  | false =>
    have hqz := HT3.out
    have r0 := hqz.cell 0
    have r1 := hqz.cell 1
    have r2 := hqz.cell 2
    have r3 := hqz.cell 3
    have r4 := hqz.cell 4
    have r5 := hqz.cell 5
    have r6 := hqz.cell 6
    have r7 := hqz.cell 7
    have r8 := hqz.cell 8
    simp only [List.getElem?_toArray, List.getElem?_cons_zero, List.getElem?_cons_succ] at r0 r1 r2 r3 r4 r5 r6 r7 r8
    have s0 := hqz.soft 0
    have s1 := hqz.soft 1
    have s2 := hqz.soft 2
    have s3 := hqz.soft 3
    have s4 := hqz.soft 4
    have s5 := hqz.soft 5
    have s6 := hqz.soft 6
    have s7 := hqz.soft 7
    have s8 := hqz.soft 8
    obtain ⟨b0, b1, b2, b3, b4, b5, b6, b7, b8, HBZ⟩ := mig_store hqz HB5.out (by omega) (.slice none 0 0) (.slice none 0 0) (.map none) (.map none) (.slice none 0 0) (.slice none 0 0) (.map none) (.map none) (.map none)
    have HXX := Lib.hid (show (vProc ns fs && vProc nsq gs && vMap fs gs fl) = false by rw [hV]; rfl)
    clear hqz
    go_wp2
    refine bodyPost_ret (v := .tuple #[.agg #[.slice none 0 0, .slice none 0 0, .map none, .map none, .slice none 0 0, .slice none 0 0, .map none, .map none, .map none], .bool false]) ?_ rfl ?_
    · generalize ((((((((((w2.alloc (.cells #[.slice Au nu cu, .slice Av nv cv, .map mu, .map mv] 69)).setCell ⟨w.heap.size + 1 + 1, 0, none⟩ (.slice none 0 0)).setCell ⟨w.heap.size + 1 + 1, 1, none⟩ (.slice none 0 0)).setCell ⟨w.heap.size + 1 + 1, 2, none⟩ (.map none)).setCell ⟨w.heap.size + 1 + 1, 3, none⟩ (.map none)).setCell ⟨w.heap.size + 1 + 1, 4, none⟩ (.slice none 0 0)).setCell ⟨w.heap.size + 1 + 1, 5, none⟩ (.slice none 0 0)).setCell ⟨w.heap.size + 1 + 1, 6, none⟩ (.map none)).setCell ⟨w.heap.size + 1 + 1, 7, none⟩ (.map none)).setCell ⟨w.heap.size + 1 + 1, 8, none⟩ (.map none)) = wz at b0 b1 b2 b3 b4 b5 b6 b7 b8 ⊢
      simp [results, Try.results34, go_sem, b0, b1, b2, b3, b4, b5, b6, b7, b8]
    · exact .inl ⟨HXX.out, rfl, HBZ.out.1⟩
  | true =>
  cases hV2 : vProc nsq gs with
  | false =>
    have hqz := HT3.out
    have r0 := hqz.cell 0
    have r1 := hqz.cell 1
    have r2 := hqz.cell 2
    have r3 := hqz.cell 3
    have r4 := hqz.cell 4
    have r5 := hqz.cell 5
    have r6 := hqz.cell 6
    have r7 := hqz.cell 7
    have r8 := hqz.cell 8
    simp only [List.getElem?_toArray, List.getElem?_cons_zero, List.getElem?_cons_succ] at r0 r1 r2 r3 r4 r5 r6 r7 r8
    have s0 := hqz.soft 0
    have s1 := hqz.soft 1
    have s2 := hqz.soft 2
    have s3 := hqz.soft 3
    have s4 := hqz.soft 4
    have s5 := hqz.soft 5
    have s6 := hqz.soft 6
    have s7 := hqz.soft 7
    have s8 := hqz.soft 8
    obtain ⟨b0, b1, b2, b3, b4, b5, b6, b7, b8, HBZ⟩ := mig_store hqz HB5.out (by omega) (.slice none 0 0) (.slice none 0 0) (.map none) (.map none) (.slice none 0 0) (.slice none 0 0) (.map none) (.map none) (.map none)
    have HXX := Lib.hid (show (vProc ns fs && vProc nsq gs && vMap fs gs fl) = false by rw [hV, hV2]; rfl)
    clear hqz
    go_wp2
    refine bodyPost_ret (v := .tuple #[.agg #[.slice none 0 0, .slice none 0 0, .map none, .map none, .slice none 0 0, .slice none 0 0, .map none, .map none, .map none], .bool false]) ?_ rfl ?_
    · generalize ((((((((((w2.alloc (.cells #[.slice Au nu cu, .slice Av nv cv, .map mu, .map mv] 69)).setCell ⟨w.heap.size + 1 + 1, 0, none⟩ (.slice none 0 0)).setCell ⟨w.heap.size + 1 + 1, 1, none⟩ (.slice none 0 0)).setCell ⟨w.heap.size + 1 + 1, 2, none⟩ (.map none)).setCell ⟨w.heap.size + 1 + 1, 3, none⟩ (.map none)).setCell ⟨w.heap.size + 1 + 1, 4, none⟩ (.slice none 0 0)).setCell ⟨w.heap.size + 1 + 1, 5, none⟩ (.slice none 0 0)).setCell ⟨w.heap.size + 1 + 1, 6, none⟩ (.map none)).setCell ⟨w.heap.size + 1 + 1, 7, none⟩ (.map none)).setCell ⟨w.heap.size + 1 + 1, 8, none⟩ (.map none)) = wz at b0 b1 b2 b3 b4 b5 b6 b7 b8 ⊢
      simp [results, Try.results34, go_sem, b0, b1, b2, b3, b4, b5, b6, b7, b8]
    · exact .inl ⟨HXX.out, rfl, HBZ.out.1⟩
  | true =>
  by_cases hne : n4 = lf
  case neg =>
    have hne' : ((n4 : Int) != (lf : Int)) = true := by rw [bne_iff_ne]; omega
    have hqz := HT3.out
    have r0 := hqz.cell 0
    have r1 := hqz.cell 1
    have r2 := hqz.cell 2
    have r3 := hqz.cell 3
    have r4 := hqz.cell 4
    have r5 := hqz.cell 5
    have r6 := hqz.cell 6
    have r7 := hqz.cell 7
    have r8 := hqz.cell 8
    simp only [List.getElem?_toArray, List.getElem?_cons_zero, List.getElem?_cons_succ] at r0 r1 r2 r3 r4 r5 r6 r7 r8
    have s0 := hqz.soft 0
    have s1 := hqz.soft 1
    have s2 := hqz.soft 2
    have s3 := hqz.soft 3
    have s4 := hqz.soft 4
    have s5 := hqz.soft 5
    have s6 := hqz.soft 6
    have s7 := hqz.soft 7
    have s8 := hqz.soft 8
    obtain ⟨b0, b1, b2, b3, b4, b5, b6, b7, b8, HBZ⟩ := mig_store hqz HB5.out (by omega) (.slice none 0 0) (.slice none 0 0) (.map none) (.map none) (.slice none 0 0) (.slice none 0 0) (.map none) (.map none) (.map none)
    have HXX := Lib.hid (show (vProc ns fs && vProc nsq gs && vMap fs gs fl) = false by
      have : ¬ fl.length = fs.length := by have h1 := HL4.out; have h2 := HF.out; omega
      simp [vMap, this])
    clear hqz
    go_wp2
    refine bodyPost_ret (v := .tuple #[.agg #[.slice none 0 0, .slice none 0 0, .map none, .map none, .slice none 0 0, .slice none 0 0, .map none, .map none, .map none], .bool false]) ?_ rfl ?_
    · generalize ((((((((((w2.alloc (.cells #[.slice Au nu cu, .slice Av nv cv, .map mu, .map mv] 69)).setCell ⟨w.heap.size + 1 + 1, 0, none⟩ (.slice none 0 0)).setCell ⟨w.heap.size + 1 + 1, 1, none⟩ (.slice none 0 0)).setCell ⟨w.heap.size + 1 + 1, 2, none⟩ (.map none)).setCell ⟨w.heap.size + 1 + 1, 3, none⟩ (.map none)).setCell ⟨w.heap.size + 1 + 1, 4, none⟩ (.slice none 0 0)).setCell ⟨w.heap.size + 1 + 1, 5, none⟩ (.slice none 0 0)).setCell ⟨w.heap.size + 1 + 1, 6, none⟩ (.map none)).setCell ⟨w.heap.size + 1 + 1, 7, none⟩ (.map none)).setCell ⟨w.heap.size + 1 + 1, 8, none⟩ (.map none)) = wz at b0 b1 b2 b3 b4 b5 b6 b7 b8 ⊢
      simp [results, Try.results34, go_sem, b0, b1, b2, b3, b4, b5, b6, b7, b8]
    · exact .inl ⟨HXX.out, rfl, HBZ.out.1⟩
  case pos =>
  have hne' : ((n4 : Int) != (lf : Int)) = false := by simp [hne]
  have HNE := Lib.hid hne
  clear hne
  obtain ⟨hx0, hx1⟩ := HX.out hV
  obtain ⟨hy0, hy1⟩ := HY.out hV2
  injection hx0 with a1 a2 a3
  injection hx1 with a4 a5 a6
  injection hy0 with a7 a8 a9
  injection hy1 with b1 b2 b3
  have a1 := a1.symm
  have a2 := a2.symm
  have a3 := a3.symm
  have a4 := a4.symm
  have a5 := a5.symm
  have a6 := a6.symm
  have a7 := a7.symm
  have a8 := a8.symm
  have a9 := a9.symm
  have b1 := b1.symm
  have b2 := b2.symm
  have b3 := b3.symm
  have HV := Lib.hid hV
  have HV2 := Lib.hid hV2
  have hlf14 := (vProc_len hV).2.2
  have hlg14 := (vProc_len hV2).2.2
  rw [HF.out] at hlf14
  rw [HG.out] at hlg14
  subst a1; subst a2; subst a3; subst a4; subst a5; subst a6; subst a7; subst a8; subst a9; subst b1; subst b2; subst b3
  clear hV hV2 HX HY
  have m0 := HF3.out.cell 0
  have m1 := HF3.out.cell 1
  have m2 := HF3.out.cell 2
  have m3 := HF3.out.cell 3
  have u0 := HG3.out.cell 0
  have u1 := HG3.out.cell 1
  have u2 := HG3.out.cell 2
  have u3 := HG3.out.cell 3
  simp only [List.getElem?_toArray, List.getElem?_cons_zero, List.getElem?_cons_succ] at m0 m1 m2 m3 u0 u1 u2 u3
  have hbm := up_alloc (up_alloc HB5.out (.map #[] 0)) (.cells #[.slice An nn cn, .slice Af lf cf, .map mx, .map my, .slice Aq nq cq, .slice Ag lg cg, .map mu, .map mv, .map (some (w2.heap.size + 1))] 73)
  have him : IMap Try.prog 3 (((w2.alloc (.cells #[.slice Aq nq cq, .slice Ag lg cg, .map mu, .map mv] 69)).alloc (.map #[] 0)).alloc (.cells #[.slice An nn cn, .slice Af lf cf, .map mx, .map my, .slice Aq nq cq, .slice Ag lg cg, .map mu, .map mv, .map (some (w2.heap.size + 1))] 73)) (w2.heap.size + 1) 0 (fun _ => none) := by
    have := (IMap.made Try.prog 3 (w2.alloc (.cells #[.slice Aq nq cq, .slice Ag lg cg, .map mu, .map mv] 69))).alloc (.cells #[.slice An nn cn, .slice Af lf cf, .map mx, .map my, .slice Aq nq cq, .slice Ag lg cg, .map mu, .map mv, .map (some (w2.heap.size + 1))] 73)
    rwa [hs5] at this
  have hmg : Blk (((w2.alloc (.cells #[.slice Aq nq cq, .slice Ag lg cg, .map mu, .map mv] 69)).alloc (.map #[] 0)).alloc (.cells #[.slice An nn cn, .slice Af lf cf, .map mx, .map my, .slice Aq nq cq, .slice Ag lg cg, .map mu, .map mv, .map (some (w2.heap.size + 1))] 73)) (w2.heap.size + 1 + 1) 73 #[.slice An nn cn, .slice Af lf cf, .map mx, .map my, .slice Aq nq cq, .slice Ag lg cg, .map mu, .map mv, .map (some (w2.heap.size + 1))] := by
    have := Blk.new ((w2.alloc (.cells #[.slice Aq nq cq, .slice Ag lg cg, .map mu, .map mv] 69)).alloc (.map #[] 0)) 73 #[.slice An nn cn, .slice Af lf cf, .map mx, .map my, .slice Aq nq cq, .slice Ag lg cg, .map mu, .map mv, .map (some (w2.heap.size + 1))]
    simpa using this
  have HREL := Lib.hid (show IMap Try.prog 3 (((w2.alloc (.cells #[.slice Aq nq cq, .slice Ag lg cg, .map mu, .map mv] 69)).alloc (.map #[] 0)).alloc (.cells #[.slice An nn cn, .slice Af lf cf, .map mx, .map my, .slice Aq nq cq, .slice Ag lg cg, .map mu, .map mv, .map (some (w2.heap.size + 1))] 73)) (w2.heap.size + 1) 0 (flAt (fl.take 0)) ∧ Below w.heap.size w (((w2.alloc (.cells #[.slice Aq nq cq, .slice Ag lg cg, .map mu, .map mv] 69)).alloc (.map #[] 0)).alloc (.cells #[.slice An nn cn, .slice Af lf cf, .map mx, .map my, .slice Aq nq cq, .slice Ag lg cg, .map mu, .map mv, .map (some (w2.heap.size + 1))] 73)) ∧ Blk (((w2.alloc (.cells #[.slice Aq nq cq, .slice Ag lg cg, .map mu, .map mv] 69)).alloc (.map #[] 0)).alloc (.cells #[.slice An nn cn, .slice Af lf cf, .map mx, .map my, .slice Aq nq cq, .slice Ag lg cg, .map mu, .map mv, .map (some (w2.heap.size + 1))] 73)) (w.heap.size + 1) 26 #[.slice Aq nq cq, .slice Ag lg cg] ∧ Blk (((w2.alloc (.cells #[.slice Aq nq cq, .slice Ag lg cg, .map mu, .map mv] 69)).alloc (.map #[] 0)).alloc (.cells #[.slice An nn cn, .slice Af lf cf, .map mx, .map my, .slice Aq nq cq, .slice Ag lg cg, .map mu, .map mv, .map (some (w2.heap.size + 1))] 73)) (w.heap.size + 1 + 1) 73 #[.slice none 0 0, .slice none 0 0, .map none, .map none, .slice none 0 0, .slice none 0 0, .map none, .map none, .map none] ∧ Blk (((w2.alloc (.cells #[.slice Aq nq cq, .slice Ag lg cg, .map mu, .map mv] 69)).alloc (.map #[] 0)).alloc (.cells #[.slice An nn cn, .slice Af lf cf, .map mx, .map my, .slice Aq nq cq, .slice Ag lg cg, .map mu, .map mv, .map (some (w2.heap.size + 1))] 73)) (w2.heap.size + 1 + 1) 73 #[.slice An nn cn, .slice Af lf cf, .map mx, .map my, .slice Aq nq cq, .slice Ag lg cg, .map mu, .map mv, .map (some (w2.heap.size + 1))] ∧ (∀ f ∈ fl.take 0, -1 ≤ f ∧ f ≤ (lg : Int) - 1) from ⟨him.congr (fun z => flAt_none fl z), hbm, (HQ3.out.alloc _).alloc _, (HT3.out.alloc _).alloc _, hmg, fun f hf => by simp at hf⟩)
  have hsz7 : (((w2.alloc (.cells #[.slice Aq nq cq, .slice Ag lg cg, .map mu, .map mv] 69)).alloc (.map #[] 0)).alloc (.cells #[.slice An nn cn, .slice Af lf cf, .map mx, .map my, .slice Aq nq cq, .slice Ag lg cg, .map mu, .map mv, .map (some (w2.heap.size + 1))] 73)).heap.size = w2.heap.size + 1 + 1 + 1 := by simp
  clear hbm him hmg
  go_wp2
  clear m0 m1 m2 m3 u0 u1 u2 u3 p1
  go_loopw [13, 46] (fun _ iv wr => ∃ (k : Nat), k ≤ n4 ∧ iv = .int .i64 k ∧ Hid (IMap Try.prog 3 wr (w2.heap.size + 1) k (flAt (fl.take k)) ∧ Below w.heap.size w wr ∧ Blk wr (w.heap.size + 1) 26 #[.slice Aq nq cq, .slice Ag lg cg] ∧ Blk wr (w.heap.size + 1 + 1) 73 #[.slice none 0 0, .slice none 0 0, .map none, .map none, .slice none 0 0, .slice none 0 0, .map none, .map none, .map none] ∧ Blk wr (w2.heap.size + 1 + 1) 73 #[.slice An nn cn, .slice Af lf cf, .map mx, .map my, .slice Aq nq cq, .slice Ag lg cg, .map mu, .map mv, .map (some (w2.heap.size + 1))] ∧ (∀ f ∈ fl.take k, -1 ≤ f ∧ f ≤ (lg : Int) - 1)) ∧ w2.heap.size + 1 + 1 < wr.heap.size)
    (fun _ iv _ => n4 - (intOf iv).toNat)
  case atStart => exact ⟨0, by omega, rfl, HREL, by rw [hsz7]; omega⟩
  case round =>
    clear HREL hsz7 HB5 HP3 HQ3 HT3 HF3 HG3
    obtain ⟨k, hk, rfl, HR, hsz⟩ := hrel
    by_cases hkn : k < n4
    · obtain ⟨b4, o4, f, rfl, _, _, hgf, hcf⟩ := (h4.keep HR.out.2.1 hB4).one hkn
      have hkn1 : (k : Int) < (n4 : Int) := by omega
      have hkn0 : (0 : Int) ≤ (k : Int) := by omega
      have q1 := HR.out.2.2.1.cell 1
      simp only [List.getElem?_toArray, List.getElem?_cons_zero, List.getElem?_cons_succ] at q1
      by_cases hf1 : f < -1
      · have hfd : decide (f < -1) = true := decide_eq_true hf1
        have hmem := List.mem_of_getElem? hgf
        have hqz := HR.out.2.2.2.1
        have r0 := hqz.cell 0
        have r1 := hqz.cell 1
        have r2 := hqz.cell 2
        have r3 := hqz.cell 3
        have r4 := hqz.cell 4
        have r5 := hqz.cell 5
        have r6 := hqz.cell 6
        have r7 := hqz.cell 7
        have r8 := hqz.cell 8
        simp only [List.getElem?_toArray, List.getElem?_cons_zero, List.getElem?_cons_succ] at r0 r1 r2 r3 r4 r5 r6 r7 r8
        have s0 := hqz.soft 0
        have s1 := hqz.soft 1
        have s2 := hqz.soft 2
        have s3 := hqz.soft 3
        have s4 := hqz.soft 4
        have s5 := hqz.soft 5
        have s6 := hqz.soft 6
        have s7 := hqz.soft 7
        have s8 := hqz.soft 8
        obtain ⟨b0, b1, b2, b3, b4, b5, b6, b7, b8, HBZ⟩ := mig_store hqz HR.out.2.1 (by omega) (.slice none 0 0) (.slice none 0 0) (.map none) (.map none) (.slice none 0 0) (.slice none 0 0) (.map none) (.map none) (.map none)
        have HXX := Lib.hid (show (vProc ns fs && vProc nsq gs && vMap fs gs fl) = false by
          have : vMap fs gs fl = false := by
            rw [Bool.eq_false_iff]; intro h; have := (vMap_iff.1 h).2 f hmem; omega
          rw [this, Bool.and_false])
        clear hqz hgf hmem HR
        go_wp2
        refine bodyPost_ret (v := .tuple #[.agg #[.slice none 0 0, .slice none 0 0, .map none, .map none, .slice none 0 0, .slice none 0 0, .map none, .map none, .map none], .bool false]) ?_ rfl ?_
        · generalize (((((((((wr.setCell ⟨w.heap.size + 1 + 1, 0, none⟩ (.slice none 0 0)).setCell ⟨w.heap.size + 1 + 1, 1, none⟩ (.slice none 0 0)).setCell ⟨w.heap.size + 1 + 1, 2, none⟩ (.map none)).setCell ⟨w.heap.size + 1 + 1, 3, none⟩ (.map none)).setCell ⟨w.heap.size + 1 + 1, 4, none⟩ (.slice none 0 0)).setCell ⟨w.heap.size + 1 + 1, 5, none⟩ (.slice none 0 0)).setCell ⟨w.heap.size + 1 + 1, 6, none⟩ (.map none)).setCell ⟨w.heap.size + 1 + 1, 7, none⟩ (.map none)).setCell ⟨w.heap.size + 1 + 1, 8, none⟩ (.map none)) = wz at b0 b1 b2 b3 b4 b5 b6 b7 b8 ⊢
          simp [results, Try.results34, go_sem, b0, b1, b2, b3, b4, b5, b6, b7, b8]
        · exact .inl ⟨HXX.out, rfl, HBZ.out.1⟩
      have hfd : decide (f < -1) = false := decide_eq_false hf1
      by_cases hf2 : (lg : Int) ≤ f
      · have hfd2 : decide ((lg : Int) ≤ f) = true := decide_eq_true hf2
        have hmem := List.mem_of_getElem? hgf
        have hqz := HR.out.2.2.2.1
        have r0 := hqz.cell 0
        have r1 := hqz.cell 1
        have r2 := hqz.cell 2
        have r3 := hqz.cell 3
        have r4 := hqz.cell 4
        have r5 := hqz.cell 5
        have r6 := hqz.cell 6
        have r7 := hqz.cell 7
        have r8 := hqz.cell 8
        simp only [List.getElem?_toArray, List.getElem?_cons_zero, List.getElem?_cons_succ] at r0 r1 r2 r3 r4 r5 r6 r7 r8
        have s0 := hqz.soft 0
        have s1 := hqz.soft 1
        have s2 := hqz.soft 2
        have s3 := hqz.soft 3
        have s4 := hqz.soft 4
        have s5 := hqz.soft 5
        have s6 := hqz.soft 6
        have s7 := hqz.soft 7
        have s8 := hqz.soft 8
        obtain ⟨b0, b1, b2, b3, b4, b5, b6, b7, b8, HBZ⟩ := mig_store hqz HR.out.2.1 (by omega) (.slice none 0 0) (.slice none 0 0) (.map none) (.map none) (.slice none 0 0) (.slice none 0 0) (.map none) (.map none) (.map none)
        have HXX := Lib.hid (show (vProc ns fs && vProc nsq gs && vMap fs gs fl) = false by
          have : vMap fs gs fl = false := by
            rw [Bool.eq_false_iff]; intro h; have := (vMap_iff.1 h).2 f hmem; have := HG.out; omega
          rw [this, Bool.and_false])
        clear hqz hgf hmem HR
        go_wp2
        refine bodyPost_ret (v := .tuple #[.agg #[.slice none 0 0, .slice none 0 0, .map none, .map none, .slice none 0 0, .slice none 0 0, .map none, .map none, .map none], .bool false]) ?_ rfl ?_
        · generalize (((((((((wr.setCell ⟨w.heap.size + 1 + 1, 0, none⟩ (.slice none 0 0)).setCell ⟨w.heap.size + 1 + 1, 1, none⟩ (.slice none 0 0)).setCell ⟨w.heap.size + 1 + 1, 2, none⟩ (.map none)).setCell ⟨w.heap.size + 1 + 1, 3, none⟩ (.map none)).setCell ⟨w.heap.size + 1 + 1, 4, none⟩ (.slice none 0 0)).setCell ⟨w.heap.size + 1 + 1, 5, none⟩ (.slice none 0 0)).setCell ⟨w.heap.size + 1 + 1, 6, none⟩ (.map none)).setCell ⟨w.heap.size + 1 + 1, 7, none⟩ (.map none)).setCell ⟨w.heap.size + 1 + 1, 8, none⟩ (.map none)) = wz at b0 b1 b2 b3 b4 b5 b6 b7 b8 ⊢
          simp [results, Try.results34, go_sem, b0, b1, b2, b3, b4, b5, b6, b7, b8]
        · exact .inl ⟨HXX.out, rfl, HBZ.out.1⟩
      have hfd2 : decide ((lg : Int) ≤ f) = false := decide_eq_false hf2
      have HBD := Lib.hid (show ∀ g ∈ fl.take (k + 1), -1 ≤ g ∧ g ≤ (lg : Int) - 1 from fun g hg => by
        rw [take_snoc hgf] at hg
        rcases List.mem_append.1 hg with hg | hg
        · exact HR.out.2.2.2.2.2 g hg
        · rw [List.mem_singleton] at hg; omega)
      by_cases hfm : f = -1
      · have hfe : (f != -1) = false := by simp [hfm]
        have HY : Hid (IMap Try.prog 3 wr (w2.heap.size + 1) (k + 1) (flAt (fl.take (k + 1))) ∧ Below w.heap.size w wr ∧ Blk wr (w.heap.size + 1) 26 #[.slice Aq nq cq, .slice Ag lg cg] ∧ Blk wr (w.heap.size + 1 + 1) 73 #[.slice none 0 0, .slice none 0 0, .map none, .map none, .slice none 0 0, .slice none 0 0, .map none, .map none, .map none] ∧ Blk wr (w2.heap.size + 1 + 1) 73 #[.slice An nn cn, .slice Af lf cf, .map mx, .map my, .slice Aq nq cq, .slice Ag lg cg, .map mu, .map mv, .map (some (w2.heap.size + 1))] ∧ (∀ f ∈ fl.take (k + 1), -1 ≤ f ∧ f ≤ (lg : Int) - 1)) := ⟨(HR.out.1.mono (by omega)).congr (fun z => flAt_skip (by rw [← hfm]; exact hgf) z), HR.out.2.1, HR.out.2.2.1, HR.out.2.2.2.1, HR.out.2.2.2.2.1, HBD.out⟩
        clear HR HBD hgf hfm
        go_wp2
        go_roundw
        case rel => exact ⟨k + 1, by omega, by go_num, HY, hsz⟩
        case measure => simp [intOf]; omega
      · have hfe : (f != -1) = true := by simp [hfm]
        have m8 := HR.out.2.2.2.2.1.cell 8
        simp only [List.getElem?_toArray, List.getElem?_cons_zero, List.getElem?_cons_succ] at m8
        obtain ⟨w4, hrun, him4, hgr⟩ := HR.out.1.put keyedInt Try.underlying3 Try.underlying71 (by unfold maxLen; omega) (by unfold in64; omega : in64 (k : Int)) (.int .i64 f)
        have HY : Hid (IMap Try.prog 3 w4 (w2.heap.size + 1) (k + 1) (flAt (fl.take (k + 1))) ∧ Below w.heap.size w w4 ∧ Blk w4 (w.heap.size + 1) 26 #[.slice Aq nq cq, .slice Ag lg cg] ∧ Blk w4 (w.heap.size + 1 + 1) 73 #[.slice none 0 0, .slice none 0 0, .map none, .map none, .slice none 0 0, .slice none 0 0, .map none, .map none, .map none] ∧ Blk w4 (w2.heap.size + 1 + 1) 73 #[.slice An nn cn, .slice Af lf cf, .map mx, .map my, .slice Aq nq cq, .slice Ag lg cg, .map mu, .map mv, .map (some (w2.heap.size + 1))] ∧ (∀ f ∈ fl.take (k + 1), -1 ≤ f ∧ f ≤ (lg : Int) - 1)) := ⟨him4.congr (fun z => flAt_put hgf hfm z), HR.out.2.1.grown hgr HR.out.2.1.size (fun j hj => by injection hj with hj; omega), HR.out.2.2.1.grown hgr (by simp; omega), HR.out.2.2.2.1.grown hgr (by simp; omega), HR.out.2.2.2.2.1.grown hgr (by simp), HBD.out⟩
        have hsz4 := hgr.size
        clear HR HBD hgf hfm him4 hgr
        go_wp2
        go_roundw
        case rel => exact ⟨k + 1, by omega, by go_num, HY, by omega⟩
        case measure => simp [intOf]; omega
    · obtain rfl : k = n4 := by omega
      have hal : fl.take k = fl := List.take_of_length_le (by have := HL4.out; omega)
      rw [hal] at HR
      have HVM := Lib.hid (show vMap fs gs fl = true from vMap_iff.2 ⟨by have h1 := HL4.out; have h2 := HF.out; have := HNE.out; omega, fun f hf => by have := HR.out.2.2.2.2.2 f hf; have := HG.out; omega⟩)
      clear hal
      have m0 := HR.out.2.2.2.2.1.cell 0
      have m1 := HR.out.2.2.2.2.1.cell 1
      have m2 := HR.out.2.2.2.2.1.cell 2
      have m3 := HR.out.2.2.2.2.1.cell 3
      have m4 := HR.out.2.2.2.2.1.cell 4
      have m5 := HR.out.2.2.2.2.1.cell 5
      have m6 := HR.out.2.2.2.2.1.cell 6
      have m7 := HR.out.2.2.2.2.1.cell 7
      have m8 := HR.out.2.2.2.2.1.cell 8
      simp only [List.getElem?_toArray, List.getElem?_cons_zero, List.getElem?_cons_succ] at m0 m1 m2 m3 m4 m5 m6 m7 m8
      have hqz := HR.out.2.2.2.1
      have r0 := hqz.cell 0
      have r1 := hqz.cell 1
      have r2 := hqz.cell 2
      have r3 := hqz.cell 3
      have r4 := hqz.cell 4
      have r5 := hqz.cell 5
      have r6 := hqz.cell 6
      have r7 := hqz.cell 7
      have r8 := hqz.cell 8
      simp only [List.getElem?_toArray, List.getElem?_cons_zero, List.getElem?_cons_succ] at r0 r1 r2 r3 r4 r5 r6 r7 r8
      have s0 := hqz.soft 0
      have s1 := hqz.soft 1
      have s2 := hqz.soft 2
      have s3 := hqz.soft 3
      have s4 := hqz.soft 4
      have s5 := hqz.soft 5
      have s6 := hqz.soft 6
      have s7 := hqz.soft 7
      have s8 := hqz.soft 8
      obtain ⟨b0, b1, b2, b3, b4, b5, b6, b7, b8, HBZ⟩ := mig_store hqz HR.out.2.1 (by omega) (.slice An nn cn) (.slice Af lf cf) (.map mx) (.map my) (.slice Aq nq cq) (.slice Ag lg cg) (.map mu) (.map mv) (.map (some (w2.heap.size + 1)))
      have HIM := Lib.hid (HR.out.1.same (HBZ.out.2.2 _ (by omega)))
      have hle : w.heap.size ≤ w2.heap.size + 1 := by omega
      clear hqz HR
      go_wp2
      generalize (((((((((wr.setCell ⟨w.heap.size + 1 + 1, 0, none⟩ (.slice An nn cn)).setCell ⟨w.heap.size + 1 + 1, 1, none⟩ (.slice Af lf cf)).setCell ⟨w.heap.size + 1 + 1, 2, none⟩ (.map mx)).setCell ⟨w.heap.size + 1 + 1, 3, none⟩ (.map my)).setCell ⟨w.heap.size + 1 + 1, 4, none⟩ (.slice Aq nq cq)).setCell ⟨w.heap.size + 1 + 1, 5, none⟩ (.slice Ag lg cg)).setCell ⟨w.heap.size + 1 + 1, 6, none⟩ (.map mu)).setCell ⟨w.heap.size + 1 + 1, 7, none⟩ (.map mv)).setCell ⟨w.heap.size + 1 + 1, 8, none⟩ (.map (some (w2.heap.size + 1)))) = wz at *
      exact bodyPost_ret (v := .tuple #[.agg #[.slice An nn cn, .slice Af lf cf, .map mx, .map my, .slice Aq nq cq, .slice Ag lg cg, .map mu, .map mv, .map (some (w2.heap.size + 1))], .bool true]) (by simp [results, Try.results34, go_sem, b0, b1, b2, b3, b4, b5, b6, b7, b8]) rfl (.inr ⟨HV.out, HV2.out, HVM.out, _, _, _, _, _, _, rfl, HIM.out, by have := HL4.out; omega, hle, HBZ.out.1⟩)
end Go.Proofs.Ytmhbfdcikdhehaa
