/- Merged: TimI, TimJ, TimK, TimL, TimM, TimN, TimO. -/
import Derived.Test.YtknphikoikdcjaaGreatInstSA
import Derived.Test.YtknphikoikdcjaaGreatInstMathA
import Derived.Deep.RegionHeld3
/- How the program compares two timers: cmp.Compare, cmp.Or at int, compareTimers. -/
set_option linter.unusedSimpArgs false
set_option linter.unusedVariables false
namespace Go.Proofs.YtknphikoikdcjaaGreat
open Go.RowKit

/-- How two numbers compare. -/
def cmpI (x y : Int) : Int := if x < y then -1 else if y < x then 1 else 0
/-- How two timers compare. -/
def cmpT (a b : Tm) : Int := if cmpI a.2 b.2 = 0 then cmpI a.1 b.1 else cmpI a.2 b.2
theorem cmpT_lt (a b : Tm) : decide (cmpT a b < 0) = tlt a b := by
  rw [Bool.eq_iff_iff, decide_eq_true_iff, tlt_iff]
  unfold cmpT cmpI
  split <;> split at * <;> (try split at *) <;> (try split) <;> omega
/-- The first that is not 0. -/
def firstNZ : List Int → Int
  | [] => 0
  | x :: l => if x = 0 then firstNZ l else x
theorem firstNZ_hit {l : List Int} {k : Nat} {x : Int} (h : l[k]? = some x) (hx : x ≠ 0) : firstNZ (l.drop k) = x := by
  obtain ⟨hl, e⟩ := List.getElem?_eq_some_iff.1 h
  rw [List.drop_eq_getElem_cons hl, e, firstNZ, if_neg hx]
theorem firstNZ_miss {l : List Int} {k : Nat} {x : Int} (h : l[k]? = some x) (hx : x = 0) : firstNZ (l.drop k) = firstNZ (l.drop (k + 1)) := by
  obtain ⟨hl, e⟩ := List.getElem?_eq_some_iff.1 h
  rw [List.drop_eq_getElem_cons hl, e, firstNZ, if_pos hx]
theorem isNaN_any (x : Int) (w : World) : Calls Tryz.prog 193 #[.int .i64 x] w fun e w' => e = .returned (.bool false) ∧ w = w' := by
  have h : (x == x) = true := by simp
  go_enter Tryz.func193, Tryz.ntmps193
  go_wp2
  go_ret
  exact ⟨ret_bool (by simp), rfl⟩
theorem Compare_any (x y : Int) (w : World) : Calls Tryz.prog 169 #[.int .i64 x, .int .i64 y] w fun e w' => e = .returned (.int .i64 (cmpI x y)) ∧ w = w' := by
  by_cases h1 : x < y
  · have hr : cmpI x y = -1 := if_pos h1
    rw [hr]; clear hr
    go_enter Tryz.func169, Tryz.ntmps169
    go_wp2_with (go_at_call 193; refine (isNaN_any _ _).mono ?_; rintro e w' ⟨rfl, rfl⟩)
    go_ret
    exact ⟨rfl, rfl⟩
  · by_cases h2 : y < x
    · have hr : cmpI x y = 1 := by rw [cmpI, if_neg h1, if_pos h2]
      rw [hr]; clear hr
      go_enter Tryz.func169, Tryz.ntmps169
      go_wp2_with (go_at_call 193; refine (isNaN_any _ _).mono ?_; rintro e w' ⟨rfl, rfl⟩)
      go_ret
      exact ⟨rfl, rfl⟩
    · have hr : cmpI x y = 0 := by rw [cmpI, if_neg h1, if_neg h2]
      rw [hr]; clear hr
      go_enter Tryz.func169, Tryz.ntmps169
      go_wp2_with (go_at_call 193; refine (isNaN_any _ _).mono ?_; rintro e w' ⟨rfl, rfl⟩)
      go_ret
      exact ⟨rfl, rfl⟩
set_option maxHeartbeats 400000 in
theorem Or_any (lo hi n c : Nat) (A : Option Addr) (xs : List Int) (w : World) (hr : Rd w lo hi 1 A n (ivs xs)) (hn : n ≤ 1048576) :
    Calls Tryz.prog 168 #[.slice A n c] w fun e w' => e = .returned (.int .i64 (firstNZ xs)) ∧ w = w' := by
  have HL := Lib.hid hr.len1
  go_enter Tryz.func168, Tryz.ntmps168
  go_wp2
  go_loop [8] (fun iv => ∃ (k : Nat), k ≤ n ∧ iv = .int .i64 k ∧ Hid (firstNZ xs = firstNZ (xs.drop k)))
     (fun iv => n - (intOf iv).toNat)
  case atStart => exact ⟨0, by omega, rfl, rfl⟩
  case round =>
    obtain ⟨k, hk, rfl, hS⟩ := hrel
    by_cases hlt : k < n
    · obtain ⟨b, off, x, rfl, _, _, hg, hc0⟩ := hr.one hlt
      by_cases hx : x = 0
      · have HS := Lib.hid (hS.out.trans (firstNZ_miss hg hx))
        subst hx
        clear hg
        go_wp2
        go_round
        case rel => exact ⟨k + 1, by omega, by go_num, HS⟩
        case measure => simp [intOf]; omega
      · have HS := Lib.hid (hS.out.trans (firstNZ_hit hg hx))
        have hx1 : (x == 0) = false := by simpa using hx
        clear hg hx
        go_wp2
        go_ret
        exact ⟨by rw [HS.out]; rfl, rfl⟩
    · obtain rfl : k = n := by omega
      go_wp2
      go_ret
      exact ⟨by rw [hS.out, List.drop_of_length_le (by rw [HL.out]; omega)]; rfl, rfl⟩


/- The program's compareTimers. -/
end Go.Proofs.YtknphikoikdcjaaGreat
namespace Go.Proofs.YtknphikoikdcjaaGreat
open Go.RowKit

theorem rd_of_blkT {w : World} {g size n : Nat} {t : TypeId} {cs : Array Value} (h : Blk w g t cs) (hn : cs.size = n * size) : Rd w g (g + 1) size (some ⟨g, 0, none⟩) n cs.toList :=
  ⟨by simpa using hn, fun _ => ⟨g, 0, rfl, Nat.le_refl _, Nat.lt_succ_self _, fun j u hu => by rw [Nat.zero_add, h.cell]; simpa using hu⟩⟩

theorem firstNZ_two (x y : Int) : firstNZ [x, y] = if x = 0 then y else x := by
  unfold firstNZ
  split
  · unfold firstNZ
    split
    · rename_i h; rw [h]; rfl
    · rfl
  · rfl
theorem Or_two (g : Nat) (x y : Int) (w : World) (hg : g = w.heap.size) :
    Calls Tryz.prog 168 #[.slice (some ⟨g, 0, none⟩) 2 2] (w.alloc (.cells #[.int .i64 x, .int .i64 y] 3)) fun e w' => e = .returned (.int .i64 (firstNZ [x, y])) ∧ w' = w.alloc (.cells #[.int .i64 x, .int .i64 y] 3) := by
  subst hg
  have hb := Blk.new w 3 #[.int .i64 x, .int .i64 y]
  refine (Or_any w.heap.size (w.heap.size + 1) 2 2 _ [x, y] _ (by have := rd_of_blkT hb (n := 2) (size := 1) rfl; simpa [ivs] using this) (by omega)).mono ?_
  rintro e w' ⟨rfl, rfl⟩
  exact ⟨rfl, rfl⟩
theorem Or_drew (g : Nat) (x y : Int) (w : World) (hg : g = w.heap.size) :
    Calls Tryz.prog 168 #[.slice (some ⟨g, 0, none⟩) 2 2] (w.alloc (.cells #[.int .i64 x, .int .i64 y] 3)).drew fun e w' => e = .returned (.int .i64 (firstNZ [x, y])) ∧ w' = (w.alloc (.cells #[.int .i64 x, .int .i64 y] 3)).drew := by
  subst hg
  have hb : Blk (w.alloc (.cells #[.int .i64 x, .int .i64 y] 3)).drew w.heap.size 3 #[.int .i64 x, .int .i64 y] := Blk.new w 3 #[.int .i64 x, .int .i64 y]
  refine (Or_any w.heap.size (w.heap.size + 1) 2 2 _ [x, y] _ (by have := rd_of_blkT hb (n := 2) (size := 1) rfl; simpa [ivs] using this) (by omega)).mono ?_
  rintro e w' ⟨rfl, rfl⟩
  exact ⟨rfl, rfl⟩
set_option maxHeartbeats 1600000 in
theorem compareTimers_any (x y u v : Int) (w : World) :
    Calls Tryz.prog 135 #[.agg #[.int .i64 x, .int .i64 y], .agg #[.int .i64 u, .int .i64 v]] w fun e w' => e = .returned (.int .i64 (cmpT (x, y) (u, v))) ∧ Below w.heap.size w w' := by
  have hb1 := up_alloc (up_alloc (Below.refl _ w) (.cells #[.int .i64 x, .int .i64 y] 96)) (.cells #[.int .i64 u, .int .i64 v] 96)
  have hp1 := (Blk.new w 96 #[.int .i64 x, .int .i64 y]).alloc (.cells #[.int .i64 u, .int .i64 v] 96)
  have hq1 : Blk ((w.alloc (.cells #[.int .i64 x, .int .i64 y] 96)).alloc (.cells #[.int .i64 u, .int .i64 v] 96)) (w.heap.size + 1) 96 #[.int .i64 u, .int .i64 v] := by
    simpa using Blk.new (w.alloc (.cells #[.int .i64 x, .int .i64 y] 96)) 96 #[.int .i64 u, .int .i64 v]
  have hpl : w.heap.size < ((w.alloc (.cells #[.int .i64 x, .int .i64 y] 96)).alloc (.cells #[.int .i64 u, .int .i64 v] 96)).heap.size := by simp; omega
  have hql : w.heap.size + 1 < ((w.alloc (.cells #[.int .i64 x, .int .i64 y] 96)).alloc (.cells #[.int .i64 u, .int .i64 v] 96)).heap.size := by simp
  generalize hw2 : (w.alloc (.cells #[.int .i64 x, .int .i64 y] 96)).alloc (.cells #[.int .i64 u, .int .i64 v] 96) = w2 at *
  have HSW : Hid (∀ wx : World, Below w2.heap.size w2 wx → wx.cell? ⟨w.heap.size, 0, none⟩ = some (.int .i64 x) ∧ wx.cell? ⟨w.heap.size, 1, none⟩ = some (.int .i64 y) ∧ wx.cell? ⟨w.heap.size + 1, 0, none⟩ = some (.int .i64 u) ∧ wx.cell? ⟨w.heap.size + 1, 1, none⟩ = some (.int .i64 v)) := fun wx hbx => ⟨(hp1.below hbx hpl).cell 0, (hp1.below hbx hpl).cell 1, (hq1.below hbx hql).cell 0, (hq1.below hbx hql).cell 1⟩
  have HB := Lib.hid hb1
  have HW := Lib.hid hw2
  clear hb1 hp1 hq1 hpl hql hw2
  have HX := Lib.hid (show cmpT (x, y) (u, v) = firstNZ [cmpI y v, cmpI x u] from (firstNZ_two _ _).symm)
  generalize cmpT (x, y) (u, v) = r at *
  go_enter Tryz.func135, Tryz.ntmps135
  rw [HX.out]
  have hw2 := HW.out
  go_wp2_with (fail)
  subst hw2
  have HG1 := Lib.hid (show w.heap.size + 1 + 1 = ((w.alloc (.cells #[.int .i64 x, .int .i64 y] 96)).alloc (.cells #[.int .i64 u, .int .i64 v] 96)).heap.size by simp)
  have HG2 := Lib.hid (show w.heap.size + 1 + 1 = ((w.alloc (.cells #[.int .i64 x, .int .i64 y] 96)).alloc (.cells #[.int .i64 u, .int .i64 v] 96)).drew.heap.size by simp [World.drew])
  go_region_held3 (fun w' => w'.cell? ⟨w.heap.size, 0, none⟩ = some (.int .i64 x) ∧ w'.cell? ⟨w.heap.size, 1, none⟩ = some (.int .i64 y) ∧ w'.cell? ⟨w.heap.size + 1, 0, none⟩ = some (.int .i64 u) ∧ w'.cell? ⟨w.heap.size + 1, 1, none⟩ = some (.int .i64 v))
    (first | exact HSW.out _ (Below.refl _ _) | exact HSW.out _ (up_drew (Below.refl _ _)) | exact HSW.out _ (up_alloc (Below.refl _ _) _) | exact HSW.out _ (up_alloc (up_drew (Below.refl _ _)) _))
    ((first
      | (go_at_call 169; (with_reducible refine (Compare_any _ _ _).mono ?_); rintro e w' ⟨rfl, rfl⟩)
      | (go_at_call 168; (with_reducible refine (Or_drew (w.heap.size + 1 + 1) _ _ _ HG1.out).mono ?_); rintro e w' ⟨rfl, rfl⟩)
      | (go_at_call 168; (with_reducible refine (Or_two (w.heap.size + 1 + 1) _ _ _ HG2.out).mono ?_); rintro e w' ⟨rfl, rfl⟩)
      | (go_at_call 168; (with_reducible refine (Or_two (w.heap.size + 1 + 1) _ _ _ HG1.out).mono ?_); rintro e w' ⟨rfl, rfl⟩)))
  all_goals
    go_wp2
    go_ret
    first
      | exact ⟨rfl, up_drew (up_alloc HB.out _)⟩
      | exact ⟨rfl, up_alloc HB.out _⟩
      | exact ⟨rfl, up_alloc (up_drew HB.out) _⟩


/- The heap's own methods: Len, Less. -/
end Go.Proofs.YtknphikoikdcjaaGreat
namespace Go.Proofs.YtknphikoikdcjaaGreat
open Go.RowKit

theorem HeapLen_any (A : Option Addr) (n c : Nat) (w : World) : Calls Tryz.prog 234 #[.slice A n c] w fun e w' => e = .returned (.int .i64 (n : Int)) ∧ w = w' := by
  go_enter Tryz.func234, Tryz.ntmps234
  go_wp2
  go_ret
  exact ⟨rfl, rfl⟩
set_option maxHeartbeats 1600000 in
theorem HeapLess_any (lo hi n c : Nat) (A : Option Addr) (ts : List Tm) (w : World) (hr : Rd w lo hi 2 A n (pvs ts)) (hB : hi ≤ w.heap.size) (hn : n ≤ 1048576) (i j : Nat) (hin : i < n) (hjn : j < n) :
    Calls Tryz.prog 235 #[.slice A n c, .int .i64 (i : Int), .int .i64 (j : Int)] w fun e w' => e = .returned (.bool (tlt (tmv ts i) (tmv ts j))) ∧ Below w.heap.size w w' := by
  obtain ⟨b, off, x, y, rfl, hbl, hbh, hg, hc0, hc1⟩ := hr.pair hin
  obtain ⟨b2, off2, u, v, e, _, _, hg2, hd0, hd1⟩ := hr.pair hjn
  cases e
  have hi0 : (0 : Int) ≤ (i : Int) := by omega
  have hj0 : (0 : Int) ≤ (j : Int) := by omega
  have hil : (i : Int) < (n : Int) := by omega
  have hjl : (j : Int) < (n : Int) := by omega
  have hbw : b < w.heap.size := by omega
  have HX := Lib.hid (show decide (cmpT (x, y) (u, v) < 0) = tlt (tmv ts i) (tmv ts j) by rw [cmpT_lt, tmv_is hg, tmv_is hg2])
  have HSW : Hid (∀ wx : World, Below w.heap.size w wx → wx.cell? ⟨b, off + i * 2, none⟩ = some (.int .i64 x) ∧ wx.cell? ⟨b, off + i * 2 + 1, none⟩ = some (.int .i64 y) ∧ wx.cell? ⟨b, off + j * 2, none⟩ = some (.int .i64 u) ∧ wx.cell? ⟨b, off + j * 2 + 1, none⟩ = some (.int .i64 v)) := fun wx hbx => ⟨(hbx.cell (p := ⟨b, off + i * 2, none⟩) hbw).trans hc0, (hbx.cell (p := ⟨b, off + i * 2 + 1, none⟩) hbw).trans hc1, (hbx.cell (p := ⟨b, off + j * 2, none⟩) hbw).trans hd0, (hbx.cell (p := ⟨b, off + j * 2 + 1, none⟩) hbw).trans hd1⟩
  have HC : Hid (∀ wx : World, Calls Tryz.prog 135 #[.agg #[.int .i64 x, .int .i64 y], .agg #[.int .i64 u, .int .i64 v]] wx fun e w' => e = .returned (.int .i64 (cmpT (x, y) (u, v))) ∧ Below wx.heap.size wx w') := fun wx => compareTimers_any x y u v wx
  generalize cmpT (x, y) (u, v) = r at *
  clear hg hg2 hc0 hc1 hd0 hd1 hr
  go_enter Tryz.func235, Tryz.ntmps235
  rw [← HX.out]
  go_wp2_with (fail)
  go_region_held3 (fun w' => w'.cell? ⟨b, off + i * 2, none⟩ = some (.int .i64 x) ∧ w'.cell? ⟨b, off + i * 2 + 1, none⟩ = some (.int .i64 y) ∧ w'.cell? ⟨b, off + j * 2, none⟩ = some (.int .i64 u) ∧ w'.cell? ⟨b, off + j * 2 + 1, none⟩ = some (.int .i64 v))
    (first | exact HSW.out _ (Below.refl _ _) | exact HSW.out _ (up_drew (Below.refl _ _)) | exact HSW.out _ HX7.out)
    ((first
      | (go_at_call 135; (with_reducible refine (HC.out _).mono ?_); rintro e w7 ⟨rfl, hb7⟩; have HX7 := Lib.hid (up (up_drew (Below.refl _ w)) hb7))))
  all_goals
    go_wp2
    go_ret
    exact ⟨rfl, HX7.out⟩


/- The heap's Swap: what two stores leave of a row. -/
end Go.Proofs.YtknphikoikdcjaaGreat
namespace Go.Proofs.YtknphikoikdcjaaGreat
open Go.RowKit

theorem pvs_set2 : ∀ (ts : List Tm) (k : Nat) (x y : Int), ((pvs ts).set (k * 2) (.int .i64 x)).set (k * 2 + 1) (.int .i64 y) = pvs (ts.set k (x, y))
  | [], k, x, y => by simp [pvs]
  | (a, b) :: ts, 0, x, y => by simp [pvs, pv]
  | (a, b) :: ts, k + 1, x, y => by
    have := pvs_set2 ts k x y
    rw [show (k + 1) * 2 = k * 2 + 1 + 1 by omega]
    simp only [pvs, List.flatMap_cons, pv, List.cons_append, List.nil_append, List.set_cons_succ] at this ⊢
    rw [this]
/-- A timer stored into a row of the call's own. -/
theorem own_putT {w : World} {base : Nat} {e : TypeId} {g n c : Nat} {ts : List Tm} (h : w.ownsRow base e 2 (.slice (some ⟨g, 0, none⟩) n c) n (pvs ts)) (k : Nat) (x y : Int) :
    ((w.setCell ⟨g, k * 2, none⟩ (.int .i64 x)).setCell ⟨g, k * 2 + 1, none⟩ (.int .i64 y)).ownsRow base e 2 (.slice (some ⟨g, 0, none⟩) n c) n (pvs (ts.set k (x, y)))
      ∧ w.grownBy ((w.setCell ⟨g, k * 2, none⟩ (.int .i64 x)).setCell ⟨g, k * 2 + 1, none⟩ (.int .i64 y)) (some g) := by
  obtain ⟨h1, g1⟩ := h.stored (k * 2) (.int .i64 x)
  obtain ⟨h2, g2⟩ := h1.stored (k * 2 + 1) (.int .i64 y)
  rw [pvs_set2] at h2
  exact ⟨h2, g1.trans g2⟩
theorem swapL_comm {ts : List Tm} {i j : Nat} : (ts.set j (tmv ts i)).set i (tmv ts j) = swapL ts i j := by
  unfold swapL
  by_cases e : i = j
  · subst e; rfl
  · exact List.set_comm _ _ (fun h => e h.symm)
/-- Both timers stored, in either order. -/
theorem own_swapT {w : World} {base : Nat} {e : TypeId} {g n c : Nat} {ts : List Tm} (h : w.ownsRow base e 2 (.slice (some ⟨g, 0, none⟩) n c) n (pvs ts)) {i j : Nat} {x y u v : Int} (hi : ts[i]? = some (x, y)) (hj : ts[j]? = some (u, v)) :
    let wa := ((((w.setCell ⟨g, i * 2, none⟩ (.int .i64 u)).setCell ⟨g, i * 2 + 1, none⟩ (.int .i64 v)).setCell ⟨g, j * 2, none⟩ (.int .i64 x)).setCell ⟨g, j * 2 + 1, none⟩ (.int .i64 y))
    let wb := ((((w.setCell ⟨g, j * 2, none⟩ (.int .i64 x)).setCell ⟨g, j * 2 + 1, none⟩ (.int .i64 y)).setCell ⟨g, i * 2, none⟩ (.int .i64 u)).setCell ⟨g, i * 2 + 1, none⟩ (.int .i64 v))
    (wa.ownsRow base e 2 (.slice (some ⟨g, 0, none⟩) n c) n (pvs (swapL ts i j)) ∧ w.grownBy wa (some g)) ∧ (wb.ownsRow base e 2 (.slice (some ⟨g, 0, none⟩) n c) n (pvs (swapL ts i j)) ∧ w.grownBy wb (some g)) := by
  intro wa wb
  have e1 := tmv_is hi
  have e2 := tmv_is hj
  refine ⟨?_, ?_⟩
  · obtain ⟨h1, g1⟩ := own_putT h i u v
    obtain ⟨h2, g2⟩ := own_putT h1 j x y
    rw [← e2, ← e1] at h2
    exact ⟨h2, g1.trans g2⟩
  · obtain ⟨h1, g1⟩ := own_putT h j x y
    obtain ⟨h2, g2⟩ := own_putT h1 i u v
    rw [← e2, ← e1, swapL_comm] at h2
    exact ⟨h2, g1.trans g2⟩
set_option maxHeartbeats 1600000 in
theorem HeapSwap_any (base g n c : Nat) (ts : List Tm) (w : World) (h : w.ownsRow base 96 2 (.slice (some ⟨g, 0, none⟩) n c) n (pvs ts)) (hn : n ≤ 1048576) (i j : Nat) (hin : i < n) (hjn : j < n) :
    Calls Tryz.prog 236 #[.slice (some ⟨g, 0, none⟩) n c, .int .i64 (i : Int), .int .i64 (j : Int)] w fun e w' => e = .returned (.tuple #[]) ∧ w'.ownsRow base 96 2 (.slice (some ⟨g, 0, none⟩) n c) n (pvs (swapL ts i j)) ∧ w.grownBy w' (some g) := by
  have hr := Rd.of_own h
  obtain ⟨b, off, x, y, e, hbl, hbh, hg, hc0, hc1⟩ := hr.pair hin
  cases e
  obtain ⟨b2, off2, u, v, e, _, _, hg2, hd0, hd1⟩ := hr.pair hjn
  cases e
  have HS := Lib.hid (own_swapT h hg hg2)
  have hi0 : (0 : Int) ≤ (i : Int) := by omega
  have hj0 : (0 : Int) ≤ (j : Int) := by omega
  have hil : (i : Int) < (n : Int) := by omega
  have hjl : (j : Int) < (n : Int) := by omega
  have f0 := h.frozenAt (i * 2)
  have f1 := h.frozenAt (i * 2 + 1)
  have f2 := h.frozenAt (j * 2)
  have f3 := h.frozenAt (j * 2 + 1)
  simp only [Nat.zero_add] at hc0 hc1 hd0 hd1
  obtain ⟨z0, q0⟩ := cell?_setCell_some (p := ⟨g, i * 2, none⟩) (x := .int .i64 u) hd0
  obtain ⟨y1, r1⟩ := cell?_setCell_some (p := ⟨g, i * 2, none⟩) (x := .int .i64 u) hd1
  obtain ⟨z1, q1⟩ := cell?_setCell_some (p := ⟨g, i * 2 + 1, none⟩) (x := .int .i64 v) r1
  obtain ⟨z2, q2⟩ := cell?_setCell_some (p := ⟨g, j * 2, none⟩) (x := .int .i64 x) hc0
  obtain ⟨y3, r3⟩ := cell?_setCell_some (p := ⟨g, j * 2, none⟩) (x := .int .i64 x) hc1
  obtain ⟨z3, q3⟩ := cell?_setCell_some (p := ⟨g, j * 2 + 1, none⟩) (x := .int .i64 y) r3
  clear hg hg2 hr h r1 r3
  go_enter Tryz.func236, Tryz.ntmps236
  go_wp2_with (fail)
  go_region
  all_goals
    go_wp2
    refine bodyPost_end (v := .tuple #[]) ?_ rfl ?_
    · simp [results, Tryz.results236, go_sem]
    first
      | exact ⟨rfl, HS.out.1.1, ⟨HS.out.1.2.os, HS.out.1.2.tape, HS.out.1.2.output, HS.out.1.2.size, HS.out.1.2.block⟩⟩
      | exact ⟨rfl, HS.out.2.1, ⟨HS.out.2.2.os, HS.out.2.2.tape, HS.out.2.2.output, HS.out.2.2.size, HS.out.2.2.block⟩⟩
      | exact ⟨rfl, HS.out.1.1, HS.out.1.2⟩


/- The heap's Pop. -/
end Go.Proofs.YtknphikoikdcjaaGreat
namespace Go.Proofs.YtknphikoikdcjaaGreat
open Go.RowKit

set_option maxHeartbeats 1600000 in
theorem HeapPop_any (p po g n c : Nat) (x y : Int) (w : World) (hp : w.cell? ⟨p, po, none⟩ = some (.slice (some ⟨g, 0, none⟩) (n + 1) c)) (hf : w.frozen? ⟨p, po, none⟩ = false) (hpl : p < w.heap.size) (hgl : g < w.heap.size) (hc0 : w.cell? ⟨g, n * 2, none⟩ = some (.int .i64 x)) (hc1 : w.cell? ⟨g, n * 2 + 1, none⟩ = some (.int .i64 y)) (hn : n ≤ 1048576) (hnc : n + 1 ≤ c) :
    Calls Tryz.prog 237 #[.pointer (some ⟨p, po, none⟩)] w fun e w' => e = .returned (.iface 96 (.agg #[.int .i64 x, .int .i64 y])) ∧ w' = (w.setCell ⟨p, po, none⟩ (.slice (some ⟨g, 0, none⟩) n c)).alloc (.cells #[.int .i64 x, .int .i64 y] 96) := by
  have hb := up_alloc (Below.refl _ w) (.cells #[.int .i64 x, .int .i64 y] 96)
  have hbk := Blk.new w 96 #[.int .i64 x, .int .i64 y]
  have hp1 := (hb.cell (p := ⟨p, po, none⟩) hpl).trans hp
  have hf1 : (w.alloc (.cells #[.int .i64 x, .int .i64 y] 96)).frozen? ⟨p, po, none⟩ = false := (World.frozen?_of_block (hb.block p hpl)).trans hf
  have hcn : ((n : Int) + 1) - 1 = (n : Int) := by omega
  have h0 : (0 : Int) ≤ (n : Int) := by omega
  have h1 : (n : Int) < (n : Int) + 1 := by omega
  have h2 : (n : Int) ≤ (c : Int) := by omega
  go_enter Tryz.func237, Tryz.ntmps237
  go_wp2
  go_ret
  exact ⟨rfl, rfl⟩


/- The heap's methods met through the interface. -/
end Go.Proofs.YtknphikoikdcjaaGreat
namespace Go.Proofs.YtknphikoikdcjaaGreat
open Go.RowKit

theorem mth_Pop (p po : Nat) (fuel : Nat) (w : World) : (method (fuel + 1) 220 (.pointer (some ⟨p, po, none⟩)) "Pop").run Tryz.prog w = .ok (237, .pointer (some ⟨p, po, none⟩)) w := by kernel_rfl
theorem mth_Push (p po : Nat) (fuel : Nat) (w : World) : (method (fuel + 1) 220 (.pointer (some ⟨p, po, none⟩)) "Push").run Tryz.prog w = .ok (238, .pointer (some ⟨p, po, none⟩)) w := by kernel_rfl
theorem nil_Pop (p po : Nat) (fuel : Nat) (w : World) : (nilAhead (fuel + 1) 220 (.pointer (some ⟨p, po, none⟩)) "Pop").run Tryz.prog w = .ok (some false) w := by kernel_rfl
theorem mth_Len (p po : Nat) (v : Value) (fuel : Nat) (w : World) (h : w.cell? ⟨p, po, none⟩ = some v) : (method (fuel + 1) 220 (.pointer (some ⟨p, po, none⟩)) "Len").run Tryz.prog w = .ok (234, v) w := by
  have hk : (Builtin.ssaWrapNilChk_ #[220] 220 #[.pointer (some ⟨p, po, none⟩), strVal "", strVal (("Len".splitOn ".").getLast?.getD "Len")]).run Tryz.prog w = .ok (.pointer (some ⟨p, po, none⟩)) w := by kernel_rfl
  unfold method
  simp [go_sem, h, Tryz.t220, receiverAt, follow, Place.get, hk]
theorem mth_Less (p po : Nat) (v : Value) (fuel : Nat) (w : World) (h : w.cell? ⟨p, po, none⟩ = some v) : (method (fuel + 1) 220 (.pointer (some ⟨p, po, none⟩)) "Less").run Tryz.prog w = .ok (235, v) w := by
  have hk : (Builtin.ssaWrapNilChk_ #[220] 220 #[.pointer (some ⟨p, po, none⟩), strVal "", strVal (("Less".splitOn ".").getLast?.getD "Less")]).run Tryz.prog w = .ok (.pointer (some ⟨p, po, none⟩)) w := by kernel_rfl
  unfold method
  simp [go_sem, h, Tryz.t220, receiverAt, follow, Place.get, hk]
theorem mth_Swap (p po : Nat) (v : Value) (fuel : Nat) (w : World) (h : w.cell? ⟨p, po, none⟩ = some v) : (method (fuel + 1) 220 (.pointer (some ⟨p, po, none⟩)) "Swap").run Tryz.prog w = .ok (236, v) w := by
  have hk : (Builtin.ssaWrapNilChk_ #[220] 220 #[.pointer (some ⟨p, po, none⟩), strVal "", strVal (("Swap".splitOn ".").getLast?.getD "Swap")]).run Tryz.prog w = .ok (.pointer (some ⟨p, po, none⟩)) w := by kernel_rfl
  unfold method
  simp [go_sem, h, Tryz.t220, receiverAt, follow, Place.get, hk]
theorem nil_Push (p po : Nat) (fuel : Nat) (w : World) : (nilAhead (fuel + 1) 220 (.pointer (some ⟨p, po, none⟩)) "Push").run Tryz.prog w = .ok (some false) w := by kernel_rfl
theorem cal_Len (a : Value) (w : World) : (callFunc 234 #[a]).run Tryz.prog w = .ok (.enter 234 #[a]) w := by kernel_rfl
theorem cal_Less (a b c : Value) (w : World) : (callFunc 235 #[a, b, c]).run Tryz.prog w = .ok (.enter 235 #[a, b, c]) w := by kernel_rfl
theorem cal_Swap (a b c : Value) (w : World) : (callFunc 236 #[a, b, c]).run Tryz.prog w = .ok (.enter 236 #[a, b, c]) w := by kernel_rfl
theorem cal_Pop (a : Value) (w : World) : (callFunc 237 #[a]).run Tryz.prog w = .ok (.enter 237 #[a]) w := by kernel_rfl
theorem cal_Push (a b : Value) (w : World) : (callFunc 238 #[a, b]).run Tryz.prog w = .ok (.enter 238 #[a, b]) w := by kernel_rfl
theorem nil_Len (p po : Nat) (fuel : Nat) (w : World) : (nilAhead (fuel + 1) 220 (.pointer (some ⟨p, po, none⟩)) "Len").run Tryz.prog w = .ok (some false) w := by kernel_rfl
theorem nil_Less (p po : Nat) (fuel : Nat) (w : World) : (nilAhead (fuel + 1) 220 (.pointer (some ⟨p, po, none⟩)) "Less").run Tryz.prog w = .ok (some false) w := by kernel_rfl
theorem nil_Swap (p po : Nat) (fuel : Nat) (w : World) : (nilAhead (fuel + 1) 220 (.pointer (some ⟨p, po, none⟩)) "Swap").run Tryz.prog w = .ok (some false) w := by kernel_rfl


/- container/heap's up at the timers. -/
end Go.Proofs.YtknphikoikdcjaaGreat
namespace Go.Proofs.YtknphikoikdcjaaGreat
open Go.RowKit

/-- A heap of timers behind a pointer: block p holds the slice, its row stands in block g. -/
structure HpM (w : World) (p po base g n c : Nat) (ts : List Tm) : Prop where
  cell : w.cell? ⟨p, po, none⟩ = some (.slice (some ⟨g, 0, none⟩) n c)
  soft : w.frozen? ⟨p, po, none⟩ = false
  own : w.ownsRow base 96 2 (.slice (some ⟨g, 0, none⟩) n c) n (pvs ts)
  ne : p ≠ g
  pl : p < w.heap.size
theorem HpM.len {w : World} {p po base g n c : Nat} {ts : List Tm} (h : HpM w p po base g n c ts) : ts.length = n := (Rd.of_own h.own).len2
theorem HpM.below {w w' : World} {p po base g n c : Nat} {ts : List Tm} (h : HpM w p po base g n c ts) (hb : Below w.heap.size w w') : HpM w' p po base g n c ts :=
  ⟨(hb.cell (p := ⟨p, po, none⟩) h.pl).trans h.cell, (World.frozen?_of_block (hb.block p h.pl)).trans h.soft, own_keep h.own hb, h.ne, Nat.lt_of_lt_of_le h.pl hb.size⟩
theorem HpM.swap {w w' : World} {p po base g n c : Nat} {ts us : List Tm} (h : HpM w p po base g n c ts) (ho : w'.ownsRow base 96 2 (.slice (some ⟨g, 0, none⟩) n c) n (pvs us)) (hg : w.grownBy w' (some g)) : HpM w' p po base g n c us :=
  ⟨(World.cell?_of_block (w := w) (a := ⟨p, po, none⟩) (hg.block p h.pl (fun e => h.ne (by injection e)))).trans h.cell, (World.frozen?_of_block (w := w) (a := ⟨p, po, none⟩) (hg.block p h.pl (fun e => h.ne (by injection e)))).trans h.soft, ho, h.ne, Nat.lt_of_lt_of_le h.pl hg.size⟩
theorem HpM.gb {w : World} {p po base g n c : Nat} {ts : List Tm} (h : HpM w p po base g n c ts) : base ≤ g ∧ g < w.heap.size := by
  have := h.own.lt g (by simp [Value.ownBlock])
  exact this
set_option maxRecDepth 100000 in
set_option maxHeartbeats 3200000 in
theorem heapUpG_any (p po base g n c : Nat) (ts : List Tm) (j : Nat) (w : World) (h : HpM w p po base g n c ts) (hn : n ≤ 1048576) (hU : UpInv ts j) :
    Calls Tryz.prog 199 #[.iface 220 (.pointer (some ⟨p, po, none⟩)), .int .i64 (j : Int)] w fun e w' => e = .returned (.tuple #[]) ∧ ∃ us, us.Perm ts ∧ HeapN us us.length ∧ HpM w' p po base g n c us ∧ w.grownBy w' (some g) := by
  have HH := Lib.hid h
  have HU := Lib.hid hU
  have hj : j < n := by have := hU.1; have := h.len; omega
  clear h hU
  go_enter Tryz.func199, Tryz.ntmps199
  go_wp2_with (fail)
  go_loopw [1, 4] (fun jv _ wr => ∃ (k : Nat) (us : List Tm), jv = .int .i64 k ∧ k < n ∧ Hid (UpInv us k) ∧ Hid (us.Perm ts) ∧ Hid (HpM wr p po base g n c us) ∧ Hid (w.grownBy wr (some g)))
     (fun jv _ _ => (intOf jv).toNat)
  case atStart => exact ⟨j, ts, rfl, hj, HU.out, List.Perm.refl _, HH.out, ⟨rfl, rfl, rfl, Nat.le_refl _, fun _ _ _ => rfl⟩⟩
  case round =>
    clear HH HU
    obtain ⟨k, us, rfl, hk, HU, HP, HH, HB⟩ := hrel
    by_cases hk0 : k = 0
    · subst hk0
      have HD := Lib.hid (HU.out.done (.inl rfl))
      have w1 : IntKind.i64.wrap ((0 : Int) - 1) = -1 := IntWalk.i64_in _ (by omega)
      have w2 : Int.tdiv (-1) 2 = 0 := by decide
      go_wp2
      refine bodyPost_end (v := .tuple #[]) ?_ rfl ?_
      · simp [results, Tryz.results199, go_sem]
      · exact ⟨rfl, us, HP.out, HD.out, HH.out, HB.out⟩
    obtain ⟨i, hi⟩ : ∃ i, i = (k - 1) / 2 := ⟨_, rfl⟩
    have HI := Lib.hid hi
    have w1 : IntKind.i64.wrap ((k : Int) - 1) = ((k - 1 : Nat) : Int) := by rw [IntWalk.i64_in _ (by omega)]; omega
    have w2 : ((k - 1 : Nat) : Int).tdiv 2 = (i : Int) := by rw [hi, Int.tdiv_eq_ediv_of_nonneg (by omega)]; omega
    have hik : i < k := by omega
    have d0 : ((i : Int) == (k : Int)) = false := by rw [beq_eq_false_iff_ne]; omega
    have d1 : (i == k) = false := by rw [beq_eq_false_iff_ne]; omega
    clear hi
    have c0 := HH.out.cell
    have hml : ∀ fuel, (method (fuel + 1) 220 (.pointer (some ⟨p, po, none⟩)) "Less").run Tryz.prog wr = .ok (235, .slice (some ⟨g, 0, none⟩) n c) wr := fun fuel => mth_Less p po _ fuel wr c0
    have hnl := nil_Less p po
    have hcl := cal_Less
    have hul : us.length = n := HH.out.len
    go_wp2_with (fail)
    (with_reducible refine (HeapLess_any base _ n c (some ⟨g, 0, none⟩) us wr (Rd.of_own HH.out.own) (Nat.le_refl _) hn k i hk (by omega)).mono ?_)
    rintro e w3 ⟨rfl, hb3⟩
    clear c0 hml
    have HH3 := Lib.hid (HH.out.below hb3)
    have HB3 := Lib.hid (show w.grownBy w3 (some g) from HB.out.trans ⟨hb3.os, hb3.tape, hb3.output, hb3.size, fun i hi _ => hb3.block i hi⟩)
    clear hb3 HH HB
    cases hlt : tlt (tmv us k) (tmv us i) with
    | false =>
      have HD := Lib.hid (HU.out.done (.inr (by rw [← HI.out]; exact hlt)))
      clear hlt
      go_wp2
      refine bodyPost_end (v := .tuple #[]) ?_ rfl ?_
      · simp [results, Tryz.results199, go_sem]
      · exact ⟨rfl, us, HP.out, HD.out, HH3.out, HB3.out⟩
    | true =>
      have HU2 := Lib.hid (show UpInv (swapL us i k) i by have := HU.out.swap (by omega) (by rw [← HI.out]; exact hlt); rwa [← HI.out] at this)
      have HP2 := Lib.hid ((swapL_perm (l := us) (i := i) (j := k) (by omega) (by omega)).trans HP.out)
      clear hlt
      have c3 := HH3.out.cell
      have hms : ∀ fuel, (method (fuel + 1) 220 (.pointer (some ⟨p, po, none⟩)) "Swap").run Tryz.prog w3 = .ok (236, .slice (some ⟨g, 0, none⟩) n c) w3 := fun fuel => mth_Swap p po _ fuel w3 c3
      have hns := nil_Swap p po
      have hcs := cal_Swap
      go_wp2_with (fail)
      (with_reducible refine (HeapSwap_any base g n c us w3 HH3.out.own hn i k (by omega) hk).mono ?_)
      rintro e w4 ⟨rfl, ho4, hg4⟩
      clear c3 hms
      have HH4 := Lib.hid (HH3.out.swap ho4 hg4)
      have HB4 := Lib.hid (show w.grownBy w4 (some g) from HB3.out.trans hg4)
      clear ho4 hg4 HH3 HB3
      go_wp2
      go_roundw
      case rel => exact ⟨i, swapL us i k, rfl, by omega, HU2, HP2, HH4, HB4⟩
      case measure => simp [intOf]; omega
theorem heapUp_any (p po base g n c B0 : Nat) (ts : List Tm) (j : Nat) (w : World) (h : HpM w p po base g n c ts) (hB : B0 ≤ base) (hn : n ≤ 1048576) (hU : UpInv ts j) :
    Calls Tryz.prog 199 #[.iface 220 (.pointer (some ⟨p, po, none⟩)), .int .i64 (j : Int)] w fun e w' => e = .returned (.tuple #[]) ∧ ∃ us, us.Perm ts ∧ HeapN us us.length ∧ HpM w' p po base g n c us ∧ Below B0 w w' := by
  have hgb := h.gb
  refine (heapUpG_any p po base g n c ts j w h hn hU).mono ?_
  rintro e w' ⟨he, us, h1, h2, h3, h4⟩
  exact ⟨he, us, h1, h2, h3, (Below.refl B0 w).grown h4 (by omega) (fun x e => by injection e with e; omega)⟩
end Go.Proofs.YtknphikoikdcjaaGreat

