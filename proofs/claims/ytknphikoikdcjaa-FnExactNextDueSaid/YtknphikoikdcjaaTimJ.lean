/- The program's compareTimers. -/
import Derived.Test.YtknphikoikdcjaaTimI
set_option linter.unusedSimpArgs false
set_option linter.unusedVariables false
namespace Go.Proofs.Ytknphikoikdcjaa
open Go.RowKit

theorem rd_of_blkT {w : World} {g size n : Nat} {t : TypeId} {cs : Array Value} (h : Blk w g t cs) (hn : cs.size = n * size) : Rd w g (g + 1) size (some ⟨g, 0, none⟩) n cs.toList :=
  ⟨by simpa using hn, fun _ => ⟨g, 0, rfl, Nat.le_refl _, Nat.lt_succ_self _, fun j u hu => by rw [Nat.zero_add, h.cell]; simpa using hu⟩⟩

theorem firstNZ_two (x y : Int) : firstNZ [x, y] = if x = 0 then y else x := by
  unfold firstNZ
  split
  · unfold firstNZ
    split
    · rename_i h; rw [h]; rfl
    · rfl
  · rfl
theorem Or_two (g : Nat) (x y : Int) (w : World) (hg : g = w.heap.size) :
    Calls Try.prog 77 #[.slice (some ⟨g, 0, none⟩) 2 2] (w.alloc (.cells #[.int .i64 x, .int .i64 y] 3)) fun e w' => e = .returned (.int .i64 (firstNZ [x, y])) ∧ w' = w.alloc (.cells #[.int .i64 x, .int .i64 y] 3) := by
  subst hg
  have hb := Blk.new w 3 #[.int .i64 x, .int .i64 y]
  refine (Or_any w.heap.size (w.heap.size + 1) 2 2 _ [x, y] _ (by have := rd_of_blkT hb (n := 2) (size := 1) rfl; simpa [ivs] using this) (by omega)).mono ?_
  rintro e w' ⟨rfl, rfl⟩
  exact ⟨rfl, rfl⟩
theorem Or_drew (g : Nat) (x y : Int) (w : World) (hg : g = w.heap.size) :
    Calls Try.prog 77 #[.slice (some ⟨g, 0, none⟩) 2 2] (w.alloc (.cells #[.int .i64 x, .int .i64 y] 3)).drew fun e w' => e = .returned (.int .i64 (firstNZ [x, y])) ∧ w' = (w.alloc (.cells #[.int .i64 x, .int .i64 y] 3)).drew := by
  subst hg
  have hb : Blk (w.alloc (.cells #[.int .i64 x, .int .i64 y] 3)).drew w.heap.size 3 #[.int .i64 x, .int .i64 y] := Blk.new w 3 #[.int .i64 x, .int .i64 y]
  refine (Or_any w.heap.size (w.heap.size + 1) 2 2 _ [x, y] _ (by have := rd_of_blkT hb (n := 2) (size := 1) rfl; simpa [ivs] using this) (by omega)).mono ?_
  rintro e w' ⟨rfl, rfl⟩
  exact ⟨rfl, rfl⟩
set_option maxHeartbeats 1600000 in
theorem compareTimers_any (x y u v : Int) (w : World) :
    Calls Try.prog 69 #[.agg #[.int .i64 x, .int .i64 y], .agg #[.int .i64 u, .int .i64 v]] w fun e w' => e = .returned (.int .i64 (cmpT (x, y) (u, v))) ∧ Below w.heap.size w w' := by
  have hb1 := up_alloc (up_alloc (Below.refl _ w) (.cells #[.int .i64 x, .int .i64 y] 74)) (.cells #[.int .i64 u, .int .i64 v] 74)
  have hp1 := (Blk.new w 74 #[.int .i64 x, .int .i64 y]).alloc (.cells #[.int .i64 u, .int .i64 v] 74)
  have hq1 : Blk ((w.alloc (.cells #[.int .i64 x, .int .i64 y] 74)).alloc (.cells #[.int .i64 u, .int .i64 v] 74)) (w.heap.size + 1) 74 #[.int .i64 u, .int .i64 v] := by
    simpa using Blk.new (w.alloc (.cells #[.int .i64 x, .int .i64 y] 74)) 74 #[.int .i64 u, .int .i64 v]
  have hpl : w.heap.size < ((w.alloc (.cells #[.int .i64 x, .int .i64 y] 74)).alloc (.cells #[.int .i64 u, .int .i64 v] 74)).heap.size := by simp; omega
  have hql : w.heap.size + 1 < ((w.alloc (.cells #[.int .i64 x, .int .i64 y] 74)).alloc (.cells #[.int .i64 u, .int .i64 v] 74)).heap.size := by simp
  generalize hw2 : (w.alloc (.cells #[.int .i64 x, .int .i64 y] 74)).alloc (.cells #[.int .i64 u, .int .i64 v] 74) = w2 at *
  have HSW : Hid (∀ wx : World, Below w2.heap.size w2 wx → wx.cell? ⟨w.heap.size, 0, none⟩ = some (.int .i64 x) ∧ wx.cell? ⟨w.heap.size, 1, none⟩ = some (.int .i64 y) ∧ wx.cell? ⟨w.heap.size + 1, 0, none⟩ = some (.int .i64 u) ∧ wx.cell? ⟨w.heap.size + 1, 1, none⟩ = some (.int .i64 v)) := fun wx hbx => ⟨(hp1.below hbx hpl).cell 0, (hp1.below hbx hpl).cell 1, (hq1.below hbx hql).cell 0, (hq1.below hbx hql).cell 1⟩
  have HB := Lib.hid hb1
  have HW := Lib.hid hw2
  clear hb1 hp1 hq1 hpl hql hw2
  have HX := Lib.hid (show cmpT (x, y) (u, v) = firstNZ [cmpI y v, cmpI x u] from (firstNZ_two _ _).symm)
  generalize cmpT (x, y) (u, v) = r at *
  go_enter Try.func69, Try.ntmps69
  rw [HX.out]
  have hw2 := HW.out
  go_wp2_with (fail)
  subst hw2
  have HG1 := Lib.hid (show w.heap.size + 1 + 1 = ((w.alloc (.cells #[.int .i64 x, .int .i64 y] 74)).alloc (.cells #[.int .i64 u, .int .i64 v] 74)).heap.size by simp)
  have HG2 := Lib.hid (show w.heap.size + 1 + 1 = ((w.alloc (.cells #[.int .i64 x, .int .i64 y] 74)).alloc (.cells #[.int .i64 u, .int .i64 v] 74)).drew.heap.size by simp [World.drew])
  go_region_held3 (fun w' => w'.cell? ⟨w.heap.size, 0, none⟩ = some (.int .i64 x) ∧ w'.cell? ⟨w.heap.size, 1, none⟩ = some (.int .i64 y) ∧ w'.cell? ⟨w.heap.size + 1, 0, none⟩ = some (.int .i64 u) ∧ w'.cell? ⟨w.heap.size + 1, 1, none⟩ = some (.int .i64 v))
    (first | exact HSW.out _ (Below.refl _ _) | exact HSW.out _ (up_drew (Below.refl _ _)) | exact HSW.out _ (up_alloc (Below.refl _ _) _) | exact HSW.out _ (up_alloc (up_drew (Below.refl _ _)) _))
    ((first
      | (go_at_call 78; (with_reducible refine (Compare_any _ _ _).mono ?_); rintro e w' ⟨rfl, rfl⟩)
      | (go_at_call 77; (with_reducible refine (Or_drew (w.heap.size + 1 + 1) _ _ _ HG1.out).mono ?_); rintro e w' ⟨rfl, rfl⟩)
      | (go_at_call 77; (with_reducible refine (Or_two (w.heap.size + 1 + 1) _ _ _ HG2.out).mono ?_); rintro e w' ⟨rfl, rfl⟩)
      | (go_at_call 77; (with_reducible refine (Or_two (w.heap.size + 1 + 1) _ _ _ HG1.out).mono ?_); rintro e w' ⟨rfl, rfl⟩)))
  all_goals
    go_wp2
    go_ret
    first
      | exact ⟨rfl, up_drew (up_alloc HB.out _)⟩
      | exact ⟨rfl, up_alloc HB.out _⟩
      | exact ⟨rfl, up_alloc (up_drew HB.out) _⟩
