/- laws.toPost, with what is known of the capacities. -/
import Derived.Test.YtlfflppjlmpklaaExPost
set_option linter.unusedSimpArgs false
set_option linter.unusedVariables false
namespace Go.Proofs.Ytlfflppjlmpklaa
open Go.RowKit

/-- A post office, copied: its subscriptions below mid, its letters from there on. -/
def ToPostC (ns fs : List Tri) (w : World) (e : Ending) (w' : World) : Prop :=
  ∃ An cn A c mid, e = .returned (.agg #[.slice An ns.length cn, .slice A fs.length c]) ∧ Rd w' w.heap.size mid 3 An ns.length (tvs ns) ∧ Soft w' 3 An ns.length ∧ w.heap.size ≤ mid ∧ mid ≤ w'.heap.size ∧ Rd w' mid w'.heap.size 3 A fs.length (tvs fs) ∧ Soft w' 3 A fs.length ∧ Below w.heap.size w w' ∧ ns.length ≤ cn ∧ fs.length ≤ c
set_option maxRecDepth 100000 in
set_option maxHeartbeats 1600000 in
theorem toPostC_any (lo hi nn cn : Nat) (An : Option Addr) (ns : List Tri) (lo' hi' n c : Nat) (A : Option Addr) (fs : List Tri) (w : World) (hrn : Rd w lo hi 3 An nn (tvs ns)) (hB : hi ≤ w.heap.size) (hnn : nn ≤ 1048576)
    (hr : Rd w lo' hi' 3 A n (tvs fs)) (hB' : hi' ≤ w.heap.size) (hn : n ≤ 1048576) :
    Calls Try.prog 30 #[.agg #[.slice An nn cn, .slice A n c]] w (ToPostC ns fs w) := by
  have HLN := Lib.hid hrn.len3
  have HLF := Lib.hid hr.len3
  have hW0 := Blk.new ((w.alloc (.cells #[.slice An nn cn, .slice A n c] 51)).alloc (.cells #[.slice none 0 0, .slice none 0 0] 26)) 26 #[.slice none 0 0, .slice none 0 0]
  have hR0 := (Blk.new (w.alloc (.cells #[.slice An nn cn, .slice A n c] 51)) 26 #[.slice none 0 0, .slice none 0 0]).alloc (.cells #[.slice none 0 0, .slice none 0 0] 26)
  have hX0 := ((Blk.new w 51 #[.slice An nn cn, .slice A n c]).alloc (.cells #[.slice none 0 0, .slice none 0 0] 26)).alloc (.cells #[.slice none 0 0, .slice none 0 0] 26)
  have hb0 := up_alloc (up_alloc (up_alloc (Below.refl _ w) (.cells #[.slice An nn cn, .slice A n c] 51)) (.cells #[.slice none 0 0, .slice none 0 0] 26)) (.cells #[.slice none 0 0, .slice none 0 0] 26)
  have e1 : (w.alloc (.cells #[.slice An nn cn, .slice A n c] 51)).heap.size = w.heap.size + 1 := by simp
  have e2 : ((w.alloc (.cells #[.slice An nn cn, .slice A n c] 51)).alloc (.cells #[.slice none 0 0, .slice none 0 0] 26)).heap.size = w.heap.size + 1 + 1 := by simp
  rw [e2] at hW0
  rw [e1] at hR0
  have HW0 := Lib.hid hW0
  have HR0 := Lib.hid hR0
  have HX0 := Lib.hid hX0
  have hlt0 := hW0.lt
  clear e1 e2 hW0 hR0 hX0
  go_enter Try.func30, Try.ntmps30
  go_wp2_with (fail)
  (with_reducible refine (toSubS_any lo hi nn cn An ns _ (hrn.keep hb0 hB) (Nat.le_trans hB hb0.size) hnn).mono ?_)
  rintro e w1 ⟨A1, c1, rfl, hcc1, hr1, hs1, hb1⟩
  have hb01 := up hb0 hb1
  have hsz1 := hb1.size
  have hW1 := HW0.out.below hb1 hlt0
  have hR1 := HR0.out.below hb1 (by omega)
  have hX1 := HX0.out.below hb1 (by omega)
  have h10 : w1.cell? ⟨w.heap.size + 1 + 1, 0, none⟩ = some (.slice none 0 0) := hW1.cell 0
  have f10 := hW1.soft 0
  have x11 : w1.cell? ⟨w.heap.size, 1, none⟩ = some (.slice A n c) := hX1.cell 1
  have hW2 : Blk (w1.setCell ⟨w.heap.size + 1 + 1, 0, none⟩ (.slice A1 nn c1)) (w.heap.size + 1 + 1) 26 #[.slice A1 nn c1, .slice none 0 0] := by simpa using hW1.put 0 (.slice A1 nn c1)
  have hR2 := hR1.far (p := ⟨w.heap.size + 1 + 1, 0, none⟩) (by simp) (.slice A1 nn c1)
  have hrd2 := hr1.setCell (p := ⟨w.heap.size + 1 + 1, 0, none⟩) (.inl hlt0) (.slice A1 nn c1)
  have hsf2 := hs1.store ⟨w.heap.size + 1 + 1, 0, none⟩ (.slice A1 nn c1)
  have hb02 := hb01.setCell (p := ⟨w.heap.size + 1 + 1, 0, none⟩) (by show _ ≤ w.heap.size + 1 + 1; omega) (.slice A1 nn c1)
  have hsz2 : (w1.setCell ⟨w.heap.size + 1 + 1, 0, none⟩ (.slice A1 nn c1)).heap.size = w1.heap.size := by simp [World.setCell]
  have hlow := hb0.size
  have HS2 := Lib.hid hsz2
  have HW2 := Lib.hid hW2
  have HR2 := Lib.hid hR2
  have HRD2 := Lib.hid hrd2
  have HSF2 := Lib.hid hsf2
  clear hsz2 hW2 hR2 hrd2 hsf2 hW1 hR1 hX1 hr1 hs1 hb1 hb01
  go_wp2_with (fail)
  (with_reducible refine (toLetterS_any lo' hi' n c A fs _ (hr.keep hb02 hB') (Nat.le_trans hB' hb02.size) hn).mono ?_)
  rintro e w3 ⟨A3, c3, rfl, hcc3, hm3, hn3, hb3⟩
  have hsz3 := hb3.size
  rw [HS2.out] at hm3 hsz3
  have hle3 : w.heap.size + 1 + 1 < w1.heap.size := by omega
  have hb03 := up hb02 hb3
  have hW3 := HW2.out.below hb3 (by rw [HS2.out]; exact hle3)
  have hR3 := HR2.out.below hb3 (by rw [HS2.out]; omega)
  have hrd3 := HRD2.out.keep hb3 (by rw [HS2.out]; exact Nat.le_refl _)
  have hsf3 := HSF2.out.kept HRD2.out hb3 (by rw [HS2.out]; exact Nat.le_refl _)
  have h30 : w3.cell? ⟨w.heap.size + 1 + 1, 0, none⟩ = some (.slice A1 nn c1) := hW3.cell 0
  have h31 : w3.cell? ⟨w.heap.size + 1 + 1, 1, none⟩ = some (.slice none 0 0) := hW3.cell 1
  have f31 := hW3.soft 1
  have r30 : w3.cell? ⟨w.heap.size + 1, 0, none⟩ = some (.slice none 0 0) := hR3.cell 0
  have r31 : w3.cell? ⟨w.heap.size + 1, 1, none⟩ = some (.slice none 0 0) := hR3.cell 1
  have q30 := hR3.soft 0
  have q31 := hR3.soft 1
  have HRF := Lib.hid (((hR3.far (p := ⟨w.heap.size + 1 + 1, 1, none⟩) (by simp) (.slice A3 n c3)).put 0 (.slice A1 nn c1)).put 1 (.slice A3 n c3))
  have HRD := Lib.hid (((hrd3.setCell (p := ⟨w.heap.size + 1 + 1, 1, none⟩) (.inl hlt0) (.slice A3 n c3)).setCell (p := ⟨w.heap.size + 1, 0, none⟩) (.inl (by show w.heap.size + 1 < _; omega)) (.slice A1 nn c1)).setCell (p := ⟨w.heap.size + 1, 1, none⟩) (.inl (by show w.heap.size + 1 < _; omega)) (.slice A3 n c3))
  have HSF := Lib.hid (((hsf3.store ⟨w.heap.size + 1 + 1, 1, none⟩ (.slice A3 n c3)).store ⟨w.heap.size + 1, 0, none⟩ (.slice A1 nn c1)).store ⟨w.heap.size + 1, 1, none⟩ (.slice A3 n c3))
  have HFM := Lib.hid (((hm3.setCell (p := ⟨w.heap.size + 1 + 1, 1, none⟩) (.inl (by show w.heap.size + 1 + 1 < _; omega)) (.slice A3 n c3)).setCell (p := ⟨w.heap.size + 1, 0, none⟩) (.inl (by show w.heap.size + 1 < _; omega)) (.slice A1 nn c1)).setCell (p := ⟨w.heap.size + 1, 1, none⟩) (.inl (by show w.heap.size + 1 < _; omega)) (.slice A3 n c3))
  have HNM := Lib.hid (((hn3.store ⟨w.heap.size + 1 + 1, 1, none⟩ (.slice A3 n c3)).store ⟨w.heap.size + 1, 0, none⟩ (.slice A1 nn c1)).store ⟨w.heap.size + 1, 1, none⟩ (.slice A3 n c3))
  have HB := Lib.hid hb03
  clear hb3 hb03 hW3 hR3 hrd3 hsf3 hm3 hn3 hb02
  go_wp2
  have g0 := HRF.out.cell 0
  have g1 := HRF.out.cell 1
  simp at g0 g1
  refine bodyPost_ret (v := .agg #[.slice A1 nn c1, .slice A3 n c3]) (by simp [results, Try.results30, go_sem, g0, g1]) rfl ?_
  refine ⟨A1, c1, A3, c3, w1.heap.size, by rw [HLN.out, HLF.out], by rw [HLN.out]; exact HRD.out.wide hlow (Nat.le_refl _), by rw [HLN.out]; exact HSF.out, by omega, by simp [World.setCell]; omega, ?_, by rw [HLF.out]; exact HNM.out, ?_, by rw [HLN.out]; exact hcc1, by rw [HLF.out]; exact hcc3⟩
  · rw [HLF.out]
    have := HFM.out
    simpa [World.setCell] using this
  · exact ((HB.out.setCell (by simp; omega) _).setCell (by simp) _).setCell (by simp) _
end Go.Proofs.Ytlfflppjlmpklaa
