/- Merged: ExFlow, ExNode, ExProc. -/
import Derived.Test.YtknphikoikdcjaaGreatExPart
import Derived.Test.YtknphikoikdcjaaGreatExInt
import Derived.Test.YtknphikoikdcjaaGreatBase
import Derived.Test.YtknphikoikdcjaaGreatRows
import Derived.Test.YtknphikoikdcjaaGreatExWithin
import Derived.BigQuiet
import Derived.Deep.QuietTactic
import Derived.Deep.RegionHeld3
import Derived.StillTailTactics
import Derived.WalkLawsBesides
import Derived.Deep.RegionLaw
/- The exact laws' helpers on flows: sizes, copies, comparisons, marks. -/
set_option linter.unusedSimpArgs false
set_option linter.unusedVariables false
namespace Go.Proofs.YtknphikoikdcjaaGreat
open Go.RowKit

theorem infoFlow : (Tryz.prog.info? 167).map (fun i => (i.zero, i.size, i.bytes)) = some (some (.agg #[.int .i64 0, .int .i64 0, .slice none 0 0]), 3, 40) := by kernel_rfl

/-- The slice reads as these flows; nothing is said of how long their conditions are. -/
def FlsU (w : World) (lo hi : Nat) (A : Option Addr) (n : Nat) (fs : List Flw) : Prop :=
  fs.length = n ∧ ∃ hs : List Hd, hs.length = n ∧ Rd w lo hi 3 A n (fvs fs hs) ∧ ∀ (k : Nat) (f : Flw) (h : Hd), fs[k]? = some f → hs[k]? = some h → Rd w lo hi 2 h.1 h.2.1 (pvs f.2.2) ∧ h.2.1 ≤ 9223372036854775807
theorem FlsU.keep {w w' : World} {lo hi B : Nat} {A : Option Addr} {n : Nat} {fs : List Flw} (h : FlsU w lo hi A n fs) (hb : Below B w w') (hB : hi ≤ B) : FlsU w' lo hi A n fs := by
  obtain ⟨hl, hs, hl', hr, hc⟩ := h
  exact ⟨hl, hs, hl', hr.keep hb hB, fun k f x e e' => ⟨(hc k f x e e').1.keep hb hB, (hc k f x e e').2⟩⟩
theorem FlsU.small {w : World} {lo hi : Nat} {A : Option Addr} {n : Nat} {fs : List Flw} (h : FlsU w lo hi A n fs) (hs : ∀ f ∈ fs, f.2.2.length ≤ 1048576) : Fls w lo hi A n fs := by
  obtain ⟨hl, hh, hl', hr, hc⟩ := h
  refine ⟨hl, hh, hl', hr, fun k f x e e' => ⟨(hc k f x e e').1, ?_⟩⟩
  have h1 := (hc k f x e e').1.len2
  have h2 := hs f (List.mem_of_getElem? e)
  omega
theorem FlsU.at {w : World} {lo hi : Nat} {A : Option Addr} {n : Nat} {fs : List Flw} (h : FlsU w lo hi A n fs) {k : Nat} (hk : k < n) :
    ∃ b off x y ps A' m c', A = some ⟨b, off, none⟩ ∧ b < hi ∧ lo ≤ b ∧ fs[k]? = some (x, y, ps) ∧ w.cell? ⟨b, off + k * 3, none⟩ = some (.int .i64 x) ∧ w.cell? ⟨b, off + k * 3 + 1, none⟩ = some (.int .i64 y) ∧
      w.cell? ⟨b, off + k * 3 + 2, none⟩ = some (.slice A' m c') ∧ Rd w lo hi 2 A' m (pvs ps) ∧ m ≤ 9223372036854775807 := by
  obtain ⟨hl, hs, hl', hr, hc⟩ := h
  obtain ⟨b, off, e, h1, h2, hcl⟩ := hr.2 (by omega)
  have e1 : fs[k]? = some fs[k] := List.getElem?_eq_getElem (by omega)
  have e2 : hs[k]? = some hs[k] := List.getElem?_eq_getElem (by omega)
  have g := fvs_get fs hs k _ _ e1 e2
  have hr2 := hc k _ _ e1 e2
  refine ⟨b, off, fs[k].1, fs[k].2.1, fs[k].2.2, hs[k].1, hs[k].2.1, hs[k].2.2, e, h2, h1, e1, hcl _ _ g.1, ?_, ?_, hr2.1, hr2.2⟩
  · have := hcl _ _ g.2.1; rwa [← Nat.add_assoc] at this
  · have := hcl _ _ g.2.2; rwa [← Nat.add_assoc] at this

/-- What a size said: too much, or all is small. -/
def Sized (P : Prop) (left : Int) (w : World) (e : Ending) (w' : World) : Prop :=
  w = w' ∧ (e = .returned (.int .i64 (-1)) ∨ ∃ r : Int, e = .returned (.int .i64 r) ∧ 0 ≤ r ∧ r ≤ left ∧ P)

theorem szFlow_any (x y : Int) (n c : Nat) (A : Option Addr) (left : Int) (w : World) (hn : n ≤ 9223372036854775807) (hl : 0 ≤ left) (hl2 : left ≤ 1048576) :
    Calls Tryz.prog 110 #[.agg #[.int .i64 x, .int .i64 y, .slice A n c], .int .i64 left] w fun e w' => Below w.heap.size w w' ∧ (e = .returned (.int .i64 (-1)) ∨ ∃ r : Int, e = .returned (.int .i64 r) ∧ 0 ≤ r ∧ r ≤ left ∧ n ≤ 1048576) := by
  by_cases hlt : left < n
  · go_enter Tryz.func110, Tryz.ntmps110
    go_wp2_with (fail)
    (with_reducible refine (szPartS_no n c A left _ hn hl hl2 hlt).mono ?_)
    rintro e w' ⟨rfl, rfl⟩
    go_wp2
    go_ret
    exact ⟨up_alloc (Below.refl _ _) _, .inl rfl⟩
  · go_enter Tryz.func110, Tryz.ntmps110
    go_wp2_with (fail)
    (with_reducible refine (szPartS_yes n c A left _ hl hl2 (by omega)).mono ?_)
    rintro e w' ⟨rfl, rfl⟩
    have hpos : (0 : Int) ≤ left - (n : Int) := by omega
    go_wp2
    go_ret
    exact ⟨up_alloc (Below.refl _ _) _, .inr ⟨_, rfl, hpos, by omega, by omega⟩⟩

set_option maxHeartbeats 800000 in
theorem szFlowS_any (lo hi n c : Nat) (A : Option Addr) (fs : List Flw) (left : Int) (w : World) (hr : FlsU w lo hi A n fs) (hB : hi ≤ w.heap.size) (hn : n ≤ 9223372036854775807) (hl : 0 ≤ left) (hl2 : left ≤ 1048576) :
    Calls Tryz.prog 56 #[.slice A n c, .int .i64 left] w fun e w' => Below w.heap.size w w' ∧ (e = .returned (.int .i64 (-1)) ∨ ∃ r : Int, e = .returned (.int .i64 r) ∧ 0 ≤ r ∧ r ≤ left ∧ n ≤ 1048576 ∧ ∀ f ∈ fs, f.2.2.length ≤ 1048576) := by
  have HL := Lib.hid hr.1
  by_cases hlt : left < n
  · go_enter Tryz.func56, Tryz.ntmps56
    go_wp2
    go_ret
    exact ⟨Below.refl _ _, .inl rfl⟩
  have hn1 : n ≤ 1048576 := by omega
  have hpos : (0 : Int) ≤ left - (n : Int) := by omega
  clear hlt
  go_enter Tryz.func56, Tryz.ntmps56
  go_wp2
  go_loopw [1, 5] (fun lv iv wr => ∃ (i : Nat) (r : Int), i ≤ n ∧ iv = .int .i64 i ∧ lv = .int .i64 r ∧ 0 ≤ r ∧ r ≤ left ∧ Hid (∀ f ∈ fs.take i, f.2.2.length ≤ 1048576) ∧ Below w.heap.size w wr)
     (fun _ iv _ => n - (intOf iv).toNat)
  case atStart => exact ⟨0, left - n, by omega, rfl, by simp, hpos, by omega, fun f hf => by simp at hf, Below.refl _ _⟩
  case round =>
    obtain ⟨i, r, hi_, rfl, rfl, hr0, hr1, hS, hbl⟩ := hrel
    by_cases hin : i < n
    · obtain ⟨b, off, x, y, ps, A', m, c', rfl, hbB, _, hg, hx, hy, hz, hrp, hm⟩ := (hr.keep hbl hB).at hin
      have hML := Lib.hid hrp.len2
      have Hg := Lib.hid hg
      have hsz := hbl.size
      clear hg hrp
      go_wp2_with (fail)
      (with_reducible refine (szFlow_any x y m c' A' r wr hm hr0 (by omega)).mono ?_)
      rintro e w1 ⟨hb1, he⟩
      have HB := Lib.hid (up hbl hb1)
      clear hb1
      rcases he with rfl | ⟨r', rfl, q0, q1, q2⟩
      · go_wp2
        go_ret
        exact ⟨HB.out, .inl rfl⟩
      · go_wp2
        go_roundw
        case rel =>
          refine ⟨i + 1, r', by omega, by go_num, rfl, q0, by omega, fun f hf => ?_, HB.out⟩
          rw [take_snoc Hg.out] at hf
          rcases List.mem_append.1 hf with hf | hf
          · exact hS.out f hf
          · simp at hf
            subst hf
            show ps.length ≤ 1048576
            rw [hML.out]; exact q2
        case measure => simp [intOf]; omega
    · obtain rfl : i = n := by omega
      have hS' : Hid (∀ f ∈ fs, f.2.2.length ≤ 1048576) := by
        have := hS.out
        rwa [List.take_of_length_le (by rw [HL.out]; omega)] at this
      clear hS
      go_wp2
      go_ret
      exact ⟨hbl, .inr ⟨r, rfl, hr0, hr1, hn1, hS'.out⟩⟩

/-- A flow, copied. -/
def ToFlow (x y : Int) (n : Nat) (ps : List (Int × Int)) (w : World) (e : Ending) (w' : World) : Prop :=
  ∃ A c, e = .returned (.agg #[.int .i64 x, .int .i64 y, .slice A n c]) ∧ Rd w' w.heap.size w'.heap.size 2 A n (pvs ps) ∧ Soft w' 2 A n ∧ Below w.heap.size w w'
theorem toFlow_any (lo hi : Nat) (x y : Int) (n c : Nat) (A : Option Addr) (ps : List (Int × Int)) (w : World) (hr : Rd w lo hi 2 A n (pvs ps)) (hB : hi ≤ w.heap.size) (hn : n ≤ 1048576) :
    Calls Tryz.prog 120 #[.agg #[.int .i64 x, .int .i64 y, .slice A n c]] w (ToFlow x y n ps w) := by
  have hW0 := Blk.new ((w.alloc (.cells #[.int .i64 x, .int .i64 y, .slice A n c] 158)).alloc (.cells #[.int .i64 0, .int .i64 0, .slice none 0 0] 167)) 167 #[.int .i64 x, .int .i64 y, .slice none 0 0]
  have hR0 := (Blk.new (w.alloc (.cells #[.int .i64 x, .int .i64 y, .slice A n c] 158)) 167 #[.int .i64 0, .int .i64 0, .slice none 0 0]).alloc (.cells #[.int .i64 x, .int .i64 y, .slice none 0 0] 167)
  have hb0 := up_alloc (up_alloc (up_alloc (Below.refl _ w) (.cells #[.int .i64 x, .int .i64 y, .slice A n c] 158)) (.cells #[.int .i64 0, .int .i64 0, .slice none 0 0] 167)) (.cells #[.int .i64 x, .int .i64 y, .slice none 0 0] 167)
  have e1 : (w.alloc (.cells #[.int .i64 x, .int .i64 y, .slice A n c] 158)).heap.size = w.heap.size + 1 := by simp
  have e2 : ((w.alloc (.cells #[.int .i64 x, .int .i64 y, .slice A n c] 158)).alloc (.cells #[.int .i64 0, .int .i64 0, .slice none 0 0] 167)).heap.size = w.heap.size + 1 + 1 := by simp
  rw [e2] at hW0
  rw [e1] at hR0
  have HW0 := Lib.hid hW0
  have HR0 := Lib.hid hR0
  have hlt0 := hW0.lt
  clear e1 e2 hW0 hR0
  go_enter Tryz.func120, Tryz.ntmps120
  go_wp2_with (fail)
  (with_reducible refine (toPartS_any lo hi n c A ps _ (hr.keep hb0 hB) (Nat.le_trans hB hb0.size) hn).mono ?_)
  rintro e w3 ⟨A3, c3, rfl, _, hr3, hs3, hb3⟩
  have hb03 := up hb0 hb3
  have hW3 := HW0.out.below hb3 hlt0
  have hR3 := HR0.out.below hb3 (by omega)
  have hlt1 : w.heap.size + 1 < (((w.alloc (.cells #[.int .i64 x, .int .i64 y, .slice A n c] 158)).alloc (.cells #[.int .i64 0, .int .i64 0, .slice none 0 0] 167)).alloc (.cells #[.int .i64 x, .int .i64 y, .slice none 0 0] 167)).heap.size := by omega
  have HRD := Lib.hid (((((hr3.setCell (p := ⟨w.heap.size + 1 + 1, 2, none⟩) (.inl hlt0) (.slice A3 n c3)).setCell (p := ⟨w.heap.size + 1, 0, none⟩) (.inl hlt1) (.int .i64 x)).setCell (p := ⟨w.heap.size + 1, 1, none⟩) (.inl hlt1) (.int .i64 y)).setCell (p := ⟨w.heap.size + 1, 2, none⟩) (.inl hlt1) (.slice A3 n c3)).wide hb0.size (Nat.le_refl _))
  have HSF := Lib.hid ((((hs3.store ⟨w.heap.size + 1 + 1, 2, none⟩ (.slice A3 n c3)).store ⟨w.heap.size + 1, 0, none⟩ (.int .i64 x)).store ⟨w.heap.size + 1, 1, none⟩ (.int .i64 y)).store ⟨w.heap.size + 1, 2, none⟩ (.slice A3 n c3))
  have h30 : w3.cell? ⟨w.heap.size + 1 + 1, 0, none⟩ = some (.int .i64 x) := hW3.cell 0
  have h31 : w3.cell? ⟨w.heap.size + 1 + 1, 1, none⟩ = some (.int .i64 y) := hW3.cell 1
  have h32 : w3.cell? ⟨w.heap.size + 1 + 1, 2, none⟩ = some (.slice none 0 0) := hW3.cell 2
  have f32 := hW3.soft 2
  have r30 : w3.cell? ⟨w.heap.size + 1, 0, none⟩ = some (.int .i64 0) := hR3.cell 0
  have r31 : w3.cell? ⟨w.heap.size + 1, 1, none⟩ = some (.int .i64 0) := hR3.cell 1
  have r32 : w3.cell? ⟨w.heap.size + 1, 2, none⟩ = some (.slice none 0 0) := hR3.cell 2
  have q30 := hR3.soft 0
  have q31 := hR3.soft 1
  have q32 := hR3.soft 2
  have hR4 := (((hR3.far (p := ⟨w.heap.size + 1 + 1, 2, none⟩) (by simp) (.slice A3 n c3)).put 0 (.int .i64 x)).put 1 (.int .i64 y)).put 2 (.slice A3 n c3)
  have HRF := Lib.hid hR4
  have HB := Lib.hid hb03
  have hw1 : w.heap.size ≤ w.heap.size + 1 := by omega
  clear hb3 hb03 hW3 hR3 hr3 hs3 hR4 hb0 hlt1
  go_wp2
  have g0 := HRF.out.cell 0
  have g1 := HRF.out.cell 1
  have g2 := HRF.out.cell 2
  simp at g0 g1 g2
  refine bodyPost_ret (v := .agg #[.int .i64 x, .int .i64 y, .slice A3 n c3]) (by simp [results, Tryz.results120, go_sem, g0, g1, g2]) rfl ⟨A3, c3, rfl, ?_, HSF.out, ?_⟩
  · exact HRD.out.wide (Nat.le_refl _) (by simp [World.setCell])
  · exact (((HB.out.setCell (by simp; omega) _).setCell (by simp) _).setCell (by simp) _).setCell (by simp) _

/-- No two of the slices lie in one block. -/
def Apart (hs : List Hd) : Prop := ∀ (j j' : Nat) (h h' : Hd) (b off b' off' : Nat), hs[j]? = some h → hs[j']? = some h' → j ≠ j' → h.1 = some ⟨b, off, none⟩ → h'.1 = some ⟨b', off', none⟩ → 0 < h.2.1 → 0 < h'.2.1 → b ≠ b'
theorem Apart.snoc {hs : List Hd} {h1 : Hd} (ha : Apart hs) (hn : ∀ (j : Nat) (h : Hd) (b off b' off' : Nat), hs[j]? = some h → h.1 = some ⟨b, off, none⟩ → h1.1 = some ⟨b', off', none⟩ → 0 < h.2.1 → 0 < h1.2.1 → b ≠ b') : Apart (hs ++ [h1]) := by
  have at_ : ∀ (j : Nat) (h : Hd), (hs ++ [h1])[j]? = some h → hs[j]? = some h ∨ (j = hs.length ∧ h = h1) := by
    intro j h e
    rcases Nat.lt_or_ge j hs.length with hj | hj
    · rw [List.getElem?_append_left hj] at e; exact .inl e
    · rw [List.getElem?_append_right hj] at e
      rcases Nat.eq_zero_or_pos (j - hs.length) with h0 | h0
      · rw [h0] at e; simp at e; exact .inr ⟨by omega, e.symm⟩
      · rw [List.getElem?_eq_none (by simp; omega)] at e; cases e
  intro j j' h h' b off b' off' e e' hne ea ea' hp hp'
  rcases at_ j h e with q | ⟨q, rfl⟩ <;> rcases at_ j' h' e' with q' | ⟨q', rfl⟩
  · exact ha j j' h h' b off b' off' q q' hne ea ea' hp hp'
  · exact hn j h b off b' off' q ea ea' hp hp'
  · exact fun e => hn j' h' b' off' b off q' ea' ea hp' hp e.symm
  · omega
/-- Flows in memory of their own: the flows between lo and mid, their conditions between mid and hi; all of it may be written. -/
def FlsM (w : World) (lo mid hi : Nat) (A : Option Addr) (n : Nat) (fs : List Flw) : Prop :=
  fs.length = n ∧ ∃ hs : List Hd, hs.length = n ∧ Rd w lo mid 3 A n (fvs fs hs) ∧ Soft w 3 A n ∧ Apart hs ∧ ∀ (k : Nat) (f : Flw) (h : Hd), fs[k]? = some f → hs[k]? = some h → Rd w mid hi 2 h.1 h.2.1 (pvs f.2.2) ∧ Soft w 2 h.1 h.2.1 ∧ h.2.1 ≤ 1048576
theorem FlsM.fls {w : World} {lo mid hi : Nat} {A : Option Addr} {n : Nat} {fs : List Flw} (h : FlsM w lo mid hi A n fs) (h1 : lo ≤ mid) (h2 : mid ≤ hi) : Fls w lo hi A n fs := by
  obtain ⟨hl, hs, hl', hr, _, _, hc⟩ := h
  exact ⟨hl, hs, hl', hr.wide (Nat.le_refl _) h2, fun k f x e e' => ⟨(hc k f x e e').1.wide h1 (Nat.le_refl _), (hc k f x e e').2.2⟩⟩
theorem FlsM.keep {w w' : World} {lo mid hi B : Nat} {A : Option Addr} {n : Nat} {fs : List Flw} (h : FlsM w lo mid hi A n fs) (hb : Below B w w') (hm : mid ≤ B) (hB : hi ≤ B) : FlsM w' lo mid hi A n fs := by
  obtain ⟨hl, hs, hl', hr, hsf, hap, hc⟩ := h
  exact ⟨hl, hs, hl', hr.keep hb hm, hsf.kept hr hb hm, hap, fun k f x e e' => ⟨(hc k f x e e').1.keep hb hB, (hc k f x e e').2.1.kept (hc k f x e e').1 hb hB, (hc k f x e e').2.2⟩⟩
theorem mix3_step (fs : List Flw) (hs : List Hd) (zs : List Value) (n i : Nat) (f : Flw) (h : Hd) (hf : fs.length = n) (hh : hs.length = i) (hz : zs.length = n * 3) (hi : i < n) (hg : fs[i]? = some f) :
    (((fvs (fs.take i) hs ++ zs.drop (i * 3)).set (i * 3) (.int .i64 f.1)).set (i * 3 + 1) (.int .i64 f.2.1)).set (i * 3 + 2) (hdv h) = fvs (fs.take (i + 1)) (hs ++ [h]) ++ zs.drop ((i + 1) * 3) := by
  have h1 : (fvs (fs.take i) hs).length = i * 3 := by
    rw [fvs_length _ _ (by rw [hh, List.length_take]; omega), List.length_take]; omega
  rw [List.drop_eq_getElem_cons (show i * 3 < zs.length by omega), List.drop_eq_getElem_cons (show i * 3 + 1 < zs.length by omega), List.drop_eq_getElem_cons (show i * 3 + 1 + 1 < zs.length by omega)]
  rw [take_snoc hg, fvs_snoc _ _ _ _ (by rw [hh, List.length_take]; omega)]
  rw [List.set_append_right _ _ (by omega), h1, Nat.sub_self, List.set_cons_zero, List.set_append_right _ _ (by omega), h1, show i * 3 + 1 - i * 3 = 1 by omega, List.set_cons_succ, List.set_cons_zero,
    List.set_append_right _ _ (by omega), h1, show i * 3 + 2 - i * 3 = 2 by omega, List.set_cons_succ, List.set_cons_succ, List.set_cons_zero]
  simp [show (i + 1) * 3 = i * 3 + 1 + 1 + 1 by omega]

set_option maxRecDepth 100000 in
set_option maxHeartbeats 1600000 in
theorem toFlowS_any (lo hi n c : Nat) (A : Option Addr) (fs : List Flw) (w : World) (hr : Fls w lo hi A n fs) (hB : hi ≤ w.heap.size) (hn : n ≤ 1048576) :
    Calls Tryz.prog 66 #[.slice A n c] w fun e w' => ∃ A' c', e = .returned (.slice A' n c') ∧ FlsM w' w.heap.size (w.heap.size + 1) w'.heap.size A' n fs ∧ w.heap.size + 1 ≤ w'.heap.size ∧ Below w.heap.size w w' := by
  have HL := Lib.hid hr.1
  obtain ⟨i0, hi0, hz0, hz1, hz2⟩ := info_parts infoFlow
  obtain ⟨wm, hmk, hown, hgr⟩ := run_make_full (P := Tryz.prog) w w.heap.size 38 167 i0 _ 3 Tryz.underlying38 hi0 hz0 hz1 .i64 .i64 n (by rw [hz2]; omega) (by unfold maxLen; omega) (Nat.le_refl _)
  have hbm : Below w.heap.size w wm := (Below.refl _ _).grown hgr (Nat.le_refl _) (by simp)
  generalize hzs : (madeCells (Value.agg #[.int .i64 0, .int .i64 0, .slice none 0 0]).cells (n * 3)).toList = zs at hown
  have hzl : Hid (zs.length = n * 3) := by rw [Hid, ← hzs]; simp [size_madeCells]
  clear hzs hgr hi0 hz0 hz1 hz2
  have hsm : w.heap.size + 1 ≤ wm.heap.size := by
    rcases hown.2 with ⟨hv, _⟩ | ⟨g, cap, cur, hv, _, hh, _⟩
    · cases hv
    · injection hv with hv; injection hv with hv; injection hv with hv
      subst hv
      have := (Array.getElem?_eq_some_iff.1 hh).1
      omega
  go_enter Tryz.func66, Tryz.ntmps66
  go_wp2
  clear hmk
  go_loopw [4] (fun iv wr => ∃ (k : Nat) (hs : List Hd), k ≤ n ∧ iv = .int .i64 k ∧ hs.length = k ∧ wr.ownsRow w.heap.size 167 3 (.slice (some ⟨w.heap.size, 0, none⟩) n n) n (fvs (fs.take k) hs ++ zs.drop (k * 3)) ∧
       (∀ (j : Nat) (f : Flw) (h : Hd), fs[j]? = some f → hs[j]? = some h → Rd wr (w.heap.size + 1) wr.heap.size 2 h.1 h.2.1 (pvs f.2.2) ∧ Soft wr 2 h.1 h.2.1 ∧ h.2.1 ≤ 1048576) ∧ Hid (Apart hs) ∧ w.heap.size + 1 ≤ wr.heap.size ∧ Below w.heap.size w wr)
     (fun iv _ => n - (intOf iv).toNat)
  case atStart => exact ⟨0, [], by omega, rfl, rfl, by simpa [fvs] using hown, fun j f h _ e => by simp at e, fun j j' h h' b off b' off' e => by simp at e, hsm, hbm⟩
  case round =>
    clear hown hbm hsm
    obtain ⟨k, hs, hk, rfl, hhl, hown, hwh, hap, hsz, hbl⟩ := hrel
    by_cases hlt : k < n
    · obtain ⟨b, off, x, y, ps, A', m, c', rfl, hbB, _, hg, hx, hy, hz, hrp, hm⟩ := (hr.keep hbl hB).at hlt
      have Hg := Lib.hid hg
      have HHL := Lib.hid hhl
      have HWH := Lib.hid hwh
      have hkn : (k : Int) < (n : Int) := by omega
      have hML := Lib.hid hrp.len2
      have hszw := hbl.size
      clear hg hhl hwh
      go_wp2_with (fail)
      (with_reducible refine (toFlow_any lo hi x y m c' A' ps wr hrp (by omega) hm).mono ?_)
      rintro e w1 ⟨A1, c1, rfl, hr1, hs1, hb1⟩
      have hown1 := own_keep hown hb1
      have hbl1 := up hbl hb1
      have hsz1 := hb1.size
      have hlen : (fvs (fs.take k) hs ++ zs.drop (k * 3)).length = n * 3 := hown.1
      have hd0 := hown1.cellAt (k * 3) (by omega)
      have hd1 := hown1.cellAt (k * 3 + 1) (by omega)
      have hd2 := hown1.cellAt (k * 3 + 2) (by omega)
      rw [List.getElem?_eq_getElem (by rw [hlen]; omega)] at hd0 hd1 hd2
      generalize hq0 : (fvs (fs.take k) hs ++ zs.drop (k * 3))[k * 3]'(by rw [hlen]; omega) = q0 at hd0
      generalize hq1 : (fvs (fs.take k) hs ++ zs.drop (k * 3))[k * 3 + 1]'(by rw [hlen]; omega) = q1 at hd1
      generalize hq2 : (fvs (fs.take k) hs ++ zs.drop (k * 3))[k * 3 + 2]'(by rw [hlen]; omega) = q2 at hd2
      have hf0 := hown1.frozenAt (k * 3)
      have hf1 := hown1.frozenAt (k * 3 + 1)
      have hf2 := hown1.frozenAt (k * 3 + 2)
      have hst := (((hown1.stored (k * 3) (.int .i64 x)).1.stored (k * 3 + 1) (.int .i64 y)).1.stored (k * 3 + 2) (.slice A1 m c1)).1
      have hmx := mix3_step fs hs zs n k (x, y, ps) (A1, m, c1) HL.out HHL.out hzl.out hlt Hg.out
      simp only [hdv] at hmx
      rw [hmx] at hst
      have Hst := Lib.hid hst
      have HW1 : Hid (∀ (j : Nat) (f : Flw) (h : Hd), fs[j]? = some f → (hs ++ [(A1, m, c1)])[j]? = some h → Rd w1 (w.heap.size + 1) w1.heap.size 2 h.1 h.2.1 (pvs f.2.2) ∧ Soft w1 2 h.1 h.2.1 ∧ h.2.1 ≤ 1048576) := by
        intro j f h e e'
        rcases Nat.lt_or_ge j k with hj | hj
        · rw [List.getElem?_append_left (by rw [HHL.out]; exact hj)] at e'
          obtain ⟨q1, q2, q3⟩ := HWH.out j f h e e'
          exact ⟨(q1.keep hb1 (Nat.le_refl _)).wide (Nat.le_refl _) hsz1, q2.kept q1 hb1 (Nat.le_refl _), q3⟩
        · rw [List.getElem?_append_right (by rw [HHL.out]; exact hj), HHL.out] at e'
          rcases Nat.eq_zero_or_pos (j - k) with h0 | h0
          · obtain rfl : j = k := by omega
            rw [Nat.sub_self] at e'
            simp at e'
            subst e'
            rw [Hg.out] at e
            injection e with e
            subst e
            exact ⟨hr1.wide hsz (Nat.le_refl _), hs1, hm⟩
          · rw [List.getElem?_eq_none (by simp; omega)] at e'; cases e'
      have HAP : Hid (Apart (hs ++ [(A1, m, c1)])) := by
        refine hap.out.snoc fun j h b2 off2 b3 off3 e ea eb hp hp' hbb => ?_
        have hj : j < fs.length := by
          have := (List.getElem?_eq_some_iff.1 e).1
          have h1 := HHL.out
          have h2 := HL.out
          omega
        obtain ⟨q1, _⟩ := HWH.out j fs[j] h (List.getElem?_eq_getElem hj) e
        obtain ⟨b4, off4, e4, _, l4⟩ := q1.form hp
        obtain ⟨b5, off5, e5, l5, _⟩ := hr1.form hp'
        rw [ea] at e4
        injection e4 with e4
        injection e4 with e4 _
        have eb' : A1 = some ⟨b3, off3, none⟩ := eb
        rw [eb'] at e5
        injection e5 with e5
        injection e5 with e5 _
        omega
      clear hq0 hq1 hq2 hst hlen hown hown1 hb1 hr1 hs1 hmx HWH hrp hap
      go_wp2
      go_roundw
      case rel =>
        refine ⟨k + 1, hs ++ [(A1, m, c1)], by omega, by go_num, by rw [List.length_append, HHL.out]; rfl, Hst.out, fun j f h e e' => ?_, HAP, by simp [World.setCell]; omega, ((hbl1.setCell (by show _ ≤ w.heap.size; omega) _).setCell (by show _ ≤ w.heap.size; omega) _).setCell (by show _ ≤ w.heap.size; omega) _⟩
        obtain ⟨q1, q2, q3⟩ := HW1.out j f h e e'
        refine ⟨?_, ((q2.store _ _).store _ _).store _ _, q3⟩
        exact (((q1.setCell (.inl (by show w.heap.size < _; omega)) _).setCell (.inl (by show w.heap.size < _; omega)) _).setCell (.inl (by show w.heap.size < _; omega)) _).wide (Nat.le_refl _) (by simp [World.setCell])
      case measure => simp [intOf]; omega
    · obtain rfl : k = n := by omega
      have Ho := Lib.hid hown
      have HWH := Lib.hid hwh
      clear hown hwh
      go_wp2
      go_ret
      have ho := Ho.out
      rw [List.take_of_length_le (by rw [HL.out]; omega), List.drop_of_length_le (by rw [hzl.out]; omega), List.append_nil] at ho
      refine ⟨_, _, rfl, ⟨HL.out, hs, hhl, ?_, Soft.of_own ho, hap.out, HWH.out⟩, hsz, hbl⟩
      have hrd := Rd.of_own ho
      refine ⟨hrd.1, fun hn0 => ?_⟩
      obtain ⟨b, off, e, h1, h2, hc⟩ := hrd.2 hn0
      refine ⟨b, off, e, h1, ?_, hc⟩
      injection e with e
      injection e with e _
      omega
end Go.Proofs.YtknphikoikdcjaaGreat


/- The exact laws' helpers on nodes: sizes, copies, comparisons. -/
namespace Go.Proofs.YtknphikoikdcjaaGreat
open Go.RowKit

theorem infoNode : (Tryz.prog.info? 137).map (fun i => (i.zero, i.size, i.bytes)) = some (some (.agg #[.int .i64 0, .int .i64 0]), 2, 16) := by kernel_rfl

theorem szNodeS_no (n c : Nat) (A : Option Addr) (left : Int) (w : World) (hn : n ≤ 9223372036854775807) (hl : 0 ≤ left) (hl2 : left ≤ 1048576) (h : left < n) :
    Calls Tryz.prog 55 #[.slice A n c, .int .i64 left] w fun e w' => e = .returned (.int .i64 (-1)) ∧ w = w' := by
  go_enter Tryz.func55, Tryz.ntmps55
  go_wp2
  go_ret
  exact ⟨rfl, rfl⟩
theorem szNodeS_yes (n c : Nat) (A : Option Addr) (left : Int) (w : World) (hl : 0 ≤ left) (hl2 : left ≤ 1048576) (h : n ≤ left) :
    Calls Tryz.prog 55 #[.slice A n c, .int .i64 left] w fun e w' => e = .returned (.int .i64 (left - n)) ∧ w = w' := by
  go_enter Tryz.func55, Tryz.ntmps55
  go_wp2
  go_ret
  exact ⟨rfl, rfl⟩

theorem toNode_any (x y : Int) (w : World) :
    Calls Tryz.prog 119 #[.agg #[.int .i64 x, .int .i64 y]] w fun e w' => e = .returned (.agg #[.int .i64 x, .int .i64 y]) ∧ Below w.heap.size w w' := by
  go_enter Tryz.func119, Tryz.ntmps119
  go_wp2
  exact bodyPost_ret (v := .agg #[.int .i64 x, .int .i64 y]) (by simp [results, Tryz.results119, go_sem]) rfl ⟨rfl, by repeat (first | exact Below.refl _ _ | refine up_alloc ?_ _)⟩

theorem eqNode_any (x y x' y' : Int) (w : World) :
    Calls Tryz.prog 139 #[.agg #[.int .i64 x, .int .i64 y], .agg #[.int .i64 x', .int .i64 y']] w fun e w' => e = .returned (.bool (eqP x y x' y')) ∧ Below w.heap.size w w' := by
  unfold eqP
  by_cases h : x = x'
  · subst h
    by_cases h' : y = y'
    · subst h'
      go_enter Tryz.func139, Tryz.ntmps139
      go_wp2
      go_ret
      exact ⟨by simp, up_alloc (up_alloc (Below.refl _ _) _) _⟩
    · have g : (y == y') = false := by simpa using h'
      have g' : (y != y') = true := by simpa using h'
      go_enter Tryz.func139, Tryz.ntmps139
      go_wp2
      go_ret
      exact ⟨by simp [h'], up_alloc (up_alloc (Below.refl _ _) _) _⟩
  · have g : (x == x') = false := by simpa using h
    have g' : (x != x') = true := by simpa using h
    go_enter Tryz.func139, Tryz.ntmps139
    go_wp2
    go_ret
    exact ⟨by simp [h], up_alloc (up_alloc (Below.refl _ _) _) _⟩

set_option maxHeartbeats 400000 in
theorem eqNodeS_any (lo hi n c lo' hi' n' c' : Nat) (A A' : Option Addr) (ps qs : List (Int × Int)) (w : World) (hr : Rd w lo hi 2 A n (pvs ps)) (hB : hi ≤ w.heap.size) (hn : n ≤ 1048576)
    (hr' : Rd w lo' hi' 2 A' n' (pvs qs)) (hB' : hi' ≤ w.heap.size) (hn' : n' ≤ 1048576) :
    Calls Tryz.prog 76 #[.slice A n c, .slice A' n' c'] w fun e w' => e = .returned (.bool (ps == qs)) ∧ Below w.heap.size w w' := by
  have HL := Lib.hid hr.len2
  have HL' := Lib.hid hr'.len2
  by_cases hnn : n = n'
  · subst hnn
    go_enter Tryz.func76, Tryz.ntmps76
    go_wp2
    go_loopw [5] (fun iv wr => ∃ (k : Nat), k ≤ n ∧ iv = .int .i64 k ∧ Hid ((ps == qs) = (ps.drop k == qs.drop k)) ∧ Below w.heap.size w wr)
       (fun iv _ => n - (intOf iv).toNat)
    case atStart => exact ⟨0, by omega, rfl, rfl, Below.refl _ _⟩
    case round =>
      obtain ⟨k, hk, rfl, hS, hbl⟩ := hrel
      by_cases hlt : k < n
      · obtain ⟨b, off, x, y, rfl, hbB, _, hg, hc0, hc1⟩ := (hr.keep hbl hB).pair hlt
        obtain ⟨b', off', x', y', rfl, hbB', _, hg', hc0', hc1'⟩ := (hr'.keep hbl hB').pair hlt
        have Hg := Lib.hid hg; clear hg
        have Hg' := Lib.hid hg'; clear hg'
        have hkn : (k : Int) < (n : Int) := by omega
        have hsz := hbl.size
        go_wp2
        go_region_held3 (fun w' => w'.cell? ⟨b, off + k * 2, none⟩ = some (.int .i64 x) ∧ w'.cell? ⟨b, off + k * 2 + 1, none⟩ = some (.int .i64 y) ∧ w'.cell? ⟨b', off' + k * 2, none⟩ = some (.int .i64 x') ∧ w'.cell? ⟨b', off' + k * 2 + 1, none⟩ = some (.int .i64 y')) (first | exact ⟨hc0, hc1, hc0', hc1'⟩ | exact ⟨(hb1.cell (by show b < wr.heap.size; omega)).trans hc0, (hb1.cell (by show b < wr.heap.size; omega)).trans hc1, (hb1.cell (by show b' < wr.heap.size; omega)).trans hc0', (hb1.cell (by show b' < wr.heap.size; omega)).trans hc1'⟩)
          ((go_at_call 139; refine (eqNode_any _ _ _ _ _).mono ?_; rintro e w1 ⟨rfl, hb1⟩))
        by_cases he : eqP x y x' y' = true
        · have He := Lib.hid (eqP_iff.1 he)
          rw [he]; clear he
          go_wp2
          go_roundw
          case rel =>
            refine ⟨k + 1, by omega, by go_num, ?_, up (up_drew hbl) hb1⟩
            obtain ⟨rfl, rfl⟩ := He.out
            rw [Hid, hS.out, drop_cons2 Hg.out, drop_cons2 Hg'.out]
            simp
          case measure => simp [intOf]; omega
        · have He := Lib.hid he
          have he' : eqP x y x' y' = false := by simpa using he
          rw [he']; clear he he'
          go_wp2
          go_ret
          refine ⟨ret_bool ?_, up (up_drew hbl) hb1⟩
          rw [hS.out, drop_cons2 Hg.out, drop_cons2 Hg'.out]
          symm
          rw [beq_eq_false_iff_ne]
          intro h
          injection h with h _
          injection h with h1 h2
          exact He.out (eqP_iff.2 ⟨h1, h2⟩)
      · obtain rfl : k = n := by omega
        go_wp2
        go_ret
        refine ⟨ret_bool ?_, hbl⟩
        rw [hS.out, List.drop_of_length_le (by rw [HL.out]; omega), List.drop_of_length_le (by rw [HL'.out]; omega)]
        rfl
  · have hne : ((n : Int) != (n' : Int)) = true := by rw [bne_iff_ne]; omega
    go_enter Tryz.func76, Tryz.ntmps76
    go_wp2
    go_ret
    refine ⟨ret_bool ?_, Below.refl _ _⟩
    symm
    rw [beq_eq_false_iff_ne]
    intro h
    exact hnn (by rw [← HL.out, ← HL'.out, h])

set_option maxRecDepth 100000 in
set_option maxHeartbeats 400000 in
theorem toNodeS_any (lo hi n c : Nat) (A : Option Addr) (ps : List (Int × Int)) (w : World) (hr : Rd w lo hi 2 A n (pvs ps)) (hB : hi ≤ w.heap.size) (hn : n ≤ 1048576) :
    Calls Tryz.prog 65 #[.slice A n c] w (Fresh (pvs ps) 2 n w) := by
  have HL := Lib.hid hr.len2
  obtain ⟨i0, hi0, hz0, hz1, hz2⟩ := info_parts infoNode
  obtain ⟨wm, hmk, hown, hgr⟩ := run_make_full (P := Tryz.prog) w w.heap.size 37 137 i0 _ 2 Tryz.underlying37 hi0 hz0 hz1 .i64 .i64 n (by rw [hz2]; omega) (by unfold maxLen; omega) (Nat.le_refl _)
  have hbm : Below w.heap.size w wm := (Below.refl _ _).grown hgr (Nat.le_refl _) (by simp)
  generalize hzs : (madeCells (Value.agg #[.int .i64 0, .int .i64 0]).cells (n * 2)).toList = zs at hown
  have hzl : Hid (zs.length = n * 2) := by rw [Hid, ← hzs]; simp [size_madeCells]
  clear hzs hgr hi0 hz0 hz1 hz2
  go_enter Tryz.func65, Tryz.ntmps65
  go_wp2
  clear hmk
  go_loopw [4] (fun iv wr => ∃ (k : Nat), k ≤ n ∧ iv = .int .i64 k ∧ wr.ownsRow w.heap.size 137 2 (.slice (some ⟨w.heap.size, 0, none⟩) n n) n (pvs (ps.take k) ++ zs.drop (k * 2)) ∧ Below w.heap.size w wr)
     (fun iv _ => n - (intOf iv).toNat)
  case atStart => exact ⟨0, by omega, rfl, by simpa [pvs] using hown, hbm⟩
  case round =>
    clear hown hbm
    obtain ⟨k, hk, rfl, hown, hbl⟩ := hrel
    by_cases hlt : k < n
    · obtain ⟨b, off, x, y, rfl, hbB, _, hg, hc0, hc1⟩ := (hr.keep hbl hB).pair hlt
      have Hg := Lib.hid hg; clear hg
      have hkn : (k : Int) < (n : Int) := by omega
      have hsz := hbl.size
      go_wp2_with (fail)
      refine (toNode_any _ _ _).mono ?_
      rintro e w1 ⟨rfl, hb1⟩
      have hown1 := own_keep hown hb1
      have hbl1 := up hbl hb1
      have hlen : (pvs (ps.take k) ++ zs.drop (k * 2)).length = n * 2 := hown.1
      have hd0 := hown1.cellAt (k * 2) (by omega)
      have hd1 := hown1.cellAt (k * 2 + 1) (by omega)
      rw [List.getElem?_eq_getElem (by rw [hlen]; omega)] at hd0 hd1
      generalize hq0 : (pvs (ps.take k) ++ zs.drop (k * 2))[k * 2]'(by rw [hlen]; omega) = q0 at hd0
      generalize hq1 : (pvs (ps.take k) ++ zs.drop (k * 2))[k * 2 + 1]'(by rw [hlen]; omega) = q1 at hd1
      have hf0 := hown1.frozenAt (k * 2)
      have hf1 := hown1.frozenAt (k * 2 + 1)
      have hst := ((hown1.stored (k * 2) (.int .i64 x)).1.stored (k * 2 + 1) (.int .i64 y)).1
      rw [mix_step ps zs n k x y HL.out hzl.out hlt Hg.out] at hst
      have Hst := Lib.hid hst
      clear hq0 hq1 hst hlen hown hown1 hb1
      go_wp2
      go_roundw
      case rel => exact ⟨k + 1, by omega, by go_num, Hst.out, (hbl1.setCell (by show _ ≤ w.heap.size; omega) _).setCell (by show _ ≤ w.heap.size; omega) _⟩
      case measure => simp [intOf]; omega
    · obtain rfl : k = n := by omega
      have Ho := Lib.hid hown; clear hown
      go_wp2
      go_ret
      have ho := Ho.out
      rw [List.take_of_length_le (by rw [HL.out]; omega), List.drop_of_length_le (by rw [hzl.out]; omega), List.append_nil] at ho
      exact ⟨_, _, rfl, Nat.le_refl _, Rd.of_own ho, Soft.of_own ho, hbl⟩
set_option maxHeartbeats 800000 in
theorem markNodeS_any (lo hi n c : Nat) (A : Option Addr) (zs : List Value) (k0 : Int) (w : World) (hr : Rd w lo hi 2 A n zs) (hs : Soft w 2 A n) (hn : n ≤ 1048576) (hk0 : 0 ≤ k0) (hk1 : k0 ≤ 1000000000000000) :
    Calls Tryz.prog 78 #[.slice A n c, .int .i64 k0] w (Marked (pvs (seqP k0 n)) lo hi 2 A n (k0 + 2 * n) w) := by
  have HZ := Lib.hid hr.1
  go_enter Tryz.func78, Tryz.ntmps78
  go_wp2
  go_loopw [1, 5] (fun kv iv wr => ∃ (i : Nat), i ≤ n ∧ iv = .int .i64 i ∧ kv = .int .i64 (k0 + 2 * (i : Int)) ∧ Rd wr lo hi 2 A n (pvs (seqP k0 i) ++ zs.drop (i * 2)) ∧ Soft wr 2 A n ∧ In A n w wr)
     (fun _ iv _ => n - (intOf iv).toNat)
  case atStart => exact ⟨0, by omega, rfl, by simp, by simpa [seqP, pvs] using hr, hs, in_refl _ _ _⟩
  case round =>
    clear hr hs
    obtain ⟨i, hi_, rfl, rfl, hr, hs, hin⟩ := hrel
    by_cases hlt : i < n
    · have hl := hr.1
      obtain ⟨b, off, rfl, _, _⟩ := hr.form (by omega)
      obtain ⟨b', off', e, _, _, hcc⟩ := hr.2 (by omega)
      injection e with e; injection e with e1 e2
      subst e1; subst e2
      have hc0 := hcc (i * 2) _ (List.getElem?_eq_getElem (by omega))
      have hc1 := hcc (i * 2 + 1) _ (List.getElem?_eq_getElem (by omega))
      rw [← Nat.add_assoc] at hc1
      generalize (pvs (seqP k0 i) ++ zs.drop (i * 2))[i * 2]'(by omega) = z0 at hc0
      generalize (pvs (seqP k0 i) ++ zs.drop (i * 2))[i * 2 + 1]'(by omega) = z1 at hc1
      have hf0 := hs b off rfl (i * 2) (by omega)
      have hf1 := hs b off rfl (i * 2 + 1) (by omega)
      rw [← Nat.add_assoc] at hf1
      have hr2 := (hr.store (i * 2) (by omega) (.int .i64 (k0 + 2 * (i : Int)))).store (i * 2 + 1) (by omega) (.int .i64 (k0 + 2 * (i : Int) + 1))
      rw [mixP_step k0 zs n i HZ.out hlt, ← Nat.add_assoc] at hr2
      have HR := Lib.hid hr2
      have HS := Lib.hid ((hs.store ⟨b, off + i * 2, none⟩ (.int .i64 (k0 + 2 * (i : Int)))).store ⟨b, off + i * 2 + 1, none⟩ (.int .i64 (k0 + 2 * (i : Int) + 1)))
      have HI := Lib.hid (in_store (in_store hin (by omega) (off + i * 2) (.int .i64 (k0 + 2 * (i : Int)))) (by omega) (off + i * 2 + 1) (.int .i64 (k0 + 2 * (i : Int) + 1)))
      clear hr2 hr hs hin hcc hl
      go_wp2
      go_roundw
      case rel => exact ⟨i + 1, by omega, by go_num, by go_num, HR.out, HS.out, HI.out⟩
      case measure => simp [intOf]; omega
    · obtain rfl : i = n := by omega
      rw [List.drop_of_length_le (by rw [HZ.out]; omega), List.append_nil] at hr
      have HR := Lib.hid hr
      clear hr
      go_wp2
      go_ret
      exact ⟨rfl, HR.out, hs, hin⟩
end Go.Proofs.YtknphikoikdcjaaGreat


/- The exact laws' helpers on processes: sizes, copies, comparisons, marks. -/
namespace Go.Proofs.YtknphikoikdcjaaGreat
open Go.RowKit

set_option maxHeartbeats 800000 in
theorem eqFlow_same (lo hi lo' hi' : Nat) (x y : Int) (n c n' c' : Nat) (A A' : Option Addr) (ps : List (Int × Int)) (w : World) (hr : Rd w lo hi 2 A n (pvs ps)) (hB : hi ≤ w.heap.size) (hn : n ≤ 1048576) (hr' : Rd w lo' hi' 2 A' n' (pvs ps)) (hB' : hi' ≤ w.heap.size) (hn' : n' ≤ 1048576) :
    Calls Tryz.prog 140 #[.agg #[.int .i64 x, .int .i64 y, .slice A n c], .agg #[.int .i64 x, .int .i64 y, .slice A' n' c']] w fun e w' => e = .returned (.bool true) ∧ Below w.heap.size w w' := by
  have hb := up_alloc (up_alloc (Below.refl _ w) (.cells #[.int .i64 x, .int .i64 y, .slice A n c] 167)) (.cells #[.int .i64 x, .int .i64 y, .slice A' n' c'] 167)
  go_enter Tryz.func140, Tryz.ntmps140
  go_wp2_with (fail)
  (with_reducible refine (eqPartS_any lo hi n c lo' hi' n' c' A A' ps ps _ (hr.keep hb hB) (Nat.le_trans hB hb.size) hn (hr'.keep hb hB') (Nat.le_trans hB' hb.size) hn').mono ?_)
  rintro e w1 ⟨rfl, hb1⟩
  rw [beq_self_eq_true]
  have HB := Lib.hid (up hb hb1)
  clear hb hb1
  go_wp2
  go_ret
  exact ⟨rfl, HB.out⟩

set_option maxRecDepth 100000 in
set_option maxHeartbeats 1600000 in
theorem eqFlowS_same (lo hi n c lo' hi' n' c' : Nat) (A A' : Option Addr) (fs : List Flw) (w : World) (hr : Fls w lo hi A n fs) (hB : hi ≤ w.heap.size) (hn : n ≤ 1048576) (hr' : Fls w lo' hi' A' n' fs) (hB' : hi' ≤ w.heap.size) :
    Calls Tryz.prog 77 #[.slice A n c, .slice A' n' c'] w fun e w' => e = .returned (.bool true) ∧ Below w.heap.size w w' := by
  obtain rfl : n = n' := by rw [← hr.1, ← hr'.1]
  go_enter Tryz.func77, Tryz.ntmps77
  go_wp2
  go_loopw [5] (fun iv wr => ∃ (k : Nat), k ≤ n ∧ iv = .int .i64 k ∧ Below w.heap.size w wr)
     (fun iv _ => n - (intOf iv).toNat)
  case atStart => exact ⟨0, by omega, rfl, Below.refl _ _⟩
  case round =>
    obtain ⟨k, hk, rfl, hbl⟩ := hrel
    by_cases hlt : k < n
    · obtain ⟨b, off, x, y, ps, A1, m1, c1, rfl, hbB, _, hg, hx, hy, hz, hrp, hm⟩ := (hr.keep hbl hB).at hlt
      obtain ⟨b', off', x', y', ps', A2, m2, c2, rfl, hbB', _, hg', hx', hy', hz', hrp', hm'⟩ := (hr'.keep hbl hB').at hlt
      rw [hg] at hg'
      injection hg' with hg'
      injection hg' with e1 hg'
      injection hg' with e2 e3
      subst e1; subst e2; subst e3
      have hcall := eqFlow_same lo hi lo' hi' x y m1 c1 m2 c2 A1 A2 ps wr.drew (hrp.keep (up_drew (Below.refl _ wr)) (Nat.le_trans hB hbl.size)) (Nat.le_trans hB hbl.size) hm (hrp'.keep (up_drew (Below.refl _ wr)) (Nat.le_trans hB' hbl.size)) (Nat.le_trans hB' hbl.size) hm'
      have HC := Lib.hid hcall
      have hkn : (k : Int) < (n : Int) := by omega
      have hk0 : (0 : Int) ≤ (k : Int) := by omega
      clear hcall hg hrp hrp'
      go_wp2
      go_region_law (go_simp; refine HC.out.mono ?_; rintro e w9 ⟨rfl, hb9⟩)
      all_goals
        have HB := Lib.hid (up (up_drew hbl) hb9)
        clear hb9
        go_wp2
        go_roundw
        case rel => exact ⟨k + 1, by omega, by go_num, HB.out⟩
        case measure => simp [intOf]; omega
    · obtain rfl : k = n := by omega
      go_wp2
      go_ret
      exact ⟨rfl, hbl⟩


/-- What a flow's mark leaves to the loop. -/
def MarkRel (w : World) (lo mid hi : Nat) (A : Option Addr) (n : Nat) (hs : List Hd) (k0 : Int) (i : Nat) (kv : Value) (wr : World) : Prop :=
  ∃ (r : Int) (vs : List Value), kv = .int .i64 r ∧ 0 ≤ r ∧ r ≤ k0 + (i : Int) * 2097154 ∧ Rd wr lo mid 3 A n vs ∧ (∀ (j : Nat) (h : Hd), i ≤ j → hs[j]? = some h → vs[j * 3 + 2]? = some (hdv h)) ∧ Soft wr 3 A n ∧
    (∀ (j : Nat) (h : Hd), hs[j]? = some h → h.2.1 ≤ 1048576 ∧ ∃ zs, Rd wr mid hi 2 h.1 h.2.1 zs ∧ Soft wr 2 h.1 h.2.1) ∧ Within lo hi w wr
def MarkPost (lo hi : Nat) (k0 : Int) (w : World) (e : Ending) (w' : World) : Prop := ∃ r : Int, e = .returned (.int .i64 r) ∧ 0 ≤ r ∧ r ≤ k0 + 2200000000000 ∧ Within lo hi w w'

set_option maxRecDepth 100000 in
set_option maxHeartbeats 1600000 in
theorem markFlowS_any (lo mid hi n c : Nat) (A : Option Addr) (fs : List Flw) (k0 : Int) (w : World) (hr : FlsM w lo mid hi A n fs) (_hlm : lo ≤ mid) (hmh : mid ≤ hi) (hB : hi ≤ w.heap.size) (hn : n ≤ 1048576) (hk0 : 0 ≤ k0) (hk1 : k0 ≤ 10000000000000) :
    Calls Tryz.prog 79 #[.slice A n c, .int .i64 k0] w (MarkPost lo hi k0 w) := by
  obtain ⟨hl, hs, hl', hrd, hsf, hap, hc⟩ := hr
  have HL := Lib.hid hl
  have HL' := Lib.hid hl'
  have HAP := Lib.hid hap
  have HST : Hid (MarkRel w lo mid hi A n hs k0 0 (.int .i64 k0) w) := by
    refine ⟨k0, fvs fs hs, rfl, hk0, by omega, hrd, fun j h _ e => ?_, hsf, fun j h e => ?_, Within.refl _ _ _⟩
    · have hj := (List.getElem?_eq_some_iff.1 e).1
      exact (fvs_get fs hs j _ h (List.getElem?_eq_getElem (by omega)) e).2.2
    · have hj := (List.getElem?_eq_some_iff.1 e).1
      obtain ⟨q1, q2, q3⟩ := hc j fs[j] h (List.getElem?_eq_getElem (by omega)) e
      exact ⟨q3, _, q1, q2⟩
  clear hl hl' hrd hsf hap hc
  go_enter Tryz.func79, Tryz.ntmps79
  go_wp2
  go_loopw [1, 5] (fun kv iv wr => ∃ (i : Nat), i ≤ n ∧ iv = .int .i64 i ∧ MarkRel w lo mid hi A n hs k0 i kv wr)
     (fun _ iv _ => n - (intOf iv).toNat)
  case atStart => exact ⟨0, by omega, rfl, HST.out⟩
  case round =>
    clear HST
    obtain ⟨i, hi_, rfl, r, vs, rfl, hr0, hr1, hrd, hvs, hsf, hwh, hwi⟩ := hrel
    by_cases hlt : i < n
    · have hlen := hrd.1
      obtain ⟨b, off, hA, hb1, hb2, hcc⟩ := hrd.2 (by omega)
      subst hA
      have hih : i < hs.length := by rw [HL'.out]; exact hlt
      have hhd := hvs i hs[i] (Nat.le_refl _) (List.getElem?_eq_getElem hih)
      have hc0 := hcc (i * 3) _ (List.getElem?_eq_getElem (by omega))
      have hc1 := hcc (i * 3 + 1) _ (List.getElem?_eq_getElem (by omega))
      have hc2 := hcc (i * 3 + 2) _ hhd
      rw [← Nat.add_assoc] at hc1 hc2
      generalize vs[i * 3]'(by omega) = z0 at hc0
      generalize vs[i * 3 + 1]'(by omega) = z1 at hc1
      obtain ⟨hm, zs, hrw, hsw⟩ := hwh i hs[i] (List.getElem?_eq_getElem hih)
      have hgi : hs[i]? = some hs[i] := List.getElem?_eq_getElem hih
      generalize hs[i] = hh at hhd hc2 hm hrw hsw hgi
      obtain ⟨A1, m1, c1⟩ := hh
      simp only [hdv] at hc2
      have hf0 := hsf b off rfl (i * 3) (by omega)
      have hf1 := hsf b off rfl (i * 3 + 1) (by omega)
      rw [← Nat.add_assoc] at hf1
      have hr2 := (hrd.store (i * 3) (by omega) (.int .i64 r)).store (i * 3 + 1) (by omega) (.int .i64 (r + 1))
      rw [← Nat.add_assoc] at hr2
      have hs2 := (hsf.store ⟨b, off + i * 3, none⟩ (.int .i64 r)).store ⟨b, off + i * 3 + 1, none⟩ (.int .i64 (r + 1))
      have hw2 := (hwi.trans (Within.set wr ⟨b, off + i * 3, none⟩ (.int .i64 r) hb1 (by show b < hi; omega))).trans (Within.set _ ⟨b, off + i * 3 + 1, none⟩ (.int .i64 (r + 1)) hb1 (by show b < hi; omega))
      have hrw2 := (hrw.setCell (p := ⟨b, off + i * 3, none⟩) (.inl hb2) (.int .i64 r)).setCell (p := ⟨b, off + i * 3 + 1, none⟩) (.inl hb2) (.int .i64 (r + 1))
      have hsw2 := (hsw.store ⟨b, off + i * 3, none⟩ (.int .i64 r)).store ⟨b, off + i * 3 + 1, none⟩ (.int .i64 (r + 1))
      have HR2 := Lib.hid hr2
      have HS2 := Lib.hid hs2
      have HW2 := Lib.hid hw2
      have HRW2 := Lib.hid hrw2
      have HSW2 := Lib.hid hsw2
      have HWH : Hid (∀ (j : Nat) (h : Hd), hs[j]? = some h → h.2.1 ≤ 1048576 ∧ ∃ zs, Rd ((wr.setCell ⟨b, off + i * 3, none⟩ (.int .i64 r)).setCell ⟨b, off + i * 3 + 1, none⟩ (.int .i64 (r + 1))) mid hi 2 h.1 h.2.1 zs ∧ Soft ((wr.setCell ⟨b, off + i * 3, none⟩ (.int .i64 r)).setCell ⟨b, off + i * 3 + 1, none⟩ (.int .i64 (r + 1))) 2 h.1 h.2.1) := by
        intro j h e
        obtain ⟨q1, zs', q2, q3⟩ := hwh j h e
        exact ⟨q1, zs', (q2.setCell (p := ⟨b, off + i * 3, none⟩) (.inl hb2) _).setCell (p := ⟨b, off + i * 3 + 1, none⟩) (.inl hb2) _, (q3.store _ _).store _ _⟩
      have HVS : Hid (∀ (j : Nat) (h : Hd), i + 1 ≤ j → hs[j]? = some h → ((vs.set (i * 3) (.int .i64 r)).set (i * 3 + 1) (.int .i64 (r + 1)))[j * 3 + 2]? = some (hdv h)) := by
        intro j h hj e
        rw [List.getElem?_set_ne (by omega), List.getElem?_set_ne (by omega)]
        exact hvs j h (by omega) e
      have HG := Lib.hid hgi
      have HLEN := Lib.hid hlen
      have hsz : hi ≤ wr.heap.size := Nat.le_trans hB hwi.size
      clear hr2 hs2 hw2 hrw2 hsw2 hvs hwh hgi hhd hcc hrd hsf hrw hsw hwi hlen
      have hrb : r ≤ 13000000000000 := by omega
      have HRB := Lib.hid hr1
      clear hr1
      go_wp2_with (fail)
      (with_reducible refine (markPartS_any mid hi m1 c1 A1 zs (r + 1 + 1) _ HRW2.out HSW2.out hm (by omega) (by omega)).mono ?_)
      rintro e w3 ⟨rfl, hr3, hs3, hin3⟩
      have hsz2 : ((wr.setCell ⟨b, off + i * 3, none⟩ (.int .i64 r)).setCell ⟨b, off + i * 3 + 1, none⟩ (.int .i64 (r + 1))).heap.size = wr.heap.size := by simp [World.setCell]
      have hR3 := HR2.out.other (by omega) hin3 HRW2.out (.inl (Nat.le_refl _))
      have hS3 := HS2.out.other HR2.out (by omega) hin3 HRW2.out (.inl (Nat.le_refl _))
      have hW3 := HW2.out.trans (Within.grown (lo := lo) (hi := hi) hin3 (fun g e => by have := in_row HRW2.out g e; omega))
      have HWH3 : Hid (∀ (j : Nat) (h : Hd), hs[j]? = some h → h.2.1 ≤ 1048576 ∧ ∃ zs, Rd w3 mid hi 2 h.1 h.2.1 zs ∧ Soft w3 2 h.1 h.2.1) := by
        intro j h e
        by_cases hj : j = i
        · subst hj
          rw [HG.out] at e
          injection e with e
          subst e
          exact ⟨hm, _, hr3, hs3⟩
        · obtain ⟨q1, zs', q2, q3⟩ := HWH.out j h e
          have hne : ∀ b' off', h.1 = some ⟨b', off', none⟩ → 0 < h.2.1 → (if m1 = 0 then none else A1.map (·.block)) ≠ some b' := by
            intro b' off' ea hp
            rcases Nat.eq_zero_or_pos m1 with h0 | h0
            · rw [if_pos h0]; simp
            · rw [if_neg (by omega)]
              obtain ⟨b4, off4, e4, _, _⟩ := HRW2.out.form h0
              rw [e4]
              intro e5
              injection e5 with e5
              exact HAP.out i j _ h b4 off4 b' off' HG.out e (fun e => hj e.symm) e4 ea h0 hp e5
          exact ⟨q1, zs', q2.apart hin3 (by omega) hne, q3.apart q2 hin3 (by omega) hne⟩
      have HR3 := Lib.hid hR3
      have HS3 := Lib.hid hS3
      have HW3 := Lib.hid hW3
      clear hR3 hS3 hW3 hr3 hs3 hin3 HWH HR2 HS2 HW2 hsz2 HRW2 HSW2
      go_wp2
      go_roundw
      case rel =>
        have := HRB.out
        exact ⟨i + 1, by omega, by go_num, _, _, rfl, by omega, by omega, HR3.out, HVS.out, HS3.out, HWH3.out, HW3.out⟩
      case measure => simp [intOf]; omega
    · obtain rfl : i = n := by omega
      have HW := Lib.hid hwi
      clear hvs hwh hrd hsf hwi
      go_wp2
      go_ret
      exact ⟨r, rfl, hr0, by omega, HW.out⟩

theorem szProcess_any (lo hi nn cn : Nat) (An : Option Addr) (ns : List (Int × Int)) (lo' hi' n c : Nat) (A : Option Addr) (fs : List Flw) (left : Int) (w : World) (_hrn : Rd w lo hi 2 An nn (pvs ns)) (_hB : hi ≤ w.heap.size) (hnn : nn ≤ 9223372036854775807)
    (hr : FlsU w lo' hi' A n fs) (hB' : hi' ≤ w.heap.size) (hn : n ≤ 9223372036854775807) (hl : 0 ≤ left) (hl2 : left ≤ 1048576) :
    Calls Tryz.prog 12 #[.agg #[.slice An nn cn, .slice A n c], .int .i64 left] w fun e w' => Below w.heap.size w w' ∧ (e = .returned (.int .i64 (-1)) ∨ ∃ r : Int, e = .returned (.int .i64 r) ∧ 0 ≤ r ∧ r ≤ left ∧ nn ≤ 1048576 ∧ n ≤ 1048576 ∧ ∀ f ∈ fs, f.2.2.length ≤ 1048576) := by
  have hb1 := up_alloc (Below.refl _ w) (.cells #[.slice An nn cn, .slice A n c] 25)
  by_cases hlt : left < nn
  · go_enter Tryz.func12, Tryz.ntmps12
    go_wp2_with (fail)
    (with_reducible refine (szNodeS_no nn cn An left _ hnn hl hl2 hlt).mono ?_)
    rintro e w' ⟨rfl, rfl⟩
    go_wp2
    go_ret
    exact ⟨hb1, .inl rfl⟩
  · have hr1 := hr.keep hb1 hB'
    go_enter Tryz.func12, Tryz.ntmps12
    go_wp2_with (fail)
    (with_reducible refine (szNodeS_yes nn cn An left _ hl hl2 (by omega)).mono ?_)
    rintro e w' ⟨rfl, rfl⟩
    have hpos : (0 : Int) ≤ left - (nn : Int) := by omega
    go_wp2_with (fail)
    (with_reducible refine (szFlowS_any lo' hi' n c A fs (left - (nn : Int)) _ hr1 (Nat.le_trans hB' hb1.size) hn hpos (by omega)).mono ?_)
    rintro e w1 ⟨hb2, he⟩
    have HB := Lib.hid (up hb1 hb2)
    clear hb2
    rcases he with rfl | ⟨r', rfl, q0, q1, q2, q3⟩
    · go_wp2
      go_ret
      exact ⟨HB.out, .inl rfl⟩
    · have HQ := Lib.hid q3
      clear q3
      go_wp2
      go_ret
      exact ⟨HB.out, .inr ⟨r', rfl, q0, by omega, by omega, q2, HQ.out⟩⟩

/-- A process, copied: its nodes below mid, its flows from there on. -/
def ToProc (ns : List (Int × Int)) (fs : List Flw) (w : World) (e : Ending) (w' : World) : Prop :=
  ∃ An cn A c mid, e = .returned (.agg #[.slice An ns.length cn, .slice A fs.length c]) ∧ Rd w' w.heap.size mid 2 An ns.length (pvs ns) ∧ Soft w' 2 An ns.length ∧ w.heap.size ≤ mid ∧ mid + 1 ≤ w'.heap.size ∧ FlsM w' mid (mid + 1) w'.heap.size A fs.length fs ∧ Below w.heap.size w w'
theorem FlsM.within {w w' : World} {L H lo mid hi : Nat} {A : Option Addr} {n : Nat} {fs : List Flw} (h : FlsM w lo mid hi A n fs) (hw : Within L H w w') (h1 : lo ≤ mid) (h2 : mid ≤ hi) (hu : hi ≤ w.heap.size) (hd : hi ≤ L ∨ H ≤ lo) : FlsM w' lo mid hi A n fs := by
  obtain ⟨hl, hs, hl', hr, hsf, hap, hc⟩ := h
  exact ⟨hl, hs, hl', hr.within hw (by omega) (by omega), hsf.within hr hw (by omega) (by omega), hap, fun k f x e e' => ⟨(hc k f x e e').1.within hw hu (by omega), (hc k f x e e').2.1.within (hc k f x e e').1 hw hu (by omega), (hc k f x e e').2.2⟩⟩
theorem FlsM.set {w : World} {lo mid hi : Nat} {A : Option Addr} {n : Nat} {fs : List Flw} (h : FlsM w lo mid hi A n fs) (p : Addr) (u : Value) (h1 : p.block < lo) (h2 : p.block < mid) : FlsM (w.setCell p u) lo mid hi A n fs := by
  obtain ⟨hl, hs, hl', hr, hsf, hap, hc⟩ := h
  exact ⟨hl, hs, hl', hr.setCell (.inl h1) u, hsf.store p u, hap, fun k f x e e' => ⟨(hc k f x e e').1.setCell (.inl h2) u, (hc k f x e e').2.1.store p u, (hc k f x e e').2.2⟩⟩

set_option maxRecDepth 100000 in
set_option maxHeartbeats 1600000 in
theorem toProcess_any (lo hi nn cn : Nat) (An : Option Addr) (ns : List (Int × Int)) (lo' hi' n c : Nat) (A : Option Addr) (fs : List Flw) (w : World) (hrn : Rd w lo hi 2 An nn (pvs ns)) (hB : hi ≤ w.heap.size) (hnn : nn ≤ 1048576)
    (hr : Fls w lo' hi' A n fs) (hB' : hi' ≤ w.heap.size) (hn : n ≤ 1048576) :
    Calls Tryz.prog 15 #[.agg #[.slice An nn cn, .slice A n c]] w (ToProc ns fs w) := by
  have HLN := Lib.hid hrn.len2
  have HLF := Lib.hid hr.1
  have hW0 := Blk.new ((w.alloc (.cells #[.slice An nn cn, .slice A n c] 25)).alloc (.cells #[.slice none 0 0, .slice none 0 0] 40)) 40 #[.slice none 0 0, .slice none 0 0]
  have hR0 := (Blk.new (w.alloc (.cells #[.slice An nn cn, .slice A n c] 25)) 40 #[.slice none 0 0, .slice none 0 0]).alloc (.cells #[.slice none 0 0, .slice none 0 0] 40)
  have hX0 := ((Blk.new w 25 #[.slice An nn cn, .slice A n c]).alloc (.cells #[.slice none 0 0, .slice none 0 0] 40)).alloc (.cells #[.slice none 0 0, .slice none 0 0] 40)
  have hb0 := up_alloc (up_alloc (up_alloc (Below.refl _ w) (.cells #[.slice An nn cn, .slice A n c] 25)) (.cells #[.slice none 0 0, .slice none 0 0] 40)) (.cells #[.slice none 0 0, .slice none 0 0] 40)
  have e1 : (w.alloc (.cells #[.slice An nn cn, .slice A n c] 25)).heap.size = w.heap.size + 1 := by simp
  have e2 : ((w.alloc (.cells #[.slice An nn cn, .slice A n c] 25)).alloc (.cells #[.slice none 0 0, .slice none 0 0] 40)).heap.size = w.heap.size + 1 + 1 := by simp
  rw [e2] at hW0
  rw [e1] at hR0
  have HW0 := Lib.hid hW0
  have HR0 := Lib.hid hR0
  have HX0 := Lib.hid hX0
  have hlt0 := hW0.lt
  clear e1 e2 hW0 hR0 hX0
  go_enter Tryz.func15, Tryz.ntmps15
  go_wp2_with (fail)
  (with_reducible refine (toNodeS_any lo hi nn cn An ns _ (hrn.keep hb0 hB) (Nat.le_trans hB hb0.size) hnn).mono ?_)
  rintro e w1 ⟨A1, c1, rfl, _, hr1, hs1, hb1⟩
  have hb01 := up hb0 hb1
  have hsz1 := hb1.size
  have hW1 := HW0.out.below hb1 hlt0
  have hR1 := HR0.out.below hb1 (by omega)
  have hX1 := HX0.out.below hb1 (by omega)
  have h10 : w1.cell? ⟨w.heap.size + 1 + 1, 0, none⟩ = some (.slice none 0 0) := hW1.cell 0
  have f10 := hW1.soft 0
  have x11 : w1.cell? ⟨w.heap.size, 1, none⟩ = some (.slice A n c) := hX1.cell 1
  have hW2 : Blk (w1.setCell ⟨w.heap.size + 1 + 1, 0, none⟩ (.slice A1 nn c1)) (w.heap.size + 1 + 1) 40 #[.slice A1 nn c1, .slice none 0 0] := by simpa using hW1.put 0 (.slice A1 nn c1)
  have hR2 := hR1.far (p := ⟨w.heap.size + 1 + 1, 0, none⟩) (by simp) (.slice A1 nn c1)
  have hrd2 := hr1.setCell (p := ⟨w.heap.size + 1 + 1, 0, none⟩) (.inl hlt0) (.slice A1 nn c1)
  have hsf2 := hs1.store ⟨w.heap.size + 1 + 1, 0, none⟩ (.slice A1 nn c1)
  have hb02 := hb01.setCell (p := ⟨w.heap.size + 1 + 1, 0, none⟩) (by show _ ≤ w.heap.size + 1 + 1; omega) (.slice A1 nn c1)
  have hsz2 : (w1.setCell ⟨w.heap.size + 1 + 1, 0, none⟩ (.slice A1 nn c1)).heap.size = w1.heap.size := by simp [World.setCell]
  have hlow := hb0.size
  have HS2 := Lib.hid hsz2
  have HW2 := Lib.hid hW2
  have HR2 := Lib.hid hR2
  have HRD2 := Lib.hid hrd2
  have HSF2 := Lib.hid hsf2
  clear hsz2 hW2 hR2 hrd2 hsf2 hW1 hR1 hX1 hr1 hs1 hb1 hb01
  go_wp2_with (fail)
  (with_reducible refine (toFlowS_any lo' hi' n c A fs _ (hr.keep hb02 hB') (Nat.le_trans hB' hb02.size) hn).mono ?_)
  rintro e w3 ⟨A3, c3, rfl, hm3, hsz3, hb3⟩
  rw [HS2.out] at hm3 hsz3
  have hle3 : w.heap.size + 1 + 1 < w1.heap.size := by omega
  have hb03 := up hb02 hb3
  have hW3 := HW2.out.below hb3 (by rw [HS2.out]; exact hle3)
  have hR3 := HR2.out.below hb3 (by rw [HS2.out]; omega)
  have hrd3 := HRD2.out.keep hb3 (by rw [HS2.out]; exact Nat.le_refl _)
  have hsf3 := HSF2.out.kept HRD2.out hb3 (by rw [HS2.out]; exact Nat.le_refl _)
  have h30 : w3.cell? ⟨w.heap.size + 1 + 1, 0, none⟩ = some (.slice A1 nn c1) := hW3.cell 0
  have h31 : w3.cell? ⟨w.heap.size + 1 + 1, 1, none⟩ = some (.slice none 0 0) := hW3.cell 1
  have f31 := hW3.soft 1
  have r30 : w3.cell? ⟨w.heap.size + 1, 0, none⟩ = some (.slice none 0 0) := hR3.cell 0
  have r31 : w3.cell? ⟨w.heap.size + 1, 1, none⟩ = some (.slice none 0 0) := hR3.cell 1
  have q30 := hR3.soft 0
  have q31 := hR3.soft 1
  have HRF := Lib.hid (((hR3.far (p := ⟨w.heap.size + 1 + 1, 1, none⟩) (by simp) (.slice A3 n c3)).put 0 (.slice A1 nn c1)).put 1 (.slice A3 n c3))
  have HRD := Lib.hid (((hrd3.setCell (p := ⟨w.heap.size + 1 + 1, 1, none⟩) (.inl hlt0) (.slice A3 n c3)).setCell (p := ⟨w.heap.size + 1, 0, none⟩) (.inl (by show w.heap.size + 1 < _; omega)) (.slice A1 nn c1)).setCell (p := ⟨w.heap.size + 1, 1, none⟩) (.inl (by show w.heap.size + 1 < _; omega)) (.slice A3 n c3))
  have HSF := Lib.hid (((hsf3.store ⟨w.heap.size + 1 + 1, 1, none⟩ (.slice A3 n c3)).store ⟨w.heap.size + 1, 0, none⟩ (.slice A1 nn c1)).store ⟨w.heap.size + 1, 1, none⟩ (.slice A3 n c3))
  have HFM := Lib.hid (((hm3.set ⟨w.heap.size + 1 + 1, 1, none⟩ (.slice A3 n c3) (by show w.heap.size + 1 + 1 < _; omega) (by show w.heap.size + 1 + 1 < _; omega)).set ⟨w.heap.size + 1, 0, none⟩ (.slice A1 nn c1) (by show w.heap.size + 1 < _; omega) (by show w.heap.size + 1 < _; omega)).set ⟨w.heap.size + 1, 1, none⟩ (.slice A3 n c3) (by show w.heap.size + 1 < _; omega) (by show w.heap.size + 1 < _; omega))
  have HB := Lib.hid hb03
  clear hb3 hb03 hW3 hR3 hrd3 hsf3 hm3 hb02
  go_wp2
  have g0 := HRF.out.cell 0
  have g1 := HRF.out.cell 1
  simp at g0 g1
  refine bodyPost_ret (v := .agg #[.slice A1 nn c1, .slice A3 n c3]) (by simp [results, Tryz.results15, go_sem, g0, g1]) rfl ?_
  refine ⟨A1, c1, A3, c3, w1.heap.size, by rw [HLN.out, HLF.out], by rw [HLN.out]; exact HRD.out.wide hlow (Nat.le_refl _), by rw [HLN.out]; exact HSF.out, by omega, by simp [World.setCell]; omega, ?_, ?_⟩
  · rw [HLF.out]
    have := HFM.out
    simpa [World.setCell] using this
  · exact ((HB.out.setCell (by simp; omega) _).setCell (by simp) _).setCell (by simp) _

theorem eqProcess_same (lo hi nn cn lo1 hi1 nn1 cn1 : Nat) (An An1 : Option Addr) (ns : List (Int × Int)) (lo' hi' n c lo1' hi1' n1 c1 : Nat) (A A1 : Option Addr) (fs : List Flw) (w : World) (hrn : Rd w lo hi 2 An nn (pvs ns)) (hB : hi ≤ w.heap.size) (hnn : nn ≤ 1048576)
    (hr : Fls w lo' hi' A n fs) (hB' : hi' ≤ w.heap.size) (hn : n ≤ 1048576) (hrn1 : Rd w lo1 hi1 2 An1 nn1 (pvs ns)) (hB1 : hi1 ≤ w.heap.size) (hr1 : Fls w lo1' hi1' A1 n1 fs) (hB1' : hi1' ≤ w.heap.size) :
    Calls Tryz.prog 20 #[.agg #[.slice An nn cn, .slice A n c], .agg #[.slice An1 nn1 cn1, .slice A1 n1 c1]] w fun e w' => e = .returned (.bool true) ∧ Below w.heap.size w w' := by
  obtain rfl : nn = nn1 := by rw [← hrn.len2, ← hrn1.len2]
  have hx := Blk.new (w.alloc (.cells #[.slice An nn cn, .slice A n c] 40)) 40 #[.slice An1 nn cn1, .slice A1 n1 c1]
  have hy := (Blk.new w 40 #[.slice An nn cn, .slice A n c]).alloc (.cells #[.slice An1 nn cn1, .slice A1 n1 c1] 40)
  have hb := up_alloc (up_alloc (Below.refl _ w) (.cells #[.slice An nn cn, .slice A n c] 40)) (.cells #[.slice An1 nn cn1, .slice A1 n1 c1] 40)
  have e1 : (w.alloc (.cells #[.slice An nn cn, .slice A n c] 40)).heap.size = w.heap.size + 1 := by simp
  rw [e1] at hx
  clear e1
  have HX := Lib.hid hx
  have HY := Lib.hid hy
  have hlx := hx.lt
  have hly := hy.lt
  clear hx hy
  go_enter Tryz.func20, Tryz.ntmps20
  go_wp2_with (fail)
  (with_reducible refine (eqNodeS_any lo hi nn cn lo1 hi1 nn cn1 An An1 ns ns _ (hrn.keep hb hB) (Nat.le_trans hB hb.size) hnn (hrn1.keep hb hB1) (Nat.le_trans hB1 hb.size) hnn).mono ?_)
  rintro e w1 ⟨rfl, hb1⟩
  rw [beq_self_eq_true]
  have hb01 := up hb hb1
  have hx1 := HX.out.below hb1 hlx
  have hy1 := HY.out.below hb1 hly
  have hd1 : w1.cell? ⟨w.heap.size + 1, 1, none⟩ = some (.slice A1 n1 c1) := hx1.cell 1
  have hd0 : w1.cell? ⟨w.heap.size, 1, none⟩ = some (.slice A n c) := hy1.cell 1
  clear hb1 hx1 hy1 hb
  go_wp2_with (fail)
  (with_reducible refine (eqFlowS_same lo' hi' n c lo1' hi1' n1 c1 A A1 fs w1 (hr.keep hb01 hB') (Nat.le_trans hB' hb01.size) hn (hr1.keep hb01 hB1') (Nat.le_trans hB1' hb01.size)).mono ?_)
  rintro e w2 ⟨rfl, hb2⟩
  have HB := Lib.hid (up hb01 hb2)
  clear hb2 hb01
  go_wp2
  go_ret
  exact ⟨rfl, HB.out⟩

theorem markProcess_from (k0 : Int) (hk0 : 0 ≤ k0) (hk1 : k0 ≤ 9000000000000) (lo mid hi nn cn n c : Nat) (An A : Option Addr) (ns : List (Int × Int)) (fs : List Flw) (w : World) (hrn : Rd w lo mid 2 An nn (pvs ns)) (hsn : Soft w 2 An nn) (hnn : nn ≤ 1048576) (hr : FlsM w mid (mid + 1) hi A n fs) (hl : lo ≤ mid) (hm : mid + 1 ≤ hi) (hB : hi ≤ w.heap.size) (hn : n ≤ 1048576) :
    Calls Tryz.prog 22 #[.agg #[.slice An nn cn, .slice A n c], .int .i64 k0] w fun e w' => ∃ (r : Int) (w1 : World), e = .returned (.int .i64 r) ∧ 0 ≤ r ∧ r ≤ k0 + 2300000000000 ∧ Below w.heap.size w w1 ∧ Within lo hi w1 w' := by
  have hb1 := up_alloc (Below.refl _ w) (.cells #[.slice An nn cn, .slice A n c] 40)
  have hx := Blk.new w 40 #[.slice An nn cn, .slice A n c]
  have HX := Lib.hid hx
  have hlx := hx.lt
  have hrn1 := hrn.keep hb1 (by omega)
  have hsn1 := hsn.kept hrn hb1 (by omega)
  have hr1 := hr.keep hb1 (by omega) hB
  have hsz1 := hb1.size
  clear hx
  go_enter Tryz.func22, Tryz.ntmps22
  go_wp2_with (fail)
  (with_reducible refine (markNodeS_any lo mid nn cn An (pvs ns) k0 _ hrn1 hsn1 hnn (by omega) (by omega)).mono ?_)
  rintro e w2 ⟨rfl, hr2, _, hin2⟩
  have hx2 := HX.out.grown hin2 (fun e => by have := in_row hrn1 _ e.symm; omega)
  have hd1 : w2.cell? ⟨w.heap.size, 1, none⟩ = some (.slice A n c) := hx2.cell 1
  have hwi2 := Within.grown (lo := lo) (hi := hi) hin2 (fun g e => by have := in_row hrn1 g e; omega)
  have hm2 : FlsM w2 mid (mid + 1) hi A n fs := by
    obtain ⟨q1, hs, q2, q3, q4, q5, q6⟩ := hr1
    refine ⟨q1, hs, q2, q3.other (by omega) hin2 hrn1 (.inr (Nat.le_refl _)), q4.other q3 (by omega) hin2 hrn1 (.inr (Nat.le_refl _)), q5, fun k f x e e' => ?_⟩
    obtain ⟨p1, p2, p3⟩ := q6 k f x e e'
    exact ⟨p1.other (by omega) hin2 hrn1 (.inr (by omega)), p2.other p1 (by omega) hin2 hrn1 (.inr (by omega)), p3⟩
  have HWI := Lib.hid hwi2
  have HM2 := Lib.hid hm2
  have hsz2 := hin2.size
  clear hin2 hx2 hwi2 hm2 hr2
  go_wp2_with (fail)
  (with_reducible refine (markFlowS_any mid (mid + 1) hi n c A fs (k0 + 2 * (nn : Int)) w2 HM2.out (by omega) (by omega) (by omega) hn (by omega) (by omega)).mono ?_)
  rintro e w3 ⟨r, rfl, hr0, hr3, hwi3⟩
  have HW3 : Hid (Within lo hi w2 w3) := ⟨hwi3.os, hwi3.tape, hwi3.output, hwi3.size, fun i hi' ho => hwi3.block i hi' (by omega)⟩
  clear hwi3
  go_wp2
  go_ret
  exact ⟨r, _, rfl, hr0, by omega, hb1, HWI.out.trans HW3.out⟩
theorem markProcess_bd (lo mid hi nn cn n c : Nat) (An A : Option Addr) (ns : List (Int × Int)) (fs : List Flw) (w : World) (hrn : Rd w lo mid 2 An nn (pvs ns)) (hsn : Soft w 2 An nn) (hnn : nn ≤ 1048576) (hr : FlsM w mid (mid + 1) hi A n fs) (hl : lo ≤ mid) (hm : mid + 1 ≤ hi) (hB : hi ≤ w.heap.size) (hn : n ≤ 1048576) :
    Calls Tryz.prog 22 #[.agg #[.slice An nn cn, .slice A n c], .int .i64 1] w fun e w' => ∃ (r : Int) (w1 : World), e = .returned (.int .i64 r) ∧ 0 ≤ r ∧ r ≤ 3000000000000 ∧ Below w.heap.size w w1 ∧ Within lo hi w1 w' :=
  (markProcess_from 1 (by omega) (by omega) lo mid hi nn cn n c An A ns fs w hrn hsn hnn hr hl hm hB hn).mono fun e w' ⟨r, w1, h1, h2, h3, h4, h5⟩ => ⟨r, w1, h1, h2, by omega, h4, h5⟩
theorem markProcess_any (lo mid hi nn cn n c : Nat) (An A : Option Addr) (ns : List (Int × Int)) (fs : List Flw) (w : World) (hrn : Rd w lo mid 2 An nn (pvs ns)) (hsn : Soft w 2 An nn) (hnn : nn ≤ 1048576) (hr : FlsM w mid (mid + 1) hi A n fs) (hl : lo ≤ mid) (hm : mid + 1 ≤ hi) (hB : hi ≤ w.heap.size) (hn : n ≤ 1048576) :
    Calls Tryz.prog 22 #[.agg #[.slice An nn cn, .slice A n c], .int .i64 1] w fun e w' => ∃ (r : Int) (w1 : World), e = .returned (.int .i64 r) ∧ 0 ≤ r ∧ Below w.heap.size w w1 ∧ Within lo hi w1 w' :=
  (markProcess_bd lo mid hi nn cn n c An A ns fs w hrn hsn hnn hr hl hm hB hn).mono fun e w' ⟨r, w1, h1, h2, _, h3, h4⟩ => ⟨r, w1, h1, h2, h3, h4⟩
end Go.Proofs.YtknphikoikdcjaaGreat

