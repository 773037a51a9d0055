/- The exact laws' helpers on flows: sizes, copies, comparisons, marks. -/
import Derived.Test.YtknphikoikdcjaaExPart
import Derived.Test.YtknphikoikdcjaaExInt
import Derived.Test.YtknphikoikdcjaaBase
set_option linter.unusedSimpArgs false
set_option linter.unusedVariables false
namespace Go.Proofs.Ytknphikoikdcjaa
open Go.RowKit

theorem infoFlow : (Try.prog.info? 83).map (fun i => (i.zero, i.size, i.bytes)) = some (some (.agg #[.int .i64 0, .int .i64 0, .slice none 0 0]), 3, 40) := by kernel_rfl

/-- The slice reads as these flows; nothing is said of how long their conditions are. -/
def FlsU (w : World) (lo hi : Nat) (A : Option Addr) (n : Nat) (fs : List Flw) : Prop :=
  fs.length = n ∧ ∃ hs : List Hd, hs.length = n ∧ Rd w lo hi 3 A n (fvs fs hs) ∧ ∀ (k : Nat) (f : Flw) (h : Hd), fs[k]? = some f → hs[k]? = some h → Rd w lo hi 2 h.1 h.2.1 (pvs f.2.2) ∧ h.2.1 ≤ 9223372036854775807
theorem FlsU.keep {w w' : World} {lo hi B : Nat} {A : Option Addr} {n : Nat} {fs : List Flw} (h : FlsU w lo hi A n fs) (hb : Below B w w') (hB : hi ≤ B) : FlsU w' lo hi A n fs := by
  obtain ⟨hl, hs, hl', hr, hc⟩ := h
  exact ⟨hl, hs, hl', hr.keep hb hB, fun k f x e e' => ⟨(hc k f x e e').1.keep hb hB, (hc k f x e e').2⟩⟩
theorem FlsU.small {w : World} {lo hi : Nat} {A : Option Addr} {n : Nat} {fs : List Flw} (h : FlsU w lo hi A n fs) (hs : ∀ f ∈ fs, f.2.2.length ≤ 1048576) : Fls w lo hi A n fs := by
  obtain ⟨hl, hh, hl', hr, hc⟩ := h
  refine ⟨hl, hh, hl', hr, fun k f x e e' => ⟨(hc k f x e e').1, ?_⟩⟩
  have h1 := (hc k f x e e').1.len2
  have h2 := hs f (List.mem_of_getElem? e)
  omega
theorem FlsU.at {w : World} {lo hi : Nat} {A : Option Addr} {n : Nat} {fs : List Flw} (h : FlsU w lo hi A n fs) {k : Nat} (hk : k < n) :
    ∃ b off x y ps A' m c', A = some ⟨b, off, none⟩ ∧ b < hi ∧ lo ≤ b ∧ fs[k]? = some (x, y, ps) ∧ w.cell? ⟨b, off + k * 3, none⟩ = some (.int .i64 x) ∧ w.cell? ⟨b, off + k * 3 + 1, none⟩ = some (.int .i64 y) ∧
      w.cell? ⟨b, off + k * 3 + 2, none⟩ = some (.slice A' m c') ∧ Rd w lo hi 2 A' m (pvs ps) ∧ m ≤ 9223372036854775807 := by
  obtain ⟨hl, hs, hl', hr, hc⟩ := h
  obtain ⟨b, off, e, h1, h2, hcl⟩ := hr.2 (by omega)
  have e1 : fs[k]? = some fs[k] := List.getElem?_eq_getElem (by omega)
  have e2 : hs[k]? = some hs[k] := List.getElem?_eq_getElem (by omega)
  have g := fvs_get fs hs k _ _ e1 e2
  have hr2 := hc k _ _ e1 e2
  refine ⟨b, off, fs[k].1, fs[k].2.1, fs[k].2.2, hs[k].1, hs[k].2.1, hs[k].2.2, e, h2, h1, e1, hcl _ _ g.1, ?_, ?_, hr2.1, hr2.2⟩
  · have := hcl _ _ g.2.1; rwa [← Nat.add_assoc] at this
  · have := hcl _ _ g.2.2; rwa [← Nat.add_assoc] at this

/-- What a size said: too much, or all is small. -/
def Sized (P : Prop) (left : Int) (w : World) (e : Ending) (w' : World) : Prop :=
  w = w' ∧ (e = .returned (.int .i64 (-1)) ∨ ∃ r : Int, e = .returned (.int .i64 r) ∧ 0 ≤ r ∧ r ≤ left ∧ P)

theorem szFlow_any (x y : Int) (n c : Nat) (A : Option Addr) (left : Int) (w : World) (hn : n ≤ 9223372036854775807) (hl : 0 ≤ left) (hl2 : left ≤ 1048576) :
    Calls Try.prog 35 #[.agg #[.int .i64 x, .int .i64 y, .slice A n c], .int .i64 left] w fun e w' => Below w.heap.size w w' ∧ (e = .returned (.int .i64 (-1)) ∨ ∃ r : Int, e = .returned (.int .i64 r) ∧ 0 ≤ r ∧ r ≤ left ∧ n ≤ 1048576) := by
  by_cases hlt : left < n
  · go_enter Try.func35, Try.ntmps35
    go_wp2_with (fail)
    (with_reducible refine (szPartS_no n c A left _ hn hl hl2 hlt).mono ?_)
    rintro e w' ⟨rfl, rfl⟩
    go_wp2
    go_ret
    exact ⟨up_alloc (Below.refl _ _) _, .inl rfl⟩
  · go_enter Try.func35, Try.ntmps35
    go_wp2_with (fail)
    (with_reducible refine (szPartS_yes n c A left _ hl hl2 (by omega)).mono ?_)
    rintro e w' ⟨rfl, rfl⟩
    have hpos : (0 : Int) ≤ left - (n : Int) := by omega
    go_wp2
    go_ret
    exact ⟨up_alloc (Below.refl _ _) _, .inr ⟨_, rfl, hpos, by omega, by omega⟩⟩

set_option maxHeartbeats 800000 in
theorem szFlowS_any (lo hi n c : Nat) (A : Option Addr) (fs : List Flw) (left : Int) (w : World) (hr : FlsU w lo hi A n fs) (hB : hi ≤ w.heap.size) (hn : n ≤ 9223372036854775807) (hl : 0 ≤ left) (hl2 : left ≤ 1048576) :
    Calls Try.prog 19 #[.slice A n c, .int .i64 left] w fun e w' => Below w.heap.size w w' ∧ (e = .returned (.int .i64 (-1)) ∨ ∃ r : Int, e = .returned (.int .i64 r) ∧ 0 ≤ r ∧ r ≤ left ∧ n ≤ 1048576 ∧ ∀ f ∈ fs, f.2.2.length ≤ 1048576) := by
  have HL := Lib.hid hr.1
  by_cases hlt : left < n
  · go_enter Try.func19, Try.ntmps19
    go_wp2
    go_ret
    exact ⟨Below.refl _ _, .inl rfl⟩
  have hn1 : n ≤ 1048576 := by omega
  have hpos : (0 : Int) ≤ left - (n : Int) := by omega
  clear hlt
  go_enter Try.func19, Try.ntmps19
  go_wp2
  go_loopw [1, 5] (fun lv iv wr => ∃ (i : Nat) (r : Int), i ≤ n ∧ iv = .int .i64 i ∧ lv = .int .i64 r ∧ 0 ≤ r ∧ r ≤ left ∧ Hid (∀ f ∈ fs.take i, f.2.2.length ≤ 1048576) ∧ Below w.heap.size w wr)
     (fun _ iv _ => n - (intOf iv).toNat)
  case atStart => exact ⟨0, left - n, by omega, rfl, by simp, hpos, by omega, fun f hf => by simp at hf, Below.refl _ _⟩
  case round =>
    obtain ⟨i, r, hi_, rfl, rfl, hr0, hr1, hS, hbl⟩ := hrel
    by_cases hin : i < n
    · obtain ⟨b, off, x, y, ps, A', m, c', rfl, hbB, _, hg, hx, hy, hz, hrp, hm⟩ := (hr.keep hbl hB).at hin
      have hML := Lib.hid hrp.len2
      have Hg := Lib.hid hg
      have hsz := hbl.size
      clear hg hrp
      go_wp2_with (fail)
      (with_reducible refine (szFlow_any x y m c' A' r wr hm hr0 (by omega)).mono ?_)
      rintro e w1 ⟨hb1, he⟩
      have HB := Lib.hid (up hbl hb1)
      clear hb1
      rcases he with rfl | ⟨r', rfl, q0, q1, q2⟩
      · go_wp2
        go_ret
        exact ⟨HB.out, .inl rfl⟩
      · go_wp2
        go_roundw
        case rel =>
          refine ⟨i + 1, r', by omega, by go_num, rfl, q0, by omega, fun f hf => ?_, HB.out⟩
          rw [take_snoc Hg.out] at hf
          rcases List.mem_append.1 hf with hf | hf
          · exact hS.out f hf
          · simp at hf
            subst hf
            show ps.length ≤ 1048576
            rw [hML.out]; exact q2
        case measure => simp [intOf]; omega
    · obtain rfl : i = n := by omega
      have hS' : Hid (∀ f ∈ fs, f.2.2.length ≤ 1048576) := by
        have := hS.out
        rwa [List.take_of_length_le (by rw [HL.out]; omega)] at this
      clear hS
      go_wp2
      go_ret
      exact ⟨hbl, .inr ⟨r, rfl, hr0, hr1, hn1, hS'.out⟩⟩

/-- A flow, copied. -/
def ToFlow (x y : Int) (n : Nat) (ps : List (Int × Int)) (w : World) (e : Ending) (w' : World) : Prop :=
  ∃ A c, e = .returned (.agg #[.int .i64 x, .int .i64 y, .slice A n c]) ∧ Rd w' w.heap.size w'.heap.size 2 A n (pvs ps) ∧ Soft w' 2 A n ∧ Below w.heap.size w w'
theorem toFlow_any (lo hi : Nat) (x y : Int) (n c : Nat) (A : Option Addr) (ps : List (Int × Int)) (w : World) (hr : Rd w lo hi 2 A n (pvs ps)) (hB : hi ≤ w.heap.size) (hn : n ≤ 1048576) :
    Calls Try.prog 48 #[.agg #[.int .i64 x, .int .i64 y, .slice A n c]] w (ToFlow x y n ps w) := by
  have hW0 := Blk.new ((w.alloc (.cells #[.int .i64 x, .int .i64 y, .slice A n c] 78)).alloc (.cells #[.int .i64 0, .int .i64 0, .slice none 0 0] 83)) 83 #[.int .i64 x, .int .i64 y, .slice none 0 0]
  have hR0 := (Blk.new (w.alloc (.cells #[.int .i64 x, .int .i64 y, .slice A n c] 78)) 83 #[.int .i64 0, .int .i64 0, .slice none 0 0]).alloc (.cells #[.int .i64 x, .int .i64 y, .slice none 0 0] 83)
  have hb0 := up_alloc (up_alloc (up_alloc (Below.refl _ w) (.cells #[.int .i64 x, .int .i64 y, .slice A n c] 78)) (.cells #[.int .i64 0, .int .i64 0, .slice none 0 0] 83)) (.cells #[.int .i64 x, .int .i64 y, .slice none 0 0] 83)
  have e1 : (w.alloc (.cells #[.int .i64 x, .int .i64 y, .slice A n c] 78)).heap.size = w.heap.size + 1 := by simp
  have e2 : ((w.alloc (.cells #[.int .i64 x, .int .i64 y, .slice A n c] 78)).alloc (.cells #[.int .i64 0, .int .i64 0, .slice none 0 0] 83)).heap.size = w.heap.size + 1 + 1 := by simp
  rw [e2] at hW0
  rw [e1] at hR0
  have HW0 := Lib.hid hW0
  have HR0 := Lib.hid hR0
  have hlt0 := hW0.lt
  clear e1 e2 hW0 hR0
  go_enter Try.func48, Try.ntmps48
  go_wp2_with (fail)
  (with_reducible refine (toPartS_any lo hi n c A ps _ (hr.keep hb0 hB) (Nat.le_trans hB hb0.size) hn).mono ?_)
  rintro e w3 ⟨A3, c3, rfl, _, hr3, hs3, hb3⟩
  have hb03 := up hb0 hb3
  have hW3 := HW0.out.below hb3 hlt0
  have hR3 := HR0.out.below hb3 (by omega)
  have hlt1 : w.heap.size + 1 < (((w.alloc (.cells #[.int .i64 x, .int .i64 y, .slice A n c] 78)).alloc (.cells #[.int .i64 0, .int .i64 0, .slice none 0 0] 83)).alloc (.cells #[.int .i64 x, .int .i64 y, .slice none 0 0] 83)).heap.size := by omega
  have HRD := Lib.hid (((((hr3.setCell (p := ⟨w.heap.size + 1 + 1, 2, none⟩) (.inl hlt0) (.slice A3 n c3)).setCell (p := ⟨w.heap.size + 1, 0, none⟩) (.inl hlt1) (.int .i64 x)).setCell (p := ⟨w.heap.size + 1, 1, none⟩) (.inl hlt1) (.int .i64 y)).setCell (p := ⟨w.heap.size + 1, 2, none⟩) (.inl hlt1) (.slice A3 n c3)).wide hb0.size (Nat.le_refl _))
  have HSF := Lib.hid ((((hs3.store ⟨w.heap.size + 1 + 1, 2, none⟩ (.slice A3 n c3)).store ⟨w.heap.size + 1, 0, none⟩ (.int .i64 x)).store ⟨w.heap.size + 1, 1, none⟩ (.int .i64 y)).store ⟨w.heap.size + 1, 2, none⟩ (.slice A3 n c3))
  have h30 : w3.cell? ⟨w.heap.size + 1 + 1, 0, none⟩ = some (.int .i64 x) := hW3.cell 0
  have h31 : w3.cell? ⟨w.heap.size + 1 + 1, 1, none⟩ = some (.int .i64 y) := hW3.cell 1
  have h32 : w3.cell? ⟨w.heap.size + 1 + 1, 2, none⟩ = some (.slice none 0 0) := hW3.cell 2
  have f32 := hW3.soft 2
  have r30 : w3.cell? ⟨w.heap.size + 1, 0, none⟩ = some (.int .i64 0) := hR3.cell 0
  have r31 : w3.cell? ⟨w.heap.size + 1, 1, none⟩ = some (.int .i64 0) := hR3.cell 1
  have r32 : w3.cell? ⟨w.heap.size + 1, 2, none⟩ = some (.slice none 0 0) := hR3.cell 2
  have q30 := hR3.soft 0
  have q31 := hR3.soft 1
  have q32 := hR3.soft 2
  have hR4 := (((hR3.far (p := ⟨w.heap.size + 1 + 1, 2, none⟩) (by simp) (.slice A3 n c3)).put 0 (.int .i64 x)).put 1 (.int .i64 y)).put 2 (.slice A3 n c3)
  have HRF := Lib.hid hR4
  have HB := Lib.hid hb03
  have hw1 : w.heap.size ≤ w.heap.size + 1 := by omega
  clear hb3 hb03 hW3 hR3 hr3 hs3 hR4 hb0 hlt1
  go_wp2
  have g0 := HRF.out.cell 0
  have g1 := HRF.out.cell 1
  have g2 := HRF.out.cell 2
  simp at g0 g1 g2
  refine bodyPost_ret (v := .agg #[.int .i64 x, .int .i64 y, .slice A3 n c3]) (by simp [results, Try.results48, go_sem, g0, g1, g2]) rfl ⟨A3, c3, rfl, ?_, HSF.out, ?_⟩
  · exact HRD.out.wide (Nat.le_refl _) (by simp [World.setCell])
  · exact (((HB.out.setCell (by simp; omega) _).setCell (by simp) _).setCell (by simp) _).setCell (by simp) _

/-- No two of the slices lie in one block. -/
def Apart (hs : List Hd) : Prop := ∀ (j j' : Nat) (h h' : Hd) (b off b' off' : Nat), hs[j]? = some h → hs[j']? = some h' → j ≠ j' → h.1 = some ⟨b, off, none⟩ → h'.1 = some ⟨b', off', none⟩ → 0 < h.2.1 → 0 < h'.2.1 → b ≠ b'
theorem Apart.snoc {hs : List Hd} {h1 : Hd} (ha : Apart hs) (hn : ∀ (j : Nat) (h : Hd) (b off b' off' : Nat), hs[j]? = some h → h.1 = some ⟨b, off, none⟩ → h1.1 = some ⟨b', off', none⟩ → 0 < h.2.1 → 0 < h1.2.1 → b ≠ b') : Apart (hs ++ [h1]) := by
  have at_ : ∀ (j : Nat) (h : Hd), (hs ++ [h1])[j]? = some h → hs[j]? = some h ∨ (j = hs.length ∧ h = h1) := by
    intro j h e
    rcases Nat.lt_or_ge j hs.length with hj | hj
    · rw [List.getElem?_append_left hj] at e; exact .inl e
    · rw [List.getElem?_append_right hj] at e
      rcases Nat.eq_zero_or_pos (j - hs.length) with h0 | h0
      · rw [h0] at e; simp at e; exact .inr ⟨by omega, e.symm⟩
      · rw [List.getElem?_eq_none (by simp; omega)] at e; cases e
  intro j j' h h' b off b' off' e e' hne ea ea' hp hp'
  rcases at_ j h e with q | ⟨q, rfl⟩ <;> rcases at_ j' h' e' with q' | ⟨q', rfl⟩
  · exact ha j j' h h' b off b' off' q q' hne ea ea' hp hp'
  · exact hn j h b off b' off' q ea ea' hp hp'
  · exact fun e => hn j' h' b' off' b off q' ea' ea hp' hp e.symm
  · omega
/-- Flows in memory of their own: the flows between lo and mid, their conditions between mid and hi; all of it may be written. -/
def FlsM (w : World) (lo mid hi : Nat) (A : Option Addr) (n : Nat) (fs : List Flw) : Prop :=
  fs.length = n ∧ ∃ hs : List Hd, hs.length = n ∧ Rd w lo mid 3 A n (fvs fs hs) ∧ Soft w 3 A n ∧ Apart hs ∧ ∀ (k : Nat) (f : Flw) (h : Hd), fs[k]? = some f → hs[k]? = some h → Rd w mid hi 2 h.1 h.2.1 (pvs f.2.2) ∧ Soft w 2 h.1 h.2.1 ∧ h.2.1 ≤ 1048576
theorem FlsM.fls {w : World} {lo mid hi : Nat} {A : Option Addr} {n : Nat} {fs : List Flw} (h : FlsM w lo mid hi A n fs) (h1 : lo ≤ mid) (h2 : mid ≤ hi) : Fls w lo hi A n fs := by
  obtain ⟨hl, hs, hl', hr, _, _, hc⟩ := h
  exact ⟨hl, hs, hl', hr.wide (Nat.le_refl _) h2, fun k f x e e' => ⟨(hc k f x e e').1.wide h1 (Nat.le_refl _), (hc k f x e e').2.2⟩⟩
theorem FlsM.keep {w w' : World} {lo mid hi B : Nat} {A : Option Addr} {n : Nat} {fs : List Flw} (h : FlsM w lo mid hi A n fs) (hb : Below B w w') (hm : mid ≤ B) (hB : hi ≤ B) : FlsM w' lo mid hi A n fs := by
  obtain ⟨hl, hs, hl', hr, hsf, hap, hc⟩ := h
  exact ⟨hl, hs, hl', hr.keep hb hm, hsf.kept hr hb hm, hap, fun k f x e e' => ⟨(hc k f x e e').1.keep hb hB, (hc k f x e e').2.1.kept (hc k f x e e').1 hb hB, (hc k f x e e').2.2⟩⟩
theorem mix3_step (fs : List Flw) (hs : List Hd) (zs : List Value) (n i : Nat) (f : Flw) (h : Hd) (hf : fs.length = n) (hh : hs.length = i) (hz : zs.length = n * 3) (hi : i < n) (hg : fs[i]? = some f) :
    (((fvs (fs.take i) hs ++ zs.drop (i * 3)).set (i * 3) (.int .i64 f.1)).set (i * 3 + 1) (.int .i64 f.2.1)).set (i * 3 + 2) (hdv h) = fvs (fs.take (i + 1)) (hs ++ [h]) ++ zs.drop ((i + 1) * 3) := by
  have h1 : (fvs (fs.take i) hs).length = i * 3 := by
    rw [fvs_length _ _ (by rw [hh, List.length_take]; omega), List.length_take]; omega
  rw [List.drop_eq_getElem_cons (show i * 3 < zs.length by omega), List.drop_eq_getElem_cons (show i * 3 + 1 < zs.length by omega), List.drop_eq_getElem_cons (show i * 3 + 1 + 1 < zs.length by omega)]
  rw [take_snoc hg, fvs_snoc _ _ _ _ (by rw [hh, List.length_take]; omega)]
  rw [List.set_append_right _ _ (by omega), h1, Nat.sub_self, List.set_cons_zero, List.set_append_right _ _ (by omega), h1, show i * 3 + 1 - i * 3 = 1 by omega, List.set_cons_succ, List.set_cons_zero,
    List.set_append_right _ _ (by omega), h1, show i * 3 + 2 - i * 3 = 2 by omega, List.set_cons_succ, List.set_cons_succ, List.set_cons_zero]
  simp [show (i + 1) * 3 = i * 3 + 1 + 1 + 1 by omega]

set_option maxRecDepth 100000 in
set_option maxHeartbeats 1600000 in
theorem toFlowS_any (lo hi n c : Nat) (A : Option Addr) (fs : List Flw) (w : World) (hr : Fls w lo hi A n fs) (hB : hi ≤ w.heap.size) (hn : n ≤ 1048576) :
    Calls Try.prog 25 #[.slice A n c] w fun e w' => ∃ A' c', e = .returned (.slice A' n c') ∧ FlsM w' w.heap.size (w.heap.size + 1) w'.heap.size A' n fs ∧ w.heap.size + 1 ≤ w'.heap.size ∧ Below w.heap.size w w' := by
  have HL := Lib.hid hr.1
  obtain ⟨i0, hi0, hz0, hz1, hz2⟩ := info_parts infoFlow
  obtain ⟨wm, hmk, hown, hgr⟩ := run_make_full (P := Try.prog) w w.heap.size 34 83 i0 _ 3 Try.underlying34 hi0 hz0 hz1 .i64 .i64 n (by rw [hz2]; omega) (by unfold maxLen; omega) (Nat.le_refl _)
  have hbm : Below w.heap.size w wm := (Below.refl _ _).grown hgr (Nat.le_refl _) (by simp)
  generalize hzs : (madeCells (Value.agg #[.int .i64 0, .int .i64 0, .slice none 0 0]).cells (n * 3)).toList = zs at hown
  have hzl : Hid (zs.length = n * 3) := by rw [Hid, ← hzs]; simp [size_madeCells]
  clear hzs hgr hi0 hz0 hz1 hz2
  have hsm : w.heap.size + 1 ≤ wm.heap.size := by
    rcases hown.2 with ⟨hv, _⟩ | ⟨g, cap, cur, hv, _, hh, _⟩
    · cases hv
    · injection hv with hv; injection hv with hv; injection hv with hv
      subst hv
      have := (Array.getElem?_eq_some_iff.1 hh).1
      omega
  go_enter Try.func25, Try.ntmps25
  go_wp2
  clear hmk
  go_loopw [4] (fun iv wr => ∃ (k : Nat) (hs : List Hd), k ≤ n ∧ iv = .int .i64 k ∧ hs.length = k ∧ wr.ownsRow w.heap.size 83 3 (.slice (some ⟨w.heap.size, 0, none⟩) n n) n (fvs (fs.take k) hs ++ zs.drop (k * 3)) ∧
       (∀ (j : Nat) (f : Flw) (h : Hd), fs[j]? = some f → hs[j]? = some h → Rd wr (w.heap.size + 1) wr.heap.size 2 h.1 h.2.1 (pvs f.2.2) ∧ Soft wr 2 h.1 h.2.1 ∧ h.2.1 ≤ 1048576) ∧ Hid (Apart hs) ∧ w.heap.size + 1 ≤ wr.heap.size ∧ Below w.heap.size w wr)
     (fun iv _ => n - (intOf iv).toNat)
  case atStart => exact ⟨0, [], by omega, rfl, rfl, by simpa [fvs] using hown, fun j f h _ e => by simp at e, fun j j' h h' b off b' off' e => by simp at e, hsm, hbm⟩
  case round =>
    clear hown hbm hsm
    obtain ⟨k, hs, hk, rfl, hhl, hown, hwh, hap, hsz, hbl⟩ := hrel
    by_cases hlt : k < n
    · obtain ⟨b, off, x, y, ps, A', m, c', rfl, hbB, _, hg, hx, hy, hz, hrp, hm⟩ := (hr.keep hbl hB).at hlt
      have Hg := Lib.hid hg
      have HHL := Lib.hid hhl
      have HWH := Lib.hid hwh
      have hkn : (k : Int) < (n : Int) := by omega
      have hML := Lib.hid hrp.len2
      have hszw := hbl.size
      clear hg hhl hwh
      go_wp2_with (fail)
      (with_reducible refine (toFlow_any lo hi x y m c' A' ps wr hrp (by omega) hm).mono ?_)
      rintro e w1 ⟨A1, c1, rfl, hr1, hs1, hb1⟩
      have hown1 := own_keep hown hb1
      have hbl1 := up hbl hb1
      have hsz1 := hb1.size
      have hlen : (fvs (fs.take k) hs ++ zs.drop (k * 3)).length = n * 3 := hown.1
      have hd0 := hown1.cellAt (k * 3) (by omega)
      have hd1 := hown1.cellAt (k * 3 + 1) (by omega)
      have hd2 := hown1.cellAt (k * 3 + 2) (by omega)
      rw [List.getElem?_eq_getElem (by rw [hlen]; omega)] at hd0 hd1 hd2
      generalize hq0 : (fvs (fs.take k) hs ++ zs.drop (k * 3))[k * 3]'(by rw [hlen]; omega) = q0 at hd0
      generalize hq1 : (fvs (fs.take k) hs ++ zs.drop (k * 3))[k * 3 + 1]'(by rw [hlen]; omega) = q1 at hd1
      generalize hq2 : (fvs (fs.take k) hs ++ zs.drop (k * 3))[k * 3 + 2]'(by rw [hlen]; omega) = q2 at hd2
      have hf0 := hown1.frozenAt (k * 3)
      have hf1 := hown1.frozenAt (k * 3 + 1)
      have hf2 := hown1.frozenAt (k * 3 + 2)
      have hst := (((hown1.stored (k * 3) (.int .i64 x)).1.stored (k * 3 + 1) (.int .i64 y)).1.stored (k * 3 + 2) (.slice A1 m c1)).1
      have hmx := mix3_step fs hs zs n k (x, y, ps) (A1, m, c1) HL.out HHL.out hzl.out hlt Hg.out
      simp only [hdv] at hmx
      rw [hmx] at hst
      have Hst := Lib.hid hst
      have HW1 : Hid (∀ (j : Nat) (f : Flw) (h : Hd), fs[j]? = some f → (hs ++ [(A1, m, c1)])[j]? = some h → Rd w1 (w.heap.size + 1) w1.heap.size 2 h.1 h.2.1 (pvs f.2.2) ∧ Soft w1 2 h.1 h.2.1 ∧ h.2.1 ≤ 1048576) := by
        intro j f h e e'
        rcases Nat.lt_or_ge j k with hj | hj
        · rw [List.getElem?_append_left (by rw [HHL.out]; exact hj)] at e'
          obtain ⟨q1, q2, q3⟩ := HWH.out j f h e e'
          exact ⟨(q1.keep hb1 (Nat.le_refl _)).wide (Nat.le_refl _) hsz1, q2.kept q1 hb1 (Nat.le_refl _), q3⟩
        · rw [List.getElem?_append_right (by rw [HHL.out]; exact hj), HHL.out] at e'
          rcases Nat.eq_zero_or_pos (j - k) with h0 | h0
          · obtain rfl : j = k := by omega
            rw [Nat.sub_self] at e'
            simp at e'
            subst e'
            rw [Hg.out] at e
            injection e with e
            subst e
            exact ⟨hr1.wide hsz (Nat.le_refl _), hs1, hm⟩
          · rw [List.getElem?_eq_none (by simp; omega)] at e'; cases e'
      have HAP : Hid (Apart (hs ++ [(A1, m, c1)])) := by
        refine hap.out.snoc fun j h b2 off2 b3 off3 e ea eb hp hp' hbb => ?_
        have hj : j < fs.length := by
          have := (List.getElem?_eq_some_iff.1 e).1
          have h1 := HHL.out
          have h2 := HL.out
          omega
        obtain ⟨q1, _⟩ := HWH.out j fs[j] h (List.getElem?_eq_getElem hj) e
        obtain ⟨b4, off4, e4, _, l4⟩ := q1.form hp
        obtain ⟨b5, off5, e5, l5, _⟩ := hr1.form hp'
        rw [ea] at e4
        injection e4 with e4
        injection e4 with e4 _
        have eb' : A1 = some ⟨b3, off3, none⟩ := eb
        rw [eb'] at e5
        injection e5 with e5
        injection e5 with e5 _
        omega
      clear hq0 hq1 hq2 hst hlen hown hown1 hb1 hr1 hs1 hmx HWH hrp hap
      go_wp2
      go_roundw
      case rel =>
        refine ⟨k + 1, hs ++ [(A1, m, c1)], by omega, by go_num, by rw [List.length_append, HHL.out]; rfl, Hst.out, fun j f h e e' => ?_, HAP, by simp [World.setCell]; omega, ((hbl1.setCell (by show _ ≤ w.heap.size; omega) _).setCell (by show _ ≤ w.heap.size; omega) _).setCell (by show _ ≤ w.heap.size; omega) _⟩
        obtain ⟨q1, q2, q3⟩ := HW1.out j f h e e'
        refine ⟨?_, ((q2.store _ _).store _ _).store _ _, q3⟩
        exact (((q1.setCell (.inl (by show w.heap.size < _; omega)) _).setCell (.inl (by show w.heap.size < _; omega)) _).setCell (.inl (by show w.heap.size < _; omega)) _).wide (Nat.le_refl _) (by simp [World.setCell])
      case measure => simp [intOf]; omega
    · obtain rfl : k = n := by omega
      have Ho := Lib.hid hown
      have HWH := Lib.hid hwh
      clear hown hwh
      go_wp2
      go_ret
      have ho := Ho.out
      rw [List.take_of_length_le (by rw [HL.out]; omega), List.drop_of_length_le (by rw [hzl.out]; omega), List.append_nil] at ho
      refine ⟨_, _, rfl, ⟨HL.out, hs, hhl, ?_, Soft.of_own ho, hap.out, HWH.out⟩, hsz, hbl⟩
      have hrd := Rd.of_own ho
      refine ⟨hrd.1, fun hn0 => ?_⟩
      obtain ⟨b, off, e, h1, h2, hc⟩ := hrd.2 hn0
      refine ⟨b, off, e, h1, ?_, hc⟩
      injection e with e
      injection e with e _
      omega
end Go.Proofs.Ytknphikoikdcjaa
