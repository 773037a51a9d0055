/- The exact laws' helpers on processes: sizes, copies, comparisons, marks. -/
import Derived.Test.YtknphikoikdcjaaExFlow
import Derived.Test.YtknphikoikdcjaaExNode
import Derived.Test.YtknphikoikdcjaaExWithin
import Derived.Deep.RegionLaw
set_option linter.unusedSimpArgs false
set_option linter.unusedVariables false
namespace Go.Proofs.Ytknphikoikdcjaa
open Go.RowKit

set_option maxHeartbeats 800000 in
theorem eqFlow_same (lo hi lo' hi' : Nat) (x y : Int) (n c n' c' : Nat) (A A' : Option Addr) (ps : List (Int × Int)) (w : World) (hr : Rd w lo hi 2 A n (pvs ps)) (hB : hi ≤ w.heap.size) (hn : n ≤ 1048576) (hr' : Rd w lo' hi' 2 A' n' (pvs ps)) (hB' : hi' ≤ w.heap.size) (hn' : n' ≤ 1048576) :
    Calls Try.prog 55 #[.agg #[.int .i64 x, .int .i64 y, .slice A n c], .agg #[.int .i64 x, .int .i64 y, .slice A' n' c']] w fun e w' => e = .returned (.bool true) ∧ Below w.heap.size w w' := by
  have hb := up_alloc (up_alloc (Below.refl _ w) (.cells #[.int .i64 x, .int .i64 y, .slice A n c] 83)) (.cells #[.int .i64 x, .int .i64 y, .slice A' n' c'] 83)
  go_enter Try.func55, Try.ntmps55
  go_wp2_with (fail)
  (with_reducible refine (eqPartS_any lo hi n c lo' hi' n' c' A A' ps ps _ (hr.keep hb hB) (Nat.le_trans hB hb.size) hn (hr'.keep hb hB') (Nat.le_trans hB' hb.size) hn').mono ?_)
  rintro e w1 ⟨rfl, hb1⟩
  rw [beq_self_eq_true]
  have HB := Lib.hid (up hb hb1)
  clear hb hb1
  go_wp2
  go_ret
  exact ⟨rfl, HB.out⟩

set_option maxRecDepth 100000 in
set_option maxHeartbeats 1600000 in
theorem eqFlowS_same (lo hi n c lo' hi' n' c' : Nat) (A A' : Option Addr) (fs : List Flw) (w : World) (hr : Fls w lo hi A n fs) (hB : hi ≤ w.heap.size) (hn : n ≤ 1048576) (hr' : Fls w lo' hi' A' n' fs) (hB' : hi' ≤ w.heap.size) :
    Calls Try.prog 30 #[.slice A n c, .slice A' n' c'] w fun e w' => e = .returned (.bool true) ∧ Below w.heap.size w w' := by
  obtain rfl : n = n' := by rw [← hr.1, ← hr'.1]
  go_enter Try.func30, Try.ntmps30
  go_wp2
  go_loopw [5] (fun iv wr => ∃ (k : Nat), k ≤ n ∧ iv = .int .i64 k ∧ Below w.heap.size w wr)
     (fun iv _ => n - (intOf iv).toNat)
  case atStart => exact ⟨0, by omega, rfl, Below.refl _ _⟩
  case round =>
    obtain ⟨k, hk, rfl, hbl⟩ := hrel
    by_cases hlt : k < n
    · obtain ⟨b, off, x, y, ps, A1, m1, c1, rfl, hbB, _, hg, hx, hy, hz, hrp, hm⟩ := (hr.keep hbl hB).at hlt
      obtain ⟨b', off', x', y', ps', A2, m2, c2, rfl, hbB', _, hg', hx', hy', hz', hrp', hm'⟩ := (hr'.keep hbl hB').at hlt
      rw [hg] at hg'
      injection hg' with hg'
      injection hg' with e1 hg'
      injection hg' with e2 e3
      subst e1; subst e2; subst e3
      have hcall := eqFlow_same lo hi lo' hi' x y m1 c1 m2 c2 A1 A2 ps wr.drew (hrp.keep (up_drew (Below.refl _ wr)) (Nat.le_trans hB hbl.size)) (Nat.le_trans hB hbl.size) hm (hrp'.keep (up_drew (Below.refl _ wr)) (Nat.le_trans hB' hbl.size)) (Nat.le_trans hB' hbl.size) hm'
      have HC := Lib.hid hcall
      have hkn : (k : Int) < (n : Int) := by omega
      have hk0 : (0 : Int) ≤ (k : Int) := by omega
      clear hcall hg hrp hrp'
      go_wp2
      go_region_law (go_simp; refine HC.out.mono ?_; rintro e w9 ⟨rfl, hb9⟩)
      all_goals
        have HB := Lib.hid (up (up_drew hbl) hb9)
        clear hb9
        go_wp2
        go_roundw
        case rel => exact ⟨k + 1, by omega, by go_num, HB.out⟩
        case measure => simp [intOf]; omega
    · obtain rfl : k = n := by omega
      go_wp2
      go_ret
      exact ⟨rfl, hbl⟩


/-- What a flow's mark leaves to the loop. -/
def MarkRel (w : World) (lo mid hi : Nat) (A : Option Addr) (n : Nat) (hs : List Hd) (k0 : Int) (i : Nat) (kv : Value) (wr : World) : Prop :=
  ∃ (r : Int) (vs : List Value), kv = .int .i64 r ∧ 0 ≤ r ∧ r ≤ k0 + (i : Int) * 2097154 ∧ Rd wr lo mid 3 A n vs ∧ (∀ (j : Nat) (h : Hd), i ≤ j → hs[j]? = some h → vs[j * 3 + 2]? = some (hdv h)) ∧ Soft wr 3 A n ∧
    (∀ (j : Nat) (h : Hd), hs[j]? = some h → h.2.1 ≤ 1048576 ∧ ∃ zs, Rd wr mid hi 2 h.1 h.2.1 zs ∧ Soft wr 2 h.1 h.2.1) ∧ Within lo hi w wr
def MarkPost (lo hi : Nat) (k0 : Int) (w : World) (e : Ending) (w' : World) : Prop := ∃ r : Int, e = .returned (.int .i64 r) ∧ 0 ≤ r ∧ r ≤ k0 + 2200000000000 ∧ Within lo hi w w'


theorem szProcess_any (lo hi nn cn : Nat) (An : Option Addr) (ns : List (Int × Int)) (lo' hi' n c : Nat) (A : Option Addr) (fs : List Flw) (left : Int) (w : World) (_hrn : Rd w lo hi 2 An nn (pvs ns)) (_hB : hi ≤ w.heap.size) (hnn : nn ≤ 9223372036854775807)
    (hr : FlsU w lo' hi' A n fs) (hB' : hi' ≤ w.heap.size) (hn : n ≤ 9223372036854775807) (hl : 0 ≤ left) (hl2 : left ≤ 1048576) :
    Calls Try.prog 6 #[.agg #[.slice An nn cn, .slice A n c], .int .i64 left] w fun e w' => Below w.heap.size w w' ∧ (e = .returned (.int .i64 (-1)) ∨ ∃ r : Int, e = .returned (.int .i64 r) ∧ 0 ≤ r ∧ r ≤ left ∧ nn ≤ 1048576 ∧ n ≤ 1048576 ∧ ∀ f ∈ fs, f.2.2.length ≤ 1048576) := by
  have hb1 := up_alloc (Below.refl _ w) (.cells #[.slice An nn cn, .slice A n c] 25)
  by_cases hlt : left < nn
  · go_enter Try.func6, Try.ntmps6
    go_wp2_with (fail)
    (with_reducible refine (szNodeS_no nn cn An left _ hnn hl hl2 hlt).mono ?_)
    rintro e w' ⟨rfl, rfl⟩
    go_wp2
    go_ret
    exact ⟨hb1, .inl rfl⟩
  · have hr1 := hr.keep hb1 hB'
    go_enter Try.func6, Try.ntmps6
    go_wp2_with (fail)
    (with_reducible refine (szNodeS_yes nn cn An left _ hl hl2 (by omega)).mono ?_)
    rintro e w' ⟨rfl, rfl⟩
    have hpos : (0 : Int) ≤ left - (nn : Int) := by omega
    go_wp2_with (fail)
    (with_reducible refine (szFlowS_any lo' hi' n c A fs (left - (nn : Int)) _ hr1 (Nat.le_trans hB' hb1.size) hn hpos (by omega)).mono ?_)
    rintro e w1 ⟨hb2, he⟩
    have HB := Lib.hid (up hb1 hb2)
    clear hb2
    rcases he with rfl | ⟨r', rfl, q0, q1, q2, q3⟩
    · go_wp2
      go_ret
      exact ⟨HB.out, .inl rfl⟩
    · have HQ := Lib.hid q3
      clear q3
      go_wp2
      go_ret
      exact ⟨HB.out, .inr ⟨r', rfl, q0, by omega, by omega, q2, HQ.out⟩⟩

/-- A process, copied: its nodes below mid, its flows from there on. -/
def ToProc (ns : List (Int × Int)) (fs : List Flw) (w : World) (e : Ending) (w' : World) : Prop :=
  ∃ An cn A c mid, e = .returned (.agg #[.slice An ns.length cn, .slice A fs.length c]) ∧ Rd w' w.heap.size mid 2 An ns.length (pvs ns) ∧ Soft w' 2 An ns.length ∧ w.heap.size ≤ mid ∧ mid + 1 ≤ w'.heap.size ∧ FlsM w' mid (mid + 1) w'.heap.size A fs.length fs ∧ Below w.heap.size w w'
theorem FlsM.within {w w' : World} {L H lo mid hi : Nat} {A : Option Addr} {n : Nat} {fs : List Flw} (h : FlsM w lo mid hi A n fs) (hw : Within L H w w') (h1 : lo ≤ mid) (h2 : mid ≤ hi) (hu : hi ≤ w.heap.size) (hd : hi ≤ L ∨ H ≤ lo) : FlsM w' lo mid hi A n fs := by
  obtain ⟨hl, hs, hl', hr, hsf, hap, hc⟩ := h
  exact ⟨hl, hs, hl', hr.within hw (by omega) (by omega), hsf.within hr hw (by omega) (by omega), hap, fun k f x e e' => ⟨(hc k f x e e').1.within hw hu (by omega), (hc k f x e e').2.1.within (hc k f x e e').1 hw hu (by omega), (hc k f x e e').2.2⟩⟩
theorem FlsM.set {w : World} {lo mid hi : Nat} {A : Option Addr} {n : Nat} {fs : List Flw} (h : FlsM w lo mid hi A n fs) (p : Addr) (u : Value) (h1 : p.block < lo) (h2 : p.block < mid) : FlsM (w.setCell p u) lo mid hi A n fs := by
  obtain ⟨hl, hs, hl', hr, hsf, hap, hc⟩ := h
  exact ⟨hl, hs, hl', hr.setCell (.inl h1) u, hsf.store p u, hap, fun k f x e e' => ⟨(hc k f x e e').1.setCell (.inl h2) u, (hc k f x e e').2.1.store p u, (hc k f x e e').2.2⟩⟩

set_option maxRecDepth 100000 in
set_option maxHeartbeats 1600000 in
theorem toProcess_any (lo hi nn cn : Nat) (An : Option Addr) (ns : List (Int × Int)) (lo' hi' n c : Nat) (A : Option Addr) (fs : List Flw) (w : World) (hrn : Rd w lo hi 2 An nn (pvs ns)) (hB : hi ≤ w.heap.size) (hnn : nn ≤ 1048576)
    (hr : Fls w lo' hi' A n fs) (hB' : hi' ≤ w.heap.size) (hn : n ≤ 1048576) :
    Calls Try.prog 9 #[.agg #[.slice An nn cn, .slice A n c]] w (ToProc ns fs w) := by
  have HLN := Lib.hid hrn.len2
  have HLF := Lib.hid hr.1
  have hW0 := Blk.new ((w.alloc (.cells #[.slice An nn cn, .slice A n c] 25)).alloc (.cells #[.slice none 0 0, .slice none 0 0] 36)) 36 #[.slice none 0 0, .slice none 0 0]
  have hR0 := (Blk.new (w.alloc (.cells #[.slice An nn cn, .slice A n c] 25)) 36 #[.slice none 0 0, .slice none 0 0]).alloc (.cells #[.slice none 0 0, .slice none 0 0] 36)
  have hX0 := ((Blk.new w 25 #[.slice An nn cn, .slice A n c]).alloc (.cells #[.slice none 0 0, .slice none 0 0] 36)).alloc (.cells #[.slice none 0 0, .slice none 0 0] 36)
  have hb0 := up_alloc (up_alloc (up_alloc (Below.refl _ w) (.cells #[.slice An nn cn, .slice A n c] 25)) (.cells #[.slice none 0 0, .slice none 0 0] 36)) (.cells #[.slice none 0 0, .slice none 0 0] 36)
  have e1 : (w.alloc (.cells #[.slice An nn cn, .slice A n c] 25)).heap.size = w.heap.size + 1 := by simp
  have e2 : ((w.alloc (.cells #[.slice An nn cn, .slice A n c] 25)).alloc (.cells #[.slice none 0 0, .slice none 0 0] 36)).heap.size = w.heap.size + 1 + 1 := by simp
  rw [e2] at hW0
  rw [e1] at hR0
  have HW0 := Lib.hid hW0
  have HR0 := Lib.hid hR0
  have HX0 := Lib.hid hX0
  have hlt0 := hW0.lt
  clear e1 e2 hW0 hR0 hX0
  go_enter Try.func9, Try.ntmps9
  go_wp2_with (fail)
  (with_reducible refine (toNodeS_any lo hi nn cn An ns _ (hrn.keep hb0 hB) (Nat.le_trans hB hb0.size) hnn).mono ?_)
  rintro e w1 ⟨A1, c1, rfl, _, hr1, hs1, hb1⟩
  have hb01 := up hb0 hb1
  have hsz1 := hb1.size
  have hW1 := HW0.out.below hb1 hlt0
  have hR1 := HR0.out.below hb1 (by omega)
  have hX1 := HX0.out.below hb1 (by omega)
  have h10 : w1.cell? ⟨w.heap.size + 1 + 1, 0, none⟩ = some (.slice none 0 0) := hW1.cell 0
  have f10 := hW1.soft 0
  have x11 : w1.cell? ⟨w.heap.size, 1, none⟩ = some (.slice A n c) := hX1.cell 1
  have hW2 : Blk (w1.setCell ⟨w.heap.size + 1 + 1, 0, none⟩ (.slice A1 nn c1)) (w.heap.size + 1 + 1) 36 #[.slice A1 nn c1, .slice none 0 0] := by simpa using hW1.put 0 (.slice A1 nn c1)
  have hR2 := hR1.far (p := ⟨w.heap.size + 1 + 1, 0, none⟩) (by simp) (.slice A1 nn c1)
  have hrd2 := hr1.setCell (p := ⟨w.heap.size + 1 + 1, 0, none⟩) (.inl hlt0) (.slice A1 nn c1)
  have hsf2 := hs1.store ⟨w.heap.size + 1 + 1, 0, none⟩ (.slice A1 nn c1)
  have hb02 := hb01.setCell (p := ⟨w.heap.size + 1 + 1, 0, none⟩) (by show _ ≤ w.heap.size + 1 + 1; omega) (.slice A1 nn c1)
  have hsz2 : (w1.setCell ⟨w.heap.size + 1 + 1, 0, none⟩ (.slice A1 nn c1)).heap.size = w1.heap.size := by simp [World.setCell]
  have hlow := hb0.size
  have HS2 := Lib.hid hsz2
  have HW2 := Lib.hid hW2
  have HR2 := Lib.hid hR2
  have HRD2 := Lib.hid hrd2
  have HSF2 := Lib.hid hsf2
  clear hsz2 hW2 hR2 hrd2 hsf2 hW1 hR1 hX1 hr1 hs1 hb1 hb01
  go_wp2_with (fail)
  (with_reducible refine (toFlowS_any lo' hi' n c A fs _ (hr.keep hb02 hB') (Nat.le_trans hB' hb02.size) hn).mono ?_)
  rintro e w3 ⟨A3, c3, rfl, hm3, hsz3, hb3⟩
  rw [HS2.out] at hm3 hsz3
  have hle3 : w.heap.size + 1 + 1 < w1.heap.size := by omega
  have hb03 := up hb02 hb3
  have hW3 := HW2.out.below hb3 (by rw [HS2.out]; exact hle3)
  have hR3 := HR2.out.below hb3 (by rw [HS2.out]; omega)
  have hrd3 := HRD2.out.keep hb3 (by rw [HS2.out]; exact Nat.le_refl _)
  have hsf3 := HSF2.out.kept HRD2.out hb3 (by rw [HS2.out]; exact Nat.le_refl _)
  have h30 : w3.cell? ⟨w.heap.size + 1 + 1, 0, none⟩ = some (.slice A1 nn c1) := hW3.cell 0
  have h31 : w3.cell? ⟨w.heap.size + 1 + 1, 1, none⟩ = some (.slice none 0 0) := hW3.cell 1
  have f31 := hW3.soft 1
  have r30 : w3.cell? ⟨w.heap.size + 1, 0, none⟩ = some (.slice none 0 0) := hR3.cell 0
  have r31 : w3.cell? ⟨w.heap.size + 1, 1, none⟩ = some (.slice none 0 0) := hR3.cell 1
  have q30 := hR3.soft 0
  have q31 := hR3.soft 1
  have HRF := Lib.hid (((hR3.far (p := ⟨w.heap.size + 1 + 1, 1, none⟩) (by simp) (.slice A3 n c3)).put 0 (.slice A1 nn c1)).put 1 (.slice A3 n c3))
  have HRD := Lib.hid (((hrd3.setCell (p := ⟨w.heap.size + 1 + 1, 1, none⟩) (.inl hlt0) (.slice A3 n c3)).setCell (p := ⟨w.heap.size + 1, 0, none⟩) (.inl (by show w.heap.size + 1 < _; omega)) (.slice A1 nn c1)).setCell (p := ⟨w.heap.size + 1, 1, none⟩) (.inl (by show w.heap.size + 1 < _; omega)) (.slice A3 n c3))
  have HSF := Lib.hid (((hsf3.store ⟨w.heap.size + 1 + 1, 1, none⟩ (.slice A3 n c3)).store ⟨w.heap.size + 1, 0, none⟩ (.slice A1 nn c1)).store ⟨w.heap.size + 1, 1, none⟩ (.slice A3 n c3))
  have HFM := Lib.hid (((hm3.set ⟨w.heap.size + 1 + 1, 1, none⟩ (.slice A3 n c3) (by show w.heap.size + 1 + 1 < _; omega) (by show w.heap.size + 1 + 1 < _; omega)).set ⟨w.heap.size + 1, 0, none⟩ (.slice A1 nn c1) (by show w.heap.size + 1 < _; omega) (by show w.heap.size + 1 < _; omega)).set ⟨w.heap.size + 1, 1, none⟩ (.slice A3 n c3) (by show w.heap.size + 1 < _; omega) (by show w.heap.size + 1 < _; omega))
  have HB := Lib.hid hb03
  clear hb3 hb03 hW3 hR3 hrd3 hsf3 hm3 hb02
  go_wp2
  have g0 := HRF.out.cell 0
  have g1 := HRF.out.cell 1
  simp at g0 g1
  refine bodyPost_ret (v := .agg #[.slice A1 nn c1, .slice A3 n c3]) (by simp [results, Try.results9, go_sem, g0, g1]) rfl ?_
  refine ⟨A1, c1, A3, c3, w1.heap.size, by rw [HLN.out, HLF.out], by rw [HLN.out]; exact HRD.out.wide hlow (Nat.le_refl _), by rw [HLN.out]; exact HSF.out, by omega, by simp [World.setCell]; omega, ?_, ?_⟩
  · rw [HLF.out]
    have := HFM.out
    simpa [World.setCell] using this
  · exact ((HB.out.setCell (by simp; omega) _).setCell (by simp) _).setCell (by simp) _

theorem eqProcess_same (lo hi nn cn lo1 hi1 nn1 cn1 : Nat) (An An1 : Option Addr) (ns : List (Int × Int)) (lo' hi' n c lo1' hi1' n1 c1 : Nat) (A A1 : Option Addr) (fs : List Flw) (w : World) (hrn : Rd w lo hi 2 An nn (pvs ns)) (hB : hi ≤ w.heap.size) (hnn : nn ≤ 1048576)
    (hr : Fls w lo' hi' A n fs) (hB' : hi' ≤ w.heap.size) (hn : n ≤ 1048576) (hrn1 : Rd w lo1 hi1 2 An1 nn1 (pvs ns)) (hB1 : hi1 ≤ w.heap.size) (hr1 : Fls w lo1' hi1' A1 n1 fs) (hB1' : hi1' ≤ w.heap.size) :
    Calls Try.prog 12 #[.agg #[.slice An nn cn, .slice A n c], .agg #[.slice An1 nn1 cn1, .slice A1 n1 c1]] w fun e w' => e = .returned (.bool true) ∧ Below w.heap.size w w' := by
  obtain rfl : nn = nn1 := by rw [← hrn.len2, ← hrn1.len2]
  have hx := Blk.new (w.alloc (.cells #[.slice An nn cn, .slice A n c] 36)) 36 #[.slice An1 nn cn1, .slice A1 n1 c1]
  have hy := (Blk.new w 36 #[.slice An nn cn, .slice A n c]).alloc (.cells #[.slice An1 nn cn1, .slice A1 n1 c1] 36)
  have hb := up_alloc (up_alloc (Below.refl _ w) (.cells #[.slice An nn cn, .slice A n c] 36)) (.cells #[.slice An1 nn cn1, .slice A1 n1 c1] 36)
  have e1 : (w.alloc (.cells #[.slice An nn cn, .slice A n c] 36)).heap.size = w.heap.size + 1 := by simp
  rw [e1] at hx
  clear e1
  have HX := Lib.hid hx
  have HY := Lib.hid hy
  have hlx := hx.lt
  have hly := hy.lt
  clear hx hy
  go_enter Try.func12, Try.ntmps12
  go_wp2_with (fail)
  (with_reducible refine (eqNodeS_any lo hi nn cn lo1 hi1 nn cn1 An An1 ns ns _ (hrn.keep hb hB) (Nat.le_trans hB hb.size) hnn (hrn1.keep hb hB1) (Nat.le_trans hB1 hb.size) hnn).mono ?_)
  rintro e w1 ⟨rfl, hb1⟩
  rw [beq_self_eq_true]
  have hb01 := up hb hb1
  have hx1 := HX.out.below hb1 hlx
  have hy1 := HY.out.below hb1 hly
  have hd1 : w1.cell? ⟨w.heap.size + 1, 1, none⟩ = some (.slice A1 n1 c1) := hx1.cell 1
  have hd0 : w1.cell? ⟨w.heap.size, 1, none⟩ = some (.slice A n c) := hy1.cell 1
  clear hb1 hx1 hy1 hb
  go_wp2_with (fail)
  (with_reducible refine (eqFlowS_same lo' hi' n c lo1' hi1' n1 c1 A A1 fs w1 (hr.keep hb01 hB') (Nat.le_trans hB' hb01.size) hn (hr1.keep hb01 hB1') (Nat.le_trans hB1' hb01.size)).mono ?_)
  rintro e w2 ⟨rfl, hb2⟩
  have HB := Lib.hid (up hb01 hb2)
  clear hb2 hb01
  go_wp2
  go_ret
  exact ⟨rfl, HB.out⟩

end Go.Proofs.Ytknphikoikdcjaa
