/- Two maps of slices that the call itself makes, each entry a row of the call's own, no two in one block. Plain theorems over any program. -/
import Derived.Test.YthlcbdjjegageaaIMap
namespace Go.Proofs.Ythlcbdjjegageaa
open Go.RowKit

/-- A slice that is not there is nil. -/
def rowAt (o : Option Value) : Value := o.getD (.slice none 0 0)
/-- The entries of the maps, told by d, at each key: nothing, or a row that reads so; no two rows in one block. -/
def Rows (w : World) (base : Nat) (e : TypeId) (sel : Bool → Int → Option Value) (G : Bool → Int → List Int) : Prop :=
  (∀ d z, w.ownsRow base e 1 (rowAt (sel d z)) (G d z).length (ivs (G d z))) ∧
  ∀ d z d' z', ¬ (d = d' ∧ z = z') → (rowAt (sel d z)).ownBlock = none ∨ (rowAt (sel d z)).ownBlock ≠ (rowAt (sel d' z')).ownBlock
def updSel (sel : Bool → Int → Option Value) (d : Bool) (z : Int) (v : Value) : Bool → Int → Option Value := fun d' z' => if d' = d ∧ z' = z then some v else sel d' z'
def updG (G : Bool → Int → List Int) (d : Bool) (z : Int) (x : Int) : Bool → Int → List Int := fun d' z' => if d' = d ∧ z' = z then G d' z' ++ [x] else G d' z'

section
variable {w w1 : World} {base : Nat} {e : TypeId} {sel : Bool → Int → Option Value} {G G' : Bool → Int → List Int}
theorem Rows.start (w : World) (base : Nat) (e : TypeId) : Rows w base e (fun _ _ => none) (fun _ _ => []) :=
  ⟨fun _ _ => World.ownsRow_nil _ _ _ _, fun _ _ _ _ _ => .inl rfl⟩
theorem Rows.congr (h : Rows w base e sel G) (he : ∀ d z, G d z = G' d z) : Rows w base e sel G' := by
  obtain rfl : G = G' := funext fun d => funext fun z => he d z
  exact h
theorem Rows.kept (h : Rows w base e sel G) {row : Option Nat} (hg : w.grownBy w1 row) (hr : ∀ j, row = some j → j < base) : Rows w1 base e sel G :=
  ⟨fun d z => (h.1 d z).kept hg (by
    cases hx : (rowAt (sel d z)).ownBlock with
    | none => exact .inl rfl
    | some g =>
      refine .inr fun e1 => ?_
      have := ((h.1 d z).lt g hx).1
      have := hr g e1.symm
      omega), h.2⟩
/-- Behind an append to one of the rows, and its store. -/
theorem Rows.appended (h : Rows w base e sel G) {d : Bool} {z x : Int} {v : Value} (hg : w.grownBy w1 (rowAt (sel d z)).ownBlock) (ho : w1.ownsRow base e 1 v ((G d z).length + 1) (ivs (G d z) ++ [.int .i64 x]))
    (hl : v.ownBlock = (rowAt (sel d z)).ownBlock ∨ ∃ g, v.ownBlock = some g ∧ w.heap.size ≤ g) : Rows w1 base e (updSel sel d z v) (updG G d z x) := by
  have apart : ∀ d' z', ¬ (d' = d ∧ z' = z) → (rowAt (sel d' z')).ownBlock = none ∨ (rowAt (sel d' z')).ownBlock ≠ v.ownBlock := by
    intro d' z' hne
    rcases hl with h1 | ⟨g, h1, h2⟩
    · rw [h1]; exact h.2 d' z' d z hne
    · cases hx : (rowAt (sel d' z')).ownBlock with
      | none => exact .inl rfl
      | some g' =>
        refine .inr fun e1 => ?_
        rw [h1] at e1
        cases e1
        have := ((h.1 d' z').lt g hx).2
        omega
  refine ⟨fun d' z' => ?_, fun d1 z1 d2 z2 hne => ?_⟩
  · by_cases hc : d' = d ∧ z' = z
    · obtain ⟨rfl, rfl⟩ := hc
      simp only [updSel, updG, and_self, if_true, rowAt, Option.getD]
      rw [ivs_append, List.length_append]
      exact ho
    · simp only [updSel, updG, if_neg hc]
      exact (h.1 d' z').kept hg (h.2 d' z' d z hc)
  · by_cases h1 : d1 = d ∧ z1 = z <;> by_cases h2 : d2 = d ∧ z2 = z
    · exact absurd ⟨h1.1.trans h2.1.symm, h1.2.trans h2.2.symm⟩ hne
    · simp only [updSel, if_pos h1, if_neg h2]
      show v.ownBlock = none ∨ v.ownBlock ≠ (rowAt (sel d2 z2)).ownBlock
      rcases apart d2 z2 h2 with h3 | h3
      · cases hv : v.ownBlock with
        | none => exact .inl rfl
        | some g => exact .inr (by rw [h3]; simp)
      · exact .inr fun e1 => h3 e1.symm
    · simp only [updSel, if_neg h1, if_pos h2]
      exact apart d1 z1 h1
    · simp only [updSel, if_neg h1, if_neg h2]
      exact h.2 d1 z1 d2 z2 hne
end

theorem grown_set (w : World) (p : Addr) (u : Value) : w.grownBy (w.setCell p u) (some p.block) :=
  ⟨rfl, rfl, rfl, by simp [World.setCell], fun i _ hne => Below.heap_setCell w p u i (fun e => hne (by rw [e]))⟩
theorem grown_of_alloc {w0 w1 : World} {o : Obj} {row : Option Nat} (h : ((w0.alloc o).drew).grownBy w1 row) : w0.grownBy w1 row := by
  have h1 := World.grownBy_alloc w0 o row
  have h2 : w0.grownBy ((w0.alloc o).drew) row := ⟨h1.os, h1.tape, h1.output, h1.size, h1.block⟩
  exact h2.trans h
/-- What stands behind an append to one of the rows and its store into the map: in one go. -/
theorem map_step {P : Program} {kt : TypeId} {a w0 w1 w2 : World} {o : Obj} {e t1 t2 : TypeId} {cs1 cs2 : Array Value} {mB F b bi ni base : Nat} {gi : Int → Option Value} {sel : Bool → Int → Option Value} {G : Bool → Int → List Int} {d : Bool} {z x : Int} {v' : Value}
    (hbl : Below a.heap.size a w0) (hm : Blk w0 mB t1 cs1) (hf : Blk w0 F t2 cs2) (hi : IMap P kt w0 bi ni gi) (hrows : Rows w0 base e sel G) (hF : ∀ d z g, (rowAt (sel d z)).ownBlock = some g → g ≠ F)
    (hgrow : ((w0.alloc o).drew).grownBy w1 (rowAt (sel d z)).ownBlock) (hown : w1.ownsRow base e 1 v' ((G d z).length + 1) (ivs (G d z) ++ [.int .i64 x]))
    (hloc : v'.ownBlock = (rowAt (sel d z)).ownBlock ∨ ∃ g, v'.ownBlock = some g ∧ w0.heap.size < g) (hgrow2 : w1.grownBy w2 (some b)) (hb : b < base) (hmb : mB ≠ b) (hmlt : mB < base) (hFb : F ≠ b) (hbi : bi ≠ b) (hbib : bi < base) (hab : a.heap.size ≤ b) :
    Below a.heap.size a w2 ∧ Blk w2 mB t1 cs1 ∧ Blk w2 F t2 cs2 ∧ IMap P kt w2 bi ni gi ∧ Rows w2 base e (updSel sel d z v') (updG G d z x) ∧ (∀ d' z' g, (rowAt (updSel sel d z v' d' z')).ownBlock = some g → g ≠ F) ∧ w0.heap.size ≤ w2.heap.size ∧ (∀ j, j < base → j ≠ b → j < w0.heap.size → w2.heap[j]? = w0.heap[j]?) := by
  have hall := grown_of_alloc hgrow
  have hlt := (hrows.1 d z).lt
  have hFl := hf.lt
  have ne : ∀ j, j < base → some j ≠ (rowAt (sel d z)).ownBlock := fun j hj e => by have := (hlt j e.symm).1; omega
  have neF : some F ≠ (rowAt (sel d z)).ownBlock := fun e => hF d z F e.symm rfl
  refine ⟨?_, (hm.grown hall (ne _ hmlt)).grown hgrow2 (by simp [hmb]), (hf.grown hall neF).grown hgrow2 (by simp [hFb]), (hi.kept hall (ne _ hbib)).kept hgrow2 (by simp [hbi]), ?_, ?_, Nat.le_trans hall.size hgrow2.size, fun j hj hjb hjl => (hgrow2.block j (Nat.lt_of_lt_of_le hjl hall.size) (by simp [hjb])).trans (hall.block j hjl (ne j hj))⟩
  · refine (hbl.grown hall hbl.size fun k hk => ?_).grown hgrow2 (Nat.le_trans hbl.size hall.size) fun k hk => by injection hk with hk; omega
    have := (hlt k hk).1
    omega
  · refine (hrows.appended hall hown (hloc.imp id fun ⟨g, h1, h2⟩ => ⟨g, h1, by omega⟩)).kept hgrow2 fun j hj => by injection hj with hj; omega
  · intro d' z' g hg
    by_cases hc : d' = d ∧ z' = z
    · simp only [updSel, if_pos hc, rowAt, Option.getD] at hg
      rcases hloc with h1 | ⟨g', h1, h2⟩
      · rw [h1] at hg; exact hF d z g hg
      · rw [h1] at hg
        injection hg with hg
        omega
    · simp only [updSel, if_neg hc] at hg
      exact hF d' z' g hg
theorem updSel_at (sel : Bool → Int → Option Value) (d : Bool) (x : Int) (v : Value) (z : Int) : (if z = x then some v else sel d z) = updSel sel d x v d z := by
  simp [updSel]
theorem updSel_other (sel : Bool → Int → Option Value) (d d' : Bool) (x : Int) (v : Value) (h : d' ≠ d) (z : Int) : sel d' z = updSel sel d x v d' z := by
  simp [updSel, h]
/-- A map of slices, made: at each key a slice that reads so, all between the blocks lo and hi. -/
def RowMap (P : Program) (kt : TypeId) (w : World) (lo hi b : Nat) (G : Int → List Int) : Prop :=
  ∃ n g, IMap P kt w b n g ∧ lo ≤ b ∧ b < hi ∧ ∀ z, ∃ A c, rowAt (g z) = .slice A (G z).length c ∧ (G z).length ≤ c ∧ Rd w lo hi 1 A (G z).length (ivs (G z)) ∧ Soft w 1 A (G z).length
section
variable {P : Program} {kt t et : TypeId} {w w1 : World} {lo hi b : Nat} {G : Int → List Int}
theorem RowMap.keep (h : RowMap P kt w lo hi b G) {B : Nat} (hb : Below B w w1) (hB : hi ≤ B) : RowMap P kt w1 lo hi b G := by
  obtain ⟨n, g, h1, h2, h3, h4⟩ := h
  refine ⟨n, g, h1.keep hb (by omega), h2, h3, fun z => ?_⟩
  obtain ⟨A, c, e, hc, hr, hs⟩ := h4 z
  refine ⟨A, c, e, hc, hr.keep hb hB, ?_⟩
  rcases Nat.eq_zero_or_pos (G z).length with h0 | h0
  · intro b off e j hj
    rw [h0] at hj
    omega
  · exact hs.keep hb fun b off e => by
      obtain ⟨b', off', e', _, hlt⟩ := hr.form h0
      rw [e] at e'
      injection e' with e'
      injection e' with e' _
      omega
theorem RowMap.wide (h : RowMap P kt w lo hi b G) {lo' hi' : Nat} (hl : lo' ≤ lo) (hh : hi ≤ hi') : RowMap P kt w lo' hi' b G := by
  obtain ⟨n, g, h1, h2, h3, h4⟩ := h
  refine ⟨n, g, h1, by omega, by omega, fun z => ?_⟩
  obtain ⟨A, c, e, hc, hr, hs⟩ := h4 z
  exact ⟨A, c, e, hc, hr.wide hl hh, hs⟩
/-- The reading at a key. -/
theorem RowMap.look (h : RowMap P kt w lo hi b G) (K : Maps.Keyed P kt) (hk : P.underlying kt = some (.int .i64)) (ht : P.underlying t = some (.map kt et)) (hz : ∀ w, (zeroValue et).run P w = .ok (.slice none 0 0) w) {z : Int} (hr : in64 z) :
    ∃ A c, (Instr.lookup t (.map (some b)) (.int .i64 z) false).run P w = .ok (.slice A (G z).length c) w ∧ (G z).length ≤ c ∧ Rd w lo hi 1 A (G z).length (ivs (G z)) ∧ Soft w 1 A (G z).length := by
  obtain ⟨n, g, h1, h2, h3, h4⟩ := h
  obtain ⟨A, c, e, hc, hrd, hs⟩ := h4 z
  exact ⟨A, c, by rw [← e]; exact h1.look K hk ht (hz _) hr rfl, hc, hrd, hs⟩
theorem RowMap.of_rows {base n : Nat} {e : TypeId} {sel : Bool → Int → Option Value} {GG : Bool → Int → List Int} {d : Bool} (h : Rows w base e sel GG) (hm : IMap P kt w b n (sel d)) (hl : lo ≤ base) (hb : lo ≤ b) : RowMap P kt w lo w.heap.size b (GG d) := by
  refine ⟨n, sel d, hm, hb, hm.lt, fun z => ?_⟩
  have ho := h.1 d z
  obtain ⟨A, c, e1, hc, hr, hs⟩ := own_form ho
  exact ⟨A, c, e1, hc, hr.wide hl (Nat.le_refl _), hs⟩
end
end Go.Proofs.Ythlcbdjjegageaa
