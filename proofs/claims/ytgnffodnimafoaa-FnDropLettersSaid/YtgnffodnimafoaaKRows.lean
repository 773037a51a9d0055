/- A map of slices of ints that the call itself makes, keyed by any comparable value: each entry a row of the call's own, no two in one block. Plain theorems over any program. -/
import Derived.Test.YtgnffodnimafoaaKMap
set_option linter.unusedSimpArgs false
set_option linter.unusedVariables false
namespace Go.Proofs.Ytgnffodnimafoaa
open Go.RowKit

/-- The entries at each key: nothing, or a row that reads so; no two rows in one block. -/
def KRows {κ : Type} (w : World) (base : Nat) (e : TypeId) (sel : κ → Option Value) (G : κ → List Int) : Prop :=
  (∀ z, w.ownsRow base e 1 (rowAt (sel z)) (G z).length (ivs (G z))) ∧
  ∀ z z', z ≠ z' → (rowAt (sel z)).ownBlock = none ∨ (rowAt (sel z)).ownBlock ≠ (rowAt (sel z')).ownBlock
def kSel {κ : Type} [DecidableEq κ] (sel : κ → Option Value) (z : κ) (v : Value) : κ → Option Value := fun z' => if z' = z then some v else sel z'
def kG {κ : Type} [DecidableEq κ] (G : κ → List Int) (z : κ) (x : Int) : κ → List Int := fun z' => if z' = z then G z' ++ [x] else G z'

section
variable {κ : Type} [DecidableEq κ] {w w1 : World} {base : Nat} {e : TypeId} {sel : κ → Option Value} {G G' : κ → List Int}
omit [DecidableEq κ] in
theorem KRows.start (w : World) (base : Nat) (e : TypeId) : KRows (κ := κ) w base e (fun _ => none) (fun _ => []) :=
  ⟨fun _ => World.ownsRow_nil _ _ _ _, fun _ _ _ => .inl rfl⟩
omit [DecidableEq κ] in
theorem KRows.congr (h : KRows w base e sel G) (he : ∀ z, G z = G' z) : KRows w base e sel G' := by
  obtain rfl : G = G' := funext fun z => he z
  exact h
omit [DecidableEq κ] in
theorem KRows.kept (h : KRows w base e sel G) {row : Option Nat} (hg : w.grownBy w1 row) (hr : ∀ j, row = some j → j < base) : KRows w1 base e sel G :=
  ⟨fun z => (h.1 z).kept hg (by
    cases hx : (rowAt (sel z)).ownBlock with
    | none => exact .inl rfl
    | some g =>
      refine .inr fun e1 => ?_
      have := ((h.1 z).lt g hx).1
      have := hr g e1.symm
      omega), h.2⟩
omit [DecidableEq κ] in
theorem KRows.below (h : KRows w base e sel G) (hb : Below w.heap.size w w1) : KRows w1 base e sel G :=
  ⟨fun z => own_keep (h.1 z) hb, h.2⟩
/-- Behind an append to one of the rows. -/
theorem KRows.appended (h : KRows w base e sel G) {z : κ} {x : Int} {v : Value} (hg : w.grownBy w1 (rowAt (sel z)).ownBlock) (ho : w1.ownsRow base e 1 v ((G z).length + 1) (ivs (G z) ++ [.int .i64 x]))
    (hl : v.ownBlock = (rowAt (sel z)).ownBlock ∨ ∃ g, v.ownBlock = some g ∧ w.heap.size ≤ g) : KRows w1 base e (kSel sel z v) (kG G z x) := by
  have apart : ∀ z', z' ≠ z → (rowAt (sel z')).ownBlock = none ∨ (rowAt (sel z')).ownBlock ≠ v.ownBlock := by
    intro z' hne
    rcases hl with h1 | ⟨g, h1, h2⟩
    · rw [h1]; exact h.2 z' z hne
    · cases hx : (rowAt (sel z')).ownBlock with
      | none => exact .inl rfl
      | some g' =>
        refine .inr fun e1 => ?_
        rw [h1] at e1
        cases e1
        have := ((h.1 z').lt g hx).2
        omega
  refine ⟨fun z' => ?_, fun z1 z2 hne => ?_⟩
  · by_cases hc : z' = z
    · subst hc
      simp only [kSel, kG, if_true, rowAt, Option.getD]
      rw [ivs_append, List.length_append]
      exact ho
    · simp only [kSel, kG, if_neg hc]
      exact (h.1 z').kept hg (h.2 z' z hc)
  · by_cases h1 : z1 = z <;> by_cases h2 : z2 = z
    · exact absurd (h1.trans h2.symm) hne
    · simp only [kSel, if_pos h1, if_neg h2]
      show v.ownBlock = none ∨ v.ownBlock ≠ (rowAt (sel z2)).ownBlock
      rcases apart z2 h2 with h3 | h3
      · cases hv : v.ownBlock with
        | none => exact .inl rfl
        | some g => exact .inr (by rw [h3]; simp)
      · exact .inr fun e1 => h3 e1.symm
    · simp only [kSel, if_neg h1, if_pos h2]
      exact apart z1 h1
    · simp only [kSel, if_neg h1, if_neg h2]
      exact h.2 z1 z2 hne
end
/-- A map of slices, made: at each key a slice that reads so, all between the blocks lo and hi. -/
def KRowMap {κ : Type} (mk : κ → Value) (P : Program) (kt : TypeId) (w : World) (lo hi b : Nat) (G : κ → List Int) : Prop :=
  ∃ n g, KMap mk P kt w b n g ∧ lo ≤ b ∧ b < hi ∧ (∀ z v, g z = some v → G z ≠ []) ∧ ∀ z, ∃ A c, rowAt (g z) = .slice A (G z).length c ∧ (G z).length ≤ c ∧ Rd w lo hi 1 A (G z).length (ivs (G z)) ∧ Soft w 1 A (G z).length
section
variable {κ : Type} {mk : κ → Value} {P : Program} {kt t et : TypeId} {w w1 : World} {lo hi b : Nat} {G : κ → List Int}
theorem KRowMap.keep (h : KRowMap mk P kt w lo hi b G) {B : Nat} (hb : Below B w w1) (hB : hi ≤ B) : KRowMap mk P kt w1 lo hi b G := by
  obtain ⟨n, g, h1, h2, h3, h5, h4⟩ := h
  refine ⟨n, g, h1.keep hb (by omega), h2, h3, h5, fun z => ?_⟩
  obtain ⟨A, c, e, hc, hr, hs⟩ := h4 z
  refine ⟨A, c, e, hc, hr.keep hb hB, ?_⟩
  rcases Nat.eq_zero_or_pos (G z).length with h0 | h0
  · intro b off e j hj
    rw [h0] at hj
    omega
  · exact hs.keep hb fun b off e => by
      obtain ⟨b', off', e', _, hlt⟩ := hr.form h0
      rw [e] at e'
      injection e' with e'
      injection e' with e' _
      omega
theorem KRowMap.wide (h : KRowMap mk P kt w lo hi b G) {lo' hi' : Nat} (hl : lo' ≤ lo) (hh : hi ≤ hi') : KRowMap mk P kt w lo' hi' b G := by
  obtain ⟨n, g, h1, h2, h3, h5, h4⟩ := h
  refine ⟨n, g, h1, by omega, by omega, h5, fun z => ?_⟩
  obtain ⟨A, c, e, hc, hr, hs⟩ := h4 z
  exact ⟨A, c, e, hc, hr.wide hl hh, hs⟩
/-- The reading at a key. -/
theorem KRowMap.look (h : KRowMap mk P kt w lo hi b G) (K : Maps.Keyed P kt) (ht : P.underlying t = some (.map kt et)) (hz : ∀ w, (zeroValue et).run P w = .ok (.slice none 0 0) w) {z : κ} {l : Lit} (hkey : keyOf P kt (mk z) = some l) :
    ∃ A c, (Instr.lookup t (.map (some b)) (mk z) false).run P w = .ok (.slice A (G z).length c) w ∧ (G z).length ≤ c ∧ Rd w lo hi 1 A (G z).length (ivs (G z)) ∧ Soft w 1 A (G z).length := by
  obtain ⟨n, g, h1, h2, h3, h5, h4⟩ := h
  obtain ⟨A, c, e, hc, hrd, hs⟩ := h4 z
  exact ⟨A, c, by rw [← e]; exact h1.look K ht (hz _) hkey rfl, hc, hrd, hs⟩
theorem KRowMap.of_rows {base n : Nat} {e : TypeId} {sel : κ → Option Value} (h : KRows w base e sel G) (hm : KMap mk P kt w b n sel) (hne : ∀ z v, sel z = some v → G z ≠ []) (hl : lo ≤ base) (hb : lo ≤ b) : KRowMap mk P kt w lo w.heap.size b G := by
  refine ⟨n, sel, hm, hb, hm.lt, hne, fun z => ?_⟩
  obtain ⟨A, c, e1, hc, hr, hs⟩ := own_form (h.1 z)
  exact ⟨A, c, e1, hc, hr.wide hl (Nat.le_refl _), hs⟩
end
/-- A key of two ints. -/
def mk2 (a : Int × Int) : Value := .agg #[.int .i64 a.1, .int .i64 a.2]
theorem mk2_inj (x y : Int × Int) (h : mk2 x = mk2 y) : x = y := by
  obtain ⟨a, b⟩ := x
  obtain ⟨c, d⟩ := y
  simp [mk2] at h
  rw [h.1, h.2]
end Go.Proofs.Ytgnffodnimafoaa
