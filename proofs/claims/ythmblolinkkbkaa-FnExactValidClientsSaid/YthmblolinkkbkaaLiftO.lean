/- What an argument that is a post office reads as. -/
import Derived.Test.YthmblolinkkbkaaLift
import Derived.Test.YthmblolinkkbkaaTripMem
import Derived.Lib.SmallJoins
set_option linter.unusedSimpArgs false
set_option linter.unusedVariables false
namespace Go.Proofs.Ythmblolinkkbkaa
open Go.ChangeShapes Go.WideShapes Go.ChangeAt Go.RowKit Go.Deep

section
variable {H : Type} {enc : TypeId × Value → H} {P : Program} {W : World} {spare : Nat → Bool} {held : Bool}
/-- A slice of structs of three ints, read as a field. -/
theorem open_trips_at {t e : TypeId} {fs : Array Field} {f0 f1 f2 : Field} {fuel : Nat} {v : Value} {y : DataW H × List MemPlace} (ht : P.underlying t = some (.slice e)) (he : P.underlying e = some (.struct fs)) (hfs : fs = #[f0, f1, f2]) (h0 : P.underlying f0.type = some (.int .i64)) (h1 : P.underlying f1.type = some (.int .i64)) (h2 : P.underlying f2.type = some (.int .i64))
    (hone : oneCellFields P fs = true) (hC : P.cellsOf e = 3) (h : DataW.trod enc P W 0 spare held fuel t [v] = some y) :
    ∃ A n c ps, v = .slice A n c ∧ n ≤ 9223372036854775807 ∧ Rd W 0 W.heap.size 3 A n (tvs ps) := by
  rcases open_slice_fields ht he hone (by rw [hC, hfs]; rfl) h with ⟨hcs, _⟩ | ⟨a, len, cap, m, D, Pl, hcs, _, hl, hm, hmm, _, hi⟩
  · simp at hcs
    subst hcs
    exact ⟨none, 0, 0, [], rfl, by omega, Rd.nil _ _ _ _ _⟩
  · simp at hcs
    subst hcs
    unfold maxLen at hm
    have hmn : len ≤ m := by rw [hmm]; split <;> omega
    have key : ∀ i, i < len → ∃ x y z : Int, W.cell? (a.add (i * 3)) = some (.int .i64 x) ∧ W.cell? (a.add (i * 3 + 1)) = some (.int .i64 y) ∧ W.cell? (a.add (i * 3 + 2)) = some (.int .i64 z) := by
      intro i hin
      obtain ⟨ys, n, _, _, _, hj⟩ := hi i (by omega)
      obtain ⟨u, y, hc, _, ht0⟩ := hj 0 f0 (by rw [hfs]; rfl)
      obtain ⟨u', y', hc', _, ht1⟩ := hj 1 f1 (by rw [hfs]; rfl)
      obtain ⟨u2, y2, hc2, _, ht2⟩ := hj 2 f2 (by rw [hfs]; rfl)
      obtain ⟨k, e1, _⟩ := DataW.trod_int h0 ht0
      obtain ⟨k', e1', _⟩ := DataW.trod_int h1 ht1
      obtain ⟨k2, e2', _⟩ := DataW.trod_int h2 ht2
      have e2 : fs.size = 3 := by rw [hfs]; rfl
      rw [e2] at hc hc' hc2
      simp at e1 e1' e2'
      subst e1; subst e1'; subst e2'
      exact ⟨k, k', k2, hc, hc', hc2⟩
    rcases Nat.eq_zero_or_pos len with rfl | hpos
    · exact ⟨_, 0, _, [], rfl, by omega, Rd.nil _ _ _ _ _⟩
    obtain ⟨x0, y0, z0, hc00, _⟩ := key 0 hpos
    obtain ⟨b, off, spot⟩ := a
    have hspot : spot = none := by simpa [Addr.add] using World.cell?_spot hc00
    subst hspot
    have hblt : b < W.heap.size := by
      have := World.block_lt_of_cell? W _ hc00
      rwa [addr_add] at this
    obtain ⟨ps, hpl, hps⟩ := list_of (fun i (q : Tri) => W.cell? ⟨b, off + i * 3, none⟩ = some (.int .i64 q.1) ∧ W.cell? ⟨b, off + (i * 3 + 1), none⟩ = some (.int .i64 q.2.1) ∧ W.cell? ⟨b, off + (i * 3 + 2), none⟩ = some (.int .i64 q.2.2)) len fun i hi => by
      obtain ⟨x, y, z, e1, e2, e3⟩ := key i hi
      rw [addr_add] at e1 e2 e3
      exact ⟨(x, y, z), e1, e2, e3⟩
    refine ⟨_, len, _, ps, rfl, by omega, ?_, fun _ => ⟨b, off, rfl, Nat.zero_le _, hblt, ?_⟩⟩
    · rw [tvs_length, hpl]
    · intro j u hu
      have hjl : j < len * 3 := by
        obtain ⟨hj, _⟩ := List.getElem?_eq_some_iff.1 hu
        rw [tvs_length] at hj; omega
      have hk : j / 3 < ps.length := by omega
      have hg := tvs_get _ (j / 3) hk
      have kx := hps (j / 3) _ (List.getElem?_eq_getElem hk)
      rcases (show j % 3 = 0 ∨ j % 3 = 1 ∨ j % 3 = 2 by omega) with hm | hm | hm
      · have ej : j / 3 * 3 = j := by omega
        rw [ej] at hg kx
        rw [hg.1] at hu
        rw [← Option.some.inj hu]
        exact kx.1
      · have ej : j / 3 * 3 + 1 = j := by omega
        rw [ej] at hg kx
        rw [hg.2.1] at hu
        rw [← Option.some.inj hu]
        exact kx.2.1
      · have ej : j / 3 * 3 + 2 = j := by omega
        rw [ej] at hg kx
        rw [hg.2.2] at hu
        rw [← Option.some.inj hu]
        exact kx.2.2
end
/-- An argument that is a struct of three ints. -/
theorem open_trip_arg {H : Type} {enc : TypeId × Value → H} {P : Program} {W : World} {spare : Nat → Bool} {held : Bool} {r : Reach} {b0 : Nat} {t : TypeId} {v : Value} {d : DataW H} {p : List MemPlace}
    (hf : ∃ f0 f1 f2, P.underlying t = some (.struct #[f0, f1, f2]) ∧ P.underlying f0.type = some (.int .i64) ∧ P.underlying f1.type = some (.int .i64) ∧ P.underlying f2.type = some (.int .i64) ∧ oneCellFields P #[f0, f1, f2] = true)
    (hC : P.cellsOf t = 3) (hv : Value.okWide P W r b0 t v) (h : DataW.Trod enc P W 0 spare held t v d p) : ∃ x y z : Int, v = .agg #[.int .i64 x, .int .i64 y, .int .i64 z] := by
  obtain ⟨f0, f1, f2, hu, e0, e1, e2, hone⟩ := hf
  obtain ⟨v0, v1, v2, y0, y1, y2, n, rfl, _, _, t0, t1, t2⟩ := Go.Joins.open_agg3 hu hone hC hv h
  obtain ⟨k0, q0, _⟩ := DataW.trod_int e0 t0
  obtain ⟨k1, q1, _⟩ := DataW.trod_int e1 t1
  obtain ⟨k2, q2, _⟩ := DataW.trod_int e2 t2
  simp at q0 q1 q2
  subst q0; subst q1; subst q2
  exact ⟨k0, k1, k2, rfl⟩
end Go.Proofs.Ythmblolinkkbkaa
