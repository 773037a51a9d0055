/- What an argument that is a slice of structs of three or four ints reads as. (Written by gen/liftn.py.) -/
import Derived.Test.YthmblolinkkbkaaLiftO
import Derived.Test.YthmblolinkkbkaaQuadMem
set_option linter.unusedSimpArgs false
set_option linter.unusedVariables false
namespace Go.Proofs.Ythmblolinkkbkaa
open Go.ChangeShapes Go.WideShapes Go.ChangeAt Go.RowKit Go.Deep

section
variable {H : Type} {enc : TypeId × Value → H} {P : Program} {W : World} {spare : Nat → Bool} {held : Bool}
/-- A slice of structs of four ints, read as a field. -/
theorem open_quads_at {t e : TypeId} {fs : Array Field} {f0 f1 f2 f3 : Field} {fuel : Nat} {v : Value} {y : DataW H × List MemPlace} (ht : P.underlying t = some (.slice e)) (he : P.underlying e = some (.struct fs)) (hfs : fs = #[f0, f1, f2, f3]) (h0 : P.underlying f0.type = some (.int .i64)) (h1 : P.underlying f1.type = some (.int .i64)) (h2 : P.underlying f2.type = some (.int .i64)) (h3 : P.underlying f3.type = some (.int .i64))
    (hone : oneCellFields P fs = true) (hC : P.cellsOf e = 4) (h : DataW.trod enc P W 0 spare held fuel t [v] = some y) :
    ∃ A n c ps, v = .slice A n c ∧ n ≤ 9223372036854775807 ∧ Rd W 0 W.heap.size 4 A n (qvs ps) := by
  rcases open_slice_fields ht he hone (by rw [hC, hfs]; rfl) h with ⟨hcs, _⟩ | ⟨a, len, cap, m, D, Pl, hcs, _, hl, hm, hmm, _, hi⟩
  · simp at hcs
    subst hcs
    exact ⟨none, 0, 0, [], rfl, by omega, Rd.nil _ _ _ _ _⟩
  · simp at hcs
    subst hcs
    unfold maxLen at hm
    have hmn : len ≤ m := by rw [hmm]; split <;> omega
    have key : ∀ i, i < len → ∃ x y z t : Int, W.cell? (a.add (i * 4)) = some (.int .i64 x) ∧ W.cell? (a.add (i * 4 + 1)) = some (.int .i64 y) ∧ W.cell? (a.add (i * 4 + 2)) = some (.int .i64 z) ∧ W.cell? (a.add (i * 4 + 3)) = some (.int .i64 t) := by
      intro i hin
      obtain ⟨ys, n, _, _, _, hj⟩ := hi i (by omega)
      obtain ⟨u, y, hc, _, ht0⟩ := hj 0 f0 (by rw [hfs]; rfl)
      obtain ⟨u', y', hc', _, ht1⟩ := hj 1 f1 (by rw [hfs]; rfl)
      obtain ⟨u2, y2, hc2, _, ht2⟩ := hj 2 f2 (by rw [hfs]; rfl)
      obtain ⟨u3, y3, hc3, _, ht3⟩ := hj 3 f3 (by rw [hfs]; rfl)
      obtain ⟨k, e1, _⟩ := DataW.trod_int h0 ht0
      obtain ⟨k', e1', _⟩ := DataW.trod_int h1 ht1
      obtain ⟨k2, e2', _⟩ := DataW.trod_int h2 ht2
      obtain ⟨k3, e3', _⟩ := DataW.trod_int h3 ht3
      have e2 : fs.size = 4 := by rw [hfs]; rfl
      rw [e2] at hc hc' hc2 hc3
      simp at e1 e1' e2' e3'
      subst e1; subst e1'; subst e2'; subst e3'
      exact ⟨k, k', k2, k3, hc, hc', hc2, hc3⟩
    rcases Nat.eq_zero_or_pos len with rfl | hpos
    · exact ⟨_, 0, _, [], rfl, by omega, Rd.nil _ _ _ _ _⟩
    obtain ⟨x0, y0, z0, t0, hc00, _⟩ := key 0 hpos
    obtain ⟨b, off, spot⟩ := a
    have hspot : spot = none := by simpa [Addr.add] using World.cell?_spot hc00
    subst hspot
    have hblt : b < W.heap.size := by
      have := World.block_lt_of_cell? W _ hc00
      rwa [addr_add] at this
    obtain ⟨ps, hpl, hps⟩ := list_of (fun i (q : Qd) => W.cell? ⟨b, off + i * 4, none⟩ = some (.int .i64 q.1) ∧ W.cell? ⟨b, off + (i * 4 + 1), none⟩ = some (.int .i64 q.2.1) ∧ W.cell? ⟨b, off + (i * 4 + 2), none⟩ = some (.int .i64 q.2.2.1) ∧ W.cell? ⟨b, off + (i * 4 + 3), none⟩ = some (.int .i64 q.2.2.2)) len fun i hi => by
      obtain ⟨x, y, z, t, e1, e2, e3, e4⟩ := key i hi
      rw [addr_add] at e1 e2 e3 e4
      exact ⟨(x, y, z, t), e1, e2, e3, e4⟩
    refine ⟨_, len, _, ps, rfl, by omega, ?_, fun _ => ⟨b, off, rfl, Nat.zero_le _, hblt, ?_⟩⟩
    · rw [qvs_length, hpl]
    · intro j u hu
      have hjl : j < len * 4 := by
        obtain ⟨hj, _⟩ := List.getElem?_eq_some_iff.1 hu
        rw [qvs_length] at hj; omega
      have hk : j / 4 < ps.length := by omega
      have hg := qvs_get _ (j / 4) hk
      have kx := hps (j / 4) _ (List.getElem?_eq_getElem hk)
      rcases (show j % 4 = 0 ∨ j % 4 = 1 ∨ j % 4 = 2 ∨ j % 4 = 3 by omega) with hm | hm | hm | hm
      · have ej : j / 4 * 4 = j := by omega
        rw [ej] at hg kx
        rw [hg.1] at hu
        rw [← Option.some.inj hu]
        exact kx.1
      · have ej : j / 4 * 4 + 1 = j := by omega
        rw [ej] at hg kx
        rw [hg.2.1] at hu
        rw [← Option.some.inj hu]
        exact kx.2.1
      · have ej : j / 4 * 4 + 2 = j := by omega
        rw [ej] at hg kx
        rw [hg.2.2.1] at hu
        rw [← Option.some.inj hu]
        exact kx.2.2.1
      · have ej : j / 4 * 4 + 3 = j := by omega
        rw [ej] at hg kx
        rw [hg.2.2.2] at hu
        rw [← Option.some.inj hu]
        exact kx.2.2.2

/-- An argument that is a slice of structs of 3 ints. -/
theorem open_tripS {t e : TypeId} {v : Value} {d : DataW H} {p : List MemPlace} {r : Reach} {b0 : Nat} (ht : P.underlying t = some (.slice e))
    (hf : ∃ f0 f1 f2, P.underlying e = some (.struct #[f0, f1, f2]) ∧ P.underlying f0.type = some (.int .i64) ∧ P.underlying f1.type = some (.int .i64) ∧ P.underlying f2.type = some (.int .i64) ∧ oneCellFields P #[f0, f1, f2] = true)
    (hC : P.cellsOf e = 3) (hval : Value.okWide P W r b0 t v) (h : DataW.Trod enc P W 0 spare held t v d p) :
    ∃ A n c ps, v = .slice A n c ∧ n ≤ 9223372036854775807 ∧ Rd W 0 W.heap.size 3 A n (tvs ps) := by
  obtain ⟨f0, f1, f2, hu, e0, e1, e2, hone⟩ := hf
  obtain ⟨a0, n0, c0, rfl⟩ := okWide_slice ht hval
  obtain ⟨fuel, hh⟩ := h
  exact open_trips_at ht hu rfl e0 e1 e2 hone hC hh

/-- An argument that is a slice of structs of 4 ints. -/
theorem open_quadS {t e : TypeId} {v : Value} {d : DataW H} {p : List MemPlace} {r : Reach} {b0 : Nat} (ht : P.underlying t = some (.slice e))
    (hf : ∃ f0 f1 f2 f3, P.underlying e = some (.struct #[f0, f1, f2, f3]) ∧ P.underlying f0.type = some (.int .i64) ∧ P.underlying f1.type = some (.int .i64) ∧ P.underlying f2.type = some (.int .i64) ∧ P.underlying f3.type = some (.int .i64) ∧ oneCellFields P #[f0, f1, f2, f3] = true)
    (hC : P.cellsOf e = 4) (hval : Value.okWide P W r b0 t v) (h : DataW.Trod enc P W 0 spare held t v d p) :
    ∃ A n c ps, v = .slice A n c ∧ n ≤ 9223372036854775807 ∧ Rd W 0 W.heap.size 4 A n (qvs ps) := by
  obtain ⟨f0, f1, f2, f3, hu, e0, e1, e2, e3, hone⟩ := hf
  obtain ⟨a0, n0, c0, rfl⟩ := okWide_slice ht hval
  obtain ⟨fuel, hh⟩ := h
  exact open_quads_at ht hu rfl e0 e1 e2 e3 hone hC hh
end
theorem itemFields : ∃ f0 f1 f2, Try.prog.underlying 78 = some (.struct #[f0, f1, f2]) ∧ Try.prog.underlying f0.type = some (.int .i64) ∧ Try.prog.underlying f1.type = some (.int .i64) ∧ Try.prog.underlying f2.type = some (.int .i64) ∧ oneCellFields Try.prog #[f0, f1, f2] = true :=
  ⟨_, _, _, Try.underlying78, by kernel_rfl, by kernel_rfl, by kernel_rfl, by kernel_rfl⟩
theorem clientFields : ∃ f0 f1 f2 f3, Try.prog.underlying 63 = some (.struct #[f0, f1, f2, f3]) ∧ Try.prog.underlying f0.type = some (.int .i64) ∧ Try.prog.underlying f1.type = some (.int .i64) ∧ Try.prog.underlying f2.type = some (.int .i64) ∧ Try.prog.underlying f3.type = some (.int .i64) ∧ oneCellFields Try.prog #[f0, f1, f2, f3] = true :=
  ⟨_, _, _, _, Try.underlying63, by kernel_rfl, by kernel_rfl, by kernel_rfl, by kernel_rfl, by kernel_rfl⟩
end Go.Proofs.Ythmblolinkkbkaa
