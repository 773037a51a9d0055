/- What an argument that is a voter reads as. -/
import Derived.Test.YthodkjflnjocbaaLift
import Derived.Test.YthodkjflnjocbaaLogMath
import Derived.Test.YthodkjflnjocbaaBase
import Derived.Lib.SmallJoins
set_option linter.unusedSimpArgs false
set_option linter.unusedVariables false
namespace Go.Proofs.Ythodkjflnjocbaa
open Go.ChangeShapes Go.WideShapes Go.ChangeAt Go.RowKit Go.Deep

section
variable {H : Type} {enc : TypeId × Value → H} {P : Program} {W : World} {spare : Nat → Bool} {held : Bool}

/-- A slice of structs of two ints, read as a field. -/
theorem open_pairs_atV {t e : TypeId} {fs : Array Field} {f0 f1 : Field} {fuel : Nat} {v : Value} {y : DataW H × List MemPlace} (ht : P.underlying t = some (.slice e)) (he : P.underlying e = some (.struct fs)) (hfs : fs = #[f0, f1]) (h0 : P.underlying f0.type = some (.int .i64)) (h1 : P.underlying f1.type = some (.int .i64))
    (hone : oneCellFields P fs = true) (hC : P.cellsOf e = 2) (h : DataW.trod enc P W 0 spare held fuel t [v] = some y) :
    ∃ A n c ps, v = .slice A n c ∧ n ≤ 9223372036854775807 ∧ Rd W 0 W.heap.size 2 A n (pvs ps) := by
  rcases open_slice_fields ht he hone (by rw [hC, hfs]; rfl) h with ⟨hcs, _⟩ | ⟨a, len, cap, m, D, Pl, hcs, _, hl, hm, hmm, _, hi⟩
  · simp at hcs
    subst hcs
    exact ⟨none, 0, 0, [], rfl, by omega, Rd.nil _ _ _ _ _⟩
  · simp at hcs
    subst hcs
    unfold maxLen at hm
    have hmn : len ≤ m := by rw [hmm]; split <;> omega
    have key : ∀ i, i < len → ∃ x y : Int, W.cell? (a.add (i * 2)) = some (.int .i64 x) ∧ W.cell? (a.add (i * 2 + 1)) = some (.int .i64 y) := by
      intro i hin
      obtain ⟨ys, n, _, _, _, hj⟩ := hi i (by omega)
      obtain ⟨u, y, hc, _, ht0⟩ := hj 0 f0 (by rw [hfs]; rfl)
      obtain ⟨u', y', hc', _, ht1⟩ := hj 1 f1 (by rw [hfs]; rfl)
      obtain ⟨k, e1, _⟩ := DataW.trod_int h0 ht0
      obtain ⟨k', e1', _⟩ := DataW.trod_int h1 ht1
      have e2 : fs.size = 2 := by rw [hfs]; rfl
      rw [e2] at hc hc'
      simp at e1 e1'
      subst e1; subst e1'
      exact ⟨k, k', hc, hc'⟩
    rcases Nat.eq_zero_or_pos len with rfl | hpos
    · exact ⟨_, 0, _, [], rfl, by omega, Rd.nil _ _ _ _ _⟩
    obtain ⟨x0, y0, hc00, _⟩ := key 0 hpos
    obtain ⟨b, off, spot⟩ := a
    have hspot : spot = none := by simpa [Addr.add] using World.cell?_spot hc00
    subst hspot
    have hblt : b < W.heap.size := by
      have := World.block_lt_of_cell? W _ hc00
      rwa [addr_add] at this
    obtain ⟨ps, hpl, hps⟩ := list_of (fun i (q : Int × Int) => W.cell? ⟨b, off + i * 2, none⟩ = some (.int .i64 q.1) ∧ W.cell? ⟨b, off + (i * 2 + 1), none⟩ = some (.int .i64 q.2)) len fun i hi => by
      obtain ⟨x, y, e1, e2⟩ := key i hi
      rw [addr_add] at e1 e2
      exact ⟨(x, y), e1, e2⟩
    refine ⟨_, len, _, ps, rfl, by omega, ?_, fun _ => ⟨b, off, rfl, Nat.zero_le _, hblt, ?_⟩⟩
    · rw [pvs_length, hpl]
    · intro j u hu
      have hjl : j < len * 2 := by
        obtain ⟨hj, _⟩ := List.getElem?_eq_some_iff.1 hu
        rw [pvs_length] at hj; omega
      have hk : j / 2 < ps.length := by omega
      have hg := pvs_get _ (j / 2) hk
      have kx := hps (j / 2) _ (List.getElem?_eq_getElem hk)
      rcases Nat.mod_two_eq_zero_or_one j with hm0 | hm1
      · have ej : j / 2 * 2 = j := by omega
        rw [ej] at hg kx
        rw [hg.1] at hu
        rw [← Option.some.inj hu]
        exact kx.1
      · have ej : j / 2 * 2 + 1 = j := by omega
        rw [ej] at hg kx
        rw [hg.2] at hu
        rw [← Option.some.inj hu]
        exact kx.2
end
theorem voterFields : ∃ f0 f1 f2, Try.prog.underlying 88 = some (.struct #[f0, f1, f2]) ∧ Try.prog.underlying f0.type = some (.int .i64) ∧ Try.prog.underlying f1.type = some (.int .i64) ∧ f2.type = 22 ∧ oneCellFields Try.prog #[f0, f1, f2] = true :=
  ⟨_, _, _, Try.underlying88, by kernel_rfl, by kernel_rfl, rfl, by kernel_rfl⟩
theorem entryFieldsV : ∃ f0 f1, Try.prog.underlying 76 = some (.struct #[f0, f1]) ∧ Try.prog.underlying f0.type = some (.int .i64) ∧ Try.prog.underlying f1.type = some (.int .i64) ∧ oneCellFields Try.prog #[f0, f1] = true :=
  ⟨_, _, Try.underlying76, by kernel_rfl, by kernel_rfl, by kernel_rfl⟩
set_option maxRecDepth 100000 in
/-- An argument that is a voter. -/
theorem open_voter {H : Type} {enc : TypeId × Value → H} {W : World} {spare : Nat → Bool} {held : Bool} {r : Reach} {b0 : Nat} {v : Value} {d : DataW H} {p : List MemPlace} (hv : Value.okWide Try.prog W r b0 88 v) (h : DataW.Trod enc Try.prog W 0 spare held 88 v d p) :
    ∃ (t vd : Int) (A : Option Addr) (n c : Nat) (ls : List En), v = .agg #[.int .i64 t, .int .i64 vd, .slice A n c] ∧ n ≤ 9223372036854775807 ∧ Rd W 0 W.heap.size 2 A n (pvs ls) := by
  obtain ⟨f0, f1, f2, hu, e0, e1, e2, hone⟩ := voterFields
  obtain ⟨g0, g1, gu, ge0, ge1, gone⟩ := entryFieldsV
  obtain ⟨v0, v1, v2, y0, y1, y2, n, rfl, _, _, t0, t1, t2⟩ := Go.Joins.open_agg3 hu hone (by kernel_rfl) hv h
  obtain ⟨k0, q0, _⟩ := DataW.trod_int e0 t0
  obtain ⟨k1, q1, _⟩ := DataW.trod_int e1 t1
  rw [e2] at t2
  obtain ⟨A, m, c, ls, rfl, hn, hr⟩ := open_pairs_atV Try.underlying22 gu rfl ge0 ge1 gone (by kernel_rfl) t2
  simp at q0 q1
  subst q0; subst q1
  exact ⟨k0, k1, A, m, c, ls, rfl, hn, hr⟩
end Go.Proofs.Ythodkjflnjocbaa
