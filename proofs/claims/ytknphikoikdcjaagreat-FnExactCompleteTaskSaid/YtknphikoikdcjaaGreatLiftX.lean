/- What an argument that is an instance reads as. -/
import Derived.Test.YtknphikoikdcjaaGreatLiftP
set_option linter.unusedSimpArgs false
set_option linter.unusedVariables false
namespace Go.Proofs.YtknphikoikdcjaaGreat
open Go.ChangeShapes Go.WideShapes Go.ChangeAt Go.RowKit Go.Deep

section
variable {H : Type} {enc : TypeId × Value → H} {P : Program} {W : World} {spare : Nat → Bool} {held : Bool}
/-- A slice of ints, read as a field. -/
theorem open_ints_at {t e : TypeId} {fuel : Nat} {v : Value} {y : DataW H × List MemPlace} (ht : P.underlying t = some (.slice e)) (he : P.underlying e = some (.int .i64)) (hC : P.cellsOf e = 1) (h : DataW.trod enc P W 0 spare held fuel t [v] = some y) :
    ∃ A n c, ∃ xs : List Int, v = .slice A n c ∧ n ≤ 9223372036854775807 ∧ Rd W 0 W.heap.size 1 A n (ivs xs) := by
  rcases open_ints ht he hC h with ⟨hcs, _⟩ | ⟨a, len, cap, zs, hcs, _, hl, hm, hz, _, hcell, hwz⟩
  · simp at hcs
    subst hcs
    exact ⟨none, 0, 0, [], rfl, by omega, Rd.nil _ _ _ _ _⟩
  · simp at hcs
    subst hcs
    unfold maxLen at hm
    have hlz : len ≤ zs.length := by rw [hz]; split <;> omega
    refine ⟨_, len, _, zs.take len, rfl, by omega, ⟨by rw [ivs_length, List.length_take]; omega, fun hn => ?_⟩⟩
    · have h0 := hcell 0 (by omega)
      obtain ⟨b, off, spot⟩ := a
      have hspot : spot = none := by simpa [Addr.add] using World.cell?_spot h0
      subst hspot
      have hadd : ∀ j, (⟨b, off, none⟩ : Addr).add j = ⟨b, off + j, none⟩ := fun j => by unfold Addr.add; split <;> simp_all
      have hblt : b < W.heap.size := by
        have := World.block_lt_of_cell? W _ h0
        rwa [hadd] at this
      refine ⟨b, off, rfl, Nat.zero_le _, hblt, fun j u hu => ?_⟩
      have hj : j < len := by
        obtain ⟨hj, _⟩ := List.getElem?_eq_some_iff.1 hu
        rw [ivs_length, List.length_take] at hj; omega
      have := hcell j (by omega)
      rw [hadd] at this
      rw [this]
      rw [ivs, List.getElem?_map, List.getElem?_take, if_pos hj] at hu
      rw [List.getElem?_eq_getElem (by omega)] at hu
      simp at hu
      rw [← hu]
      simp [List.getD, List.getElem?_eq_getElem (show j < zs.length by omega)]
end
theorem instFields : ∃ f0 f1 f2 f3, Tryz.prog.underlying 29 = some (.struct #[f0, f1, f2, f3]) ∧ f0.type = 26 ∧ f1.type = 26 ∧ Tryz.prog.underlying f2.type = some (.int .i64) ∧ f3.type = 27 ∧ oneCellFields Tryz.prog #[f0, f1, f2, f3] = true :=
  ⟨_, _, _, _, Tryz.underlying29, rfl, rfl, by kernel_rfl, rfl, by kernel_rfl⟩
theorem timerFields : ∃ f0 f1, Tryz.prog.underlying 172 = some (.struct #[f0, f1]) ∧ Tryz.prog.underlying f0.type = some (.int .i64) ∧ Tryz.prog.underlying f1.type = some (.int .i64) ∧ oneCellFields Tryz.prog #[f0, f1] = true :=
  ⟨_, _, Tryz.underlying172, by kernel_rfl, by kernel_rfl, by kernel_rfl⟩
set_option maxRecDepth 100000 in
/-- An argument that is an instance. -/
theorem open_instance {H : Type} {enc : TypeId × Value → H} {W : World} {spare : Nat → Bool} {held : Bool} {r : Reach} {b0 : Nat} {v : Value} {d : DataW H} {p : List MemPlace} (hv : Value.okWide Tryz.prog W r b0 29 v) (h : DataW.Trod enc Tryz.prog W 0 spare held 29 v d p) :
    ∃ (nm cm nv cv nt ct : Nat) (Am Av At : Option Addr) (cl : Int) (ms vs : List Int) (ts : List (Int × Int)), v = .agg #[.slice Am nm cm, .slice Av nv cv, .int .i64 cl, .slice At nt ct] ∧ nm ≤ 9223372036854775807 ∧ nv ≤ 9223372036854775807 ∧ nt ≤ 9223372036854775807 ∧
      Rd W 0 W.heap.size 1 Am nm (ivs ms) ∧ Rd W 0 W.heap.size 1 Av nv (ivs vs) ∧ Rd W 0 W.heap.size 2 At nt (pvs ts) := by
  obtain ⟨f0, f1, f2, f3, hu, e0, e1, e2, e3, hone⟩ := instFields
  obtain ⟨g0, g1, gu, ge0, ge1, gone⟩ := timerFields
  obtain ⟨v0, v1, v2, v3, y0, y1, y2, y3, n, rfl, _, _, t0, t1, t2, t3⟩ := Go.Joins.open_agg4 hu hone (by kernel_rfl) hv h
  rw [e0] at t0
  rw [e1] at t1
  rw [e3] at t3
  obtain ⟨k2, q2, _⟩ := DataW.trod_int e2 t2
  obtain ⟨Am, nm, cm, ms, rfl, h1, r1⟩ := open_ints_at Tryz.underlying26 Tryz.underlying3 (by kernel_rfl) t0
  obtain ⟨Av, nv, cv, vs, rfl, h2, r2⟩ := open_ints_at Tryz.underlying26 Tryz.underlying3 (by kernel_rfl) t1
  obtain ⟨At, nt, ct, ts, rfl, h3, r3⟩ := open_pairs_at Tryz.underlying27 gu rfl ge0 ge1 gone (by kernel_rfl) t3
  simp at q2
  subst q2
  exact ⟨nm, cm, nv, cv, nt, ct, Am, Av, At, k2, ms, vs, ts, rfl, h1, h2, h3, r1, r2, r3⟩
end Go.Proofs.YtknphikoikdcjaaGreat
