/- What an argument that is a snapshot reads as. -/
import Derived.Test.YthodkjflnjocbaaLiftV
set_option linter.unusedSimpArgs false
set_option linter.unusedVariables false
namespace Go.Proofs.Ythodkjflnjocbaa
open Go.ChangeShapes Go.WideShapes Go.ChangeAt Go.RowKit Go.Deep

theorem snapFields : ∃ f0 f1 f2 f3, Try.prog.underlying 24 = some (.struct #[f0, f1, f2, f3]) ∧ Try.prog.underlying f0.type = some (.int .i64) ∧ Try.prog.underlying f1.type = some (.int .i64) ∧ Try.prog.underlying f2.type = some (.int .i64) ∧ f3.type = 22 ∧ oneCellFields Try.prog #[f0, f1, f2, f3] = true :=
  ⟨_, _, _, _, Try.underlying24, by kernel_rfl, by kernel_rfl, by kernel_rfl, rfl, by kernel_rfl⟩
set_option maxRecDepth 100000 in
/-- An argument that is a snapshot. -/
theorem open_snap {H : Type} {enc : TypeId × Value → H} {W : World} {spare : Nat → Bool} {held : Bool} {r : Reach} {b0 : Nat} {v : Value} {d : DataW H} {p : List MemPlace} (hv : Value.okWide Try.prog W r b0 24 v) (h : DataW.Trod enc Try.prog W 0 spare held 24 v d p) :
    ∃ (N T S : Int) (A : Option Addr) (n c : Nat) (ls : List En), v = .agg #[.int .i64 N, .int .i64 T, .int .i64 S, .slice A n c] ∧ n ≤ 9223372036854775807 ∧ Rd W 0 W.heap.size 2 A n (pvs ls) := by
  obtain ⟨f0, f1, f2, f3, hu, e0, e1, e2, e3, hone⟩ := snapFields
  obtain ⟨g0, g1, gu, ge0, ge1, gone⟩ := entryFieldsV
  obtain ⟨v0, v1, v2, v3, y0, y1, y2, y3, n, rfl, _, _, t0, t1, t2, t3⟩ := Go.Joins.open_agg4 hu hone (by kernel_rfl) hv h
  obtain ⟨k0, q0, _⟩ := DataW.trod_int e0 t0
  obtain ⟨k1, q1, _⟩ := DataW.trod_int e1 t1
  obtain ⟨k2, q2, _⟩ := DataW.trod_int e2 t2
  rw [e3] at t3
  obtain ⟨A, m, c, ls, rfl, hn, hr⟩ := open_pairs_atV Try.underlying22 gu rfl ge0 ge1 gone (by kernel_rfl) t3
  simp at q0 q1 q2
  subst q0; subst q1; subst q2
  exact ⟨k0, k1, k2, A, m, c, ls, rfl, hn, hr⟩
end Go.Proofs.Ythodkjflnjocbaa
