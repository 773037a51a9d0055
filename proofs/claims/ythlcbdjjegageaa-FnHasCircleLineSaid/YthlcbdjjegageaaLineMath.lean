/- A line of one task: no circle, all nodes are reachable. Plain mathematics. -/
import Derived.Test.YthlcbdjjegageaaDrawP11
namespace Go.Proofs.Ythlcbdjjegageaa
open Go.RowKit

theorem line_step {a b : Int} (h : Stp lineF a b) : a ≤ b := by
  obtain ⟨f, hf, rfl, rfl⟩ := h
  simp [lineF] at hf
  rcases hf with rfl | rfl <;> decide
theorem line_rch {a b : Int} (h : Rch lineF a b) : a ≤ b := by
  induction h with
  | refl => exact Int.le_refl _
  | step _ s ih => exact Int.le_trans ih (line_step s)
theorem line_no {a b : Int} (h : b < a) : rchB lineF a b = false := by
  cases hx : rchB lineF a b with
  | false => rfl
  | true => have := line_rch (rchB_iff.1 hx); omega
theorem line_circ : circOf lineN lineF = false := by
  have h : circUp lineF 3 = backUp lineF lineF.length := circ_back (N := 3) (vProc_inside line_valid)
  rw [circOf, line_valid, Bool.true_and]
  show circUp lineF 3 = false
  rw [h]
  simp [backUp, lineF]
  exact ⟨line_no (by omega), line_no (by omega)⟩
theorem line_reach : reachOf lineN lineF = [0, 1, 2] := by
  have s0 : Stp lineF 0 1 := ⟨(0, 1, []), by simp [lineF], rfl, rfl⟩
  have s1 : Stp lineF 1 2 := ⟨(1, 2, []), by simp [lineF], rfl, rfl⟩
  have r0 : rchB lineF 0 0 = true := rchB_iff.2 .refl
  have r1 : rchB lineF 0 1 = true := rchB_iff.2 (Rch.refl.step s0)
  have r2 : rchB lineF 0 2 = true := rchB_iff.2 ((Rch.refl.step s0).step s1)
  have e : startAt lineN 0 = 0 := by decide
  rw [reachOf, if_pos line_valid, e]
  show ((List.range 3).filter fun (i : Nat) => rchB lineF 0 (i : Int)).map (fun (i : Nat) => (i : Int)) = [0, 1, 2]
  have hr : List.range 3 = [0, 1, 2] := rfl
  rw [hr]
  simp [List.filter, r0, r1, r2]
end Go.Proofs.Ythlcbdjjegageaa
