/- impl.list: the tokens of a map as a list of numbers. -/
import Derived.Test.YtknphikoikdcjaaTokCountA
import Derived.Test.YtknphikoikdcjaaExInt
import Derived.Test.YtknphikoikdcjaaStartA
set_option linter.unusedSimpArgs false
set_option linter.unusedVariables false
namespace Go.Proofs.Ytknphikoikdcjaa
open Go.RowKit

/-- The flow out of the start of a valid process. -/
theorem start_flow {ns : List (Int × Int)} {fs : List Flw} (h : vProc ns fs = true) : ∃ q : Nat, flOf fs true (startAt ns 0) = [(q : Int)] ∧ q < fs.length ∧ 0 ≤ startAt ns 0 ∧ startAt ns 0 < (ns.length : Int) := by
  have h1 := vProc_starts h
  obtain ⟨j, y, hj, hs⟩ := startAt_spec ns 0 (by omega)
  rw [Nat.zero_add] at hs
  have hl := (List.getElem?_eq_some_iff.1 hj).1
  have hk := (vProc_node h hj).2
  have ho : (flOf fs true (j : Int)).length = 1 := by
    simp only [vKind, if_true, Bool.and_eq_true, decide_eq_true_eq] at hk
    omega
  rw [hs]
  match hx : flOf fs true (j : Int), ho with
  | [z], _ =>
    obtain ⟨q, f, rfl, hf, _⟩ := flOf_mem.1 (show z ∈ flOf fs true (j : Int) by rw [hx]; simp)
    exact ⟨q, rfl, (List.getElem?_eq_some_iff.1 hf).1, by omega, by omega⟩
/-- What FirstMarks answers. -/
def firstOf (ns : List (Int × Int)) (fs : List Flw) : List Int := if vProc ns fs then (List.replicate fs.length (0 : Int)).set ((flOf fs true (startAt ns 0)).headD 0).toNat 1 else []
theorem firstOf_yes {ns : List (Int × Int)} {fs : List Flw} (h : vProc ns fs = true) {q : Nat} (hq : flOf fs true (startAt ns 0) = [(q : Int)]) : firstOf ns fs = (List.replicate fs.length (0 : Int)).set q 1 := by
  rw [firstOf, if_pos h, hq]; rfl
theorem first_map {n q : Nat} (hq : q < n) : (List.replicate n (0 : Int)).set q 1 = (List.range n).map fun i => if i = q then (1 : Int) else 0 := by
  apply List.ext_getElem?
  intro i
  by_cases hi : i < n
  · rw [List.getElem?_map, List.getElem?_range hi]
    by_cases hiq : i = q
    · subst hiq
      rw [List.getElem?_set_self (by simpa using hi)]; simp
    · rw [List.getElem?_set_ne (fun e => hiq e.symm)]
      simp [hi, hiq]
  · rw [List.getElem?_eq_none (by simp; omega), List.getElem?_eq_none (by simp; omega)]

theorem mixT_step (ps : List Int) (zs : List Value) (n k : Nat) (x : Int) (hp : ps.length = n) (hz : zs.length = n * 1) (hk : k < n) (hg : ps[k]? = some x) :
    (ivs (ps.take k) ++ zs.drop k).set k (.int .i64 x) = ivs (ps.take (k + 1)) ++ zs.drop (k + 1) := by
  have h1 : (ivs (ps.take k)).length = k := by rw [ivs_length, List.length_take]; omega
  rw [List.drop_eq_getElem_cons (show k < zs.length by omega), List.set_append_right _ _ (by omega), h1, Nat.sub_self, List.set_cons_zero, take_snoc hg, ivs_append]
  simp [ivs]
end Go.Proofs.Ytknphikoikdcjaa
