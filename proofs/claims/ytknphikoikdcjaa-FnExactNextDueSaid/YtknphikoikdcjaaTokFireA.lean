/- Merged: TokFireI, TokFireJ, TokFireK. -/
import Derived.Test.YtknphikoikdcjaaTokBehindI
import Derived.Test.YtknphikoikdcjaaTokSumA
import Derived.Test.YtknphikoikdcjaaTokReadyI
import Derived.Test.YtknphikoikdcjaaTokChooseI
import Derived.Test.YtknphikoikdcjaaTokList
/- impl.putsOn, impl.after, impl.FireNode. -/
set_option linter.unusedSimpArgs false
set_option linter.unusedVariables false
namespace Go.Proofs.Ytknphikoikdcjaa
open Go.RowKit Go.Maps

end Go.Proofs.Ytknphikoikdcjaa


/- impl.after, impl.FireNode. -/
namespace Go.Proofs.Ytknphikoikdcjaa
open Go.RowKit Go.Maps

theorem chooseR_mem (fs : List Flw) (vs : List Int) : ∀ (is : List Int) (rest : Int), chooseR fs vs is rest = rest ∨ chooseR fs vs is rest ∈ is
  | [], _ => .inl rfl
  | i :: is, rest => by
    rw [chooseR]
    split
    · exact .inr (by simp)
    · rcases chooseR_mem fs vs is (if (fs.getD i.toNat (0, 0, [])).2.2 = [] ∧ rest < 0 then i else rest) with h | h
      · rw [h]
        split
        · exact .inr (by simp)
        · exact .inl rfl
      · exact .inr (List.mem_cons_of_mem _ h)
theorem puts_mem {x : Int} {fs : List Flw} {vs : List Int} {node : Int} (h : (!(x == 5 && decide (chooseR fs vs (flOf fs true node) (-1) < 0))) = true) : ∀ z ∈ putsOf x fs vs node, ∃ q : Nat, z = (q : Int) ∧ q < fs.length := by
  have hmem : ∀ z ∈ flOf fs true node, ∃ q : Nat, z = (q : Int) ∧ q < fs.length := fun z hz => by
    obtain ⟨q, f, rfl, hf, _⟩ := flOf_mem.1 hz
    exact ⟨q, rfl, (List.getElem?_eq_some_iff.1 hf).1⟩
  intro z hz
  unfold putsOf at hz
  split at hz
  · rename_i hx
    simp at hz
    subst hz
    rw [hx] at h
    rcases chooseR_mem fs vs (flOf fs true node) (-1) with h1 | h1
    · rw [h1] at h; simp at h
    · exact hmem _ h1
  · exact hmem z hz
theorem puts_le (x : Int) (fs : List Flw) (vs : List Int) (node : Int) (h14 : fs.length ≤ 14) : (putsOf x fs vs node).length ≤ 14 := by
  unfold putsOf
  split
  · simp
  · exact Nat.le_trans (flUp_le fs true node fs.length) h14

end Go.Proofs.Ytknphikoikdcjaa


/- impl.FireNode. -/
namespace Go.Proofs.Ytknphikoikdcjaa
open Go.RowKit Go.Maps

/-- What FireNode answers; none: nil and false. -/
def fireOf (ns : List (Int × Int)) (fs : List Flw) (ms : List Int) (node : Int) (vs : List Int) : Option (List Int) :=
  if vProc ns fs && vMarks fs ms && inR node 0 ((ns.length : Int) - 1) && vVals vs && canFire (kindAt ns node.toNat) fs ms vs node then some (behindOf (kindAt ns node.toNat) fs ms vs node) else none
/-- A list and true, or nil and false. -/
def MarksPost (r : Option (List Int)) (w : World) (e : Ending) (w' : World) : Prop :=
  (r = none ∧ e = .returned (.tuple #[.slice none 0 0, .bool false]) ∧ Below w.heap.size w w') ∨
  (∃ l A c, r = some l ∧ e = .returned (.tuple #[.slice A l.length c, .bool true]) ∧ l.length ≤ c ∧ Rd w' w.heap.size w'.heap.size 1 A l.length (ivs l) ∧ Soft w' 1 A l.length ∧ Below w.heap.size w w')
theorem fireOf_no {ns : List (Int × Int)} {fs : List Flw} {ms : List Int} {node : Int} {vs : List Int} (h : (vProc ns fs && vMarks fs ms) = false ∨ inR node 0 ((ns.length : Int) - 1) = false ∨ vVals vs = false) : fireOf ns fs ms node vs = none := by
  unfold fireOf
  rcases h with h | h | h <;> simp [h]
theorem fireOf_yes {ns : List (Int × Int)} {fs : List Flw} {ms : List Int} {k : Nat} {x y : Int} {vs : List Int} (h1 : vProc ns fs = true) (h2 : vMarks fs ms = true) (hk : ns[k]? = some (x, y)) (h3 : inR (k : Int) 0 ((ns.length : Int) - 1) = true) (h4 : vVals vs = true) :
    fireOf ns fs ms (k : Int) vs = if canFire x fs ms vs (k : Int) then some (behindOf x fs ms vs (k : Int)) else none := by
  unfold fireOf
  rw [h1, h2, h3, h4, Int.toNat_natCast, kindAt_is hk]
  simp
theorem range_getD (l : List Int) : (List.range l.length).map (fun i => l.getD i 0) = l := by
  apply List.ext_getElem?
  intro i
  by_cases hi : i < l.length
  · rw [List.getElem?_map, List.getElem?_range hi]
    show some (l.getD i 0) = l[i]?
    rw [List.getD_eq_getElem?_getD, List.getElem?_eq_getElem hi]; rfl
  · rw [List.getElem?_eq_none (by simp; omega), List.getElem?_eq_none (by omega)]
theorem behind_len (x : Int) (fs : List Flw) (ms vs : List Int) (node : Int) : (behindOf x fs ms vs node).length = ms.length := by
  unfold behindOf; rw [bump_len, bump_len]

end Go.Proofs.Ytknphikoikdcjaa

