/- What the law's loop on DropLetters asks, in plain mathematics. -/
import Derived.Test.YtgnffodnimafoaaLawPostD
set_option linter.unusedSimpArgs false
set_option linter.unusedVariables false
namespace Go.Proofs.Ytgnffodnimafoaa
open Go.RowKit

theorem kept_no {fs : List Tri} {i : Nat} {u v o z : Int} (hg : fs[i]? = some (u, v, o)) (h : ¬ z ≤ o) : (keptOf (fs.take (i + 1)) z).length = (keptOf (fs.take i) z).length := by
  rw [kept_step hg, if_neg h, List.append_nil]
theorem kept_yes {fs : List Tri} {i : Nat} {u v o z : Int} (hg : fs[i]? = some (u, v, o)) (h : z ≤ o) : (keptOf (fs.take (i + 1)) z).length = (keptOf (fs.take i) z).length + 1 := by
  rw [kept_step hg, if_pos h, List.length_append]; rfl
theorem kept_at {fs : List Tri} {i : Nat} {u v o z : Int} (hg : fs[i]? = some (u, v, o)) (h : z ≤ o) : (keptOf fs z)[(keptOf (fs.take i) z).length]? = some (u, v, o) := by
  have e : keptOf fs z = keptOf (fs.take (i + 1)) z ++ keptOf (fs.drop (i + 1)) z := by
    unfold keptOf; rw [← List.filter_append, List.take_append_drop]
  rw [e, kept_step hg, if_pos h, List.append_assoc, List.getElem?_append_right (Nat.le_refl _), Nat.sub_self]; rfl
theorem drop_twice {ns fs : List Tri} (h : vPost ns fs = true) (z : Int) : dropOf ns (keptOf fs z) z = (ns, keptOf fs z) := by
  obtain ⟨h1, h2, h3, h4, h5⟩ := vPost_and.1 h
  have hs : ∀ t ∈ keptOf fs z, t ∈ fs := fun t ht => (List.mem_filter.1 ht).1
  have hv : vPost ns (keptOf fs z) = true := vPost_and.2 ⟨fun s hs' l hl => h1 s hs' l (hs l hl), h2, h3, fun l hl => h4 l (hs l hl), Nat.le_trans (kept_le fs z) h5⟩
  rw [drop_yes hv]
  have e : keptOf (keptOf fs z) z = keptOf fs z := List.filter_eq_self.2 fun t ht => (List.mem_filter.1 ht).2
  rw [e]
end Go.Proofs.Ytgnffodnimafoaa
