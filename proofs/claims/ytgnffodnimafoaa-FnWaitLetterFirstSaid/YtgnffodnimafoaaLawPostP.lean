/- What the laws' loops on post offices ask, in plain mathematics. -/
import Derived.Test.YtgnffodnimafoaaLawPostN
set_option linter.unusedSimpArgs false
set_option linter.unusedVariables false
namespace Go.Proofs.Ytgnffodnimafoaa
open Go.RowKit

/-- Nobody waits: nobody gets it. -/
theorem send_none {ns fs d1 d2 : List Tri} {l : Tri} {k : Int} (h : sendOf ns fs l = ((d1, d2), k, true)) (hno : ∀ t ∈ ns, adS t ≠ adL l) : k = -1 := by
  rcases send_cases h with h | ⟨_, hk, _⟩ | ⟨_, i, t, hg, _, _, _, _, _, _, ha⟩
  · exact absurd h (by decide)
  · exact hk
  · exact absurd ha (hno t (List.mem_of_getElem? hg))
/-- The first one who waits gets it. -/
theorem send_first {ns fs d1 d2 : List Tri} {l t : Tri} {k : Int} {i : Nat} (h : sendOf ns fs l = ((d1, d2), k, true)) (hg : ns[i]? = some t) (hno : ∀ u ∈ ns.take i, adS u ≠ adL l) (ha : adS t = adL l) : k = t.1 := by
  rcases send_cases h with h | ⟨_, _, _, _, _, _, hn⟩ | ⟨_, j, u, hgj, hj, hk, _, _, _, _, hau⟩
  · exact absurd h (by decide)
  · exact absurd ha (hn t (List.mem_of_getElem? hg))
  · have hji : j = i := by
      rw [← hj]
      have hil : i < ns.length := (List.getElem?_eq_some_iff.1 hg).1
      have h1 : firstAt adS ns (adL l) ≤ i := by
        unfold firstAt
        refine Nat.le_of_not_lt fun hlt => ?_
        have := List.not_of_lt_findIdx hlt
        rw [(List.getElem?_eq_some_iff.1 hg).2] at this
        simp [ha] at this
      have h2 : ¬ firstAt adS ns (adL l) < i := fun hlt => by
        rw [hj] at hlt
        exact hno u (List.mem_iff_getElem?.2 ⟨j, by rw [List.getElem?_take_of_lt hlt]; exact hgj⟩) hau
      omega
    subst hji
    rw [hg] at hgj; injection hgj with hgj
    rw [hk, hgj]
theorem no_more {ns : List Tri} {t : Tri} {i : Nat} {a : Int × Int} (hg : ns[i]? = some t) (hno : ∀ u ∈ ns.take i, adS u ≠ a) (h : adS t ≠ a) : ∀ u ∈ ns.take (i + 1), adS u ≠ a := by
  intro u hu
  rw [List.take_add_one, hg] at hu
  rcases List.mem_append.1 hu with hu | hu
  · exact hno u hu
  · rw [Option.toList_some, List.mem_singleton] at hu; rw [hu]; exact h
theorem tri_ne1 {o u v x y : Int} (h : ¬ u = x) : adS (o, u, v) ≠ (x, y) := by unfold adS; intro e; injection e with e1 e2; exact h e1
theorem tri_ne2 {o u v x y : Int} (h : ¬ v = y) : adS (o, u, v) ≠ (x, y) := by unfold adS; intro e; injection e with e1 e2; exact h e2
end Go.Proofs.Ytgnffodnimafoaa
