/- A snapshot that is answered, in memory of the call's own. -/
import Derived.Test.YtfpiejcfhdnjiaaSnapMath
import Derived.Test.YtfpiejcfhdnjiaaAskS
set_option linter.unusedSimpArgs false
set_option linter.unusedVariables false
namespace Go.Proofs.Ytfpiejcfhdnjiaa
open Go.RowKit

/-- A snapshot and a Bool that are answered. -/
def SnPost (u : Sn × Bool) (w : World) (e : Ending) (w' : World) : Prop :=
  ∃ A c, e = .returned (.tuple #[.agg #[.int .i64 u.1.1, .int .i64 u.1.2.1, .int .i64 u.1.2.2.1, .slice A u.1.2.2.2.length c], .bool u.2]) ∧ u.1.2.2.2.length ≤ c ∧ Rd w' w.heap.size w'.heap.size 2 A u.1.2.2.2.length (pvs u.1.2.2.2) ∧ Soft w' 2 A u.1.2.2.2.length ∧ Below w.heap.size w w'
/-- A snapshot that is answered. -/
def SnPost1 (u : Sn) (w : World) (e : Ending) (w' : World) : Prop :=
  ∃ A c, e = .returned (.agg #[.int .i64 u.1, .int .i64 u.2.1, .int .i64 u.2.2.1, .slice A u.2.2.2.length c]) ∧ u.2.2.2.length ≤ c ∧ Rd w' w.heap.size w'.heap.size 2 A u.2.2.2.length (pvs u.2.2.2) ∧ Soft w' 2 A u.2.2.2.length ∧ Below w.heap.size w w'
theorem SnPost.no {u : Sn × Bool} {w w' : World} (hu : u = ((0, 0, 0, []), false)) (hb : Below w.heap.size w w') : SnPost u w (.returned (.tuple #[.agg #[.int .i64 0, .int .i64 0, .int .i64 0, .slice none 0 0], .bool false])) w' := by
  subst hu
  exact ⟨none, 0, rfl, Nat.le_refl _, Rd.nil _ _ _ _ _, (fun b off e => by cases e), hb⟩
theorem SnPost1.no {u : Sn} {w w' : World} (hu : u = (0, 0, 0, [])) (hb : Below w.heap.size w w') : SnPost1 u w (.returned (.agg #[.int .i64 0, .int .i64 0, .int .i64 0, .slice none 0 0])) w' := by
  subst hu
  exact ⟨none, 0, rfl, Nat.le_refl _, Rd.nil _ _ _ _ _, (fun b off e => by cases e), hb⟩
theorem SnPost.own {u : Sn × Bool} {N T S : Int} {ls : List En} {b : Bool} {m base : Nat} {A : Option Addr} {c : Nat} {w w' : World} (hu : u = ((N, T, S, ls), b)) (hm : ls.length = m) (ho : w'.ownsRow base 29 2 (.slice A m c) m (pvs ls)) (hbase : w.heap.size ≤ base) (hb : Below w.heap.size w w') : SnPost u w (.returned (.tuple #[.agg #[.int .i64 N, .int .i64 T, .int .i64 S, .slice A m c], .bool b])) w' := by
  obtain ⟨A1, c1, e, hc, hr, hs⟩ := own_form ho
  cases e
  subst hu; subst hm
  exact ⟨A, c, rfl, hc, hr.wide hbase (Nat.le_refl _), hs, hb⟩
theorem SnPost1.own {u : Sn} {N T S : Int} {ls : List En} {m base : Nat} {A : Option Addr} {c : Nat} {w w' : World} (hu : u = (N, T, S, ls)) (hm : ls.length = m) (ho : w'.ownsRow base 29 2 (.slice A m c) m (pvs ls)) (hbase : w.heap.size ≤ base) (hb : Below w.heap.size w w') : SnPost1 u w (.returned (.agg #[.int .i64 N, .int .i64 T, .int .i64 S, .slice A m c])) w' := by
  obtain ⟨A1, c1, e, hc, hr, hs⟩ := own_form ho
  cases e
  subst hu; subst hm
  exact ⟨A, c, rfl, hc, hr.wide hbase (Nat.le_refl _), hs, hb⟩
theorem SnPost.q {u : Sn × Bool} {N T S : Int} {R : List En} {b : Bool} {k : Nat} {w w' : World} {e : Ending} (h : SnPost u w e w') (hu : u = ((N, T, S, R), b)) (hk : R.length = k) :
    ∃ A c, e = .returned (.tuple #[.agg #[.int .i64 N, .int .i64 T, .int .i64 S, .slice A k c], .bool b]) ∧ k ≤ c ∧ Rd w' w.heap.size w'.heap.size 2 A k (pvs R) ∧ Soft w' 2 A k ∧ Below w.heap.size w w' := by
  subst hu; subst hk
  exact h
theorem SnPost1.q {u : Sn} {N T S : Int} {R : List En} {k : Nat} {w w' : World} {e : Ending} (h : SnPost1 u w e w') (hu : u = (N, T, S, R)) (hk : R.length = k) :
    ∃ A c, e = .returned (.agg #[.int .i64 N, .int .i64 T, .int .i64 S, .slice A k c]) ∧ k ≤ c ∧ Rd w' w.heap.size w'.heap.size 2 A k (pvs R) ∧ Soft w' 2 A k ∧ Below w.heap.size w w' := by
  subst hu; subst hk
  exact h
theorem pvs_dropS : ∀ (ps : List En) (k : Nat), (pvs ps).drop (k * 2) = pvs (ps.drop k)
  | [], k => by simp [pvs]
  | p :: ps, 0 => by simp [pvs]
  | p :: ps, k + 1 => by
    rw [show (k + 1) * 2 = k * 2 + 1 + 1 by omega, show pvs (p :: ps) = .int .i64 p.1 :: .int .i64 p.2 :: pvs ps from rfl, List.drop_succ_cons, List.drop_succ_cons, pvs_dropS ps k]
    rfl
/-- A part of a slice from place k on, and where it begins: at the capacity's end the slice keeps its address. -/
theorem Rd.behind2 {w : World} {lo hi b off n c k : Nat} {ps : List En} (h : Rd w lo hi 2 (some ⟨b, off, none⟩) n (pvs ps)) (hk : k ≤ n) (hc : n ≤ c) :
    ∃ A : Addr, (if c = k then some (⟨b, off, none⟩ : Addr) else some ⟨b, off + k * 2, none⟩) = some A ∧ Rd w lo hi 2 (some A) (n - k) (pvs (ps.drop k)) := by
  have hl : ps.length = n := h.len2
  by_cases hcc : c = k
  · have h0 : n - k = 0 := by omega
    have h1 : ps.drop k = [] := List.drop_of_length_le (by omega)
    rw [h0, h1]
    exact ⟨⟨b, off, none⟩, by simp [hcc], Rd.nil _ _ _ _ _⟩
  · refine ⟨⟨b, off + k * 2, none⟩, by simp [hcc], by rw [pvs_length, List.length_drop, hl], fun hn => ?_⟩
    obtain ⟨b', off', e, h1, h2, hcell⟩ := h.2 (by omega)
    injection e with e; injection e with e1 e2
    subst e1; subst e2
    refine ⟨b, off + k * 2, rfl, h1, h2, fun j u hu => ?_⟩
    rw [← pvs_dropS, List.getElem?_drop] at hu
    have := hcell _ u hu
    rwa [← Nat.add_assoc] at this
end Go.Proofs.Ytfpiejcfhdnjiaa
