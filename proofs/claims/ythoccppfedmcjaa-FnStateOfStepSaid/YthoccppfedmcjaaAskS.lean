/- The reference's votes: validVoter, AskVote. -/
import Derived.Test.YthoccppfedmcjaaLogS2
import Derived.Test.YthoccppfedmcjaaSmallS
import Derived.Deep.RegionLaw
import Derived.Test.YthoccppfedmcjaaDelRun
set_option linter.unusedSimpArgs false
set_option linter.unusedVariables false
namespace Go.Proofs.Ythoccppfedmcjaa
open Go.RowKit

theorem inR_voted (v : Int) : inR v (-1) 6 = (decide (v = -1) || inR v 0 6) := by
  unfold inR
  rw [Bool.eq_iff_iff]
  simp
  omega
/-- A voter's answer in memory of the call's own. -/
def VtPost (u : (Int × Int × List En) × Bool) (w : World) (e : Ending) (w' : World) : Prop :=
  ∃ A c, e = .returned (.tuple #[.agg #[.int .i64 u.1.1, .int .i64 u.1.2.1, .slice A u.1.2.2.length c], .bool u.2]) ∧ u.1.2.2.length ≤ c ∧ Rd w' w.heap.size w'.heap.size 2 A u.1.2.2.length (pvs u.1.2.2) ∧ Soft w' 2 A u.1.2.2.length ∧ Below w.heap.size w w'
theorem VtPost.no {u : (Int × Int × List En) × Bool} {w w' : World} (hu : u = ((0, 0, []), false)) (hb : Below w.heap.size w w') : VtPost u w (.returned (.tuple #[.agg #[.int .i64 0, .int .i64 0, .slice none 0 0], .bool false])) w' := by
  subst hu
  exact ⟨none, 0, rfl, Nat.le_refl _, Rd.nil _ _ _ _ _, (fun b off e => by cases e), hb⟩
theorem VtPost.yes {u : (Int × Int × List En) × Bool} {t v : Int} {ls : List En} {b : Bool} {m : Nat} {A : Option Addr} {c : Nat} {w w' : World} (hu : u = ((t, v, ls), b)) (hm : ls.length = m) (hc : m ≤ c) (hr : Rd w' w.heap.size w'.heap.size 2 A m (pvs ls)) (hs : Soft w' 2 A m) (hb : Below w.heap.size w w') : VtPost u w (.returned (.tuple #[.agg #[.int .i64 t, .int .i64 v, .slice A m c], .bool b])) w' := by
  subst hu; subst hm
  exact ⟨A, c, rfl, hc, hr, hs, hb⟩
theorem VtPost.own {u : (Int × Int × List En) × Bool} {t v : Int} {ls : List En} {b : Bool} {m base : Nat} {A : Option Addr} {c : Nat} {w w' : World} (hu : u = ((t, v, ls), b)) (hm : ls.length = m) (ho : w'.ownsRow base 31 2 (.slice A m c) m (pvs ls)) (hbase : w.heap.size ≤ base) (hb : Below w.heap.size w w') : VtPost u w (.returned (.tuple #[.agg #[.int .i64 t, .int .i64 v, .slice A m c], .bool b])) w' := by
  obtain ⟨A1, c1, e, hc, hr, hs⟩ := own_form ho
  cases e
  exact VtPost.yes hu hm hc (hr.wide hbase (Nat.le_refl _)) hs hb
theorem askOf_no {t v : Int} {ls : List En} {c term : Int} {log : List En} (h : vVoter t v ls = false ∨ inR c 0 6 = false ∨ inR term 1 9 = false ∨ vLog log = false) : askOf t v ls c term log = ((0, 0, []), false) := by
  unfold askOf
  rcases h with h | h | h | h <;> simp [h]
/-- What is answered to a valid one. -/
theorem askOf_yes {t v : Int} {ls : List En} {c term : Int} {log : List En} (h1 : vVoter t v ls = true) (h2 : inR c 0 6 = true) (h3 : inR term 1 9 = true) (h4 : vLog log = true) :
    askOf t v ls c term log = if term < t then ((t, v, ls), false) else if ((if t < term then -1 else v) == -1 || (if t < term then -1 else v) == c) && newerOf log ls then ((term, c, ls), true) else ((term, if t < term then -1 else v, ls), false) := by
  unfold askOf
  rw [h1, h2, h3, h4]
  rfl
end Go.Proofs.Ythoccppfedmcjaa
