/- The program's voters: Voter.isValid, canAsk, asked, AskVote. (Written by gen/aski.py.) -/
import Derived.Test.YthoccppfedmcjaaAskS
import Derived.Test.YthoccppfedmcjaaLogJ
import Derived.Test.YthoccppfedmcjaaVoteI
set_option linter.unusedSimpArgs false
set_option linter.unusedVariables false
namespace Go.Proofs.Ythoccppfedmcjaa
open Go.RowKit

/-- What is answered to a valid one. -/
def askedOf (t v : Int) (ls : List En) (c term : Int) (log : List En) : (Int × Int × List En) × Bool :=
  if term < t then ((t, v, ls), false) else if ((if t < term then -1 else v) == -1 || (if t < term then -1 else v) == c) && newerOf log ls then ((term, c, ls), true) else ((term, if t < term then -1 else v, ls), false)
/-- A voter's answer, its log in a row of the call's own. -/
def VtOwn (u : (Int × Int × List En) × Bool) (w : World) (e : Ending) (w' : World) : Prop :=
  ∃ A n c, e = .returned (.tuple #[.agg #[.int .i64 u.1.1, .int .i64 u.1.2.1, .slice A n c], .bool u.2]) ∧ u.1.2.2.length = n ∧ w'.ownsRow w.heap.size 31 2 (.slice A n c) n (pvs u.1.2.2) ∧ Below w.heap.size w w'
theorem VtOwn.yes {u : (Int × Int × List En) × Bool} {t v : Int} {ls : List En} {b : Bool} {n base : Nat} {A : Option Addr} {c : Nat} {w w' : World} (hu : u = ((t, v, ls), b)) (hm : ls.length = n) (ho : w'.ownsRow base 31 2 (.slice A n c) n (pvs ls)) (hbase : w.heap.size ≤ base) (hb : Below w.heap.size w w') : VtOwn u w (.returned (.tuple #[.agg #[.int .i64 t, .int .i64 v, .slice A n c], .bool b])) w' := by
  subst hu
  exact ⟨A, n, c, rfl, hm, own_base ho hbase, hb⟩
set_option maxRecDepth 100000 in
set_option maxHeartbeats 800000 in
theorem cloneEntry_any (lo hi n c : Nat) (A : Option Addr) (ps : List En) (w : World) (hr : Rd w lo hi 2 A n (pvs ps)) (hB : hi ≤ w.heap.size) (hn : n ≤ 1048576) :
    Calls Try.prog 33 #[.slice A n c] w fun e w' => ∃ A9 c9, e = .returned (.slice A9 n c9) ∧ w'.ownsRow w.heap.size 31 2 (.slice A9 n c9) n (pvs ps) ∧ Below w.heap.size w w' := by
  have HL := Lib.hid hr.len2
  obtain ⟨i0, hi0, hz0, hz1, hz2⟩ := info_parts infoEntry
  cases A with
  | none =>
    obtain rfl : n = 0 := by
      rcases Nat.eq_zero_or_pos n with h | h
      · exact h
      · obtain ⟨_, _, e, _⟩ := hr.form h; cases e
    obtain rfl : ps = [] := List.eq_nil_of_length_eq_zero HL.out
    clear hr
    have q22 : ∀ (w : World) (a : Option Addr) (n c n' c' : Nat), (binOp .eql 23 (.slice a n c) (.slice none n' c')).run Try.prog w = .ok (.bool a.isNone) w := fun w a n c n' c' => Lib.run_eql_slice_nil w _ _ a n c n' c' Try.underlying23
    go_enter Try.func33, Try.ntmps33
    go_wp2
    go_ret
    exact ⟨none, 0, rfl, World.ownsRow_nil _ _ _ _, Below.refl _ _⟩
  | some a =>
    have hown1 : (w.alloc (.cells #[] 31)).ownsRow w.heap.size 31 2 (.slice (some ⟨w.heap.size, 0, none⟩) 0 0) 0 [] := World.ownsRow_made w #[] 0 (Nat.le_refl _) (by unfold maxLen; omega) (by simp)
    have hbl := up_alloc (Below.refl _ w) (.cells #[] 31)
    have hr1 := hr.keep hbl hB
    have q22 : ∀ (w : World) (a : Option Addr) (n c n' c' : Nat), (binOp .eql 23 (.slice a n c) (.slice none n' c')).run Try.prog w = .ok (.bool a.isNone) w := fun w a n c n' c' => Lib.run_eql_slice_nil w _ _ a n c n' c' Try.underlying23
    go_enter Try.func33, Try.ntmps33
    go_wp2_with (at_builtin; refine wpList_append_rd _ rfl _ _ 23 rfl w.heap.size 31 i0 _ 2 16 Try.underlying23 hi0 hz0 hz1 hz2 rfl (by decide) _ _ _ rfl hown1 lo hi (some a) n c (pvs ps) rfl hr1 (pvs_one ps) ?c3 ?c4 ?c5 ?_)
    case c3 => unfold maxLen; omega
    case c4 => omega
    case c5 => simp
    intro v2 w2 hown2 hg2 _
    have hb2 := up_grown hbl hown1 hg2 (Nat.le_refl _)
    try simp only [Nat.zero_add, List.nil_append] at hown2
    have HO := Lib.hid hown2
    clear hown1 hown2 hg2 hr1 hbl
    obtain ⟨A2, c2, hv2, _⟩ := own_form HO.out
    subst hv2
    go_wp2
    go_ret
    exact ⟨A2, c2, rfl, HO.out, hb2⟩
end Go.Proofs.Ythoccppfedmcjaa
