/- What the laws on snapshots ask: plain mathematics, equalSnap, the calls with their answers named. -/
import Derived.Test.YtfpiejcfhdnjiaaSnapJ
import Derived.Test.YtfpiejcfhdnjiaaEqLists
set_option linter.unusedSimpArgs false
set_option linter.unusedVariables false
namespace Go.Proofs.Ytfpiejcfhdnjiaa
open Go.RowKit

theorem in64_sn {z : Int} (h0 : -1000000 ≤ z) (h1 : z ≤ 1000000) : in64 z := by unfold in64; omega
theorem headOk_take {t : Int} {R : List En} (h : headOk t R = true) (k : Nat) : headOk t (R.take k) = true := by
  rw [headOk_iff] at h ⊢
  intro p hp
  refine h p ?_
  rw [List.getElem?_take] at hp
  split at hp
  · exact hp
  · cases hp
theorem vSnap_take {N T S : Int} {R : List En} (h : vSnap N T S R = true) (k : Nat) : vSnap N T S (R.take k) = true := by
  rw [vSnap_iff] at h ⊢
  exact ⟨h.1, h.2.1, h.2.2.1, vLog_take h.2.2.2.1 k, headOk_take h.2.2.2.2 k⟩
theorem stateOf_yes {N T S : Int} {R : List En} (h : vSnap N T S R = true) : stateOf N T S R = stAfter S R := by simp [stateOf, h]
theorem stateOf_no {N T S : Int} {R : List En} (h : vSnap N T S R = false) : stateOf N T S R = -1 := by simp [stateOf, h]
theorem stateOf_bare {N T S : Int} {R : List En} (h : vSnap N T S R = true) : stateOf N T S [] = S := by
  rw [stateOf_yes (by simpa using vSnap_take h 0)]; rfl
/-- What stands behind a CompactLog that succeeds. -/
theorem comp_ok {N T S : Int} {R : List En} {z N2 T2 S2 : Int} {R2 : List En} (h : compOf N T S R z = ((N2, T2, S2, R2), true)) :
    ∃ k : Nat, z = (k : Int) ∧ k ≤ R.length ∧ vSnap N T S R = true ∧ vSnap N2 T2 S2 R2 = true ∧ N2 = N + k ∧ T2 = (if k = 0 then T else termOf R k) ∧ S2 = stAfter S (R.take k) ∧ R2 = R.drop k ∧ N + k ≤ 999 := by
  cases hv : vSnap N T S R with
  | false => rw [compOf_no (.inl hv)] at h; injection h with _ h; cases h
  | true =>
    cases hi : inR z 0 R.length with
    | false => rw [compOf_no (.inr hi)] at h; injection h with _ h; cases h
    | true =>
      rw [inR_iff] at hi
      obtain ⟨k, rfl⟩ : ∃ k : Nat, z = (k : Int) := ⟨z.toNat, by omega⟩
      have hk : k ≤ R.length := by omega
      rw [compOf_eq hv hk] at h
      by_cases h9 : N + (k : Int) ≤ 999
      · rw [if_pos h9] at h
        injection h with h _
        injection h with e1 h
        injection h with e2 h
        injection h with e3 e4
        subst e1; subst e2; subst e3; subst e4
        refine ⟨k, rfl, hk, rfl, ?_, rfl, rfl, rfl, rfl, h9⟩
        rw [vSnap_with hv hk, decide_eq_true h9]
      · rw [if_neg h9] at h; injection h with _ h; cases h
theorem comp_state {N T S : Int} {R : List En} {z N2 T2 S2 : Int} {R2 : List En} (h : compOf N T S R z = ((N2, T2, S2, R2), true)) : stateOf N2 T2 S2 R2 = stateOf N T S R ∧ N2 + R2.length = N + R.length := by
  obtain ⟨k, rfl, hk, hv, hv2, rfl, rfl, rfl, rfl, _⟩ := comp_ok h
  rw [stateOf_yes hv, stateOf_yes hv2, ← stAfter_append, List.take_append_drop, List.length_drop]
  exact ⟨rfl, by omega⟩
theorem termOf_dropS {R : List En} {a j : Nat} (ha : a ≤ R.length) (hj : 0 < j) : termOf (R.drop a) j = termOf R (a + j) := by
  obtain ⟨i, rfl⟩ : ∃ i, j = i + 1 := ⟨j - 1, by omega⟩
  simp [termOf, List.getElem?_drop, ← Nat.add_assoc]
/-- In two steps. -/
theorem comp_twice {N T S : Int} {R : List En} {k : Nat} {N2 T2 S2 : Int} {R2 : List En} (h : compOf N T S R (k : Int) = ((N2, T2, S2, R2), true)) {a : Nat} (ha : a ≤ k) :
    ∃ N1 T1 S1 R1, compOf N T S R (a : Int) = ((N1, T1, S1, R1), true) ∧ compOf N1 T1 S1 R1 ((k - a : Nat) : Int) = ((N2, T2, S2, R2), true) := by
  obtain ⟨k', hkk, hk, hv, hv2, rfl, rfl, rfl, rfl, h9⟩ := comp_ok h
  obtain rfl : k = k' := by omega
  have ha2 : a ≤ R.length := by omega
  have hv1 : vSnap (N + a) (if a = 0 then T else termOf R a) (stAfter S (R.take a)) (R.drop a) = true := by rw [vSnap_with hv ha2]; exact decide_eq_true (by omega)
  refine ⟨N + a, if a = 0 then T else termOf R a, stAfter S (R.take a), R.drop a, ?_, ?_⟩
  · rw [compOf_eq hv ha2, if_pos (by omega)]
  · rw [compOf_eq hv1 (by rw [List.length_drop]; omega), if_pos (by omega)]
    have e1 : N + (a : Int) + ((k - a : Nat) : Int) = N + k := by omega
    have e2 : (if k - a = 0 then (if a = 0 then T else termOf R a) else termOf (R.drop a) (k - a)) = if k = 0 then T else termOf R k := by
      by_cases h0 : k - a = 0
      · rw [if_pos h0]
        have : a = k := by omega
        subst this; rfl
      · rw [if_neg h0, termOf_dropS ha2 (by omega), if_neg (show ¬ k = 0 by omega), show a + (k - a) = k by omega]
    have e3 : stAfter (stAfter S (R.take a)) ((R.drop a).take (k - a)) = stAfter S (R.take k) := by
      rw [← stAfter_append, ← List.take_add, show a + (k - a) = k by omega]
    have e4 : (R.drop a).drop (k - a) = R.drop k := by rw [List.drop_drop, show a + (k - a) = k by omega]
    rw [e1, e2, e3, e4]
/-- Its own snapshot, compacted and sent back, is installed as it is. -/
theorem inst_same {N T S : Int} {R : List En} {z N2 T2 S2 : Int} {R2 : List En} (h : compOf N T S R z = ((N2, T2, S2, R2), true)) : instOf N T S R N2 T2 S2 R2 = (N2, T2, S2, R2) := by
  obtain ⟨k, rfl, hk, hv, hv2, rfl, rfl, rfl, rfl, _⟩ := comp_ok h
  unfold instOf
  rw [hv, hv2]
  by_cases h0 : k = 0
  · subst h0
    simp [stAfter]
  · have h1 : ¬ N + (k : Int) ≤ N := by omega
    have h2 : (N + (k : Int) - N).toNat = k := by omega
    simp only [Bool.and_self, if_true, if_neg h1, restB, h2, if_neg h0, and_true]
    rw [if_pos hk]
/-- The answer with its parts named. -/
def SnP (N T S : Int) (R : List En) (b : Bool) (k : Nat) (w : World) (e : Ending) (w' : World) : Prop :=
  ∃ A c, e = .returned (.tuple #[.agg #[.int .i64 N, .int .i64 T, .int .i64 S, .slice A k c], .bool b]) ∧ k ≤ c ∧ Rd w' w.heap.size w'.heap.size 2 A k (pvs R) ∧ Below w.heap.size w w'
theorem SnPost.p {u : Sn × Bool} {N T S : Int} {R : List En} {b : Bool} {k : Nat} {w w' : World} {e : Ending} (hu : u = ((N, T, S, R), b)) (hk : R.length = k) (h : SnPost u w e w') : SnP N T S R b k w e w' := by
  subst hu; subst hk
  obtain ⟨A, c, he, hc, hr, _, hb⟩ := h
  exact ⟨A, c, he, hc, hr, hb⟩
def SnP1 (N T S : Int) (R : List En) (k : Nat) (w : World) (e : Ending) (w' : World) : Prop :=
  ∃ A c, e = .returned (.agg #[.int .i64 N, .int .i64 T, .int .i64 S, .slice A k c]) ∧ k ≤ c ∧ Rd w' w.heap.size w'.heap.size 2 A k (pvs R) ∧ Below w.heap.size w w'
theorem SnPost1.p {u : Sn} {N T S : Int} {R : List En} {k : Nat} {w w' : World} {e : Ending} (hu : u = (N, T, S, R)) (hk : R.length = k) (h : SnPost1 u w e w') : SnP1 N T S R k w e w' := by
  subst hu; subst hk
  obtain ⟨A, c, he, hc, hr, _, hb⟩ := h
  exact ⟨A, c, he, hc, hr, hb⟩
set_option maxHeartbeats 800000 in
theorem equalSnap_same (x y z : Int) (lo hi n c lo' hi' c' : Nat) (A A' : Option Addr) (ps : List En) (w : World) (hr : Rd w lo hi 2 A n (pvs ps)) (hB : hi ≤ w.heap.size) (hn : n ≤ 1048576) (hr' : Rd w lo' hi' 2 A' n (pvs ps)) (hB' : hi' ≤ w.heap.size) :
    Calls Try.prog 16 #[.agg #[.int .i64 x, .int .i64 y, .int .i64 z, .slice A n c], .agg #[.int .i64 x, .int .i64 y, .int .i64 z, .slice A' n c']] w fun e w' => e = .returned (.bool true) ∧ Below w.heap.size w w' := by
  have hb0 := up_alloc (up_alloc (Below.refl _ w) (.cells #[.int .i64 x, .int .i64 y, .int .i64 z, .slice A n c] 32)) (.cells #[.int .i64 x, .int .i64 y, .int .i64 z, .slice A' n c'] 32)
  have HB0 := Lib.hid hb0
  have HR := Lib.hid (hr.keep hb0 hB)
  have HR' := Lib.hid (hr'.keep hb0 hB')
  have hz0 := hb0.size
  have hxx : (x == x) = true := by simp
  have hyy : (y == y) = true := by simp
  have hzz : (z == z) = true := by simp
  clear hr hr' hb0
  go_enter Try.func16, Try.ntmps16
  go_wp2_with (fail)
  (with_reducible refine (equalLog_any _ _ n c _ _ n c' A A' ps ps _ HR.out (by omega) hn HR'.out (by omega) hn).mono ?_)
  rintro e w1 ⟨rfl, hb1⟩
  rw [beq_self_eq_true]
  have HB1 := Lib.hid (up HB0.out hb1)
  clear hb1
  go_wp2
  go_ret
  exact ⟨rfl, HB1.out⟩
end Go.Proofs.Ytfpiejcfhdnjiaa
