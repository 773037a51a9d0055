/- What snapshots come to: a number, a term, a state, and entries behind them. Plain mathematics; no program. -/
import Derived.Test.YtfpiejcfhdnjiaaLogMath
set_option linter.unusedSimpArgs false
set_option linter.unusedVariables false
namespace Go.Proofs.Ytfpiejcfhdnjiaa
open Go.RowKit

/-- The state behind entries. -/
def stStep (z : Int) (p : En) : Int := (31 * z + p.2) % 10007
def stAfter (z : Int) (ps : List En) : Int := ps.foldl stStep z
theorem stAfter_snoc (z : Int) (ps : List En) (p : En) : stAfter z (ps ++ [p]) = (31 * stAfter z ps + p.2) % 10007 := by simp [stAfter, stStep]
theorem stAfter_append (z : Int) (ps qs : List En) : stAfter z (ps ++ qs) = stAfter (stAfter z ps) qs := by simp [stAfter]
theorem stAfter_in {z : Int} (h : 0 ≤ z ∧ z ≤ 10006) : ∀ ps : List En, 0 ≤ stAfter z ps ∧ stAfter z ps ≤ 10006
  | [] => h
  | p :: ps => stAfter_in (z := stStep z p) (by unfold stStep; omega) ps
def headOk (t : Int) : List En → Bool
  | [] => true
  | p :: _ => decide (t ≤ p.1)
theorem headOk_iff {t : Int} {ps : List En} : headOk t ps = true ↔ ∀ p, ps[0]? = some p → t ≤ p.1 := by
  cases ps with
  | nil => simp [headOk]
  | cons p ps => simp [headOk]
abbrev Sn := Int × Int × Int × List En
def vSnap (N T S : Int) (R : List En) : Bool := inR N 0 999 && inR T 0 9 && inR S 0 10006 && vLog R && headOk T R
theorem vSnap_iff {N T S : Int} {R : List En} : vSnap N T S R = true ↔ (0 ≤ N ∧ N ≤ 999) ∧ (0 ≤ T ∧ T ≤ 9) ∧ (0 ≤ S ∧ S ≤ 10006) ∧ vLog R = true ∧ headOk T R = true := by
  simp only [vSnap, Bool.and_eq_true, inR_iff, and_assoc]
theorem vSnap_log {N T S : Int} {R : List En} (h : vSnap N T S R = true) : vLog R = true := (vSnap_iff.1 h).2.2.2.1
theorem vSnap_len {N T S : Int} {R : List En} (h : vSnap N T S R = true) : R.length ≤ 16 := vLog_len (vSnap_log h)
/-- What StateOf answers. -/
def stateOf (N T S : Int) (R : List En) : Int := if vSnap N T S R then stAfter S R else -1
/-- The snapshot with entries in it, and without those. -/
def withN (N T S : Int) (R : List En) (k : Nat) : Sn := (N + k, if k = 0 then T else termOf R k, stAfter S (R.take k), R.drop k)
/-- What CompactLog answers. -/
def compOf (N T S : Int) (R : List En) (z : Int) : Sn × Bool :=
  if vSnap N T S R && inR z 0 R.length then
    if vSnap (withN N T S R z.toNat).1 (withN N T S R z.toNat).2.1 (withN N T S R z.toNat).2.2.1 (withN N T S R z.toNat).2.2.2 then (withN N T S R z.toNat, true) else ((0, 0, 0, []), false)
  else ((0, 0, 0, []), false)
/-- The entries behind one with a number and a term. -/
def restB (N : Int) (R : List En) (N' T' : Int) : List En := if (N' - N).toNat ≤ R.length ∧ termOf R (N' - N).toNat = T' then R.drop (N' - N).toNat else []
/-- What InstallSnap answers. -/
def instOf (N T S : Int) (R : List En) (N' T' S' : Int) (R' : List En) : Sn :=
  if vSnap N T S R && vSnap N' T' S' R' then
    if N' ≤ N then (N, T, S, R) else (N', T', S', restB N R N' T')
  else (0, 0, 0, [])
theorem compOf_len (N T S : Int) (R : List En) (z : Int) : (compOf N T S R z).1.2.2.2.length ≤ R.length := by
  unfold compOf
  split
  · split
    · simp only [withN, List.length_drop]; omega
    · exact Nat.zero_le _
  · exact Nat.zero_le _
theorem restB_len (N : Int) (R : List En) (N' T' : Int) : (restB N R N' T').length ≤ R.length := by
  unfold restB
  split
  · rw [List.length_drop]; omega
  · exact Nat.zero_le _
theorem instOf_len (N T S : Int) (R : List En) (N' T' S' : Int) (R' : List En) : (instOf N T S R N' T' S' R').2.2.2.length ≤ R.length := by
  unfold instOf
  split
  · split
    · exact Nat.le_refl _
    · exact restB_len _ _ _ _
  · exact Nat.zero_le _
theorem compOf_no {N T S : Int} {R : List En} {z : Int} (h : vSnap N T S R = false ∨ inR z 0 R.length = false) : compOf N T S R z = ((0, 0, 0, []), false) := by
  unfold compOf
  rcases h with h | h <;> simp [h]
theorem compOf_yes {N T S : Int} {R : List En} {k : Nat} (h : vSnap N T S R = true) (hk : k ≤ R.length) : compOf N T S R (k : Int) = if vSnap (N + k) (if k = 0 then T else termOf R k) (stAfter S (R.take k)) (R.drop k) then ((N + k, (if k = 0 then T else termOf R k), stAfter S (R.take k), R.drop k), true) else ((0, 0, 0, []), false) := by
  have e : inR (k : Int) 0 (R.length : Int) = true := inR_iff.2 (by omega)
  unfold compOf
  rw [h, e]
  rfl
/-- A snapshot that entries have been put into is valid, unless its number is too great. -/
theorem termOf_ok {R : List En} (h : vLog R = true) {k : Nat} (h0 : 0 < k) (hk : k ≤ R.length) : 1 ≤ termOf R k ∧ termOf R k ≤ 9 := by
  obtain ⟨j, rfl⟩ : ∃ j, k = j + 1 := ⟨k - 1, by omega⟩
  rw [termOf_get (List.getElem?_eq_getElem (show j < R.length by omega))]
  exact (vLog_ok h (List.getElem_mem _)).1
theorem headOk_drop {T : Int} {R : List En} (h : vLog R = true) (ht : headOk T R = true) (k : Nat) : headOk (if k = 0 then T else termOf R k) (R.drop k) = true := by
  rcases Nat.eq_zero_or_pos k with rfl | h0
  · simpa using ht
  · rw [if_neg (by omega), headOk_iff]
    intro p hp
    rw [List.getElem?_drop, Nat.add_zero] at hp
    obtain ⟨j, rfl⟩ : ∃ j, k = j + 1 := ⟨k - 1, by omega⟩
    have hj1 := (List.getElem?_eq_some_iff.1 hp).1
    rw [termOf_get (List.getElem?_eq_getElem (show j < R.length by omega))]
    have := List.pairwise_iff_getElem.1 (vLog_iff.1 h).2.1 j (j + 1) (by omega) hj1 (by omega)
    rw [(List.getElem?_eq_some_iff.1 hp).2] at this
    exact this
theorem vSnap_with {N T S : Int} {R : List En} (h : vSnap N T S R = true) {k : Nat} (hk : k ≤ R.length) : vSnap (N + k) (if k = 0 then T else termOf R k) (stAfter S (R.take k)) (R.drop k) = decide (N + k ≤ 999) := by
  obtain ⟨h1, h2, h3, h4, h5⟩ := vSnap_iff.1 h
  rw [Bool.eq_iff_iff, vSnap_iff, decide_eq_true_eq]
  refine ⟨fun h => h.1.2, fun hh => ⟨⟨by omega, hh⟩, ?_, stAfter_in h3 _, vLog_sub (List.drop_sublist _ _) h4, headOk_drop h4 h5 k⟩⟩
  split
  · exact h2
  · rename_i h0
    have := termOf_ok h4 (show 0 < k by omega) hk
    omega
theorem compOf_eq {N T S : Int} {R : List En} {k : Nat} (h : vSnap N T S R = true) (hk : k ≤ R.length) : compOf N T S R (k : Int) = if N + k ≤ 999 then ((N + k, (if k = 0 then T else termOf R k), stAfter S (R.take k), R.drop k), true) else ((0, 0, 0, []), false) := by
  rw [compOf_yes h hk, vSnap_with h hk]
  by_cases hh : N + (k : Int) ≤ 999
  · rw [decide_eq_true hh, if_pos hh]; rfl
  · rw [decide_eq_false hh, if_neg hh]; rfl
end Go.Proofs.Ytfpiejcfhdnjiaa
