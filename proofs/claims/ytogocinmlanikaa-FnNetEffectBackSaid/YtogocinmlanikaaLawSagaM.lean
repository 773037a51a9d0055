/- What the laws on sagas ask: parts of rows; an answer once it is known. -/
import Derived.Test.YtogocinmlanikaaSagaMath
set_option linter.unusedSimpArgs false
set_option linter.unusedVariables false
namespace Go.Proofs.Ytogocinmlanikaa
open Go.RowKit

/-- The first part of a row, and what is behind it. -/
theorem Rd.headZ {w : World} {lo hi size n k : Nat} {A : Option Addr} {xs : List Value} (h : Rd w lo hi size A n xs) (hk : k ≤ n) : Rd w lo hi size A k (xs.take (k * size)) := by
  refine ⟨by rw [List.length_take, h.1, Nat.min_eq_left (Nat.mul_le_mul_right _ hk)], fun hn => ?_⟩
  obtain ⟨b, off, rfl, h1, h2, hcell⟩ := h.2 (by omega)
  refine ⟨b, off, rfl, h1, h2, fun j u hu => ?_⟩
  rw [List.getElem?_take] at hu
  split at hu
  · exact hcell j u hu
  · cases hu
theorem Rd.tailZ {w : World} {lo hi size n c k : Nat} {A : Option Addr} {xs : List Value} (h : Rd w lo hi size A n xs) (hk : k ≤ n) (hc : n ≤ c) :
    Rd w lo hi size (if c = k then A else A.map fun x => x.add (k * size)) (n - k) (xs.drop (k * size)) := by
  refine ⟨by rw [List.length_drop, h.1, Nat.sub_mul], fun hn => ?_⟩
  obtain ⟨b, off, rfl, h1, h2, hcell⟩ := h.2 (by omega)
  rw [if_neg (by omega)]
  refine ⟨b, off + k * size, by simp [addr_add], h1, h2, fun j u hu => ?_⟩
  rw [List.getElem?_drop] at hu
  have := hcell _ u hu
  rwa [show off + k * size + j = off + (k * size + j) by omega]
theorem pvs_takeZ : ∀ (ps : List (Int × Int)) (k : Nat), (pvs ps).take (k * 2) = pvs (ps.take k)
  | [], k => by simp [pvs]
  | p :: ps, 0 => by simp [pvs]
  | p :: ps, k + 1 => by
    rw [show (k + 1) * 2 = k * 2 + 1 + 1 by omega, List.take_succ_cons, show pvs (p :: ps) = .int .i64 p.1 :: .int .i64 p.2 :: pvs ps from rfl, List.take_succ_cons, List.take_succ_cons, pvs_takeZ ps k]
    rfl
theorem pvs_dropZ : ∀ (ps : List (Int × Int)) (k : Nat), (pvs ps).drop (k * 2) = pvs (ps.drop k)
  | [], k => by simp [pvs]
  | p :: ps, 0 => by simp [pvs]
  | p :: ps, k + 1 => by
    rw [show (k + 1) * 2 = k * 2 + 1 + 1 by omega, List.drop_succ_cons, show pvs (p :: ps) = .int .i64 p.1 :: .int .i64 p.2 :: pvs ps from rfl, List.drop_succ_cons, List.drop_succ_cons, pvs_dropZ ps k]
theorem Rd.headP {w : World} {lo hi n k : Nat} {A : Option Addr} {ps : List (Int × Int)} (h : Rd w lo hi 2 A n (pvs ps)) (hk : k ≤ n) : Rd w lo hi 2 A k (pvs (ps.take k)) := by
  have := h.headZ hk; rwa [pvs_takeZ] at this
theorem Rd.tailP {w : World} {lo hi n c k : Nat} {A : Option Addr} {ps : List (Int × Int)} (h : Rd w lo hi 2 A n (pvs ps)) (hk : k ≤ n) (hc : n ≤ c) : Rd w lo hi 2 (if c = k then A else A.map fun x => x.add (k * 2)) (n - k) (pvs (ps.drop k)) := by
  have := h.tailZ hk hc; rwa [pvs_dropZ] at this
theorem Rd.headI {w : World} {lo hi n k : Nat} {A : Option Addr} {ys : List Int} (h : Rd w lo hi 1 A n (ivs ys)) (hk : k ≤ n) : Rd w lo hi 1 A k (ivs (ys.take k)) := by
  have := h.headZ hk; rwa [Nat.mul_one, ivs, ← List.map_take] at this
theorem Rd.tailI {w : World} {lo hi n c k : Nat} {A : Option Addr} {ys : List Int} (h : Rd w lo hi 1 A n (ivs ys)) (hk : k ≤ n) (hc : n ≤ c) : Rd w lo hi 1 (if c = k then A else A.map fun x => x.add k) (n - k) (ivs (ys.drop k)) := by
  have := h.tailZ hk hc; rwa [Nat.mul_one, ivs, ← List.map_drop] at this
/-- Half of a small number, as the walk meets it. -/
theorem half_factsZ (k : Nat) (h : k ≤ 100) : ∃ a : Nat, k / 2 = a ∧ a ≤ k ∧ Hid ((k : Int).tdiv 2 = (a : Int) ∧ IntKind.i64.wrap ((k : Int).tdiv 2) = (a : Int) ∧ IntKind.i64.wrap ((k : Int) - (a : Int)) = ((k - a : Nat) : Int) ∧ wrap64 (a : Int) = (a : Int)) := by
  obtain ⟨a, ha⟩ : ∃ a, k / 2 = a := ⟨_, rfl⟩
  have ha1 : a ≤ k := by omega
  have ht : (k : Int).tdiv 2 = (a : Int) := by
    rw [← ha, Int.tdiv_eq_ediv_of_nonneg (by omega)]
    omega
  refine ⟨a, ha, ha1, Lib.hid ⟨ht, ?_, ?_, by unfold wrap64; omega⟩⟩
  · rw [ht]; exact IntWalk.i64_in _ (by omega)
  · rw [IntWalk.i64_in _ (by omega)]; omega
section
variable {P : Program} {F : FuncId} {args : Array Value} {w : World}
/-- Effects, once they are known. -/
theorem freshN {l l' : List Int} {b b' : Bool} {N : Nat} (h : Calls P F args w (FreshS l b w)) (hl : l = l') (hb : b = b') (hN : l'.length = N) :
    Calls P F args w fun e w' => ∃ A c, e = .returned (.tuple #[.slice A N c, .bool b']) ∧ N ≤ c ∧ Rd w' w.heap.size w'.heap.size 1 A N (ivs l') ∧ Below w.heap.size w w' := by
  subst hl; subst hb; subst hN
  exact h.mono fun e w' ⟨A, c, h1, h2, h3, _, h5⟩ => ⟨A, c, h1, h2, h3, h5⟩
end
end Go.Proofs.Ytogocinmlanikaa
