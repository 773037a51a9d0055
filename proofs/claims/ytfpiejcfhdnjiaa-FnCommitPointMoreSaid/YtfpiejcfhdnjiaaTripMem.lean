/- Slices of structs of three ints. Plain theorems; no program. -/
import Derived.Test.YtfpiejcfhdnjiaaBase
import Derived.Test.YtfpiejcfhdnjiaaExInt
set_option linter.unusedSimpArgs false
set_option linter.unusedVariables false
namespace Go.Proofs.Ytfpiejcfhdnjiaa
open Go.RowKit

abbrev Tri := Int × Int × Int
def tv (p : Tri) : List Value := [.int .i64 p.1, .int .i64 p.2.1, .int .i64 p.2.2]
def tvs (ps : List Tri) : List Value := ps.flatMap tv
theorem tvs_length (ps : List Tri) : (tvs ps).length = ps.length * 3 := by
  induction ps with
  | nil => rfl
  | cons p ps ih => simp [tvs, tv] at *; omega
theorem tvs_append (ps qs : List Tri) : tvs (ps ++ qs) = tvs ps ++ tvs qs := by simp [tvs]
theorem tvs_get (ps : List Tri) (k : Nat) (hk : k < ps.length) : (tvs ps)[k * 3]? = some (.int .i64 ps[k].1) ∧ (tvs ps)[k * 3 + 1]? = some (.int .i64 ps[k].2.1) ∧ (tvs ps)[k * 3 + 2]? = some (.int .i64 ps[k].2.2) := by
  induction ps generalizing k with
  | nil => simp at hk
  | cons p ps ih =>
    cases k with
    | zero => simp [tvs, tv]
    | succ k =>
      have := ih k (by simpa using hk)
      have e : (k + 1) * 3 = k * 3 + 3 := by omega
      rw [e]
      simpa [tvs, tv] using this
theorem Rd.len3 {w : World} {lo hi : Nat} {A : Option Addr} {n : Nat} {ps : List Tri} (h : Rd w lo hi 3 A n (tvs ps)) : ps.length = n := by
  have := h.1; rw [tvs_length] at this; omega
/-- The three cells of element k. -/
theorem Rd.trip {w : World} {lo hi : Nat} {A : Option Addr} {n : Nat} {ps : List Tri} (h : Rd w lo hi 3 A n (tvs ps)) {k : Nat} (hk : k < n) :
    ∃ b off x y z, A = some ⟨b, off, none⟩ ∧ b < hi ∧ lo ≤ b ∧ ps[k]? = some (x, y, z) ∧ w.cell? ⟨b, off + k * 3, none⟩ = some (.int .i64 x) ∧ w.cell? ⟨b, off + k * 3 + 1, none⟩ = some (.int .i64 y) ∧ w.cell? ⟨b, off + k * 3 + 2, none⟩ = some (.int .i64 z) := by
  obtain ⟨b, off, e, hl, hlt, hc⟩ := h.2 (by omega)
  have hk' : k < ps.length := by rw [h.len3]; exact hk
  have g := tvs_get ps k hk'
  exact ⟨b, off, ps[k].1, ps[k].2.1, ps[k].2.2, e, hlt, hl, by simp [hk'], hc _ _ g.1, by have := hc _ _ g.2.1; rwa [← Nat.add_assoc] at this, by have := hc _ _ g.2.2; rwa [← Nat.add_assoc] at this⟩
theorem tvs_one (ps : List Tri) : ∀ u ∈ tvs ps, u.oneCell' = true := by
  intro u hu
  simp [tvs, tv] at hu
  obtain ⟨a, b, c, _, h⟩ := hu
  rcases h with rfl | rfl | rfl <;> rfl
theorem mixT_step (ps : List Tri) (zs : List Value) (n k : Nat) (x y z : Int) (hp : ps.length = n) (hz : zs.length = n * 3) (hk : k < n) (hg : ps[k]? = some (x, y, z)) :
    (((tvs (ps.take k) ++ zs.drop (k * 3)).set (k * 3) (.int .i64 x)).set (k * 3 + 1) (.int .i64 y)).set (k * 3 + 2) (.int .i64 z) = tvs (ps.take (k + 1)) ++ zs.drop ((k + 1) * 3) := by
  have h1 : (tvs (ps.take k)).length = k * 3 := by rw [tvs_length, List.length_take]; omega
  rw [List.drop_eq_getElem_cons (show k * 3 < zs.length by omega), List.drop_eq_getElem_cons (show k * 3 + 1 < zs.length by omega), List.drop_eq_getElem_cons (show k * 3 + 1 + 1 < zs.length by omega)]
  obtain ⟨hk', e⟩ := List.getElem?_eq_some_iff.1 hg
  rw [List.take_succ_eq_append_getElem hk', e, tvs_append]
  rw [List.set_append_right _ _ (by omega), h1, Nat.sub_self, List.set_cons_zero, List.set_append_right _ _ (by omega), h1, show k * 3 + 1 - k * 3 = 1 by omega, List.set_cons_succ, List.set_cons_zero, List.set_append_right _ _ (by omega), h1, show k * 3 + 2 - k * 3 = 1 + 1 by omega, List.set_cons_succ, List.set_cons_succ, List.set_cons_zero]
  simp [tvs, tv, show (k + 1) * 3 = k * 3 + 1 + 1 + 1 by omega]
def seqT (k : Int) (n : Nat) : List Tri := (List.range n).map fun (i : Nat) => (k + 3 * (i : Int), k + 3 * (i : Int) + 1, k + 3 * (i : Int) + 1 + 1)
theorem seqT_snoc (k : Int) (n : Nat) : seqT k (n + 1) = seqT k n ++ [(k + 3 * (n : Int), k + 3 * (n : Int) + 1, k + 3 * (n : Int) + 1 + 1)] := by simp [seqT, List.range_succ]
theorem seqT_length (k : Int) (n : Nat) : (seqT k n).length = n := by simp [seqT]
theorem seqT_get {k : Int} {n i : Nat} (hi : i < n) : (seqT k n)[i]? = some (k + 3 * (i : Int), k + 3 * (i : Int) + 1, k + 3 * (i : Int) + 1 + 1) := by simp [seqT, hi]
theorem mixTm_step (k : Int) (zs : List Value) (n i : Nat) (hz : zs.length = n * 3) (hi : i < n) : (((tvs (seqT k i) ++ zs.drop (i * 3)).set (i * 3) (.int .i64 (k + 3 * (i : Int)))).set (i * 3 + 1) (.int .i64 (k + 3 * (i : Int) + 1))).set (i * 3 + 2) (.int .i64 (k + 3 * (i : Int) + 1 + 1)) = tvs (seqT k (i + 1)) ++ zs.drop ((i + 1) * 3) := by
  have h1 : (tvs (seqT k i)).length = i * 3 := by rw [tvs_length, seqT_length]
  rw [List.drop_eq_getElem_cons (show i * 3 < zs.length by omega), List.drop_eq_getElem_cons (show i * 3 + 1 < zs.length by omega), List.drop_eq_getElem_cons (show i * 3 + 1 + 1 < zs.length by omega)]
  rw [List.set_append_right _ _ (by omega), h1, Nat.sub_self, List.set_cons_zero, List.set_append_right _ _ (by omega), h1, show i * 3 + 1 - i * 3 = 1 by omega, List.set_cons_succ, List.set_cons_zero, List.set_append_right _ _ (by omega), h1, show i * 3 + 2 - i * 3 = 1 + 1 by omega, List.set_cons_succ, List.set_cons_succ, List.set_cons_zero, seqT_snoc, tvs_append]
  simp [tvs, tv, show (i + 1) * 3 = i * 3 + 1 + 1 + 1 by omega]
def eqT (x y z x' y' z' : Int) : Bool := x == x' && y == y' && z == z'
theorem eqT_iff {x y z x' y' z' : Int} : eqT x y z x' y' z' = true ↔ x = x' ∧ y = y' ∧ z = z' := by simp [eqT, and_assoc]
end Go.Proofs.Ytfpiejcfhdnjiaa
