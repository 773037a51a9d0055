/- Slices of structs of four ints. Plain theorems; no program. (Written by gen/rec4.py.) -/
import Derived.Test.YtfpiejcfhdnjiaaBase
import Derived.Test.YtfpiejcfhdnjiaaExInt
set_option linter.unusedSimpArgs false
set_option linter.unusedVariables false
namespace Go.Proofs.Ytfpiejcfhdnjiaa
open Go.RowKit

abbrev Qd := Int × Int × Int × Int
def qv (p : Qd) : List Value := [.int .i64 p.1, .int .i64 p.2.1, .int .i64 p.2.2.1, .int .i64 p.2.2.2]
def qvs (ps : List Qd) : List Value := ps.flatMap qv
theorem qvs_length (ps : List Qd) : (qvs ps).length = ps.length * 4 := by
  induction ps with
  | nil => rfl
  | cons p ps ih => simp [qvs, qv] at *; omega
theorem qvs_append (ps qs : List Qd) : qvs (ps ++ qs) = qvs ps ++ qvs qs := by simp [qvs]
theorem qvs_get (ps : List Qd) (k : Nat) (hk : k < ps.length) : (qvs ps)[k * 4]? = some (.int .i64 ps[k].1) ∧ (qvs ps)[k * 4 + 1]? = some (.int .i64 ps[k].2.1) ∧ (qvs ps)[k * 4 + 2]? = some (.int .i64 ps[k].2.2.1) ∧ (qvs ps)[k * 4 + 3]? = some (.int .i64 ps[k].2.2.2) := by
  induction ps generalizing k with
  | nil => simp at hk
  | cons p ps ih =>
    cases k with
    | zero => simp [qvs, qv]
    | succ k =>
      have := ih k (by simpa using hk)
      have e : (k + 1) * 4 = k * 4 + 4 := by omega
      rw [e]
      simpa [qvs, qv] using this
theorem Rd.len4 {w : World} {lo hi : Nat} {A : Option Addr} {n : Nat} {ps : List Qd} (h : Rd w lo hi 4 A n (qvs ps)) : ps.length = n := by
  have := h.1; rw [qvs_length] at this; omega
/-- The four cells of element k. -/
theorem Rd.quad {w : World} {lo hi : Nat} {A : Option Addr} {n : Nat} {ps : List Qd} (h : Rd w lo hi 4 A n (qvs ps)) {k : Nat} (hk : k < n) :
    ∃ b off x y z t, A = some ⟨b, off, none⟩ ∧ b < hi ∧ lo ≤ b ∧ ps[k]? = some (x, y, z, t) ∧ w.cell? ⟨b, off + k * 4, none⟩ = some (.int .i64 x) ∧ w.cell? ⟨b, off + k * 4 + 1, none⟩ = some (.int .i64 y) ∧ w.cell? ⟨b, off + k * 4 + 2, none⟩ = some (.int .i64 z) ∧ w.cell? ⟨b, off + k * 4 + 3, none⟩ = some (.int .i64 t) := by
  obtain ⟨b, off, e, hl, hlt, hc⟩ := h.2 (by omega)
  have hk' : k < ps.length := by rw [h.len4]; exact hk
  have g := qvs_get ps k hk'
  exact ⟨b, off, ps[k].1, ps[k].2.1, ps[k].2.2.1, ps[k].2.2.2, e, hlt, hl, by simp [hk'], hc _ _ g.1, by have := hc _ _ g.2.1; rwa [← Nat.add_assoc] at this, by have := hc _ _ g.2.2.1; rwa [← Nat.add_assoc] at this, by have := hc _ _ g.2.2.2; rwa [← Nat.add_assoc] at this⟩
theorem qvs_one (ps : List Qd) : ∀ u ∈ qvs ps, u.oneCell' = true := by
  intro u hu
  simp [qvs, qv] at hu
  obtain ⟨a, b, c, d, _, h⟩ := hu
  rcases h with rfl | rfl | rfl | rfl <;> rfl
/-- Four cells laid over a row. -/
theorem set4 {xs zs : List Value} {k n : Nat} (a b c d : Value) (h1 : xs.length = k * 4) (hz : zs.length = n * 4) (hk : k < n) :
    ((((xs ++ zs.drop (k * 4)).set (k * 4) a).set (k * 4 + 1) b).set (k * 4 + 2) c).set (k * 4 + 3) d = xs ++ ([a, b, c, d] ++ zs.drop ((k + 1) * 4)) := by
  rw [List.drop_eq_getElem_cons (show k * 4 < zs.length by omega), List.drop_eq_getElem_cons (show k * 4 + 1 < zs.length by omega), List.drop_eq_getElem_cons (show k * 4 + 1 + 1 < zs.length by omega), List.drop_eq_getElem_cons (show k * 4 + 1 + 1 + 1 < zs.length by omega)]
  rw [List.set_append_right _ _ (by omega), h1, Nat.sub_self, List.set_cons_zero, List.set_append_right _ _ (by omega), h1, show k * 4 + 1 - k * 4 = 1 by omega, List.set_cons_succ, List.set_cons_zero, List.set_append_right _ _ (by omega), h1, show k * 4 + 2 - k * 4 = 1 + 1 by omega, List.set_cons_succ, List.set_cons_succ, List.set_cons_zero, List.set_append_right _ _ (by omega), h1, show k * 4 + 3 - k * 4 = 1 + 1 + 1 by omega, List.set_cons_succ, List.set_cons_succ, List.set_cons_succ, List.set_cons_zero]
  simp [show (k + 1) * 4 = k * 4 + 1 + 1 + 1 + 1 by omega]
theorem mixQ_step (ps : List Qd) (zs : List Value) (n k : Nat) (x y z t : Int) (hp : ps.length = n) (hz : zs.length = n * 4) (hk : k < n) (hg : ps[k]? = some (x, y, z, t)) :
    ((((qvs (ps.take k) ++ zs.drop (k * 4)).set (k * 4) (.int .i64 x)).set (k * 4 + 1) (.int .i64 y)).set (k * 4 + 2) (.int .i64 z)).set (k * 4 + 3) (.int .i64 t) = qvs (ps.take (k + 1)) ++ zs.drop ((k + 1) * 4) := by
  rw [set4 _ _ _ _ (by rw [qvs_length, List.length_take]; omega) hz hk, take_snoc hg, qvs_append, List.append_assoc]
  rfl
def seqQ (k : Int) (n : Nat) : List Qd := (List.range n).map fun (i : Nat) => (k + 4 * (i : Int), k + 4 * (i : Int) + 1, k + 4 * (i : Int) + 1 + 1, k + 4 * (i : Int) + 1 + 1 + 1)
theorem seqQ_snoc (k : Int) (n : Nat) : seqQ k (n + 1) = seqQ k n ++ [(k + 4 * (n : Int), k + 4 * (n : Int) + 1, k + 4 * (n : Int) + 1 + 1, k + 4 * (n : Int) + 1 + 1 + 1)] := by simp [seqQ, List.range_succ]
theorem seqQ_length (k : Int) (n : Nat) : (seqQ k n).length = n := by simp [seqQ]
theorem seqQ_get {k : Int} {n i : Nat} (hi : i < n) : (seqQ k n)[i]? = some (k + 4 * (i : Int), k + 4 * (i : Int) + 1, k + 4 * (i : Int) + 1 + 1, k + 4 * (i : Int) + 1 + 1 + 1) := by simp [seqQ, hi]
theorem mixQm_step (k : Int) (zs : List Value) (n i : Nat) (hz : zs.length = n * 4) (hi : i < n) : ((((qvs (seqQ k i) ++ zs.drop (i * 4)).set (i * 4) (.int .i64 (k + 4 * (i : Int)))).set (i * 4 + 1) (.int .i64 (k + 4 * (i : Int) + 1))).set (i * 4 + 2) (.int .i64 (k + 4 * (i : Int) + 1 + 1))).set (i * 4 + 3) (.int .i64 (k + 4 * (i : Int) + 1 + 1 + 1)) = qvs (seqQ k (i + 1)) ++ zs.drop ((i + 1) * 4) := by
  rw [set4 _ _ _ _ (by rw [qvs_length, seqQ_length]) hz hi, seqQ_snoc, qvs_append, List.append_assoc]
  rfl
def eqQ (x y z t x' y' z' t' : Int) : Bool := x == x' && y == y' && z == z' && t == t'
theorem eqQ_iff {x y z t x' y' z' t' : Int} : eqQ x y z t x' y' z' t' = true ↔ x = x' ∧ y = y' ∧ z = z' ∧ t = t' := by simp [eqQ, and_assoc]
end Go.Proofs.Ytfpiejcfhdnjiaa
