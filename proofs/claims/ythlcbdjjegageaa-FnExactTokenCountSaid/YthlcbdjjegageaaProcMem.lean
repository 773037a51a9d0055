/- A process in memory: a slice of nodes is a slice of pairs (Rd .. 2 .. pvs); a slice of flows holds a slice in each element. No program. -/
import Derived.Test.YthlcbdjjegageaaWords
import Derived.Test.YthlcbdjjegageaaProcMath
namespace Go.Proofs.Ythlcbdjjegageaa
open Go.RowKit

/-- Where the condition of a flow lies. -/
abbrev Hd := Option Addr × Nat × Nat
def hdv (h : Hd) : Value := .slice h.1 h.2.1 h.2.2
def fvs : List Flw → List Hd → List Value
  | f :: fs, h :: hs => .int .i64 f.1 :: .int .i64 f.2.1 :: hdv h :: fvs fs hs
  | _, _ => []
theorem fvs_get : ∀ (fs : List Flw) (hs : List Hd) (k : Nat) (f : Flw) (h : Hd), fs[k]? = some f → hs[k]? = some h → (fvs fs hs)[k * 3]? = some (.int .i64 f.1) ∧ (fvs fs hs)[k * 3 + 1]? = some (.int .i64 f.2.1) ∧ (fvs fs hs)[k * 3 + 2]? = some (hdv h)
  | [], _, _, _, _, e, _ => by simp at e
  | _ :: _, [], _, _, _, _, e => by simp at e
  | f :: fs, h :: hs, 0, f', h', e, e' => by
    simp at e e'
    subst e; subst e'
    simp [fvs]
  | f :: fs, h :: hs, k + 1, f', h', e, e' => by
    have := fvs_get fs hs k f' h' (by simpa using e) (by simpa using e')
    rw [show (k + 1) * 3 = k * 3 + 3 by omega]
    simpa [fvs] using this
theorem fvs_length : ∀ (fs : List Flw) (hs : List Hd), hs.length = fs.length → (fvs fs hs).length = fs.length * 3
  | [], [], _ => rfl
  | f :: fs, h :: hs, e => by
    have := fvs_length fs hs (by simpa using e)
    simp [fvs, this]; omega
  | f :: fs, [], e => by simp at e
  | [], h :: hs, e => by simp at e
theorem fvs_snoc : ∀ (fs : List Flw) (hs : List Hd) (f : Flw) (h : Hd), hs.length = fs.length → fvs (fs ++ [f]) (hs ++ [h]) = fvs fs hs ++ [.int .i64 f.1, .int .i64 f.2.1, hdv h]
  | [], [], _, _, _ => rfl
  | f0 :: fs, h0 :: hs, f, h, e => by
    have := fvs_snoc fs hs f h (by simpa using e)
    simp [fvs, this]
  | f :: fs, [], _, _, e => by simp at e
  | [], h :: hs, _, _, e => by simp at e
theorem fvs_one : ∀ (fs : List Flw) (hs : List Hd), ∀ u ∈ fvs fs hs, u.oneCell' = true
  | [], _, u, h => by simp [fvs] at h
  | _ :: _, [], u, h => by simp [fvs] at h
  | f :: fs, h0 :: hs, u, h => by
    simp [fvs] at h
    rcases h with rfl | rfl | rfl | h
    · rfl
    · rfl
    · rfl
    · exact fvs_one fs hs u h
/-- The slice reads as these flows, with their conditions, all between the blocks lo and hi. -/
def Fls (w : World) (lo hi : Nat) (A : Option Addr) (n : Nat) (fs : List Flw) : Prop :=
  fs.length = n ∧ ∃ hs : List Hd, hs.length = n ∧ Rd w lo hi 3 A n (fvs fs hs) ∧ ∀ (k : Nat) (f : Flw) (h : Hd), fs[k]? = some f → hs[k]? = some h → Rd w lo hi 2 h.1 h.2.1 (pvs f.2.2) ∧ h.2.1 ≤ 1048576
theorem Fls.keep {w w' : World} {lo hi B : Nat} {A : Option Addr} {n : Nat} {fs : List Flw} (h : Fls w lo hi A n fs) (hb : Below B w w') (hB : hi ≤ B) : Fls w' lo hi A n fs := by
  obtain ⟨hl, hs, hl', hr, hc⟩ := h
  exact ⟨hl, hs, hl', hr.keep hb hB, fun k f x e e' => ⟨(hc k f x e e').1.keep hb hB, (hc k f x e e').2⟩⟩
theorem Fls.wide {w : World} {lo hi lo' hi' : Nat} {A : Option Addr} {n : Nat} {fs : List Flw} (h : Fls w lo hi A n fs) (h1 : lo' ≤ lo) (h2 : hi ≤ hi') : Fls w lo' hi' A n fs := by
  obtain ⟨hl, hs, hl', hr, hc⟩ := h
  exact ⟨hl, hs, hl', hr.wide h1 h2, fun k f x e e' => ⟨(hc k f x e e').1.wide h1 h2, (hc k f x e e').2⟩⟩
/-- The cells of flow k. -/
theorem Fls.at {w : World} {lo hi : Nat} {A : Option Addr} {n : Nat} {fs : List Flw} (h : Fls w lo hi A n fs) {k : Nat} (hk : k < n) :
    ∃ b off x y ps A' m c', A = some ⟨b, off, none⟩ ∧ b < hi ∧ lo ≤ b ∧ fs[k]? = some (x, y, ps) ∧ w.cell? ⟨b, off + k * 3, none⟩ = some (.int .i64 x) ∧ w.cell? ⟨b, off + k * 3 + 1, none⟩ = some (.int .i64 y) ∧
      w.cell? ⟨b, off + k * 3 + 2, none⟩ = some (.slice A' m c') ∧ Rd w lo hi 2 A' m (pvs ps) ∧ m ≤ 1048576 := by
  obtain ⟨hl, hs, hl', hr, hc⟩ := h
  obtain ⟨b, off, e, h1, h2, hcl⟩ := hr.2 (by omega)
  have e1 : fs[k]? = some fs[k] := List.getElem?_eq_getElem (by omega)
  have e2 : hs[k]? = some hs[k] := List.getElem?_eq_getElem (by omega)
  have g := fvs_get fs hs k _ _ e1 e2
  have hr2 := hc k _ _ e1 e2
  refine ⟨b, off, fs[k].1, fs[k].2.1, fs[k].2.2, hs[k].1, hs[k].2.1, hs[k].2.2, e, h2, h1, e1, hcl _ _ g.1, ?_, ?_, hr2.1, hr2.2⟩
  · have := hcl _ _ g.2.1; rwa [← Nat.add_assoc] at this
  · have := hcl _ _ g.2.2; rwa [← Nat.add_assoc] at this
end Go.Proofs.Ythlcbdjjegageaa
