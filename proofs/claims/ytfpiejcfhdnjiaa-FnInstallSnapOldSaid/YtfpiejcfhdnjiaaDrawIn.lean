/- The arguments of InstallSnap, drawn. (Written by gen/drawin.py.) -/
import Derived.Test.YtfpiejcfhdnjiaaDrawSn
import Derived.Test.YtfpiejcfhdnjiaaSnapT
import Derived.Deep.RegionHeld3
import Derived.Deep.CutRange
set_option linter.unusedSimpArgs false
set_option linter.unusedVariables false
namespace Go.Proofs.Ytfpiejcfhdnjiaa
open Go.RowKit

/-- Two drawn snapshots. -/
def DrawII (w : World) (e : Ending) (w' : World) : Prop :=
  ∃ (N T S : Int) (A1 : Option Addr) (m c1 : Nat) (ps : List En) (N2 T2 S2 : Int) (A2 : Option Addr) (m2 c2 : Nat) (qs : List En), e = .returned (.tuple #[.agg #[.int .i64 N, .int .i64 T, .int .i64 S, .slice A1 m c1], .agg #[.int .i64 N2, .int .i64 T2, .int .i64 S2, .slice A2 m2 c2]]) ∧ (Sm N ∧ Sm T ∧ Sm S) ∧ (Sm N2 ∧ Sm T2 ∧ Sm S2) ∧ (m ≤ 17 ∧ m ≤ c1) ∧ (m2 ≤ 17 ∧ m2 ≤ c2) ∧ Rd w' w.heap.size w'.heap.size 2 A1 m (pvs ps) ∧ Rd w' w.heap.size w'.heap.size 2 A2 m2 (pvs qs) ∧ Below w.heap.size w w'
/-- How things stand: the answer's two blocks, the reader. -/
structure Dz (w : World) (r : Nat) (A : Option Addr) (n c : Nat) (xs : List Int) (p : Int) (wx : World) : Prop where
  Q : Blk wx (w.heap.size) 32 #[.int .i64 0, .int .i64 0, .int .i64 0, .slice none 0 0]
  P : Blk wx (w.heap.size + 1) 32 #[.int .i64 0, .int .i64 0, .int .i64 0, .slice none 0 0]
  R : Rdr wx r A n c xs p
  B : Below w.heap.size w wx
  hr : w.heap.size + 1 < r
section
variable {w wx wy : World} {r : Nat} {A : Option Addr} {n c : Nat} {xs : List Int} {p p' : Int}
theorem Dz.but (h : Dz w r A n c xs p wx) (hG : But r wx wy) (hR : Rdr wy r A n c xs p') : Dz w r A n c xs p' wy :=
  ⟨h.Q.butS hG (by have := h.hr; omega), h.P.butS hG (by have := h.hr; omega), hR, but_mineK h.B hG (by have := h.hr; omega), h.hr⟩
theorem Dz.upp (h : Dz w r A n c xs p wx) (hb : Below wx.heap.size wx wy) : Dz w r A n c xs p wy :=
  ⟨h.Q.below hb h.Q.lt, h.P.below hb h.P.lt, h.R.below hb, up h.B hb, h.hr⟩
/-- A row behind the reader stays. -/
theorem rw_but {k lo : Nat} {B : Option Addr} {zs : List Value} (h : Rd wx (r + 1) wx.heap.size k B lo zs) (hG : But r wx wy) : Rd wy (r + 1) wy.heap.size k B lo zs :=
  (h.far hG (Nat.le_refl _) (fun g e => by injection e with e; subst e; exact .inl (by omega))).wide (Nat.le_refl _) hG.size
theorem rw_up {k lo : Nat} {B : Option Addr} {zs : List Value} (h : Rd wx (r + 1) wx.heap.size k B lo zs) (hb : Below wx.heap.size wx wy) : Rd wy (r + 1) wy.heap.size k B lo zs :=
  (h.keep hb (Nat.le_refl _)).wide (Nat.le_refl _) hb.size
/-- Two snapshots are laid into the answer's blocks. -/
theorem Dz.fin (h : Dz w r A n c xs p wx) (u0 u1 u2 u3 v0 v1 v2 v3 : Value) :
    (((((((((wx.setCell ⟨w.heap.size, 0, none⟩ (u0)).setCell ⟨w.heap.size, 1, none⟩ (u1)).setCell ⟨w.heap.size, 2, none⟩ (u2)).setCell ⟨w.heap.size, 3, none⟩ (u3)).setCell ⟨w.heap.size + 1, 0, none⟩ (v0)).setCell ⟨w.heap.size + 1, 1, none⟩ (v1)).setCell ⟨w.heap.size + 1, 2, none⟩ (v2)).setCell ⟨w.heap.size + 1, 3, none⟩ (v3)).cell? ⟨w.heap.size, 0, none⟩ = some u0 ∧ ((((((((wx.setCell ⟨w.heap.size, 0, none⟩ (u0)).setCell ⟨w.heap.size, 1, none⟩ (u1)).setCell ⟨w.heap.size, 2, none⟩ (u2)).setCell ⟨w.heap.size, 3, none⟩ (u3)).setCell ⟨w.heap.size + 1, 0, none⟩ (v0)).setCell ⟨w.heap.size + 1, 1, none⟩ (v1)).setCell ⟨w.heap.size + 1, 2, none⟩ (v2)).setCell ⟨w.heap.size + 1, 3, none⟩ (v3)).cell? ⟨w.heap.size, 1, none⟩ = some u1 ∧ ((((((((wx.setCell ⟨w.heap.size, 0, none⟩ (u0)).setCell ⟨w.heap.size, 1, none⟩ (u1)).setCell ⟨w.heap.size, 2, none⟩ (u2)).setCell ⟨w.heap.size, 3, none⟩ (u3)).setCell ⟨w.heap.size + 1, 0, none⟩ (v0)).setCell ⟨w.heap.size + 1, 1, none⟩ (v1)).setCell ⟨w.heap.size + 1, 2, none⟩ (v2)).setCell ⟨w.heap.size + 1, 3, none⟩ (v3)).cell? ⟨w.heap.size, 2, none⟩ = some u2 ∧ ((((((((wx.setCell ⟨w.heap.size, 0, none⟩ (u0)).setCell ⟨w.heap.size, 1, none⟩ (u1)).setCell ⟨w.heap.size, 2, none⟩ (u2)).setCell ⟨w.heap.size, 3, none⟩ (u3)).setCell ⟨w.heap.size + 1, 0, none⟩ (v0)).setCell ⟨w.heap.size + 1, 1, none⟩ (v1)).setCell ⟨w.heap.size + 1, 2, none⟩ (v2)).setCell ⟨w.heap.size + 1, 3, none⟩ (v3)).cell? ⟨w.heap.size, 3, none⟩ = some u3 ∧
     ((((((((wx.setCell ⟨w.heap.size, 0, none⟩ (u0)).setCell ⟨w.heap.size, 1, none⟩ (u1)).setCell ⟨w.heap.size, 2, none⟩ (u2)).setCell ⟨w.heap.size, 3, none⟩ (u3)).setCell ⟨w.heap.size + 1, 0, none⟩ (v0)).setCell ⟨w.heap.size + 1, 1, none⟩ (v1)).setCell ⟨w.heap.size + 1, 2, none⟩ (v2)).setCell ⟨w.heap.size + 1, 3, none⟩ (v3)).cell? ⟨w.heap.size + 1, 0, none⟩ = some v0 ∧ ((((((((wx.setCell ⟨w.heap.size, 0, none⟩ (u0)).setCell ⟨w.heap.size, 1, none⟩ (u1)).setCell ⟨w.heap.size, 2, none⟩ (u2)).setCell ⟨w.heap.size, 3, none⟩ (u3)).setCell ⟨w.heap.size + 1, 0, none⟩ (v0)).setCell ⟨w.heap.size + 1, 1, none⟩ (v1)).setCell ⟨w.heap.size + 1, 2, none⟩ (v2)).setCell ⟨w.heap.size + 1, 3, none⟩ (v3)).cell? ⟨w.heap.size + 1, 1, none⟩ = some v1 ∧ ((((((((wx.setCell ⟨w.heap.size, 0, none⟩ (u0)).setCell ⟨w.heap.size, 1, none⟩ (u1)).setCell ⟨w.heap.size, 2, none⟩ (u2)).setCell ⟨w.heap.size, 3, none⟩ (u3)).setCell ⟨w.heap.size + 1, 0, none⟩ (v0)).setCell ⟨w.heap.size + 1, 1, none⟩ (v1)).setCell ⟨w.heap.size + 1, 2, none⟩ (v2)).setCell ⟨w.heap.size + 1, 3, none⟩ (v3)).cell? ⟨w.heap.size + 1, 2, none⟩ = some v2 ∧ ((((((((wx.setCell ⟨w.heap.size, 0, none⟩ (u0)).setCell ⟨w.heap.size, 1, none⟩ (u1)).setCell ⟨w.heap.size, 2, none⟩ (u2)).setCell ⟨w.heap.size, 3, none⟩ (u3)).setCell ⟨w.heap.size + 1, 0, none⟩ (v0)).setCell ⟨w.heap.size + 1, 1, none⟩ (v1)).setCell ⟨w.heap.size + 1, 2, none⟩ (v2)).setCell ⟨w.heap.size + 1, 3, none⟩ (v3)).cell? ⟨w.heap.size + 1, 3, none⟩ = some v3) ∧
    (∀ (B : Option Addr) (k : Nat) (zs : List Value), Rd wx (r + 1) wx.heap.size 2 B k zs → Rd ((((((((wx.setCell ⟨w.heap.size, 0, none⟩ (u0)).setCell ⟨w.heap.size, 1, none⟩ (u1)).setCell ⟨w.heap.size, 2, none⟩ (u2)).setCell ⟨w.heap.size, 3, none⟩ (u3)).setCell ⟨w.heap.size + 1, 0, none⟩ (v0)).setCell ⟨w.heap.size + 1, 1, none⟩ (v1)).setCell ⟨w.heap.size + 1, 2, none⟩ (v2)).setCell ⟨w.heap.size + 1, 3, none⟩ (v3)) w.heap.size ((((((((wx.setCell ⟨w.heap.size, 0, none⟩ (u0)).setCell ⟨w.heap.size, 1, none⟩ (u1)).setCell ⟨w.heap.size, 2, none⟩ (u2)).setCell ⟨w.heap.size, 3, none⟩ (u3)).setCell ⟨w.heap.size + 1, 0, none⟩ (v0)).setCell ⟨w.heap.size + 1, 1, none⟩ (v1)).setCell ⟨w.heap.size + 1, 2, none⟩ (v2)).setCell ⟨w.heap.size + 1, 3, none⟩ (v3)).heap.size 2 B k zs) ∧
    Below w.heap.size w ((((((((wx.setCell ⟨w.heap.size, 0, none⟩ (u0)).setCell ⟨w.heap.size, 1, none⟩ (u1)).setCell ⟨w.heap.size, 2, none⟩ (u2)).setCell ⟨w.heap.size, 3, none⟩ (u3)).setCell ⟨w.heap.size + 1, 0, none⟩ (v0)).setCell ⟨w.heap.size + 1, 1, none⟩ (v1)).setCell ⟨w.heap.size + 1, 2, none⟩ (v2)).setCell ⟨w.heap.size + 1, 3, none⟩ (v3)) := by
  have hn : w.heap.size ≠ w.heap.size + 1 := by omega
  have hz := (((h.Q.put 0 u0).put 1 u1).put 2 u2).put 3 u3
  have hz := (((hz.far (p := ⟨w.heap.size + 1, 0, none⟩) hn v0).far (p := ⟨w.heap.size + 1, 1, none⟩) hn v1).far (p := ⟨w.heap.size + 1, 2, none⟩) hn v2).far (p := ⟨w.heap.size + 1, 3, none⟩) hn v3
  have hy := (((h.P.far (p := ⟨w.heap.size, 0, none⟩) hn.symm u0).far (p := ⟨w.heap.size, 1, none⟩) hn.symm u1).far (p := ⟨w.heap.size, 2, none⟩) hn.symm u2).far (p := ⟨w.heap.size, 3, none⟩) hn.symm u3
  have hy := (((hy.put 0 v0).put 1 v1).put 2 v2).put 3 v3
  refine ⟨⟨by simpa using hz.cell 0, by simpa using hz.cell 1, by simpa using hz.cell 2, by simpa using hz.cell 3, by simpa using hy.cell 0, by simpa using hy.cell 1, by simpa using hy.cell 2, by simpa using hy.cell 3⟩, fun B k zs hr => ?_, ?_⟩
  · have h0 : w.heap.size < r + 1 := by have := h.hr; omega
    have h1 : w.heap.size + 1 < r + 1 := by have := h.hr; omega
    exact ((((((((hr.setCell (p := ⟨w.heap.size, 0, none⟩) (.inl h0) u0).setCell (p := ⟨w.heap.size, 1, none⟩) (.inl h0) u1).setCell (p := ⟨w.heap.size, 2, none⟩) (.inl h0) u2).setCell (p := ⟨w.heap.size, 3, none⟩) (.inl h0) u3).setCell (p := ⟨w.heap.size + 1, 0, none⟩) (.inl h1) v0).setCell (p := ⟨w.heap.size + 1, 1, none⟩) (.inl h1) v1).setCell (p := ⟨w.heap.size + 1, 2, none⟩) (.inl h1) v2).setCell (p := ⟨w.heap.size + 1, 3, none⟩) (.inl h1) v3).wide (by omega) (by simp)
  · have h0 : w.heap.size ≤ w.heap.size := Nat.le_refl _
    have h1 : w.heap.size ≤ w.heap.size + 1 := by omega
    exact ((((((((h.B.setCell (p := ⟨w.heap.size, 0, none⟩) h0 u0).setCell (p := ⟨w.heap.size, 1, none⟩) h0 u1).setCell (p := ⟨w.heap.size, 2, none⟩) h0 u2).setCell (p := ⟨w.heap.size, 3, none⟩) h0 u3).setCell (p := ⟨w.heap.size + 1, 0, none⟩) h1 v0).setCell (p := ⟨w.heap.size + 1, 1, none⟩) h1 v1).setCell (p := ⟨w.heap.size + 1, 2, none⟩) h1 v2).setCell (p := ⟨w.heap.size + 1, 3, none⟩) h1 v3)
/-- Two snapshots are laid into the answer's blocks. -/
theorem Dz.finD (h : Dz w r A n c xs p wx) (u0 u1 u2 u3 v0 v1 v2 v3 : Value) :
    (((((((((wx.setCell ⟨w.heap.size, 0, none⟩ (u0)).setCell ⟨w.heap.size, 1, none⟩ (u1)).setCell ⟨w.heap.size, 2, none⟩ (u2)).setCell ⟨w.heap.size, 3, none⟩ (u3)).setCell ⟨w.heap.size + 1, 0, none⟩ (v0)).setCell ⟨w.heap.size + 1, 1, none⟩ (v1)).setCell ⟨w.heap.size + 1, 2, none⟩ (v2)).setCell ⟨w.heap.size + 1, 3, none⟩ (v3)).drew.cell? ⟨w.heap.size, 0, none⟩ = some u0 ∧ ((((((((wx.setCell ⟨w.heap.size, 0, none⟩ (u0)).setCell ⟨w.heap.size, 1, none⟩ (u1)).setCell ⟨w.heap.size, 2, none⟩ (u2)).setCell ⟨w.heap.size, 3, none⟩ (u3)).setCell ⟨w.heap.size + 1, 0, none⟩ (v0)).setCell ⟨w.heap.size + 1, 1, none⟩ (v1)).setCell ⟨w.heap.size + 1, 2, none⟩ (v2)).setCell ⟨w.heap.size + 1, 3, none⟩ (v3)).drew.cell? ⟨w.heap.size, 1, none⟩ = some u1 ∧ ((((((((wx.setCell ⟨w.heap.size, 0, none⟩ (u0)).setCell ⟨w.heap.size, 1, none⟩ (u1)).setCell ⟨w.heap.size, 2, none⟩ (u2)).setCell ⟨w.heap.size, 3, none⟩ (u3)).setCell ⟨w.heap.size + 1, 0, none⟩ (v0)).setCell ⟨w.heap.size + 1, 1, none⟩ (v1)).setCell ⟨w.heap.size + 1, 2, none⟩ (v2)).setCell ⟨w.heap.size + 1, 3, none⟩ (v3)).drew.cell? ⟨w.heap.size, 2, none⟩ = some u2 ∧ ((((((((wx.setCell ⟨w.heap.size, 0, none⟩ (u0)).setCell ⟨w.heap.size, 1, none⟩ (u1)).setCell ⟨w.heap.size, 2, none⟩ (u2)).setCell ⟨w.heap.size, 3, none⟩ (u3)).setCell ⟨w.heap.size + 1, 0, none⟩ (v0)).setCell ⟨w.heap.size + 1, 1, none⟩ (v1)).setCell ⟨w.heap.size + 1, 2, none⟩ (v2)).setCell ⟨w.heap.size + 1, 3, none⟩ (v3)).drew.cell? ⟨w.heap.size, 3, none⟩ = some u3 ∧
     ((((((((wx.setCell ⟨w.heap.size, 0, none⟩ (u0)).setCell ⟨w.heap.size, 1, none⟩ (u1)).setCell ⟨w.heap.size, 2, none⟩ (u2)).setCell ⟨w.heap.size, 3, none⟩ (u3)).setCell ⟨w.heap.size + 1, 0, none⟩ (v0)).setCell ⟨w.heap.size + 1, 1, none⟩ (v1)).setCell ⟨w.heap.size + 1, 2, none⟩ (v2)).setCell ⟨w.heap.size + 1, 3, none⟩ (v3)).drew.cell? ⟨w.heap.size + 1, 0, none⟩ = some v0 ∧ ((((((((wx.setCell ⟨w.heap.size, 0, none⟩ (u0)).setCell ⟨w.heap.size, 1, none⟩ (u1)).setCell ⟨w.heap.size, 2, none⟩ (u2)).setCell ⟨w.heap.size, 3, none⟩ (u3)).setCell ⟨w.heap.size + 1, 0, none⟩ (v0)).setCell ⟨w.heap.size + 1, 1, none⟩ (v1)).setCell ⟨w.heap.size + 1, 2, none⟩ (v2)).setCell ⟨w.heap.size + 1, 3, none⟩ (v3)).drew.cell? ⟨w.heap.size + 1, 1, none⟩ = some v1 ∧ ((((((((wx.setCell ⟨w.heap.size, 0, none⟩ (u0)).setCell ⟨w.heap.size, 1, none⟩ (u1)).setCell ⟨w.heap.size, 2, none⟩ (u2)).setCell ⟨w.heap.size, 3, none⟩ (u3)).setCell ⟨w.heap.size + 1, 0, none⟩ (v0)).setCell ⟨w.heap.size + 1, 1, none⟩ (v1)).setCell ⟨w.heap.size + 1, 2, none⟩ (v2)).setCell ⟨w.heap.size + 1, 3, none⟩ (v3)).drew.cell? ⟨w.heap.size + 1, 2, none⟩ = some v2 ∧ ((((((((wx.setCell ⟨w.heap.size, 0, none⟩ (u0)).setCell ⟨w.heap.size, 1, none⟩ (u1)).setCell ⟨w.heap.size, 2, none⟩ (u2)).setCell ⟨w.heap.size, 3, none⟩ (u3)).setCell ⟨w.heap.size + 1, 0, none⟩ (v0)).setCell ⟨w.heap.size + 1, 1, none⟩ (v1)).setCell ⟨w.heap.size + 1, 2, none⟩ (v2)).setCell ⟨w.heap.size + 1, 3, none⟩ (v3)).drew.cell? ⟨w.heap.size + 1, 3, none⟩ = some v3) ∧
    (∀ (B : Option Addr) (k : Nat) (zs : List Value), Rd wx (r + 1) wx.heap.size 2 B k zs → Rd ((((((((wx.setCell ⟨w.heap.size, 0, none⟩ (u0)).setCell ⟨w.heap.size, 1, none⟩ (u1)).setCell ⟨w.heap.size, 2, none⟩ (u2)).setCell ⟨w.heap.size, 3, none⟩ (u3)).setCell ⟨w.heap.size + 1, 0, none⟩ (v0)).setCell ⟨w.heap.size + 1, 1, none⟩ (v1)).setCell ⟨w.heap.size + 1, 2, none⟩ (v2)).setCell ⟨w.heap.size + 1, 3, none⟩ (v3)).drew w.heap.size ((((((((wx.setCell ⟨w.heap.size, 0, none⟩ (u0)).setCell ⟨w.heap.size, 1, none⟩ (u1)).setCell ⟨w.heap.size, 2, none⟩ (u2)).setCell ⟨w.heap.size, 3, none⟩ (u3)).setCell ⟨w.heap.size + 1, 0, none⟩ (v0)).setCell ⟨w.heap.size + 1, 1, none⟩ (v1)).setCell ⟨w.heap.size + 1, 2, none⟩ (v2)).setCell ⟨w.heap.size + 1, 3, none⟩ (v3)).drew.heap.size 2 B k zs) ∧
    Below w.heap.size w ((((((((wx.setCell ⟨w.heap.size, 0, none⟩ (u0)).setCell ⟨w.heap.size, 1, none⟩ (u1)).setCell ⟨w.heap.size, 2, none⟩ (u2)).setCell ⟨w.heap.size, 3, none⟩ (u3)).setCell ⟨w.heap.size + 1, 0, none⟩ (v0)).setCell ⟨w.heap.size + 1, 1, none⟩ (v1)).setCell ⟨w.heap.size + 1, 2, none⟩ (v2)).setCell ⟨w.heap.size + 1, 3, none⟩ (v3)).drew := by
  obtain ⟨a, b, d⟩ := h.fin u0 u1 u2 u3 v0 v1 v2 v3
  generalize ((((((((wx.setCell ⟨w.heap.size, 0, none⟩ (u0)).setCell ⟨w.heap.size, 1, none⟩ (u1)).setCell ⟨w.heap.size, 2, none⟩ (u2)).setCell ⟨w.heap.size, 3, none⟩ (u3)).setCell ⟨w.heap.size + 1, 0, none⟩ (v0)).setCell ⟨w.heap.size + 1, 1, none⟩ (v1)).setCell ⟨w.heap.size + 1, 2, none⟩ (v2)).setCell ⟨w.heap.size + 1, 3, none⟩ (v3)) = W at a b d ⊢
  exact ⟨a, fun B k zs hr => b B k zs hr, up_drew d⟩
end
/-- CompactLog has answered: its snapshot stands in block g2, the first in block g. -/
structure Cz (w : World) (r : Nat) (A : Option Addr) (n c : Nat) (xs : List Int) (g g2 : Nat) (N T S : Int) (A1 : Option Addr) (m c1 : Nat) (ps : List En) (N2 T2 S2 : Int) (A2 : Option Addr) (m2 c2 : Nat) (qs : List En) (b : Bool) (p : Int) (wx : World) : Prop where
  D : Dz w r A n c xs p wx
  E : Blk wx g 32 #[.int .i64 N, .int .i64 T, .int .i64 S, .slice A1 m c1]
  F : Blk wx g2 32 #[.int .i64 N2, .int .i64 T2, .int .i64 S2, .slice A2 m2 c2]
  h1 : Rd wx (r + 1) wx.heap.size 2 A1 m (pvs ps)
  h2 : Rd wx (r + 1) wx.heap.size 2 A2 m2 (pvs qs)
  g1 : r < g
  g2' : r < g2
  sm : b = true → Sm N2 ∧ Sm T2 ∧ Sm S2
  le : m2 ≤ 17 ∧ m2 ≤ c2
  pp : p ≤ 500
theorem Cz.late {w wx : World} {r : Nat} {A : Option Addr} {n c : Nat} {xs : List Int} {g : Nat} {N T S : Int} {A1 : Option Addr} {m c1 : Nat} {ps : List En} {N2 T2 S2 : Int} {A2 : Option Addr} {m2 c2 : Nat} {qs : List En} {b : Bool} {p : Int}
    (D : Dz w r A n c xs p wx) (E : Blk wx g 32 #[.int .i64 N, .int .i64 T, .int .i64 S, .slice A1 m c1]) (h1 : Rd wx (r + 1) wx.heap.size 2 A1 m (pvs ps)) (h2 : Rd wx (r + 1) wx.heap.size 2 A2 m2 (pvs qs)) (g1 : r < g) (sm : b = true → Sm N2 ∧ Sm T2 ∧ Sm S2) (le : m2 ≤ 17 ∧ m2 ≤ c2) (pp : p ≤ 500) :
    Cz w r A n c xs g wx.heap.size N T S A1 m c1 ps N2 T2 S2 A2 m2 c2 qs b p (wx.alloc (.cells #[.int .i64 N2, .int .i64 T2, .int .i64 S2, .slice A2 m2 c2] 32)) :=
  ⟨D.upp (up_alloc (Below.refl _ wx) _), E.alloc _, Blk.new wx _ _, rw_up h1 (up_alloc (Below.refl _ wx) _), rw_up h2 (up_alloc (Below.refl _ wx) _), g1, D.R.lt, sm, le, pp⟩
theorem Cz.early {w wx : World} {r : Nat} {A : Option Addr} {n c : Nat} {xs : List Int} {g g2 : Nat} {N T S : Int} {A1 : Option Addr} {m c1 : Nat} {ps : List En} {N2 T2 S2 : Int} {A2 : Option Addr} {m2 c2 : Nat} {qs : List En} {b : Bool} {p : Int}
    (D : Dz w r A n c xs p wx) (E : Blk wx g 32 #[.int .i64 N, .int .i64 T, .int .i64 S, .slice A1 m c1]) (F : Blk wx g2 32 #[.int .i64 0, .int .i64 0, .int .i64 0, .slice none 0 0]) (hne : g ≠ g2) (h1 : Rd wx (r + 1) g2 2 A1 m (pvs ps)) (h2 : Rd wx (g2 + 1) wx.heap.size 2 A2 m2 (pvs qs)) (g1 : r < g) (gr : r < g2) (sm : b = true → Sm N2 ∧ Sm T2 ∧ Sm S2) (le : m2 ≤ 17 ∧ m2 ≤ c2) (pp : p ≤ 500) :
    Cz w r A n c xs g g2 N T S A1 m c1 ps N2 T2 S2 A2 m2 c2 qs b p ((((wx.setCell ⟨g2, 0, none⟩ (.int .i64 N2)).setCell ⟨g2, 1, none⟩ (.int .i64 T2)).setCell ⟨g2, 2, none⟩ (.int .i64 S2)).setCell ⟨g2, 3, none⟩ (.slice A2 m2 c2)) :=
  have hw : w.heap.size ≤ g2 := by have := D.hr; omega
  ⟨⟨((((D.Q.far (p := ⟨g2, 0, none⟩) (by have := D.hr; show w.heap.size ≠ g2; omega) (.int .i64 N2)).far (p := ⟨g2, 1, none⟩) (by have := D.hr; show w.heap.size ≠ g2; omega) (.int .i64 T2)).far (p := ⟨g2, 2, none⟩) (by have := D.hr; show w.heap.size ≠ g2; omega) (.int .i64 S2)).far (p := ⟨g2, 3, none⟩) (by have := D.hr; show w.heap.size ≠ g2; omega) (.slice A2 m2 c2)), ((((D.P.far (p := ⟨g2, 0, none⟩) (by have := D.hr; show w.heap.size + 1 ≠ g2; omega) (.int .i64 N2)).far (p := ⟨g2, 1, none⟩) (by have := D.hr; show w.heap.size + 1 ≠ g2; omega) (.int .i64 T2)).far (p := ⟨g2, 2, none⟩) (by have := D.hr; show w.heap.size + 1 ≠ g2; omega) (.int .i64 S2)).far (p := ⟨g2, 3, none⟩) (by have := D.hr; show w.heap.size + 1 ≠ g2; omega) (.slice A2 m2 c2)), (rdr_setS (q := ⟨g2, 3, none⟩) (rdr_setS (q := ⟨g2, 2, none⟩) (rdr_setS (q := ⟨g2, 1, none⟩) (rdr_setS (q := ⟨g2, 0, none⟩) D.R gr (.int .i64 N2)) gr (.int .i64 T2)) gr (.int .i64 S2)) gr (.slice A2 m2 c2)), ((((D.B.setCell (p := ⟨g2, 0, none⟩) hw (.int .i64 N2)).setCell (p := ⟨g2, 1, none⟩) hw (.int .i64 T2)).setCell (p := ⟨g2, 2, none⟩) hw (.int .i64 S2)).setCell (p := ⟨g2, 3, none⟩) hw (.slice A2 m2 c2)), D.hr⟩, ((((E.far (p := ⟨g2, 0, none⟩) hne (.int .i64 N2)).far (p := ⟨g2, 1, none⟩) hne (.int .i64 T2)).far (p := ⟨g2, 2, none⟩) hne (.int .i64 S2)).far (p := ⟨g2, 3, none⟩) hne (.slice A2 m2 c2)), by simpa using (((F.put 0 (.int .i64 N2)).put 1 (.int .i64 T2)).put 2 (.int .i64 S2)).put 3 (.slice A2 m2 c2),
    ((((h1.setCell (p := ⟨g2, 0, none⟩) (.inr (Nat.le_refl _)) (.int .i64 N2)).setCell (p := ⟨g2, 1, none⟩) (.inr (Nat.le_refl _)) (.int .i64 T2)).setCell (p := ⟨g2, 2, none⟩) (.inr (Nat.le_refl _)) (.int .i64 S2)).setCell (p := ⟨g2, 3, none⟩) (.inr (Nat.le_refl _)) (.slice A2 m2 c2)).wide (Nat.le_refl _) (by simp; have := F.lt; omega), ((((h2.setCell (p := ⟨g2, 0, none⟩) (.inl (Nat.lt_succ_self _)) (.int .i64 N2)).setCell (p := ⟨g2, 1, none⟩) (.inl (Nat.lt_succ_self _)) (.int .i64 T2)).setCell (p := ⟨g2, 2, none⟩) (.inl (Nat.lt_succ_self _)) (.int .i64 S2)).setCell (p := ⟨g2, 3, none⟩) (.inl (Nat.lt_succ_self _)) (.slice A2 m2 c2)).wide (by omega) (by simp), g1, gr, sm, le, pp⟩
theorem comp_sm {N T S : Int} {R : List En} {z N2 T2 S2 : Int} {R2 : List En} {b : Bool} (h : compOf N T S R z = ((N2, T2, S2, R2), b)) : b = true → Sm N2 ∧ Sm T2 ∧ Sm S2 := by
  intro hb
  subst hb
  cases hv : vSnap N T S R with
  | false => rw [compOf_no (.inl hv)] at h; injection h with _ h; cases h
  | true =>
    cases hi : inR z 0 R.length with
    | false => rw [compOf_no (.inr hi)] at h; injection h with _ h; cases h
    | true =>
      rw [inR_iff] at hi
      obtain ⟨k, rfl⟩ : ∃ k : Nat, z = (k : Int) := ⟨z.toNat, by omega⟩
      have hk : k ≤ R.length := by omega
      have hw := vSnap_with hv hk
      rw [compOf_eq hv hk] at h
      by_cases h9 : N + (k : Int) ≤ 999
      · rw [if_pos h9] at h
        rw [decide_eq_true h9] at hw
        injection h with h _
        injection h with e1 h
        injection h with e2 h
        injection h with e3 e4
        subst e1; subst e2; subst e3; subst e4
        obtain ⟨h1, h2, h3, _⟩ := vSnap_iff.1 hw
        exact ⟨⟨by omega, by omega⟩, ⟨by omega, by omega⟩, ⟨by omega, by omega⟩⟩
      · rw [if_neg h9] at h; injection h with _ h; cases h
set_option maxRecDepth 100000 in
set_option maxHeartbeats 6400000 in
theorem drawInstallSnap_any (n c : Nat) (A : Option Addr) (xs : List Int) (w : World) (hr : Rd w 0 w.heap.size 1 A n (bvs xs)) (hby : Bytes xs) (hn : n ≤ 1048576) (hc : n ≤ c) (hc2 : c ≤ 9223372036854775807) :
    Calls Try.prog 14 #[.slice A n c] w (DrawII w) := by
  have hb0 := up_alloc (up_alloc (Below.refl _ w) (.cells #[.int .i64 0, .int .i64 0, .int .i64 0, .slice none 0 0] 32)) (.cells #[.int .i64 0, .int .i64 0, .int .i64 0, .slice none 0 0] 32)
  have HB0 := Lib.hid hb0
  have HQ0 := Lib.hid ((Blk.new w 32 #[.int .i64 0, .int .i64 0, .int .i64 0, .slice none 0 0]).alloc (.cells #[.int .i64 0, .int .i64 0, .int .i64 0, .slice none 0 0] 32))
  have HP0 := Lib.hid (show Blk ((w.alloc (.cells #[.int .i64 0, .int .i64 0, .int .i64 0, .slice none 0 0] 32)).alloc (.cells #[.int .i64 0, .int .i64 0, .int .i64 0, .slice none 0 0] 32)) (w.heap.size + 1) 32 #[.int .i64 0, .int .i64 0, .int .i64 0, .slice none 0 0] from Blk.new2 (by simp))
  have HR0 := Lib.hid ((hr.keep hb0 (Nat.le_refl _)).wide (Nat.le_refl _) hb0.size)
  have hz0 : ((w.alloc (.cells #[.int .i64 0, .int .i64 0, .int .i64 0, .slice none 0 0] 32)).alloc (.cells #[.int .i64 0, .int .i64 0, .int .i64 0, .slice none 0 0] 32)).heap.size = w.heap.size + 1 + 1 := by simp
  clear hr hb0
  go_enter Try.func14, Try.ntmps14
  go_wp2_with (fail)
  generalize (w.alloc (.cells #[.int .i64 0, .int .i64 0, .int .i64 0, .slice none 0 0] 32)).alloc (.cells #[.int .i64 0, .int .i64 0, .int .i64 0, .slice none 0 0] 32) = w0 at *
  (with_reducible refine (newReader_any n c A xs _ HR0.out hby hn hc hc2).mono ?_)
  rintro e w1 ⟨r, n', c', xs', rfl, hrw, hR1, hb1⟩
  have hrl := hR1.lt
  have HD1 := Lib.hid (show Dz w r A n' c' xs' 0 w1 from ⟨HQ0.out.below hb1 (by omega), HP0.out.below hb1 (by omega), hR1, up HB0.out hb1, by omega⟩)
  have hz1 := hb1.size
  clear hR1 hb1 HQ0 HP0 HB0 HR0
  go_wp2_with (fail)
  (with_reducible refine (anySnap_any r A n' c' xs' 0 w1 HD1.out.R (by omega)).mono ?_)
  rintro e w2 ⟨N, T, S, A1, m, c1, ps, p2, rfl, hN, hT, hS, hm, hk1, hcx, ho2, hR2, hp2, hG2⟩
  have HD3 := Lib.hid ((HD1.out.but hG2 hR2).upp (up_alloc (Below.refl _ w2) (.cells #[.int .i64 N, .int .i64 T, .int .i64 S, .slice A1 m c1] 32)))
  have HE3 := Lib.hid (Blk.new w2 32 #[.int .i64 N, .int .i64 T, .int .i64 S, .slice A1 m c1])
  have HO3 := Lib.hid (rw_up ((Rd.of_own ho2).wide (show r + 1 ≤ w1.heap.size from hrl) (Nat.le_refl _)) (up_alloc (Below.refl _ w2) (.cells #[.int .i64 N, .int .i64 T, .int .i64 S, .slice A1 m c1] 32)))
  have hz2 := hG2.size
  have hz3 : (w2.alloc (.cells #[.int .i64 N, .int .i64 T, .int .i64 S, .slice A1 m c1] 32)).heap.size = w2.heap.size + 1 := by simp
  clear ho2 hR2 hG2 HD1
  go_wp2_with (fail)
  generalize w2.alloc (.cells #[.int .i64 N, .int .i64 T, .int .i64 S, .slice A1 m c1] 32) = w3 at *
  obtain ⟨g, hgg⟩ : ∃ g, g = w2.heap.size := ⟨_, rfl⟩
  rw [← hgg] at HE3 ⊢
  have hgr : r < g := by omega
  have hgw : w.heap.size + 1 < g := by have := HD3.out.hr; omega
  have hne0 : g ≠ w.heap.size := by omega
  have hne1 : g ≠ w.heap.size + 1 := by omega
  clear hgg hz3 hz2 hz1 hz0
  (with_reducible refine (pick_any r A n' c' xs' p2 3 w3 HD3.out.R (by omega) (by omega)).mono ?_)
  rintro e w4 ⟨y, rfl, y0, y1, _, hR4, hG4⟩
  have HD4 := Lib.hid (HD3.out.but hG4 hR4)
  have HE4 := Lib.hid (HE3.out.butS hG4 (by omega))
  have HO4 := Lib.hid (rw_but HO3.out hG4)
  have hz4 := hG4.size
  clear hR4 hG4 HD3 HE3 HO3 y1
  have hNTS := And.intro hN (And.intro hT hS)
  have hmm := And.intro hm hk1
  clear hN hT hS hcx
  by_cases hy : y = 0
  · have dy : (y == 0) = true := by simp [hy]
    clear hy y0
    have HS := Lib.hid (show ∀ wx, Blk wx g 32 #[.int .i64 N, .int .i64 T, .int .i64 S, .slice A1 m c1] → wx.cell? ⟨g, 0, none⟩ = some (.int .i64 N) ∧ wx.cell? ⟨g, 1, none⟩ = some (.int .i64 T) ∧ wx.cell? ⟨g, 2, none⟩ = some (.int .i64 S) ∧ wx.cell? ⟨g, 3, none⟩ = some (.slice A1 m c1) from fun wx hB => ⟨hB.cell 0, hB.cell 1, hB.cell 2, hB.cell 3⟩)
    have HN := Lib.hid (show ∀ wx, Below w4.heap.size w4 wx → Calls Try.prog 48 #[.pointer (some ⟨r, 0, none⟩)] wx (SnrPost 130 r A n' c' xs' (p2 + 1) wx) from fun wx hb => anySnap_any r A n' c' xs' (p2 + 1) wx (HD4.out.R.below hb) (by omega))
    obtain ⟨e0, e1, e2, e3⟩ := HS.out _ HE4.out
    go_wp2_with (fail)
    go_region_held3 (fun wx => wx.cell? ⟨g, 0, none⟩ = some (.int .i64 N) ∧ wx.cell? ⟨g, 1, none⟩ = some (.int .i64 T) ∧ wx.cell? ⟨g, 2, none⟩ = some (.int .i64 S) ∧ wx.cell? ⟨g, 3, none⟩ = some (.slice A1 m c1))
      (first | with_reducible exact HS.out _ HE4.out | with_reducible exact HS.out _ HE4.out.drew | with_reducible exact HS.out _ HE5.out | with_reducible exact HKS4.out | with_reducible exact HKS8.out)
      ((first
        | (go_at_call 48; (with_reducible refine (HN.out _ (up_drew (Below.refl _ w4))).mono ?_); rintro e w5 ⟨N2, T2, S2, A2, m2, c2, qs, p5, rfl, hN2, hT2, hS2, hm2, hk2, hcx2, ho5, hR5, hp5, hG5'⟩; have hG5 := but_trans (but_below (but_refl r _) (up_drew (Below.refl _ w4))) hG5'; have HD5 := Lib.hid (HD4.out.but hG5 hR5); have HE5 := Lib.hid (HE4.out.butS hG5 (by omega)); have HO5 := Lib.hid (rw_but HO4.out hG5); have HK5 := Lib.hid ((Rd.of_own ho5).wide (show r + 1 ≤ _ from Nat.le_trans (show r + 1 ≤ w4.heap.size from HD4.out.R.lt) (up_drew (Below.refl _ w4)).size) (Nat.le_refl _)); have q0 := HD5.out.Q.cell 0; have q1 := HD5.out.Q.cell 1; have q2 := HD5.out.Q.cell 2; have q3 := HD5.out.Q.cell 3; have f0 := HD5.out.Q.soft 0; have f1 := HD5.out.Q.soft 1; have f2 := HD5.out.Q.soft 2; have f3 := HD5.out.Q.soft 3; have j0 := HD5.out.P.cell 0; have j1 := HD5.out.P.cell 1; have j2 := HD5.out.P.cell 2; have j3 := HD5.out.P.cell 3; have l0 := HD5.out.P.soft 0; have l1 := HD5.out.P.soft 1; have l2 := HD5.out.P.soft 2; have l3 := HD5.out.P.soft 3; have hfar := ((((HE5.out.far (p := ⟨w.heap.size, 0, none⟩) hne0 (.int .i64 N)).far (p := ⟨w.heap.size, 1, none⟩) hne0 (.int .i64 T)).far (p := ⟨w.heap.size, 2, none⟩) hne0 (.int .i64 S)).far (p := ⟨w.heap.size, 3, none⟩) hne0 (.slice A1 m c1)); have HKS4 := Lib.hid (show ((((w5.setCell ⟨w.heap.size, 0, none⟩ (.int .i64 N)).setCell ⟨w.heap.size, 1, none⟩ (.int .i64 T)).setCell ⟨w.heap.size, 2, none⟩ (.int .i64 S)).setCell ⟨w.heap.size, 3, none⟩ (.slice A1 m c1)).cell? ⟨g, 0, none⟩ = some (.int .i64 N) ∧ ((((w5.setCell ⟨w.heap.size, 0, none⟩ (.int .i64 N)).setCell ⟨w.heap.size, 1, none⟩ (.int .i64 T)).setCell ⟨w.heap.size, 2, none⟩ (.int .i64 S)).setCell ⟨w.heap.size, 3, none⟩ (.slice A1 m c1)).cell? ⟨g, 1, none⟩ = some (.int .i64 T) ∧ ((((w5.setCell ⟨w.heap.size, 0, none⟩ (.int .i64 N)).setCell ⟨w.heap.size, 1, none⟩ (.int .i64 T)).setCell ⟨w.heap.size, 2, none⟩ (.int .i64 S)).setCell ⟨w.heap.size, 3, none⟩ (.slice A1 m c1)).cell? ⟨g, 2, none⟩ = some (.int .i64 S) ∧ ((((w5.setCell ⟨w.heap.size, 0, none⟩ (.int .i64 N)).setCell ⟨w.heap.size, 1, none⟩ (.int .i64 T)).setCell ⟨w.heap.size, 2, none⟩ (.int .i64 S)).setCell ⟨w.heap.size, 3, none⟩ (.slice A1 m c1)).cell? ⟨g, 3, none⟩ = some (.slice A1 m c1) from ⟨hfar.cell 0, hfar.cell 1, hfar.cell 2, hfar.cell 3⟩); clear hfar; have hfar := ((((((((HE5.out.far (p := ⟨w.heap.size, 0, none⟩) hne0 (.int .i64 N)).far (p := ⟨w.heap.size, 1, none⟩) hne0 (.int .i64 T)).far (p := ⟨w.heap.size, 2, none⟩) hne0 (.int .i64 S)).far (p := ⟨w.heap.size, 3, none⟩) hne0 (.slice A1 m c1)).far (p := ⟨w.heap.size + 1, 0, none⟩) hne1 (.int .i64 N2)).far (p := ⟨w.heap.size + 1, 1, none⟩) hne1 (.int .i64 T2)).far (p := ⟨w.heap.size + 1, 2, none⟩) hne1 (.int .i64 S2)).far (p := ⟨w.heap.size + 1, 3, none⟩) hne1 (.slice A2 m2 c2)); have HKS8 := Lib.hid (show ((((((((w5.setCell ⟨w.heap.size, 0, none⟩ (.int .i64 N)).setCell ⟨w.heap.size, 1, none⟩ (.int .i64 T)).setCell ⟨w.heap.size, 2, none⟩ (.int .i64 S)).setCell ⟨w.heap.size, 3, none⟩ (.slice A1 m c1)).setCell ⟨w.heap.size + 1, 0, none⟩ (.int .i64 N2)).setCell ⟨w.heap.size + 1, 1, none⟩ (.int .i64 T2)).setCell ⟨w.heap.size + 1, 2, none⟩ (.int .i64 S2)).setCell ⟨w.heap.size + 1, 3, none⟩ (.slice A2 m2 c2)).cell? ⟨g, 0, none⟩ = some (.int .i64 N) ∧ ((((((((w5.setCell ⟨w.heap.size, 0, none⟩ (.int .i64 N)).setCell ⟨w.heap.size, 1, none⟩ (.int .i64 T)).setCell ⟨w.heap.size, 2, none⟩ (.int .i64 S)).setCell ⟨w.heap.size, 3, none⟩ (.slice A1 m c1)).setCell ⟨w.heap.size + 1, 0, none⟩ (.int .i64 N2)).setCell ⟨w.heap.size + 1, 1, none⟩ (.int .i64 T2)).setCell ⟨w.heap.size + 1, 2, none⟩ (.int .i64 S2)).setCell ⟨w.heap.size + 1, 3, none⟩ (.slice A2 m2 c2)).cell? ⟨g, 1, none⟩ = some (.int .i64 T) ∧ ((((((((w5.setCell ⟨w.heap.size, 0, none⟩ (.int .i64 N)).setCell ⟨w.heap.size, 1, none⟩ (.int .i64 T)).setCell ⟨w.heap.size, 2, none⟩ (.int .i64 S)).setCell ⟨w.heap.size, 3, none⟩ (.slice A1 m c1)).setCell ⟨w.heap.size + 1, 0, none⟩ (.int .i64 N2)).setCell ⟨w.heap.size + 1, 1, none⟩ (.int .i64 T2)).setCell ⟨w.heap.size + 1, 2, none⟩ (.int .i64 S2)).setCell ⟨w.heap.size + 1, 3, none⟩ (.slice A2 m2 c2)).cell? ⟨g, 2, none⟩ = some (.int .i64 S) ∧ ((((((((w5.setCell ⟨w.heap.size, 0, none⟩ (.int .i64 N)).setCell ⟨w.heap.size, 1, none⟩ (.int .i64 T)).setCell ⟨w.heap.size, 2, none⟩ (.int .i64 S)).setCell ⟨w.heap.size, 3, none⟩ (.slice A1 m c1)).setCell ⟨w.heap.size + 1, 0, none⟩ (.int .i64 N2)).setCell ⟨w.heap.size + 1, 1, none⟩ (.int .i64 T2)).setCell ⟨w.heap.size + 1, 2, none⟩ (.int .i64 S2)).setCell ⟨w.heap.size + 1, 3, none⟩ (.slice A2 m2 c2)).cell? ⟨g, 3, none⟩ = some (.slice A1 m c1) from ⟨hfar.cell 0, hfar.cell 1, hfar.cell 2, hfar.cell 3⟩); clear hfar; clear ho5 hR5 hG5 hG5')
        | fail "no arm"))
    all_goals
      clear HN HS e0 e1 e2 e3
      obtain ⟨⟨z0, z1, z2, z3, z4, z5, z6, z7⟩, hrows, hbz⟩ := HD5.out.fin (.int .i64 N) (.int .i64 T) (.int .i64 S) (.slice A1 m c1) (.int .i64 N2) (.int .i64 T2) (.int .i64 S2) (.slice A2 m2 c2)
      have HRA := Lib.hid (hrows _ _ _ HO5.out)
      have HRB := Lib.hid (hrows _ _ _ HK5.out)
      have HBZ := Lib.hid hbz
      clear hrows hbz
      go_wp2
      exact bodyPost_ret (v := .tuple #[.agg #[.int .i64 N, .int .i64 T, .int .i64 S, .slice A1 m c1], .agg #[.int .i64 N2, .int .i64 T2, .int .i64 S2, .slice A2 m2 c2]]) (by simp [results, Try.results14, go_sem, z0, z1, z2, z3, z4, z5, z6, z7]) rfl ⟨N, T, S, A1, m, c1, ps, N2, T2, S2, A2, m2, c2, qs, rfl, hNTS, ⟨hN2, hT2, hS2⟩, hmm, ⟨hm2, hk2⟩, HRA.out, HRB.out, HBZ.out⟩
  have dy : (y == 0) = false := by simpa using hy
  clear hy y0
  go_wp2_with (fail)
  have hzw : IntKind.i64.wrap ((m : Int) + 1) = (m : Int) + 1 := IntWalk.i64_in _ (by omega)
  have HS := Lib.hid (show ∀ wx, Blk wx g 32 #[.int .i64 N, .int .i64 T, .int .i64 S, .slice A1 m c1] → wx.cell? ⟨g, 0, none⟩ = some (.int .i64 N) ∧ wx.cell? ⟨g, 1, none⟩ = some (.int .i64 T) ∧ wx.cell? ⟨g, 2, none⟩ = some (.int .i64 S) ∧ wx.cell? ⟨g, 3, none⟩ = some (.slice A1 m c1) from fun wx hB => ⟨hB.cell 0, hB.cell 1, hB.cell 2, hB.cell 3⟩)
  have HN := Lib.hid (show ∀ wx, Below w4.heap.size w4 wx → Calls Try.prog 35 #[.pointer (some ⟨r, 0, none⟩), .int .i64 ((m : Int) + 1)] wx fun e w' => ∃ y : Int, e = .returned (.int .i64 y) ∧ 0 ≤ y ∧ y ≤ 20 ∧ Rdr w' r A n' c' xs' (p2 + 1 + 1) ∧ But r w4 w' ∧ But r wx w' from fun wx hb => (pick_any r A n' c' xs' (p2 + 1) ((m : Int) + 1) wx (HD4.out.R.below hb) (by omega) (by omega)).mono (by
    rintro e w' ⟨y, rfl, y0, y1, _, hR, hG⟩
    exact ⟨y, rfl, y0, by have := y1 (by omega); omega, hR, but_trans (but_below (but_refl _ _) hb) hG, hG⟩))
  have HM := Lib.hid (show ∀ wx (z : Int), 0 ≤ z → z ≤ 20 → But r w4 wx → Calls Try.prog 49 #[.agg #[.int .i64 N, .int .i64 T, .int .i64 S, .slice A1 m c1], .int .i64 z] wx fun e w' => ∃ N2 T2 S2 A2 m2 c2 qs b, e = .returned (.tuple #[.agg #[.int .i64 N2, .int .i64 T2, .int .i64 S2, .slice A2 m2 c2], .bool b]) ∧ (b = true → Sm N2 ∧ Sm T2 ∧ Sm S2) ∧ m2 ≤ 17 ∧ m2 ≤ c2 ∧ Rd w' wx.heap.size w'.heap.size 2 A2 m2 (pvs qs) ∧ Below wx.heap.size wx w' from fun wx z z0 z1 hG => (CompactLogS_any N T S _ _ m c1 A1 ps z wx (rw_but HO4.out hG) (Nat.le_refl _) (by omega) (by omega) (by unfold in64; omega)).mono (by
    rintro e w' ⟨A9, c9, rfl, hk9, hr9, _, hb9⟩
    have hl := compOf_len N T S ps z
    have h2 := HO4.out.len2
    obtain ⟨⟨⟨Na, Ta, Sa, Ra⟩, b⟩, hu⟩ : ∃ u, compOf N T S ps z = u := ⟨_, rfl⟩
    rw [hu] at hl hk9 hr9 ⊢
    dsimp only at hl hk9 hr9 ⊢
    exact ⟨Na, Ta, Sa, A9, _, c9, Ra, b, rfl, comp_sm hu, by omega, hk9, hr9, hb9⟩))
  obtain ⟨e0, e1, e2, e3⟩ := HS.out _ HE4.out
  go_cut [6, 7] from 18 to 28 (fun s6 s7 wx => ∃ (g2 : Nat) (N2 T2 S2 : Int) (A2 : Option Addr) (m2 c2 : Nat) (qs : List En) (b : Bool) (p6 : Int), s6 = .pointer (some ⟨g2, 0, none⟩) ∧ s7 = .bool b ∧ Hid (Cz w r A n' c' xs' g g2 N T S A1 m c1 ps N2 T2 S2 A2 m2 c2 qs b p6 wx))
  case first =>
    go_region_held3 (fun wx => wx.cell? ⟨g, 0, none⟩ = some (.int .i64 N) ∧ wx.cell? ⟨g, 1, none⟩ = some (.int .i64 T) ∧ wx.cell? ⟨g, 2, none⟩ = some (.int .i64 S) ∧ wx.cell? ⟨g, 3, none⟩ = some (.slice A1 m c1))
      (first | with_reducible exact HS.out _ HE4.out | with_reducible exact HS.out _ HE4.out.drew | with_reducible exact HS.out _ (HE4.out.alloc _).drew | with_reducible exact HS.out _ HE6.out | with_reducible exact HS.out _ (HE6.out.alloc _) | with_reducible exact HS.out _ HE7.out | with_reducible exact HS.out _ (HE7.out.alloc _) | with_reducible exact HKS4.out | fail "no keep")
      ((first
        | (go_at_call 35; (with_reducible refine (HN.out _ (up_drew (Below.refl _ w4))).mono ?_); rintro e w6 ⟨z, rfl, z0, z1, hR6, hG6, hu6⟩; have HD6 := Lib.hid (HD4.out.but hG6 hR6); have HE6 := Lib.hid (HE4.out.butS hG6 (by omega)); have HO6 := Lib.hid (rw_but HO4.out hG6); have HL6 := Lib.hid (HO4.out.far hG6 (Nat.le_refl _) (fun g e => by injection e with e; subst e; exact .inl (by omega))); have HG6 := Lib.hid hG6; have hs46 := hG6.size; clear hR6 hG6 hu6)
        | (go_at_call 35; (with_reducible refine (HN.out _ (up_drew (up_alloc (Below.refl _ w4) _))).mono ?_); rintro e w6 ⟨z, rfl, z0, z1, hR6, hG6, hu6⟩; have HD6 := Lib.hid (HD4.out.but hG6 hR6); have HE6 := Lib.hid (HE4.out.butS hG6 (by omega)); have HO6 := Lib.hid (rw_but HO4.out hG6); have HL6 := Lib.hid (HO4.out.far hG6 (Nat.le_refl _) (fun g e => by injection e with e; subst e; exact .inl (by omega))); have HG6 := Lib.hid hG6; have hs46 := hG6.size; have HM6 := Lib.hid (show Blk w6 w4.heap.size 32 #[.int .i64 0, .int .i64 0, .int .i64 0, .slice none 0 0] from (show Blk (w4.alloc (.cells #[.int .i64 0, .int .i64 0, .int .i64 0, .slice none 0 0] 32)).drew w4.heap.size 32 #[.int .i64 0, .int .i64 0, .int .i64 0, .slice none 0 0] from (Blk.new w4 _ _).drew).butS hu6 (by have := HD4.out.R.lt; omega)); have hm6r : r < w4.heap.size := HD4.out.R.lt; clear hR6 hG6 hu6)
        | (go_at_call 49; (with_reducible refine (HM.out _ _ z0 z1 (HG6.out)).mono ?_); rintro e w7 ⟨N2, T2, S2, A2, m2, c2, qs, b, rfl, hsm, hm2, hk2, hr7, hb7⟩; have HD7 := Lib.hid (HD6.out.upp hb7); have HE7 := Lib.hid (HE6.out.below hb7 HE6.out.lt); have HO7 := Lib.hid (rw_up (HO6.out) hb7); have HL7 := Lib.hid (HL6.out.keep hb7 (by first | omega | (simp; omega))); have HR7 := Lib.hid hr7; have hs67 := hb7.size; have HM7 := Lib.hid (HM6.out.below (show Below w6.heap.size w6 w7 from hb7) HM6.out.lt); have hgm : g ≠ w4.heap.size := (by have := HE4.out.lt; omega); have hfar := ((((HE7.out.far (p := ⟨w4.heap.size, 0, none⟩) hgm (.int .i64 N2)).far (p := ⟨w4.heap.size, 1, none⟩) hgm (.int .i64 T2)).far (p := ⟨w4.heap.size, 2, none⟩) hgm (.int .i64 S2)).far (p := ⟨w4.heap.size, 3, none⟩) hgm (.slice A2 m2 c2)); have HKS4 := Lib.hid (show ((((w7.setCell ⟨w4.heap.size, 0, none⟩ (.int .i64 N2)).setCell ⟨w4.heap.size, 1, none⟩ (.int .i64 T2)).setCell ⟨w4.heap.size, 2, none⟩ (.int .i64 S2)).setCell ⟨w4.heap.size, 3, none⟩ (.slice A2 m2 c2)).cell? ⟨g, 0, none⟩ = some (.int .i64 N) ∧ ((((w7.setCell ⟨w4.heap.size, 0, none⟩ (.int .i64 N2)).setCell ⟨w4.heap.size, 1, none⟩ (.int .i64 T2)).setCell ⟨w4.heap.size, 2, none⟩ (.int .i64 S2)).setCell ⟨w4.heap.size, 3, none⟩ (.slice A2 m2 c2)).cell? ⟨g, 1, none⟩ = some (.int .i64 T) ∧ ((((w7.setCell ⟨w4.heap.size, 0, none⟩ (.int .i64 N2)).setCell ⟨w4.heap.size, 1, none⟩ (.int .i64 T2)).setCell ⟨w4.heap.size, 2, none⟩ (.int .i64 S2)).setCell ⟨w4.heap.size, 3, none⟩ (.slice A2 m2 c2)).cell? ⟨g, 2, none⟩ = some (.int .i64 S) ∧ ((((w7.setCell ⟨w4.heap.size, 0, none⟩ (.int .i64 N2)).setCell ⟨w4.heap.size, 1, none⟩ (.int .i64 T2)).setCell ⟨w4.heap.size, 2, none⟩ (.int .i64 S2)).setCell ⟨w4.heap.size, 3, none⟩ (.slice A2 m2 c2)).cell? ⟨g, 3, none⟩ = some (.slice A1 m c1) from ⟨hfar.cell 0, hfar.cell 1, hfar.cell 2, hfar.cell 3⟩); clear hfar; have y0 := HM7.out.cell 0; have y1 := HM7.out.cell 1; have y2 := HM7.out.cell 2; have y3 := HM7.out.cell 3; have g0 := HM7.out.soft 0; have g1 := HM7.out.soft 1; have g2 := HM7.out.soft 2; have g3 := HM7.out.soft 3; clear hb7 hr7)
        | (go_at_call 49; (with_reducible refine (HM.out _ _ z0 z1 (but_alloc HG6.out _)).mono ?_); rintro e w7 ⟨N2, T2, S2, A2, m2, c2, qs, b, rfl, hsm, hm2, hk2, hr7, hb7⟩; have HD7 := Lib.hid ((HD6.out.upp (up_alloc (Below.refl _ w6) (.cells #[.int .i64 0, .int .i64 0, .int .i64 0, .slice none 0 0] 32))).upp hb7); have HE7 := Lib.hid ((HE6.out.alloc (.cells #[.int .i64 0, .int .i64 0, .int .i64 0, .slice none 0 0] 32)).below hb7 (HE6.out.alloc (.cells #[.int .i64 0, .int .i64 0, .int .i64 0, .slice none 0 0] 32)).lt); have HO7 := Lib.hid (rw_up (rw_up HO6.out (up_alloc (Below.refl _ w6) (.cells #[.int .i64 0, .int .i64 0, .int .i64 0, .slice none 0 0] 32))) hb7); have HL7 := Lib.hid ((HL6.out.keep (up_alloc (Below.refl _ w6) (.cells #[.int .i64 0, .int .i64 0, .int .i64 0, .slice none 0 0] 32)) (by omega)).keep hb7 (by first | omega | (simp; omega))); have HR7 := Lib.hid hr7; have hs67 := hb7.size; have HM7 := Lib.hid (Blk.below (Blk.new w6 32 #[.int .i64 0, .int .i64 0, .int .i64 0, .slice none 0 0]) hb7 (Blk.new w6 32 #[.int .i64 0, .int .i64 0, .int .i64 0, .slice none 0 0]).lt); have hm6r : r < w6.heap.size := HD6.out.R.lt; have hgm : g ≠ w6.heap.size := (by have := HE4.out.lt; omega); have hfar := ((((HE7.out.far (p := ⟨w6.heap.size, 0, none⟩) hgm (.int .i64 N2)).far (p := ⟨w6.heap.size, 1, none⟩) hgm (.int .i64 T2)).far (p := ⟨w6.heap.size, 2, none⟩) hgm (.int .i64 S2)).far (p := ⟨w6.heap.size, 3, none⟩) hgm (.slice A2 m2 c2)); have HKS4 := Lib.hid (show ((((w7.setCell ⟨w6.heap.size, 0, none⟩ (.int .i64 N2)).setCell ⟨w6.heap.size, 1, none⟩ (.int .i64 T2)).setCell ⟨w6.heap.size, 2, none⟩ (.int .i64 S2)).setCell ⟨w6.heap.size, 3, none⟩ (.slice A2 m2 c2)).cell? ⟨g, 0, none⟩ = some (.int .i64 N) ∧ ((((w7.setCell ⟨w6.heap.size, 0, none⟩ (.int .i64 N2)).setCell ⟨w6.heap.size, 1, none⟩ (.int .i64 T2)).setCell ⟨w6.heap.size, 2, none⟩ (.int .i64 S2)).setCell ⟨w6.heap.size, 3, none⟩ (.slice A2 m2 c2)).cell? ⟨g, 1, none⟩ = some (.int .i64 T) ∧ ((((w7.setCell ⟨w6.heap.size, 0, none⟩ (.int .i64 N2)).setCell ⟨w6.heap.size, 1, none⟩ (.int .i64 T2)).setCell ⟨w6.heap.size, 2, none⟩ (.int .i64 S2)).setCell ⟨w6.heap.size, 3, none⟩ (.slice A2 m2 c2)).cell? ⟨g, 2, none⟩ = some (.int .i64 S) ∧ ((((w7.setCell ⟨w6.heap.size, 0, none⟩ (.int .i64 N2)).setCell ⟨w6.heap.size, 1, none⟩ (.int .i64 T2)).setCell ⟨w6.heap.size, 2, none⟩ (.int .i64 S2)).setCell ⟨w6.heap.size, 3, none⟩ (.slice A2 m2 c2)).cell? ⟨g, 3, none⟩ = some (.slice A1 m c1) from ⟨hfar.cell 0, hfar.cell 1, hfar.cell 2, hfar.cell 3⟩); clear hfar; have y0 := HM7.out.cell 0; have y1 := HM7.out.cell 1; have y2 := HM7.out.cell 2; have y3 := HM7.out.cell 3; have g0 := HM7.out.soft 0; have g1 := HM7.out.soft 1; have g2 := HM7.out.soft 2; have g3 := HM7.out.soft 3; clear hb7 hr7)
        | (go_at_call 49; (with_reducible refine (HM.out _ _ z0 z1 (HG6.out)).mono ?_); rintro e w7 ⟨N2, T2, S2, A2, m2, c2, qs, b, rfl, hsm, hm2, hk2, hr7, hb7⟩; have HD7 := Lib.hid (HD6.out.upp hb7); have HE7 := Lib.hid (HE6.out.below hb7 HE6.out.lt); have HO7 := Lib.hid (rw_up (HO6.out) hb7); have HL7 := Lib.hid (HL6.out.keep hb7 (by first | omega | (simp; omega))); have HR7 := Lib.hid hr7; have hs67 := hb7.size; clear hb7 hr7)
        | fail "no arm"))
    all_goals
      go_wp2_with fail
      go_meet
      have hrl6 := HD6.out.R.lt
      have hw47 := HE4.out.lt
      first
      | (have HZ := Lib.hid (Cz.early HD7.out HE7.out HM7.out hgm (HL7.out.wide (Nat.le_refl _) (by omega)) (HR7.out.wide (by first | exact HM6.out.lt | (simp; done)) (Nat.le_refl _)) hgr hm6r hsm ⟨hm2, hk2⟩ (by omega)); exact ⟨_, N2, T2, S2, A2, m2, c2, qs, b, _, rfl, rfl, HZ⟩)
      | (have HZ := Lib.hid (Cz.late HD7.out HE7.out HO7.out (HR7.out.wide (by omega) (Nat.le_refl _)) hgr hsm ⟨hm2, hk2⟩ (by omega)); exact ⟨_, N2, T2, S2, A2, m2, c2, qs, b, _, rfl, rfl, HZ⟩)
      | trace_state

  case rest =>
    obtain ⟨g2, N2, T2, S2, A2, m2, c2, qs, b, p6, rfl, rfl, hcz⟩ := hcut
    have HC6 := hcz
    obtain ⟨w6, hww⟩ : ∃ x : World, x = wc := ⟨_, rfl⟩
    subst hww
    clear HD4 HE4 HO4 hcz
    have hpp := HC6.out.pp
    cases b with
    | false =>
      have HD6 := Lib.hid HC6.out.D
      have HE6 := Lib.hid HC6.out.E
      have HO6 := Lib.hid HC6.out.h1
      clear HC6
      have HS := Lib.hid (show ∀ wx, Blk wx g 32 #[.int .i64 N, .int .i64 T, .int .i64 S, .slice A1 m c1] → wx.cell? ⟨g, 0, none⟩ = some (.int .i64 N) ∧ wx.cell? ⟨g, 1, none⟩ = some (.int .i64 T) ∧ wx.cell? ⟨g, 2, none⟩ = some (.int .i64 S) ∧ wx.cell? ⟨g, 3, none⟩ = some (.slice A1 m c1) from fun wx hB => ⟨hB.cell 0, hB.cell 1, hB.cell 2, hB.cell 3⟩)
      have HN := Lib.hid (show ∀ wx, Below w6.heap.size w6 wx → Calls Try.prog 48 #[.pointer (some ⟨r, 0, none⟩)] wx (SnrPost 130 r A n' c' xs' (p6) wx) from fun wx hb => anySnap_any r A n' c' xs' (p6) wx (HD6.out.R.below hb) (by omega))
      obtain ⟨e0, e1, e2, e3⟩ := HS.out _ HE6.out
      go_wp2_with (fail)
      go_region_held3 (fun wx => wx.cell? ⟨g, 0, none⟩ = some (.int .i64 N) ∧ wx.cell? ⟨g, 1, none⟩ = some (.int .i64 T) ∧ wx.cell? ⟨g, 2, none⟩ = some (.int .i64 S) ∧ wx.cell? ⟨g, 3, none⟩ = some (.slice A1 m c1))
        (first | with_reducible exact HS.out _ HE6.out | with_reducible exact HS.out _ HE6.out.drew | with_reducible exact HS.out _ HE5.out | with_reducible exact HKS4.out | with_reducible exact HKS8.out)
        ((first
          | (go_at_call 48; (with_reducible refine (HN.out _ (up_drew (Below.refl _ w6))).mono ?_); rintro e w5 ⟨N2, T2, S2, A2, m2, c2, qs, p5, rfl, hN2, hT2, hS2, hm2, hk2, hcx2, ho5, hR5, hp5, hG5'⟩; have hG5 := but_trans (but_below (but_refl r _) (up_drew (Below.refl _ w6))) hG5'; have HD5 := Lib.hid (HD6.out.but hG5 hR5); have HE5 := Lib.hid (HE6.out.butS hG5 (by omega)); have HO5 := Lib.hid (rw_but HO6.out hG5); have HK5 := Lib.hid ((Rd.of_own ho5).wide (show r + 1 ≤ _ from Nat.le_trans (show r + 1 ≤ w6.heap.size from HD6.out.R.lt) (up_drew (Below.refl _ w6)).size) (Nat.le_refl _)); have q0 := HD5.out.Q.cell 0; have q1 := HD5.out.Q.cell 1; have q2 := HD5.out.Q.cell 2; have q3 := HD5.out.Q.cell 3; have f0 := HD5.out.Q.soft 0; have f1 := HD5.out.Q.soft 1; have f2 := HD5.out.Q.soft 2; have f3 := HD5.out.Q.soft 3; have j0 := HD5.out.P.cell 0; have j1 := HD5.out.P.cell 1; have j2 := HD5.out.P.cell 2; have j3 := HD5.out.P.cell 3; have l0 := HD5.out.P.soft 0; have l1 := HD5.out.P.soft 1; have l2 := HD5.out.P.soft 2; have l3 := HD5.out.P.soft 3; have hfar := ((((HE5.out.far (p := ⟨w.heap.size, 0, none⟩) hne0 (.int .i64 N)).far (p := ⟨w.heap.size, 1, none⟩) hne0 (.int .i64 T)).far (p := ⟨w.heap.size, 2, none⟩) hne0 (.int .i64 S)).far (p := ⟨w.heap.size, 3, none⟩) hne0 (.slice A1 m c1)); have HKS4 := Lib.hid (show ((((w5.setCell ⟨w.heap.size, 0, none⟩ (.int .i64 N)).setCell ⟨w.heap.size, 1, none⟩ (.int .i64 T)).setCell ⟨w.heap.size, 2, none⟩ (.int .i64 S)).setCell ⟨w.heap.size, 3, none⟩ (.slice A1 m c1)).cell? ⟨g, 0, none⟩ = some (.int .i64 N) ∧ ((((w5.setCell ⟨w.heap.size, 0, none⟩ (.int .i64 N)).setCell ⟨w.heap.size, 1, none⟩ (.int .i64 T)).setCell ⟨w.heap.size, 2, none⟩ (.int .i64 S)).setCell ⟨w.heap.size, 3, none⟩ (.slice A1 m c1)).cell? ⟨g, 1, none⟩ = some (.int .i64 T) ∧ ((((w5.setCell ⟨w.heap.size, 0, none⟩ (.int .i64 N)).setCell ⟨w.heap.size, 1, none⟩ (.int .i64 T)).setCell ⟨w.heap.size, 2, none⟩ (.int .i64 S)).setCell ⟨w.heap.size, 3, none⟩ (.slice A1 m c1)).cell? ⟨g, 2, none⟩ = some (.int .i64 S) ∧ ((((w5.setCell ⟨w.heap.size, 0, none⟩ (.int .i64 N)).setCell ⟨w.heap.size, 1, none⟩ (.int .i64 T)).setCell ⟨w.heap.size, 2, none⟩ (.int .i64 S)).setCell ⟨w.heap.size, 3, none⟩ (.slice A1 m c1)).cell? ⟨g, 3, none⟩ = some (.slice A1 m c1) from ⟨hfar.cell 0, hfar.cell 1, hfar.cell 2, hfar.cell 3⟩); clear hfar; have hfar := ((((((((HE5.out.far (p := ⟨w.heap.size, 0, none⟩) hne0 (.int .i64 N)).far (p := ⟨w.heap.size, 1, none⟩) hne0 (.int .i64 T)).far (p := ⟨w.heap.size, 2, none⟩) hne0 (.int .i64 S)).far (p := ⟨w.heap.size, 3, none⟩) hne0 (.slice A1 m c1)).far (p := ⟨w.heap.size + 1, 0, none⟩) hne1 (.int .i64 N2)).far (p := ⟨w.heap.size + 1, 1, none⟩) hne1 (.int .i64 T2)).far (p := ⟨w.heap.size + 1, 2, none⟩) hne1 (.int .i64 S2)).far (p := ⟨w.heap.size + 1, 3, none⟩) hne1 (.slice A2 m2 c2)); have HKS8 := Lib.hid (show ((((((((w5.setCell ⟨w.heap.size, 0, none⟩ (.int .i64 N)).setCell ⟨w.heap.size, 1, none⟩ (.int .i64 T)).setCell ⟨w.heap.size, 2, none⟩ (.int .i64 S)).setCell ⟨w.heap.size, 3, none⟩ (.slice A1 m c1)).setCell ⟨w.heap.size + 1, 0, none⟩ (.int .i64 N2)).setCell ⟨w.heap.size + 1, 1, none⟩ (.int .i64 T2)).setCell ⟨w.heap.size + 1, 2, none⟩ (.int .i64 S2)).setCell ⟨w.heap.size + 1, 3, none⟩ (.slice A2 m2 c2)).cell? ⟨g, 0, none⟩ = some (.int .i64 N) ∧ ((((((((w5.setCell ⟨w.heap.size, 0, none⟩ (.int .i64 N)).setCell ⟨w.heap.size, 1, none⟩ (.int .i64 T)).setCell ⟨w.heap.size, 2, none⟩ (.int .i64 S)).setCell ⟨w.heap.size, 3, none⟩ (.slice A1 m c1)).setCell ⟨w.heap.size + 1, 0, none⟩ (.int .i64 N2)).setCell ⟨w.heap.size + 1, 1, none⟩ (.int .i64 T2)).setCell ⟨w.heap.size + 1, 2, none⟩ (.int .i64 S2)).setCell ⟨w.heap.size + 1, 3, none⟩ (.slice A2 m2 c2)).cell? ⟨g, 1, none⟩ = some (.int .i64 T) ∧ ((((((((w5.setCell ⟨w.heap.size, 0, none⟩ (.int .i64 N)).setCell ⟨w.heap.size, 1, none⟩ (.int .i64 T)).setCell ⟨w.heap.size, 2, none⟩ (.int .i64 S)).setCell ⟨w.heap.size, 3, none⟩ (.slice A1 m c1)).setCell ⟨w.heap.size + 1, 0, none⟩ (.int .i64 N2)).setCell ⟨w.heap.size + 1, 1, none⟩ (.int .i64 T2)).setCell ⟨w.heap.size + 1, 2, none⟩ (.int .i64 S2)).setCell ⟨w.heap.size + 1, 3, none⟩ (.slice A2 m2 c2)).cell? ⟨g, 2, none⟩ = some (.int .i64 S) ∧ ((((((((w5.setCell ⟨w.heap.size, 0, none⟩ (.int .i64 N)).setCell ⟨w.heap.size, 1, none⟩ (.int .i64 T)).setCell ⟨w.heap.size, 2, none⟩ (.int .i64 S)).setCell ⟨w.heap.size, 3, none⟩ (.slice A1 m c1)).setCell ⟨w.heap.size + 1, 0, none⟩ (.int .i64 N2)).setCell ⟨w.heap.size + 1, 1, none⟩ (.int .i64 T2)).setCell ⟨w.heap.size + 1, 2, none⟩ (.int .i64 S2)).setCell ⟨w.heap.size + 1, 3, none⟩ (.slice A2 m2 c2)).cell? ⟨g, 3, none⟩ = some (.slice A1 m c1) from ⟨hfar.cell 0, hfar.cell 1, hfar.cell 2, hfar.cell 3⟩); clear hfar; clear ho5 hR5 hG5 hG5')
          | fail "no arm"))
      all_goals
        clear HN HS e0 e1 e2 e3
        obtain ⟨⟨z0, z1, z2, z3, z4, z5, z6, z7⟩, hrows, hbz⟩ := HD5.out.fin (.int .i64 N) (.int .i64 T) (.int .i64 S) (.slice A1 m c1) (.int .i64 N2) (.int .i64 T2) (.int .i64 S2) (.slice A2 m2 c2)
        have HRA := Lib.hid (hrows _ _ _ HO5.out)
        have HRB := Lib.hid (hrows _ _ _ HK5.out)
        have HBZ := Lib.hid hbz
        clear hrows hbz
        go_wp2
        exact bodyPost_ret (v := .tuple #[.agg #[.int .i64 N, .int .i64 T, .int .i64 S, .slice A1 m c1], .agg #[.int .i64 N2, .int .i64 T2, .int .i64 S2, .slice A2 m2 c2]]) (by simp [results, Try.results14, go_sem, z0, z1, z2, z3, z4, z5, z6, z7]) rfl ⟨N, T, S, A1, m, c1, ps, N2, T2, S2, A2, m2, c2, qs, rfl, hNTS, ⟨hN2, hT2, hS2⟩, hmm, ⟨hm2, hk2⟩, HRA.out, HRB.out, HBZ.out⟩
    | true =>
      obtain hN2 := HC6.out.sm rfl
      have hmm2 := HC6.out.le
      go_wp2_with (fail)
      (with_reducible refine (pick_any r A n' c' xs' p6 4 w6 HC6.out.D.R (by omega) (by omega)).mono ?_)
      rintro e w7 ⟨y, rfl, y0, y1, _, hR7, hG7⟩
      have HD7 := Lib.hid (HC6.out.D.but hG7 hR7)
      have HE7 := Lib.hid (HC6.out.E.butS hG7 (by have := HC6.out.g1; omega))
      have HF7 := Lib.hid (HC6.out.F.butS hG7 (by have := HC6.out.g2'; omega))
      have HO7 := Lib.hid (rw_but HC6.out.h1 hG7)
      have HK7 := Lib.hid (rw_but HC6.out.h2 hG7)
      have hgw2 : w.heap.size + 1 < g2 := by have := HC6.out.g2'; have := HC6.out.D.hr; omega
      have hne2 : g2 ≠ w.heap.size := by omega
      have hne3 : g2 ≠ w.heap.size + 1 := by omega
      clear hR7 hG7 HC6 y1
      have HSA := Lib.hid (show ∀ wx, Blk wx g 32 #[.int .i64 N, .int .i64 T, .int .i64 S, .slice A1 m c1] → Blk wx g2 32 #[.int .i64 N2, .int .i64 T2, .int .i64 S2, .slice A2 m2 c2] → (wx.cell? ⟨g, 0, none⟩ = some (.int .i64 N) ∧ wx.cell? ⟨g, 1, none⟩ = some (.int .i64 T) ∧ wx.cell? ⟨g, 2, none⟩ = some (.int .i64 S) ∧ wx.cell? ⟨g, 3, none⟩ = some (.slice A1 m c1)) ∧ (wx.cell? ⟨g2, 0, none⟩ = some (.int .i64 N2) ∧ wx.cell? ⟨g2, 1, none⟩ = some (.int .i64 T2) ∧ wx.cell? ⟨g2, 2, none⟩ = some (.int .i64 S2) ∧ wx.cell? ⟨g2, 3, none⟩ = some (.slice A2 m2 c2)) from fun wx hB hC => ⟨⟨hB.cell 0, hB.cell 1, hB.cell 2, hB.cell 3⟩, ⟨hC.cell 0, hC.cell 1, hC.cell 2, hC.cell 3⟩⟩)
      by_cases hy : y = 0
      · have dy : (y == 0) = true := by simp [hy]
        clear hy y0
        obtain ⟨⟨e0, e1, e2, e3⟩, ⟨d0, d1, d2, d3⟩⟩ := HSA.out _ HE7.out HF7.out
        have q0 := HD7.out.Q.cell 0
        have q1 := HD7.out.Q.cell 1
        have q2 := HD7.out.Q.cell 2
        have q3 := HD7.out.Q.cell 3
        have f0 := HD7.out.Q.soft 0
        have f1 := HD7.out.Q.soft 1
        have f2 := HD7.out.Q.soft 2
        have f3 := HD7.out.Q.soft 3
        have j0 := HD7.out.P.cell 0
        have j1 := HD7.out.P.cell 1
        have j2 := HD7.out.P.cell 2
        have j3 := HD7.out.P.cell 3
        have l0 := HD7.out.P.soft 0
        have l1 := HD7.out.P.soft 1
        have l2 := HD7.out.P.soft 2
        have l3 := HD7.out.P.soft 3
        have hfar := ((((HE7.out.far (p := ⟨w.heap.size, 0, none⟩) hne0 (.int .i64 N2)).far (p := ⟨w.heap.size, 1, none⟩) hne0 (.int .i64 T2)).far (p := ⟨w.heap.size, 2, none⟩) hne0 (.int .i64 S2)).far (p := ⟨w.heap.size, 3, none⟩) hne0 (.slice A2 m2 c2))
        have HGA4 := Lib.hid (show ((((w7.setCell ⟨w.heap.size, 0, none⟩ (.int .i64 N2)).setCell ⟨w.heap.size, 1, none⟩ (.int .i64 T2)).setCell ⟨w.heap.size, 2, none⟩ (.int .i64 S2)).setCell ⟨w.heap.size, 3, none⟩ (.slice A2 m2 c2)).drew.cell? ⟨g, 0, none⟩ = some (.int .i64 N) ∧ ((((w7.setCell ⟨w.heap.size, 0, none⟩ (.int .i64 N2)).setCell ⟨w.heap.size, 1, none⟩ (.int .i64 T2)).setCell ⟨w.heap.size, 2, none⟩ (.int .i64 S2)).setCell ⟨w.heap.size, 3, none⟩ (.slice A2 m2 c2)).drew.cell? ⟨g, 1, none⟩ = some (.int .i64 T) ∧ ((((w7.setCell ⟨w.heap.size, 0, none⟩ (.int .i64 N2)).setCell ⟨w.heap.size, 1, none⟩ (.int .i64 T2)).setCell ⟨w.heap.size, 2, none⟩ (.int .i64 S2)).setCell ⟨w.heap.size, 3, none⟩ (.slice A2 m2 c2)).drew.cell? ⟨g, 2, none⟩ = some (.int .i64 S) ∧ ((((w7.setCell ⟨w.heap.size, 0, none⟩ (.int .i64 N2)).setCell ⟨w.heap.size, 1, none⟩ (.int .i64 T2)).setCell ⟨w.heap.size, 2, none⟩ (.int .i64 S2)).setCell ⟨w.heap.size, 3, none⟩ (.slice A2 m2 c2)).drew.cell? ⟨g, 3, none⟩ = some (.slice A1 m c1) from ⟨hfar.drew.cell 0, hfar.drew.cell 1, hfar.drew.cell 2, hfar.drew.cell 3⟩)
        clear hfar
        have hfar := ((((((((HE7.out.far (p := ⟨w.heap.size, 0, none⟩) hne0 (.int .i64 N2)).far (p := ⟨w.heap.size, 1, none⟩) hne0 (.int .i64 T2)).far (p := ⟨w.heap.size, 2, none⟩) hne0 (.int .i64 S2)).far (p := ⟨w.heap.size, 3, none⟩) hne0 (.slice A2 m2 c2)).far (p := ⟨w.heap.size + 1, 0, none⟩) hne1 (.int .i64 N)).far (p := ⟨w.heap.size + 1, 1, none⟩) hne1 (.int .i64 T)).far (p := ⟨w.heap.size + 1, 2, none⟩) hne1 (.int .i64 S)).far (p := ⟨w.heap.size + 1, 3, none⟩) hne1 (.slice A1 m c1))
        have HGA8 := Lib.hid (show ((((((((w7.setCell ⟨w.heap.size, 0, none⟩ (.int .i64 N2)).setCell ⟨w.heap.size, 1, none⟩ (.int .i64 T2)).setCell ⟨w.heap.size, 2, none⟩ (.int .i64 S2)).setCell ⟨w.heap.size, 3, none⟩ (.slice A2 m2 c2)).setCell ⟨w.heap.size + 1, 0, none⟩ (.int .i64 N)).setCell ⟨w.heap.size + 1, 1, none⟩ (.int .i64 T)).setCell ⟨w.heap.size + 1, 2, none⟩ (.int .i64 S)).setCell ⟨w.heap.size + 1, 3, none⟩ (.slice A1 m c1)).drew.cell? ⟨g, 0, none⟩ = some (.int .i64 N) ∧ ((((((((w7.setCell ⟨w.heap.size, 0, none⟩ (.int .i64 N2)).setCell ⟨w.heap.size, 1, none⟩ (.int .i64 T2)).setCell ⟨w.heap.size, 2, none⟩ (.int .i64 S2)).setCell ⟨w.heap.size, 3, none⟩ (.slice A2 m2 c2)).setCell ⟨w.heap.size + 1, 0, none⟩ (.int .i64 N)).setCell ⟨w.heap.size + 1, 1, none⟩ (.int .i64 T)).setCell ⟨w.heap.size + 1, 2, none⟩ (.int .i64 S)).setCell ⟨w.heap.size + 1, 3, none⟩ (.slice A1 m c1)).drew.cell? ⟨g, 1, none⟩ = some (.int .i64 T) ∧ ((((((((w7.setCell ⟨w.heap.size, 0, none⟩ (.int .i64 N2)).setCell ⟨w.heap.size, 1, none⟩ (.int .i64 T2)).setCell ⟨w.heap.size, 2, none⟩ (.int .i64 S2)).setCell ⟨w.heap.size, 3, none⟩ (.slice A2 m2 c2)).setCell ⟨w.heap.size + 1, 0, none⟩ (.int .i64 N)).setCell ⟨w.heap.size + 1, 1, none⟩ (.int .i64 T)).setCell ⟨w.heap.size + 1, 2, none⟩ (.int .i64 S)).setCell ⟨w.heap.size + 1, 3, none⟩ (.slice A1 m c1)).drew.cell? ⟨g, 2, none⟩ = some (.int .i64 S) ∧ ((((((((w7.setCell ⟨w.heap.size, 0, none⟩ (.int .i64 N2)).setCell ⟨w.heap.size, 1, none⟩ (.int .i64 T2)).setCell ⟨w.heap.size, 2, none⟩ (.int .i64 S2)).setCell ⟨w.heap.size, 3, none⟩ (.slice A2 m2 c2)).setCell ⟨w.heap.size + 1, 0, none⟩ (.int .i64 N)).setCell ⟨w.heap.size + 1, 1, none⟩ (.int .i64 T)).setCell ⟨w.heap.size + 1, 2, none⟩ (.int .i64 S)).setCell ⟨w.heap.size + 1, 3, none⟩ (.slice A1 m c1)).drew.cell? ⟨g, 3, none⟩ = some (.slice A1 m c1) from ⟨hfar.drew.cell 0, hfar.drew.cell 1, hfar.drew.cell 2, hfar.drew.cell 3⟩)
        clear hfar
        have hfar := ((((HF7.out.far (p := ⟨w.heap.size, 0, none⟩) hne2 (.int .i64 N2)).far (p := ⟨w.heap.size, 1, none⟩) hne2 (.int .i64 T2)).far (p := ⟨w.heap.size, 2, none⟩) hne2 (.int .i64 S2)).far (p := ⟨w.heap.size, 3, none⟩) hne2 (.slice A2 m2 c2))
        have HGB4 := Lib.hid (show ((((w7.setCell ⟨w.heap.size, 0, none⟩ (.int .i64 N2)).setCell ⟨w.heap.size, 1, none⟩ (.int .i64 T2)).setCell ⟨w.heap.size, 2, none⟩ (.int .i64 S2)).setCell ⟨w.heap.size, 3, none⟩ (.slice A2 m2 c2)).drew.cell? ⟨g2, 0, none⟩ = some (.int .i64 N2) ∧ ((((w7.setCell ⟨w.heap.size, 0, none⟩ (.int .i64 N2)).setCell ⟨w.heap.size, 1, none⟩ (.int .i64 T2)).setCell ⟨w.heap.size, 2, none⟩ (.int .i64 S2)).setCell ⟨w.heap.size, 3, none⟩ (.slice A2 m2 c2)).drew.cell? ⟨g2, 1, none⟩ = some (.int .i64 T2) ∧ ((((w7.setCell ⟨w.heap.size, 0, none⟩ (.int .i64 N2)).setCell ⟨w.heap.size, 1, none⟩ (.int .i64 T2)).setCell ⟨w.heap.size, 2, none⟩ (.int .i64 S2)).setCell ⟨w.heap.size, 3, none⟩ (.slice A2 m2 c2)).drew.cell? ⟨g2, 2, none⟩ = some (.int .i64 S2) ∧ ((((w7.setCell ⟨w.heap.size, 0, none⟩ (.int .i64 N2)).setCell ⟨w.heap.size, 1, none⟩ (.int .i64 T2)).setCell ⟨w.heap.size, 2, none⟩ (.int .i64 S2)).setCell ⟨w.heap.size, 3, none⟩ (.slice A2 m2 c2)).drew.cell? ⟨g2, 3, none⟩ = some (.slice A2 m2 c2) from ⟨hfar.drew.cell 0, hfar.drew.cell 1, hfar.drew.cell 2, hfar.drew.cell 3⟩)
        clear hfar
        have hfar := ((((((((HF7.out.far (p := ⟨w.heap.size, 0, none⟩) hne2 (.int .i64 N2)).far (p := ⟨w.heap.size, 1, none⟩) hne2 (.int .i64 T2)).far (p := ⟨w.heap.size, 2, none⟩) hne2 (.int .i64 S2)).far (p := ⟨w.heap.size, 3, none⟩) hne2 (.slice A2 m2 c2)).far (p := ⟨w.heap.size + 1, 0, none⟩) hne3 (.int .i64 N)).far (p := ⟨w.heap.size + 1, 1, none⟩) hne3 (.int .i64 T)).far (p := ⟨w.heap.size + 1, 2, none⟩) hne3 (.int .i64 S)).far (p := ⟨w.heap.size + 1, 3, none⟩) hne3 (.slice A1 m c1))
        have HGB8 := Lib.hid (show ((((((((w7.setCell ⟨w.heap.size, 0, none⟩ (.int .i64 N2)).setCell ⟨w.heap.size, 1, none⟩ (.int .i64 T2)).setCell ⟨w.heap.size, 2, none⟩ (.int .i64 S2)).setCell ⟨w.heap.size, 3, none⟩ (.slice A2 m2 c2)).setCell ⟨w.heap.size + 1, 0, none⟩ (.int .i64 N)).setCell ⟨w.heap.size + 1, 1, none⟩ (.int .i64 T)).setCell ⟨w.heap.size + 1, 2, none⟩ (.int .i64 S)).setCell ⟨w.heap.size + 1, 3, none⟩ (.slice A1 m c1)).drew.cell? ⟨g2, 0, none⟩ = some (.int .i64 N2) ∧ ((((((((w7.setCell ⟨w.heap.size, 0, none⟩ (.int .i64 N2)).setCell ⟨w.heap.size, 1, none⟩ (.int .i64 T2)).setCell ⟨w.heap.size, 2, none⟩ (.int .i64 S2)).setCell ⟨w.heap.size, 3, none⟩ (.slice A2 m2 c2)).setCell ⟨w.heap.size + 1, 0, none⟩ (.int .i64 N)).setCell ⟨w.heap.size + 1, 1, none⟩ (.int .i64 T)).setCell ⟨w.heap.size + 1, 2, none⟩ (.int .i64 S)).setCell ⟨w.heap.size + 1, 3, none⟩ (.slice A1 m c1)).drew.cell? ⟨g2, 1, none⟩ = some (.int .i64 T2) ∧ ((((((((w7.setCell ⟨w.heap.size, 0, none⟩ (.int .i64 N2)).setCell ⟨w.heap.size, 1, none⟩ (.int .i64 T2)).setCell ⟨w.heap.size, 2, none⟩ (.int .i64 S2)).setCell ⟨w.heap.size, 3, none⟩ (.slice A2 m2 c2)).setCell ⟨w.heap.size + 1, 0, none⟩ (.int .i64 N)).setCell ⟨w.heap.size + 1, 1, none⟩ (.int .i64 T)).setCell ⟨w.heap.size + 1, 2, none⟩ (.int .i64 S)).setCell ⟨w.heap.size + 1, 3, none⟩ (.slice A1 m c1)).drew.cell? ⟨g2, 2, none⟩ = some (.int .i64 S2) ∧ ((((((((w7.setCell ⟨w.heap.size, 0, none⟩ (.int .i64 N2)).setCell ⟨w.heap.size, 1, none⟩ (.int .i64 T2)).setCell ⟨w.heap.size, 2, none⟩ (.int .i64 S2)).setCell ⟨w.heap.size, 3, none⟩ (.slice A2 m2 c2)).setCell ⟨w.heap.size + 1, 0, none⟩ (.int .i64 N)).setCell ⟨w.heap.size + 1, 1, none⟩ (.int .i64 T)).setCell ⟨w.heap.size + 1, 2, none⟩ (.int .i64 S)).setCell ⟨w.heap.size + 1, 3, none⟩ (.slice A1 m c1)).drew.cell? ⟨g2, 3, none⟩ = some (.slice A2 m2 c2) from ⟨hfar.drew.cell 0, hfar.drew.cell 1, hfar.drew.cell 2, hfar.drew.cell 3⟩)
        clear hfar
        go_wp2_with (fail)
        go_region_held3 (fun wx => (wx.cell? ⟨g, 0, none⟩ = some (.int .i64 N) ∧ wx.cell? ⟨g, 1, none⟩ = some (.int .i64 T) ∧ wx.cell? ⟨g, 2, none⟩ = some (.int .i64 S) ∧ wx.cell? ⟨g, 3, none⟩ = some (.slice A1 m c1)) ∧ (wx.cell? ⟨g2, 0, none⟩ = some (.int .i64 N2) ∧ wx.cell? ⟨g2, 1, none⟩ = some (.int .i64 T2) ∧ wx.cell? ⟨g2, 2, none⟩ = some (.int .i64 S2) ∧ wx.cell? ⟨g2, 3, none⟩ = some (.slice A2 m2 c2)))
          (first | with_reducible exact HSA.out _ HE7.out HF7.out | with_reducible exact HSA.out _ HE7.out.drew HF7.out.drew | with_reducible exact And.intro HGA4.out HGB4.out | with_reducible exact And.intro HGA8.out HGB8.out | fail "no keep")
          ((first
            | fail "no arm"))
        all_goals
          clear HSA e0 e1 e2 e3 d0 d1 d2 d3
          skip
          obtain ⟨⟨z0, z1, z2, z3, z4, z5, z6, z7⟩, hrows, hbz⟩ := HD7.out.finD (.int .i64 N2) (.int .i64 T2) (.int .i64 S2) (.slice A2 m2 c2) (.int .i64 N) (.int .i64 T) (.int .i64 S) (.slice A1 m c1)
          have HRA := Lib.hid (hrows _ _ _ HK7.out)
          have HRB := Lib.hid (hrows _ _ _ HO7.out)
          have HBZ := Lib.hid hbz
          clear hrows hbz
          go_wp2
          exact bodyPost_ret (v := .tuple #[.agg #[.int .i64 N2, .int .i64 T2, .int .i64 S2, .slice A2 m2 c2], .agg #[.int .i64 N, .int .i64 T, .int .i64 S, .slice A1 m c1]]) (by simp [results, Try.results14, go_sem, z0, z1, z2, z3, z4, z5, z6, z7]) rfl ⟨N2, T2, S2, A2, m2, c2, qs, N, T, S, A1, m, c1, ps, rfl, hN2, hNTS, hmm2, hmm, HRA.out, HRB.out, HBZ.out⟩
      have dy : (y == 0) = false := by simpa using hy
      clear hy y0
      obtain ⟨⟨e0, e1, e2, e3⟩, ⟨d0, d1, d2, d3⟩⟩ := HSA.out _ HE7.out HF7.out
      have q0 := HD7.out.Q.cell 0
      have q1 := HD7.out.Q.cell 1
      have q2 := HD7.out.Q.cell 2
      have q3 := HD7.out.Q.cell 3
      have f0 := HD7.out.Q.soft 0
      have f1 := HD7.out.Q.soft 1
      have f2 := HD7.out.Q.soft 2
      have f3 := HD7.out.Q.soft 3
      have j0 := HD7.out.P.cell 0
      have j1 := HD7.out.P.cell 1
      have j2 := HD7.out.P.cell 2
      have j3 := HD7.out.P.cell 3
      have l0 := HD7.out.P.soft 0
      have l1 := HD7.out.P.soft 1
      have l2 := HD7.out.P.soft 2
      have l3 := HD7.out.P.soft 3
      have hfar := ((((HE7.out.far (p := ⟨w.heap.size, 0, none⟩) hne0 (.int .i64 N)).far (p := ⟨w.heap.size, 1, none⟩) hne0 (.int .i64 T)).far (p := ⟨w.heap.size, 2, none⟩) hne0 (.int .i64 S)).far (p := ⟨w.heap.size, 3, none⟩) hne0 (.slice A1 m c1))
      have HGA4 := Lib.hid (show ((((w7.setCell ⟨w.heap.size, 0, none⟩ (.int .i64 N)).setCell ⟨w.heap.size, 1, none⟩ (.int .i64 T)).setCell ⟨w.heap.size, 2, none⟩ (.int .i64 S)).setCell ⟨w.heap.size, 3, none⟩ (.slice A1 m c1)).drew.cell? ⟨g, 0, none⟩ = some (.int .i64 N) ∧ ((((w7.setCell ⟨w.heap.size, 0, none⟩ (.int .i64 N)).setCell ⟨w.heap.size, 1, none⟩ (.int .i64 T)).setCell ⟨w.heap.size, 2, none⟩ (.int .i64 S)).setCell ⟨w.heap.size, 3, none⟩ (.slice A1 m c1)).drew.cell? ⟨g, 1, none⟩ = some (.int .i64 T) ∧ ((((w7.setCell ⟨w.heap.size, 0, none⟩ (.int .i64 N)).setCell ⟨w.heap.size, 1, none⟩ (.int .i64 T)).setCell ⟨w.heap.size, 2, none⟩ (.int .i64 S)).setCell ⟨w.heap.size, 3, none⟩ (.slice A1 m c1)).drew.cell? ⟨g, 2, none⟩ = some (.int .i64 S) ∧ ((((w7.setCell ⟨w.heap.size, 0, none⟩ (.int .i64 N)).setCell ⟨w.heap.size, 1, none⟩ (.int .i64 T)).setCell ⟨w.heap.size, 2, none⟩ (.int .i64 S)).setCell ⟨w.heap.size, 3, none⟩ (.slice A1 m c1)).drew.cell? ⟨g, 3, none⟩ = some (.slice A1 m c1) from ⟨hfar.drew.cell 0, hfar.drew.cell 1, hfar.drew.cell 2, hfar.drew.cell 3⟩)
      clear hfar
      have hfar := ((((((((HE7.out.far (p := ⟨w.heap.size, 0, none⟩) hne0 (.int .i64 N)).far (p := ⟨w.heap.size, 1, none⟩) hne0 (.int .i64 T)).far (p := ⟨w.heap.size, 2, none⟩) hne0 (.int .i64 S)).far (p := ⟨w.heap.size, 3, none⟩) hne0 (.slice A1 m c1)).far (p := ⟨w.heap.size + 1, 0, none⟩) hne1 (.int .i64 N2)).far (p := ⟨w.heap.size + 1, 1, none⟩) hne1 (.int .i64 T2)).far (p := ⟨w.heap.size + 1, 2, none⟩) hne1 (.int .i64 S2)).far (p := ⟨w.heap.size + 1, 3, none⟩) hne1 (.slice A2 m2 c2))
      have HGA8 := Lib.hid (show ((((((((w7.setCell ⟨w.heap.size, 0, none⟩ (.int .i64 N)).setCell ⟨w.heap.size, 1, none⟩ (.int .i64 T)).setCell ⟨w.heap.size, 2, none⟩ (.int .i64 S)).setCell ⟨w.heap.size, 3, none⟩ (.slice A1 m c1)).setCell ⟨w.heap.size + 1, 0, none⟩ (.int .i64 N2)).setCell ⟨w.heap.size + 1, 1, none⟩ (.int .i64 T2)).setCell ⟨w.heap.size + 1, 2, none⟩ (.int .i64 S2)).setCell ⟨w.heap.size + 1, 3, none⟩ (.slice A2 m2 c2)).drew.cell? ⟨g, 0, none⟩ = some (.int .i64 N) ∧ ((((((((w7.setCell ⟨w.heap.size, 0, none⟩ (.int .i64 N)).setCell ⟨w.heap.size, 1, none⟩ (.int .i64 T)).setCell ⟨w.heap.size, 2, none⟩ (.int .i64 S)).setCell ⟨w.heap.size, 3, none⟩ (.slice A1 m c1)).setCell ⟨w.heap.size + 1, 0, none⟩ (.int .i64 N2)).setCell ⟨w.heap.size + 1, 1, none⟩ (.int .i64 T2)).setCell ⟨w.heap.size + 1, 2, none⟩ (.int .i64 S2)).setCell ⟨w.heap.size + 1, 3, none⟩ (.slice A2 m2 c2)).drew.cell? ⟨g, 1, none⟩ = some (.int .i64 T) ∧ ((((((((w7.setCell ⟨w.heap.size, 0, none⟩ (.int .i64 N)).setCell ⟨w.heap.size, 1, none⟩ (.int .i64 T)).setCell ⟨w.heap.size, 2, none⟩ (.int .i64 S)).setCell ⟨w.heap.size, 3, none⟩ (.slice A1 m c1)).setCell ⟨w.heap.size + 1, 0, none⟩ (.int .i64 N2)).setCell ⟨w.heap.size + 1, 1, none⟩ (.int .i64 T2)).setCell ⟨w.heap.size + 1, 2, none⟩ (.int .i64 S2)).setCell ⟨w.heap.size + 1, 3, none⟩ (.slice A2 m2 c2)).drew.cell? ⟨g, 2, none⟩ = some (.int .i64 S) ∧ ((((((((w7.setCell ⟨w.heap.size, 0, none⟩ (.int .i64 N)).setCell ⟨w.heap.size, 1, none⟩ (.int .i64 T)).setCell ⟨w.heap.size, 2, none⟩ (.int .i64 S)).setCell ⟨w.heap.size, 3, none⟩ (.slice A1 m c1)).setCell ⟨w.heap.size + 1, 0, none⟩ (.int .i64 N2)).setCell ⟨w.heap.size + 1, 1, none⟩ (.int .i64 T2)).setCell ⟨w.heap.size + 1, 2, none⟩ (.int .i64 S2)).setCell ⟨w.heap.size + 1, 3, none⟩ (.slice A2 m2 c2)).drew.cell? ⟨g, 3, none⟩ = some (.slice A1 m c1) from ⟨hfar.drew.cell 0, hfar.drew.cell 1, hfar.drew.cell 2, hfar.drew.cell 3⟩)
      clear hfar
      have hfar := ((((HF7.out.far (p := ⟨w.heap.size, 0, none⟩) hne2 (.int .i64 N)).far (p := ⟨w.heap.size, 1, none⟩) hne2 (.int .i64 T)).far (p := ⟨w.heap.size, 2, none⟩) hne2 (.int .i64 S)).far (p := ⟨w.heap.size, 3, none⟩) hne2 (.slice A1 m c1))
      have HGB4 := Lib.hid (show ((((w7.setCell ⟨w.heap.size, 0, none⟩ (.int .i64 N)).setCell ⟨w.heap.size, 1, none⟩ (.int .i64 T)).setCell ⟨w.heap.size, 2, none⟩ (.int .i64 S)).setCell ⟨w.heap.size, 3, none⟩ (.slice A1 m c1)).drew.cell? ⟨g2, 0, none⟩ = some (.int .i64 N2) ∧ ((((w7.setCell ⟨w.heap.size, 0, none⟩ (.int .i64 N)).setCell ⟨w.heap.size, 1, none⟩ (.int .i64 T)).setCell ⟨w.heap.size, 2, none⟩ (.int .i64 S)).setCell ⟨w.heap.size, 3, none⟩ (.slice A1 m c1)).drew.cell? ⟨g2, 1, none⟩ = some (.int .i64 T2) ∧ ((((w7.setCell ⟨w.heap.size, 0, none⟩ (.int .i64 N)).setCell ⟨w.heap.size, 1, none⟩ (.int .i64 T)).setCell ⟨w.heap.size, 2, none⟩ (.int .i64 S)).setCell ⟨w.heap.size, 3, none⟩ (.slice A1 m c1)).drew.cell? ⟨g2, 2, none⟩ = some (.int .i64 S2) ∧ ((((w7.setCell ⟨w.heap.size, 0, none⟩ (.int .i64 N)).setCell ⟨w.heap.size, 1, none⟩ (.int .i64 T)).setCell ⟨w.heap.size, 2, none⟩ (.int .i64 S)).setCell ⟨w.heap.size, 3, none⟩ (.slice A1 m c1)).drew.cell? ⟨g2, 3, none⟩ = some (.slice A2 m2 c2) from ⟨hfar.drew.cell 0, hfar.drew.cell 1, hfar.drew.cell 2, hfar.drew.cell 3⟩)
      clear hfar
      have hfar := ((((((((HF7.out.far (p := ⟨w.heap.size, 0, none⟩) hne2 (.int .i64 N)).far (p := ⟨w.heap.size, 1, none⟩) hne2 (.int .i64 T)).far (p := ⟨w.heap.size, 2, none⟩) hne2 (.int .i64 S)).far (p := ⟨w.heap.size, 3, none⟩) hne2 (.slice A1 m c1)).far (p := ⟨w.heap.size + 1, 0, none⟩) hne3 (.int .i64 N2)).far (p := ⟨w.heap.size + 1, 1, none⟩) hne3 (.int .i64 T2)).far (p := ⟨w.heap.size + 1, 2, none⟩) hne3 (.int .i64 S2)).far (p := ⟨w.heap.size + 1, 3, none⟩) hne3 (.slice A2 m2 c2))
      have HGB8 := Lib.hid (show ((((((((w7.setCell ⟨w.heap.size, 0, none⟩ (.int .i64 N)).setCell ⟨w.heap.size, 1, none⟩ (.int .i64 T)).setCell ⟨w.heap.size, 2, none⟩ (.int .i64 S)).setCell ⟨w.heap.size, 3, none⟩ (.slice A1 m c1)).setCell ⟨w.heap.size + 1, 0, none⟩ (.int .i64 N2)).setCell ⟨w.heap.size + 1, 1, none⟩ (.int .i64 T2)).setCell ⟨w.heap.size + 1, 2, none⟩ (.int .i64 S2)).setCell ⟨w.heap.size + 1, 3, none⟩ (.slice A2 m2 c2)).drew.cell? ⟨g2, 0, none⟩ = some (.int .i64 N2) ∧ ((((((((w7.setCell ⟨w.heap.size, 0, none⟩ (.int .i64 N)).setCell ⟨w.heap.size, 1, none⟩ (.int .i64 T)).setCell ⟨w.heap.size, 2, none⟩ (.int .i64 S)).setCell ⟨w.heap.size, 3, none⟩ (.slice A1 m c1)).setCell ⟨w.heap.size + 1, 0, none⟩ (.int .i64 N2)).setCell ⟨w.heap.size + 1, 1, none⟩ (.int .i64 T2)).setCell ⟨w.heap.size + 1, 2, none⟩ (.int .i64 S2)).setCell ⟨w.heap.size + 1, 3, none⟩ (.slice A2 m2 c2)).drew.cell? ⟨g2, 1, none⟩ = some (.int .i64 T2) ∧ ((((((((w7.setCell ⟨w.heap.size, 0, none⟩ (.int .i64 N)).setCell ⟨w.heap.size, 1, none⟩ (.int .i64 T)).setCell ⟨w.heap.size, 2, none⟩ (.int .i64 S)).setCell ⟨w.heap.size, 3, none⟩ (.slice A1 m c1)).setCell ⟨w.heap.size + 1, 0, none⟩ (.int .i64 N2)).setCell ⟨w.heap.size + 1, 1, none⟩ (.int .i64 T2)).setCell ⟨w.heap.size + 1, 2, none⟩ (.int .i64 S2)).setCell ⟨w.heap.size + 1, 3, none⟩ (.slice A2 m2 c2)).drew.cell? ⟨g2, 2, none⟩ = some (.int .i64 S2) ∧ ((((((((w7.setCell ⟨w.heap.size, 0, none⟩ (.int .i64 N)).setCell ⟨w.heap.size, 1, none⟩ (.int .i64 T)).setCell ⟨w.heap.size, 2, none⟩ (.int .i64 S)).setCell ⟨w.heap.size, 3, none⟩ (.slice A1 m c1)).setCell ⟨w.heap.size + 1, 0, none⟩ (.int .i64 N2)).setCell ⟨w.heap.size + 1, 1, none⟩ (.int .i64 T2)).setCell ⟨w.heap.size + 1, 2, none⟩ (.int .i64 S2)).setCell ⟨w.heap.size + 1, 3, none⟩ (.slice A2 m2 c2)).drew.cell? ⟨g2, 3, none⟩ = some (.slice A2 m2 c2) from ⟨hfar.drew.cell 0, hfar.drew.cell 1, hfar.drew.cell 2, hfar.drew.cell 3⟩)
      clear hfar
      go_wp2_with (fail)
      go_region_held3 (fun wx => (wx.cell? ⟨g, 0, none⟩ = some (.int .i64 N) ∧ wx.cell? ⟨g, 1, none⟩ = some (.int .i64 T) ∧ wx.cell? ⟨g, 2, none⟩ = some (.int .i64 S) ∧ wx.cell? ⟨g, 3, none⟩ = some (.slice A1 m c1)) ∧ (wx.cell? ⟨g2, 0, none⟩ = some (.int .i64 N2) ∧ wx.cell? ⟨g2, 1, none⟩ = some (.int .i64 T2) ∧ wx.cell? ⟨g2, 2, none⟩ = some (.int .i64 S2) ∧ wx.cell? ⟨g2, 3, none⟩ = some (.slice A2 m2 c2)))
        (first | with_reducible exact HSA.out _ HE7.out HF7.out | with_reducible exact HSA.out _ HE7.out.drew HF7.out.drew | with_reducible exact And.intro HGA4.out HGB4.out | with_reducible exact And.intro HGA8.out HGB8.out | fail "no keep")
        ((first
          | fail "no arm"))
      all_goals
        clear HSA e0 e1 e2 e3 d0 d1 d2 d3
        skip
        obtain ⟨⟨z0, z1, z2, z3, z4, z5, z6, z7⟩, hrows, hbz⟩ := HD7.out.finD (.int .i64 N) (.int .i64 T) (.int .i64 S) (.slice A1 m c1) (.int .i64 N2) (.int .i64 T2) (.int .i64 S2) (.slice A2 m2 c2)
        have HRA := Lib.hid (hrows _ _ _ HO7.out)
        have HRB := Lib.hid (hrows _ _ _ HK7.out)
        have HBZ := Lib.hid hbz
        clear hrows hbz
        go_wp2
        exact bodyPost_ret (v := .tuple #[.agg #[.int .i64 N, .int .i64 T, .int .i64 S, .slice A1 m c1], .agg #[.int .i64 N2, .int .i64 T2, .int .i64 S2, .slice A2 m2 c2]]) (by simp [results, Try.results14, go_sem, z0, z1, z2, z3, z4, z5, z6, z7]) rfl ⟨N, T, S, A1, m, c1, ps, N2, T2, S2, A2, m2, c2, qs, rfl, hNTS, hN2, hmm, hmm2, HRA.out, HRB.out, HBZ.out⟩
end Go.Proofs.Ytfpiejcfhdnjiaa
