/- An instance variable that a region makes beside calls: where it stands behind the region, in whatever order. -/
import Derived.Test.YtknphikoikdcjaaGreatRunMM
import Derived.Test.YtknphikoikdcjaaGreatExInstA
set_option linter.unusedSimpArgs false
set_option linter.unusedVariables false
namespace Go.Proofs.YtknphikoikdcjaaGreat
open Go.RowKit

theorem InsPostX.flatW {r : Option Ins} {w w' : World} {e : Ending} (h : InsPostX r w e w') {um uv : List Int} {ucl : Int} {ut : List Tm} {ub : Bool} (hv : insV r = ⟨um, uv, ucl, ut⟩) (hb : r.isSome = ub) :
    ∃ A0 c0 A1 c1 A2 c2, e = .returned (.tuple #[.agg #[.slice A0 um.length c0, .slice A1 uv.length c1, .int .i64 ucl, .slice A2 ut.length c2], .bool ub]) ∧ Rd w' w.heap.size w'.heap.size 1 A0 um.length (ivs um) ∧ Rd w' w.heap.size w'.heap.size 1 A1 uv.length (ivs uv) ∧ Rd w' w.heap.size w'.heap.size 2 A2 ut.length (pvs ut) ∧ Below w.heap.size w w' := by
  obtain ⟨A0, c0, A1, c1, A2, c2, m1, m2, he, h0, h1, h2, hm, _, hb'⟩ := h.flat hv hb
  exact ⟨A0, c0, A1, c1, A2, c2, he, h0.wide hm.1 hm.2.2, h1.wide (Nat.le_trans hm.1 hm.2.1) (Nat.le_refl _), h2.wide (Nat.le_refl _) (Nat.le_trans hm.2.1 hm.2.2), hb'⟩
/-- The variable stands in block g, its rows made since. -/
structure InGot (u wx : World) (g : Nat) (um uv : List Int) (ucl : Int) (ut : List Tm) (A0 : Option Addr) (c0 : Nat) (A1 : Option Addr) (c1 : Nat) (A2 : Option Addr) (c2 : Nat) : Prop where
  blk : Blk wx g 34 #[.slice A0 um.length c0, .slice A1 uv.length c1, .int .i64 ucl, .slice A2 ut.length c2]
  r0 : Rd wx u.heap.size wx.heap.size 1 A0 um.length (ivs um)
  r1 : Rd wx u.heap.size wx.heap.size 1 A1 uv.length (ivs uv)
  r2 : Rd wx u.heap.size wx.heap.size 2 A2 ut.length (pvs ut)
  bel : Below u.heap.size u wx
theorem inLay_below {u v : World} {g : Nat} {v0 v1 v2 v3 : Value} (hv : Below u.heap.size u v) (hg : u.heap.size ≤ g) : Below u.heap.size u ((((v.setCell ⟨g, 0, none⟩ v0).setCell ⟨g, 1, none⟩ v1).setCell ⟨g, 2, none⟩ v2).setCell ⟨g, 3, none⟩ v3) :=
  (((hv.setCell (p := ⟨g, 0, none⟩) hg _).setCell (p := ⟨g, 1, none⟩) hg _).setCell (p := ⟨g, 2, none⟩) hg _).setCell (p := ⟨g, 3, none⟩) hg _
theorem rd_lay {v : World} {g lo hi size n : Nat} {A : Option Addr} {xs : List Value} {v0 v1 v2 v3 : Value} (h : Rd v lo hi size A n xs) (hg : g < lo) : Rd ((((v.setCell ⟨g, 0, none⟩ v0).setCell ⟨g, 1, none⟩ v1).setCell ⟨g, 2, none⟩ v2).setCell ⟨g, 3, none⟩ v3) lo hi size A n xs :=
  Rd.setCell (Rd.setCell (Rd.setCell (Rd.setCell h (p := ⟨g, 0, none⟩) (.inl hg) _) (p := ⟨g, 1, none⟩) (.inl hg) _) (p := ⟨g, 2, none⟩) (.inl hg) _) (p := ⟨g, 3, none⟩) (.inl hg) _
section
variable {u v : World} {um uv : List Int} {ucl : Int} {ut : List Tm} {A0 A1 A2 : Option Addr} {c0 c1 c2 lo : Nat}
theorem InGot.last (h0 : Rd v lo v.heap.size 1 A0 um.length (ivs um)) (h1 : Rd v lo v.heap.size 1 A1 uv.length (ivs uv)) (h2 : Rd v lo v.heap.size 2 A2 ut.length (pvs ut)) (hlo : u.heap.size ≤ lo) (hv : Below u.heap.size u v) :
    InGot u (v.alloc (.cells #[.slice A0 um.length c0, .slice A1 uv.length c1, .int .i64 ucl, .slice A2 ut.length c2] 34)) v.heap.size um uv ucl ut A0 c0 A1 c1 A2 c2 :=
  ⟨Blk.new _ _ _, (h0.keep (up_alloc (Below.refl _ v) _) (Nat.le_refl _)).wide hlo (by simp), (h1.keep (up_alloc (Below.refl _ v) _) (Nat.le_refl _)).wide hlo (by simp), (h2.keep (up_alloc (Below.refl _ v) _) (Nat.le_refl _)).wide hlo (by simp), up_alloc hv _⟩
theorem InGot.early {g : Nat} (hE : Blk v g 34 #[.slice none 0 0, .slice none 0 0, .int .i64 0, .slice none 0 0]) (h0 : Rd v lo v.heap.size 1 A0 um.length (ivs um)) (h1 : Rd v lo v.heap.size 1 A1 uv.length (ivs uv)) (h2 : Rd v lo v.heap.size 2 A2 ut.length (pvs ut)) (hlo : u.heap.size ≤ lo) (hgl : g < lo) (hg : u.heap.size ≤ g) (hv : Below u.heap.size u v) :
    InGot u ((((v.setCell ⟨g, 0, none⟩ (.slice A0 um.length c0)).setCell ⟨g, 1, none⟩ (.slice A1 uv.length c1)).setCell ⟨g, 2, none⟩ (.int .i64 ucl)).setCell ⟨g, 3, none⟩ (.slice A2 ut.length c2)) g um uv ucl ut A0 c0 A1 c1 A2 c2 :=
  ⟨by simpa using (((hE.put 0 (.slice A0 um.length c0)).put 1 (.slice A1 uv.length c1)).put 2 (.int .i64 ucl)).put 3 (.slice A2 ut.length c2),
   (rd_lay h0 hgl).wide hlo (by simp), (rd_lay h1 hgl).wide hlo (by simp), (rd_lay h2 hgl).wide hlo (by simp), inLay_below hv hg⟩
end
end Go.Proofs.YtknphikoikdcjaaGreat
