/- A snapshot variable that a region makes beside calls: where it stands behind the region, in whatever order. -/
import Derived.Test.YthodkjflnjocbaaExSnap
set_option linter.unusedSimpArgs false
set_option linter.unusedVariables false
namespace Go.Proofs.Ythodkjflnjocbaa
open Go.RowKit

/-- The variable stands in block g, its entries in a row made since. -/
structure SnGot (u wx : World) (g : Nat) (N T S : Int) (A : Option Addr) (k c : Nat) (R : List En) : Prop where
  blk : Blk wx g 29 #[.int .i64 N, .int .i64 T, .int .i64 S, .slice A k c]
  rd : Rd wx u.heap.size wx.heap.size 2 A k (pvs R)
  bel : Below u.heap.size u wx
/-- Its cells, laid one after the other. -/
def snLay (v : World) (g : Nat) (N T S : Int) (A : Option Addr) (k c : Nat) : World := (((v.setCell ⟨g, 0, none⟩ (.int .i64 N)).setCell ⟨g, 1, none⟩ (.int .i64 T)).setCell ⟨g, 2, none⟩ (.int .i64 S)).setCell ⟨g, 3, none⟩ (.slice A k c)
theorem snLay_below {u v : World} {g : Nat} {N T S : Int} {A : Option Addr} {k c : Nat} (hv : Below u.heap.size u v) (hg : u.heap.size ≤ g) : Below u.heap.size u ((((v.setCell ⟨g, 0, none⟩ (.int .i64 N)).setCell ⟨g, 1, none⟩ (.int .i64 T)).setCell ⟨g, 2, none⟩ (.int .i64 S)).setCell ⟨g, 3, none⟩ (.slice A k c)) :=
  (((hv.setCell (p := ⟨g, 0, none⟩) hg _).setCell (p := ⟨g, 1, none⟩) hg _).setCell (p := ⟨g, 2, none⟩) hg _).setCell (p := ⟨g, 3, none⟩) hg _
theorem SnGot.last {u v : World} {lo : Nat} {N T S : Int} {A : Option Addr} {k c : Nat} {R : List En} (hr : Rd v lo v.heap.size 2 A k (pvs R)) (hlo : u.heap.size ≤ lo) (hv : Below u.heap.size u v) :
    SnGot u (v.alloc (.cells #[.int .i64 N, .int .i64 T, .int .i64 S, .slice A k c] 29)) v.heap.size N T S A k c R :=
  ⟨Blk.new _ _ _, (hr.keep (up_alloc (Below.refl _ v) _) (Nat.le_refl _)).wide hlo (by simp), up_alloc hv _⟩
theorem SnGot.early {u v : World} {g lo : Nat} {N T S : Int} {A : Option Addr} {k c : Nat} {R : List En} (hE : Blk v g 29 #[.int .i64 0, .int .i64 0, .int .i64 0, .slice none 0 0]) (hr : Rd v lo v.heap.size 2 A k (pvs R)) (hlo : u.heap.size ≤ lo) (hgl : g < lo) (hg : u.heap.size ≤ g) (hv : Below u.heap.size u v) :
    SnGot u ((((v.setCell ⟨g, 0, none⟩ (.int .i64 N)).setCell ⟨g, 1, none⟩ (.int .i64 T)).setCell ⟨g, 2, none⟩ (.int .i64 S)).setCell ⟨g, 3, none⟩ (.slice A k c)) g N T S A k c R :=
  ⟨by simpa using (((hE.put 0 (.int .i64 N)).put 1 (.int .i64 T)).put 2 (.int .i64 S)).put 3 (.slice A k c),
   ((((hr.setCell (p := ⟨g, 0, none⟩) (.inl hgl) _).setCell (p := ⟨g, 1, none⟩) (.inl hgl) _).setCell (p := ⟨g, 2, none⟩) (.inl hgl) _).setCell (p := ⟨g, 3, none⟩) (.inl hgl) _).wide hlo (by simp), snLay_below hv hg⟩
end Go.Proofs.Ythodkjflnjocbaa
