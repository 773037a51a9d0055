/- What the law on one more entry asks: mathematics, and how things stand behind the region that makes the longer snapshot, in whatever order. -/
import Derived.Test.YthoccppfedmcjaaLawSnapM
import Derived.Test.YthoccppfedmcjaaDelRun
import Derived.Test.YthoccppfedmcjaaLogS2
set_option linter.unusedSimpArgs false
set_option linter.unusedVariables false
namespace Go.Proofs.Ythoccppfedmcjaa
open Go.RowKit

theorem snap_more {N T S : Int} {R : List En} (h : vSnap N T S R = true) (hl : R.length < 16) {o : Int} (ho : 0 ≤ o ∧ o ≤ 99) : vSnap N T S (R ++ [(9, o)]) = true := by
  obtain ⟨h1, h2, h3, h4, h5⟩ := vSnap_iff.1 h
  refine vSnap_iff.2 ⟨h1, h2, h3, vLog_iff.2 ⟨?_, ?_, ?_⟩, headOk_iff.2 ?_⟩
  · intro p hp
    rcases List.mem_append.1 hp with hp | hp
    · exact (vLog_iff.1 h4).1 p hp
    · obtain rfl := List.mem_singleton.1 hp
      simp only [okEn, Bool.and_eq_true, inR_iff]
      omega
  · unfold Ris
    rw [List.pairwise_append]
    refine ⟨(vLog_iff.1 h4).2.1, List.pairwise_singleton _ _, fun a ha b hb => ?_⟩
    obtain rfl := List.mem_singleton.1 hb
    exact (vLog_ok h4 ha).1.2
  · simp; omega
  · intro p hp
    cases R with
    | nil => simp at hp; subst hp; exact h2.2
    | cons q R => exact headOk_iff.1 h5 p (by simpa using hp)
theorem state_more {N T S : Int} {R : List En} (h : vSnap N T S R = true) (hl : R.length < 16) {o : Int} (ho : 0 ≤ o ∧ o ≤ 99) : stateOf N T S (R ++ [(9, o)]) = (31 * stAfter S R + o) % 10007 := by
  rw [stateOf_yes (snap_more h hl ho), stAfter_snoc]
/-- The numbers of the law's last line. -/
theorem step_facts {q o : Int} (hq : 0 ≤ q ∧ q ≤ 10006) (ho : 0 ≤ o ∧ o ≤ 98) : IntKind.i64.wrap (31 * q) = 31 * q ∧ IntKind.i64.wrap (31 * q + o) = 31 * q + o ∧ (31 * q + o).tmod 10007 = (31 * q + o) % 10007 :=
  ⟨IntWalk.i64_in _ (by omega), IntWalk.i64_in _ (by omega), Int.tmod_eq_emod_of_nonneg (by omega)⟩
theorem rem99 (n : Nat) : 0 ≤ (n : Int).tmod 99 ∧ (n : Int).tmod 99 ≤ 98 := ⟨Int.tmod_nonneg _ (by omega), by have := Int.tmod_lt_of_pos (n : Int) (show (0 : Int) < 99 by omega); omega⟩
theorem own_at0 {wx : World} {k base size : Nat} {T : TypeId} (hk : wx.heap.size = k) (hb : base ≤ k) : (wx.alloc (.cells #[] T)).ownsRow base T size (.slice (some ⟨k, 0, none⟩) 0 0) 0 [] := own_of_blk (Blk.new2 hk) hb
theorem sz1 (w : World) (o : Obj) : (w.alloc o).heap.size = w.heap.size + 1 := by simp
theorem sz2 (w : World) (o p : Obj) : ((w.alloc o).alloc p).heap.size = w.heap.size + 1 + 1 := by simp
theorem sz3 (w : World) (o p q : Obj) : (((w.alloc o).alloc p).alloc q).heap.size = w.heap.size + 1 + 1 + 1 := by simp
theorem ne_own {k p : Nat} (h : p ≠ k) : some p ≠ (Value.slice (some ⟨k, 0, none⟩) 0 0).ownBlock := by
  intro e
  simp [Value.ownBlock] at e
  exact h e
/-- The longer snapshot stands in block g, its entries in a row made since. -/
structure StGot (u wx : World) (g : Nat) (N T S : Int) (A : Option Addr) (k c : Nat) (R : List En) : Prop where
  blk : Blk wx g 25 #[.int .i64 N, .int .i64 T, .int .i64 S, .slice A k c]
  rd : Rd wx u.heap.size wx.heap.size 2 A k (pvs R)
  bel : Below u.heap.size u wx
theorem st_below {u v : World} {g : Nat} {N T S : Int} {A : Option Addr} {k c : Nat} (hv : Below u.heap.size u v) (hg : u.heap.size ≤ g) : Below u.heap.size u ((((v.setCell ⟨g, 0, none⟩ (.int .i64 N)).setCell ⟨g, 1, none⟩ (.int .i64 T)).setCell ⟨g, 2, none⟩ (.int .i64 S)).setCell ⟨g, 3, none⟩ (.slice A k c)) :=
  (((hv.setCell (p := ⟨g, 0, none⟩) hg _).setCell (p := ⟨g, 1, none⟩) hg _).setCell (p := ⟨g, 2, none⟩) hg _).setCell (p := ⟨g, 3, none⟩) hg _
theorem StGot.last {u v : World} {N T S : Int} {A : Option Addr} {k c : Nat} {R : List En} (ho : v.ownsRow u.heap.size 31 2 (.slice A k c) k (pvs R)) (hv : Below u.heap.size u v) :
    StGot u (v.alloc (.cells #[.int .i64 N, .int .i64 T, .int .i64 S, .slice A k c] 25)) v.heap.size N T S A k c R :=
  ⟨Blk.new _ _ _, Rd.of_own (ho.alloc _), up_alloc hv _⟩
theorem StGot.early {u v : World} {g : Nat} {N T S : Int} {A : Option Addr} {k c : Nat} {R : List En} (hE : Blk v g 25 #[.int .i64 0, .int .i64 0, .int .i64 0, .slice none 0 0]) (ho : v.ownsRow u.heap.size 31 2 (.slice A k c) k (pvs R)) (hne : ∀ j, (Value.slice A k c).ownBlock = some j → j ≠ g) (hg : u.heap.size ≤ g) (hv : Below u.heap.size u v) :
    StGot u ((((v.setCell ⟨g, 0, none⟩ (.int .i64 N)).setCell ⟨g, 1, none⟩ (.int .i64 T)).setCell ⟨g, 2, none⟩ (.int .i64 S)).setCell ⟨g, 3, none⟩ (.slice A k c)) g N T S A k c R :=
  ⟨by simpa using (((hE.put 0 (.int .i64 N)).put 1 (.int .i64 T)).put 2 (.int .i64 S)).put 3 (.slice A k c),
   Rd.of_own (own_set (p := ⟨g, 3, none⟩) (own_set (p := ⟨g, 2, none⟩) (own_set (p := ⟨g, 1, none⟩) (own_set (p := ⟨g, 0, none⟩) ho _ hne) _ hne) _ hne) _ hne), st_below hv hg⟩
end Go.Proofs.Ythoccppfedmcjaa
