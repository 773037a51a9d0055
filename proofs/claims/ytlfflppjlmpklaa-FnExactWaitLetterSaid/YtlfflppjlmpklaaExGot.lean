/- What a region leaves that makes a post office and lays it into a block: in whatever order. -/
import Derived.Test.YtlfflppjlmpklaaExPostC
import Derived.Test.YtlfflppjlmpklaaExMarkPost
import Derived.Test.YtlfflppjlmpklaaSendS
import Derived.Test.YtlfflppjlmpklaaDelRun
import Derived.Deep.CutRange
set_option linter.unusedSimpArgs false
set_option linter.unusedVariables false
namespace Go.Proofs.Ytlfflppjlmpklaa
open Go.RowKit

/-- A post office lies in block g; its rows lie between lo and hi, apart, and block g is none of them. -/
structure Got (wj : World) (d1 d2 : List Tri) (g : Nat) (A1 : Option Addr) (n1 c1 : Nat) (A2 : Option Addr) (n2 c2 lo hi : Nat) (wx : World) : Prop where
  hlo : wj.heap.size ≤ lo
  hhi : hi ≤ wx.heap.size
  hle : lo ≤ hi
  hoff : g < lo ∨ hi ≤ g
  at_ : wj.heap.size ≤ g
  box : Blk wx g 26 #[.slice A1 n1 c1, .slice A2 n2 c2]
  rows : CopyRows lo d1 d2 n1 n2 (.slice A1 n1 c1) (.slice A2 n2 c2) wx
  b1 : ∀ q, (Value.slice A1 n1 c1).ownBlock = some q → q < hi
  b2 : ∀ q, (Value.slice A2 n2 c2).ownBlock = some q → q < hi
  bel : Below wj.heap.size wj wx
theorem CopyRows.kept {w w' : World} {base : Nat} {ns fs : List Tri} {n1 n2 : Nat} {v1 v2 : Value} (h : CopyRows base ns fs n1 n2 v1 v2 w) {row : Option Nat} (hg : w.grownBy w' row) (h1 : ∀ q, v1.ownBlock = some q → row ≠ some q) (h2 : ∀ q, v2.ownBlock = some q → row ≠ some q) : CopyRows base ns fs n1 n2 v1 v2 w' :=
  ⟨h.1.kept hg (by
    cases hv : v1.ownBlock with
    | none => exact .inl rfl
    | some k => exact .inr fun e => h1 k hv e.symm), h.2.1.kept hg (by
    cases hv : v2.ownBlock with
    | none => exact .inl rfl
    | some k => exact .inr fun e => h2 k hv e.symm), h.2.2⟩
/-- The block is made behind the call. -/
theorem Got.last {wj wc : World} {d1 d2 : List Tri} {A1 A2 : Option Addr} {n1 c1 n2 c2 base : Nat} (h : CopyRows base d1 d2 n1 n2 (.slice A1 n1 c1) (.slice A2 n2 c2) wc) (hj : wj.heap.size ≤ base) (hb : base ≤ wc.heap.size) (hbel : Below wj.heap.size wj wc) :
    Got wj d1 d2 wc.heap.size A1 n1 c1 A2 n2 c2 base wc.heap.size (wc.alloc (.cells #[.slice A1 n1 c1, .slice A2 n2 c2] 26)) :=
  ⟨hj, by simp, hb, .inr (Nat.le_refl _), Nat.le_trans hj hb, Blk.new _ _ _,
    ⟨own_keep h.1 (up_alloc (Below.refl _ _) _), own_keep h.2.1 (up_alloc (Below.refl _ _) _), h.2.2⟩, fun q hq => (h.1.lt q hq).2, fun q hq => (h.2.1.lt q hq).2, up_alloc hbel _⟩
/-- The block was made ahead of the call. -/
theorem Got.early {wj wc : World} {d1 d2 : List Tri} {A1 A2 : Option Addr} {n1 c1 n2 c2 base g : Nat} {z0 z1 : Value} (h : CopyRows base d1 d2 n1 n2 (.slice A1 n1 c1) (.slice A2 n2 c2) wc) (hG : Blk wc g 26 #[z0, z1]) (hj : wj.heap.size ≤ g) (hg : g < base) (hb : base ≤ wc.heap.size) (hbel : Below wj.heap.size wj wc) :
    Got wj d1 d2 g A1 n1 c1 A2 n2 c2 base wc.heap.size ((wc.setCell ⟨g, 0, none⟩ (.slice A1 n1 c1)).setCell ⟨g, 1, none⟩ (.slice A2 n2 c2)) := by
  have ne1 : ∀ q, (Value.slice A1 n1 c1).ownBlock = some q → q ≠ g := fun q hq => by have := (h.1.lt q hq).1; omega
  have ne2 : ∀ q, (Value.slice A2 n2 c2).ownBlock = some q → q ≠ g := fun q hq => by have := (h.2.1.lt q hq).1; omega
  refine ⟨by omega, by simp [World.setCell], hb, .inl hg, hj, ?_, ?_, fun q hq => (h.1.lt q hq).2, fun q hq => (h.2.1.lt q hq).2, (hbel.setCell (p := ⟨g, 0, none⟩) hj _).setCell (p := ⟨g, 1, none⟩) hj _⟩
  · have := (hG.put 0 (.slice A1 n1 c1)).put 1 (.slice A2 n2 c2)
    simpa using this
  · exact ⟨own_set (own_set h.1 _ ne1) _ ne1, own_set (own_set h.2.1 _ ne2) _ ne2, h.2.2⟩
/-- The rows, each by itself. -/
theorem Got.parts {wj wx : World} {d1 d2 : List Tri} {g : Nat} {A1 A2 : Option Addr} {n1 c1 n2 c2 lo hi : Nat} (h : Got wj d1 d2 g A1 n1 c1 A2 n2 c2 lo hi wx) :
    ∃ l1 u1 l2 u2, lo ≤ l1 ∧ u1 ≤ hi ∧ lo ≤ l2 ∧ u2 ≤ hi ∧ (u1 ≤ l2 ∨ u2 ≤ l1) ∧ Rd wx l1 u1 3 A1 n1 (tvs d1) ∧ Soft wx 3 A1 n1 ∧ Rd wx l2 u2 3 A2 n2 (tvs d2) ∧ Soft wx 3 A2 n2 := by
  have hlw : lo ≤ wx.heap.size := Nat.le_trans h.hle h.hhi
  obtain ⟨l1, u1, a1, a2, a3, a4, a5⟩ := rd_own_at h.rows.1 hlw
  obtain ⟨l2, u2, b1, b2, b3, b4, b5⟩ := rd_own_at h.rows.2.1 hlw
  have e1 : u1 ≤ hi := by
    rcases a5 with ⟨_, k⟩ | ⟨k1, k2⟩
    · have := h.hle; omega
    · have := h.b1 _ k1; omega
  have e2 : u2 ≤ hi := by
    rcases b5 with ⟨_, k⟩ | ⟨k1, k2⟩
    · have := h.hle; omega
    · have := h.b2 _ k1; omega
  refine ⟨l1, u1, l2, u2, a1, e1, b1, e2, ?_, a3, a4, b3, b4⟩
  rcases a5 with ⟨h1, h2⟩ | ⟨h1, h2⟩
  · exact .inl (by omega)
  · rcases b5 with ⟨k1, k2⟩ | ⟨k1, k2⟩
    · exact .inr (by omega)
    · have : l1 ≠ l2 := fun e => h.rows.2.2 l1 h1 (by rw [e]; exact k1)
      omega
end Go.Proofs.Ytlfflppjlmpklaa
