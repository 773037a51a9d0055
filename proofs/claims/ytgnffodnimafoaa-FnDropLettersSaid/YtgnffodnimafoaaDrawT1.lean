/- Drawing post offices: how the function stands. -/
import Derived.Test.YtgnffodnimafoaaDrawT0
import Derived.Test.YtgnffodnimafoaaSendT
import Derived.Deep.CutRange
set_option linter.unusedSimpArgs false
set_option linter.unusedVariables false
namespace Go.Proofs.Ytgnffodnimafoaa
open Go.RowKit

/-- The post office x lies in block xb, its rows apart and none of them xb; the reader below; the result's block as it was made. -/
structure Ps (w0 w : World) (r : Nat) (A : Option Addr) (n c : Nat) (xs : List Int) (p : Int) (xb : Nat) (A1 : Option Addr) (n1 c1 : Nat) (A2 : Option Addr) (n2 c2 : Nat) (ns fs : List Tri) : Prop where
  rdr : Rdr w r A n c xs p
  res : Blk w w0.heap.size 26 #[.slice none 0 0, .slice none 0 0]
  box : Blk w xb 26 #[.slice A1 n1 c1, .slice A2 n2 c2]
  rows : CopyRows (w0.heap.size + 1) ns fs n1 n2 (.slice A1 n1 c1) (.slice A2 n2 c2) w
  ne1 : ∀ q, (Value.slice A1 n1 c1).ownBlock = some q → q ≠ xb
  ne2 : ∀ q, (Value.slice A2 n2 c2).ownBlock = some q → q ≠ xb
  but : But r w0 w
  hr : r < w0.heap.size
  hx : w0.heap.size < xb
section
variable {w0 w w' : World} {r : Nat} {A : Option Addr} {n c : Nat} {xs : List Int} {p p' : Int} {xb : Nat} {A1 A2 : Option Addr} {n1 c1 n2 c2 : Nat} {ns fs : List Tri}
theorem CopyRows.under {w w' : World} {base : Nat} {ns fs : List Tri} {n1 n2 : Nat} {v1 v2 : Value} (h : CopyRows base ns fs n1 n2 v1 v2 w) (hb : Below w.heap.size w w') : CopyRows base ns fs n1 n2 v1 v2 w' := ⟨own_keep h.1 hb, own_keep h.2.1 hb, h.2.2⟩
theorem CopyRows.but {w w' : World} {base r : Nat} {ns fs : List Tri} {n1 n2 : Nat} {v1 v2 : Value} (h : CopyRows base ns fs n1 n2 v1 v2 w) (hG : But r w w') (hr : r < base) : CopyRows base ns fs n1 n2 v1 v2 w' := ⟨own_but h.1 hG hr, own_but h.2.1 hG hr, h.2.2⟩
theorem CopyRows.base {w : World} {base b' : Nat} {ns fs : List Tri} {n1 n2 : Nat} {v1 v2 : Value} (h : CopyRows base ns fs n1 n2 v1 v2 w) (hb : b' ≤ base) : CopyRows b' ns fs n1 n2 v1 v2 w := ⟨own_base h.1 hb, own_base h.2.1 hb, h.2.2⟩
theorem CopyRows.set {w : World} {base : Nat} {ns fs : List Tri} {n1 n2 : Nat} {v1 v2 : Value} (h : CopyRows base ns fs n1 n2 v1 v2 w) {q : Addr} (u : Value) (h1 : ∀ g, v1.ownBlock = some g → g ≠ q.block) (h2 : ∀ g, v2.ownBlock = some g → g ≠ q.block) : CopyRows base ns fs n1 n2 v1 v2 (w.setCell q u) := ⟨own_set h.1 u h1, own_set h.2.1 u h2, h.2.2⟩
theorem Ps.below (h : Ps w0 w r A n c xs p xb A1 n1 c1 A2 n2 c2 ns fs) (hb : Below w.heap.size w w') : Ps w0 w' r A n c xs p xb A1 n1 c1 A2 n2 c2 ns fs :=
  ⟨h.rdr.below hb, h.res.below hb h.res.lt, h.box.below hb h.box.lt, h.rows.under hb, h.ne1, h.ne2, but_below h.but hb, h.hr, h.hx⟩
/-- Behind a call that took numbers from the reader. -/
theorem Ps.drawn (h : Ps w0 w r A n c xs p xb A1 n1 c1 A2 n2 c2 ns fs) (hR : Rdr w' r A n c xs p') (hG : But r w w') : Ps w0 w' r A n c xs p' xb A1 n1 c1 A2 n2 c2 ns fs :=
  ⟨hR, h.res.but hG (by have := h.hr; omega), h.box.but hG (by have := h.hr; have := h.hx; omega), h.rows.but hG (by have := h.hr; omega), h.ne1, h.ne2, but_trans h.but hG, h.hr, h.hx⟩
theorem Ps.len1 (h : Ps w0 w r A n c xs p xb A1 n1 c1 A2 n2 c2 ns fs) : ns.length = n1 := by have := h.rows.1.1; rw [tvs_length] at this; omega
theorem Ps.len2 (h : Ps w0 w r A n c xs p xb A1 n1 c1 A2 n2 c2 ns fs) : fs.length = n2 := by have := h.rows.2.1.1; rw [tvs_length] at this; omega
theorem Ps.cap1 (h : Ps w0 w r A n c xs p xb A1 n1 c1 A2 n2 c2 ns fs) : n1 ≤ c1 := by obtain ⟨_, _, e, hc, _⟩ := own_cap h.rows.1; cases e; exact hc
theorem Ps.cap2 (h : Ps w0 w r A n c xs p xb A1 n1 c1 A2 n2 c2 ns fs) : n2 ≤ c2 := by obtain ⟨_, _, e, hc, _⟩ := own_cap h.rows.2.1; cases e; exact hc
/-- The reference's SendLetter on it, in any world behind. -/
theorem Ps.send (h : Ps w0 w r A n c xs p xb A1 n1 c1 A2 n2 c2 ns fs) (h1 : n1 ≤ 20) (h2 : n2 ≤ 20) (x0 x1 x2 : Int) {d1 d2 : List Tri} {k : Int} {b : Bool} (hR : sendOf ns fs (x0, x1, x2) = ((d1, d2), k, b)) :
    Calls Try.prog 20 #[.agg #[.slice A1 n1 c1, .slice A2 n2 c2], .agg #[.int .i64 x0, .int .i64 x1, .int .i64 x2]] w (PostRes (d1, d2) (.int .i64 k) b w) := by
  have := SendLetterS_any _ _ n1 c1 A1 ns _ _ n2 c2 A2 fs x0 x1 x2 w (Rd.of_own h.rows.1) (Nat.le_refl _) (by omega) (Rd.of_own h.rows.2.1) (Nat.le_refl _) (by omega) h.cap1 h.cap2
  rw [hR] at this
  exact this
theorem Ps.wait (h : Ps w0 w r A n c xs p xb A1 n1 c1 A2 n2 c2 ns fs) (h1 : n1 ≤ 20) (h2 : n2 ≤ 20) (x0 x1 x2 : Int) {d1 d2 : List Tri} {k : Bool} {b : Bool} (hR : waitOf ns fs (x0, x1, x2) = ((d1, d2), k, b)) :
    Calls Try.prog 26 #[.agg #[.slice A1 n1 c1, .slice A2 n2 c2], .agg #[.int .i64 x0, .int .i64 x1, .int .i64 x2]] w (PostRes (d1, d2) (.bool k) b w) := by
  have := WaitLetterS_any _ _ n1 c1 A1 ns _ _ n2 c2 A2 fs x0 x1 x2 w (Rd.of_own h.rows.1) (Nat.le_refl _) (by omega) (Rd.of_own h.rows.2.1) (Nat.le_refl _) (by omega) h.cap1 h.cap2
  rw [hR] at this
  exact this
/-- The next post office lies in block g, its rows above what was there. -/
structure Nx (w0 w : World) (xb g : Nat) (A1 : Option Addr) (n1 c1 : Nat) (A2 : Option Addr) (n2 c2 : Nat) (d1 d2 : List Tri) : Prop where
  box : Blk w g 26 #[.slice A1 n1 c1, .slice A2 n2 c2]
  rows : CopyRows (w0.heap.size + 1) d1 d2 n1 n2 (.slice A1 n1 c1) (.slice A2 n2 c2) w
  ne1 : ∀ q, (Value.slice A1 n1 c1).ownBlock = some q → q ≠ xb ∧ q ≠ g
  ne2 : ∀ q, (Value.slice A2 n2 c2).ownBlock = some q → q ≠ xb ∧ q ≠ g
  hg : w0.heap.size < g
  hne : g ≠ xb
  l1 : d1.length ≤ 10
  l2 : d2.length ≤ 10
theorem Nx.drawn {B1 B2 : Option Addr} {m1 e1 m2 e2 g : Nat} {d1 d2 : List Tri} (h : Nx w0 w xb g B1 m1 e1 B2 m2 e2 d1 d2) (hr : r < w0.heap.size) (hG : But r w w') : Nx w0 w' xb g B1 m1 e1 B2 m2 e2 d1 d2 :=
  ⟨h.box.but hG (by have := h.hg; omega), h.rows.but hG (by omega), h.ne1, h.ne2, h.hg, h.hne, h.l1, h.l2⟩
theorem Nx.below {B1 B2 : Option Addr} {m1 e1 m2 e2 g : Nat} {d1 d2 : List Tri} (h : Nx w0 w xb g B1 m1 e1 B2 m2 e2 d1 d2) (hb : Below w.heap.size w w') : Nx w0 w' xb g B1 m1 e1 B2 m2 e2 d1 d2 :=
  ⟨h.box.below hb h.box.lt, h.rows.under hb, h.ne1, h.ne2, h.hg, h.hne, h.l1, h.l2⟩
/-- The block is made behind the call. -/
theorem Nx.last {wc : World} {B1 B2 : Option Addr} {m1 e1 m2 e2 base : Nat} {d1 d2 : List Tri} (h : CopyRows base d1 d2 m1 m2 (.slice B1 m1 e1) (.slice B2 m2 e2) wc) (hb : xb < base) (hbw : base ≤ wc.heap.size) (hx : w0.heap.size < xb) (l1 : d1.length ≤ 10) (l2 : d2.length ≤ 10) :
    Nx w0 (wc.alloc (.cells #[.slice B1 m1 e1, .slice B2 m2 e2] 26)) xb wc.heap.size B1 m1 e1 B2 m2 e2 d1 d2 :=
  ⟨Blk.new _ _ _, (h.under (up_alloc (Below.refl _ _) _)).base (by omega), fun q hq => by have := h.1.lt q hq; omega, fun q hq => by have := h.2.1.lt q hq; omega, by omega, by omega, l1, l2⟩
/-- The block was made ahead of the call. -/
theorem Nx.early {wc : World} {B1 B2 : Option Addr} {m1 e1 m2 e2 base g : Nat} {d1 d2 : List Tri} {z0 z1 : Value} (h : CopyRows base d1 d2 m1 m2 (.slice B1 m1 e1) (.slice B2 m2 e2) wc) (hG : Blk wc g 26 #[z0, z1]) (hb : xb < g) (hg : g < base) (hx : w0.heap.size < xb) (l1 : d1.length ≤ 10) (l2 : d2.length ≤ 10) :
    Nx w0 ((wc.setCell ⟨g, 0, none⟩ (.slice B1 m1 e1)).setCell ⟨g, 1, none⟩ (.slice B2 m2 e2)) xb g B1 m1 e1 B2 m2 e2 d1 d2 := by
  have n1 : ∀ q, (Value.slice B1 m1 e1).ownBlock = some q → q ≠ g := fun q hq => by have := (h.1.lt q hq).1; omega
  have n2 : ∀ q, (Value.slice B2 m2 e2).ownBlock = some q → q ≠ g := fun q hq => by have := (h.2.1.lt q hq).1; omega
  refine ⟨?_, ((h.set _ n1 n2).set _ n1 n2).base (by omega), fun q hq => ⟨by have := (h.1.lt q hq).1; omega, n1 q hq⟩, fun q hq => ⟨by have := (h.2.1.lt q hq).1; omega, n2 q hq⟩, by omega, by omega, l1, l2⟩
  have := (hG.put 0 (.slice B1 m1 e1)).put 1 (.slice B2 m2 e2)
  simpa using this
/-- A store into a block made since. -/
theorem Ps.off (h : Ps w0 w r A n c xs p xb A1 n1 c1 A2 n2 c2 ns fs) {q : Addr} (u : Value) (hx : xb < q.block) (h1 : ∀ g, (Value.slice A1 n1 c1).ownBlock = some g → g ≠ q.block) (h2 : ∀ g, (Value.slice A2 n2 c2).ownBlock = some g → g ≠ q.block) : Ps w0 (w.setCell q u) r A n c xs p xb A1 n1 c1 A2 n2 c2 ns fs :=
  ⟨rdr_set h.rdr (by have := h.hr; have := h.hx; omega) u, h.res.far (by have := h.hx; omega) u, h.box.far (by omega) u, h.rows.set u h1 h2, h.ne1, h.ne2, but_put h.but (.inr (by have := h.hx; omega)) u, h.hr, h.hx⟩
/-- The next one is taken over. -/
theorem Ps.take {g : Nat} {B1 B2 : Option Addr} {m1 e1 m2 e2 : Nat} {d1 d2 : List Tri} (h : Ps w0 w r A n c xs p xb A1 n1 c1 A2 n2 c2 ns fs) (k : Nx w0 w xb g B1 m1 e1 B2 m2 e2 d1 d2) :
    Ps w0 ((w.setCell ⟨xb, 0, none⟩ (.slice B1 m1 e1)).setCell ⟨xb, 1, none⟩ (.slice B2 m2 e2)) r A n c xs p xb B1 m1 e1 B2 m2 e2 d1 d2 := by
  have hrx : r < xb := by have := h.hr; have := h.hx; omega
  refine ⟨rdr_set (rdr_set h.rdr (q := ⟨xb, 0, none⟩) hrx _) (q := ⟨xb, 1, none⟩) hrx _, (h.res.far (p := ⟨xb, 0, none⟩) (by have := h.hx; show _ ≠ xb; omega) _).far (p := ⟨xb, 1, none⟩) (by have := h.hx; show _ ≠ xb; omega) _, ?_, (k.rows.set _ (fun q hq => (k.ne1 q hq).1) (fun q hq => (k.ne2 q hq).1)).set _ (fun q hq => (k.ne1 q hq).1) (fun q hq => (k.ne2 q hq).1),
    fun q hq => (k.ne1 q hq).1, fun q hq => (k.ne2 q hq).1, but_put (but_put h.but (p := ⟨xb, 0, none⟩) (.inr (by have := h.hx; show _ ≤ xb; omega)) _) (p := ⟨xb, 1, none⟩) (.inr (by have := h.hx; show _ ≤ xb; omega)) _, h.hr, h.hx⟩
  have := (h.box.put 0 (.slice B1 m1 e1)).put 1 (.slice B2 m2 e2)
  simpa using this
/-- A row more: the slice appended to is laid into its cell. -/
theorem Ps.more1 {B : Option Addr} {m e : Nat} {ns' : List Tri} (h : Ps w0 w r A n c xs p xb A1 n1 c1 A2 n2 c2 ns fs) (ho : w'.ownsRow (w0.heap.size + 1) 42 3 (.slice B m e) m (tvs ns')) (hg : w.grownBy w' (Value.slice A1 n1 c1).ownBlock)
    (hl : (Value.slice B m e).ownBlock = (Value.slice A1 n1 c1).ownBlock ∨ (Value.slice B m e).ownBlock = some w.heap.size) : Ps w0 (w'.setCell ⟨xb, 0, none⟩ (.slice B m e)) r A n c xs p xb B m e A2 n2 c2 ns' fs := by
  have hrx : r < xb := by have := h.hr; have := h.hx; omega
  have hro : ∀ k, (Value.slice A1 n1 c1).ownBlock = some k → w0.heap.size + 1 ≤ k ∧ k < w.heap.size := fun k hk => h.rows.1.lt k hk
  have hn : ∀ q, (Value.slice B m e).ownBlock = some q → q ≠ xb ∧ (Value.slice A2 n2 c2).ownBlock ≠ some q := fun q hq => by
    rcases hl with k | k
    · rw [k] at hq
      exact ⟨h.ne1 q hq, fun h1 => h.rows.2.2 q hq h1⟩
    · rw [k] at hq
      injection hq with hq
      exact ⟨by have := h.box.lt; omega, fun h1 => by have := (h.rows.2.1.lt q h1).2; omega⟩
  have hoth := h.rows.2.1.kept hg (by
    cases hv : (Value.slice A2 n2 c2).ownBlock with
    | none => exact .inl rfl
    | some k => exact .inr fun hk => h.rows.2.2 k hk.symm hv)
  have hR : Rdr w' r A n c xs p := rdr_grown h.rdr h.rows.1 hg (by have := h.hr; omega)
  have hG : But r w0 w' := ⟨hg.os.trans h.but.os, hg.tape.trans h.but.tape, hg.output.trans h.but.output, Nat.le_trans h.but.size hg.size, fun i hi hne => (hg.block i (Nat.lt_of_lt_of_le hi h.but.size) (fun e => by have := (hro i e.symm).1; omega)).trans (h.but.block i hi hne)⟩
  have hbx := h.box.grown hg (fun e => h.ne1 _ e.symm rfl)
  have hrs := h.res.grown hg (fun e => by have := (hro _ e.symm).1; omega)
  refine ⟨rdr_set hR (q := ⟨xb, 0, none⟩) hrx _, hrs.far (p := ⟨xb, 0, none⟩) (by have := h.hx; show _ ≠ xb; omega) _, ?_, ⟨own_set ho _ (fun q hq => (hn q hq).1), own_set hoth _ h.ne2, fun q h1 h2 => (hn q h1).2 h2⟩, fun q hq => (hn q hq).1, h.ne2, but_put hG (p := ⟨xb, 0, none⟩) (.inr (by have := h.hx; show _ ≤ xb; omega)) _, h.hr, h.hx⟩
  have := hbx.put 0 (.slice B m e)
  simpa using this
/-- A row more: the slice appended to is laid into its cell. -/
theorem Ps.more2 {B : Option Addr} {m e : Nat} {fs' : List Tri} (h : Ps w0 w r A n c xs p xb A1 n1 c1 A2 n2 c2 ns fs) (ho : w'.ownsRow (w0.heap.size + 1) 33 3 (.slice B m e) m (tvs fs')) (hg : w.grownBy w' (Value.slice A2 n2 c2).ownBlock)
    (hl : (Value.slice B m e).ownBlock = (Value.slice A2 n2 c2).ownBlock ∨ (Value.slice B m e).ownBlock = some w.heap.size) : Ps w0 (w'.setCell ⟨xb, 1, none⟩ (.slice B m e)) r A n c xs p xb A1 n1 c1 B m e ns fs' := by
  have hrx : r < xb := by have := h.hr; have := h.hx; omega
  have hro : ∀ k, (Value.slice A2 n2 c2).ownBlock = some k → w0.heap.size + 1 ≤ k ∧ k < w.heap.size := fun k hk => h.rows.2.1.lt k hk
  have hn : ∀ q, (Value.slice B m e).ownBlock = some q → q ≠ xb ∧ (Value.slice A1 n1 c1).ownBlock ≠ some q := fun q hq => by
    rcases hl with k | k
    · rw [k] at hq
      exact ⟨h.ne2 q hq, fun h1 => h.rows.2.2 q h1 hq⟩
    · rw [k] at hq
      injection hq with hq
      exact ⟨by have := h.box.lt; omega, fun h1 => by have := (h.rows.1.lt q h1).2; omega⟩
  have hoth := h.rows.1.kept hg (by
    cases hv : (Value.slice A1 n1 c1).ownBlock with
    | none => exact .inl rfl
    | some k => exact .inr fun hk => h.rows.2.2 k hv hk.symm)
  have hR : Rdr w' r A n c xs p := rdr_grown h.rdr h.rows.2.1 hg (by have := h.hr; omega)
  have hG : But r w0 w' := ⟨hg.os.trans h.but.os, hg.tape.trans h.but.tape, hg.output.trans h.but.output, Nat.le_trans h.but.size hg.size, fun i hi hne => (hg.block i (Nat.lt_of_lt_of_le hi h.but.size) (fun e => by have := (hro i e.symm).1; omega)).trans (h.but.block i hi hne)⟩
  have hbx := h.box.grown hg (fun e => h.ne2 _ e.symm rfl)
  have hrs := h.res.grown hg (fun e => by have := (hro _ e.symm).1; omega)
  refine ⟨rdr_set hR (q := ⟨xb, 1, none⟩) hrx _, hrs.far (p := ⟨xb, 1, none⟩) (by have := h.hx; show _ ≠ xb; omega) _, ?_, ⟨own_set hoth _ h.ne1, own_set ho _ (fun q hq => (hn q hq).1), fun q h1 h2 => (hn q h2).2 h1⟩, h.ne1, fun q hq => (hn q hq).1, but_put hG (p := ⟨xb, 1, none⟩) (.inr (by have := h.hx; show _ ≤ xb; omega)) _, h.hr, h.hx⟩
  have := hbx.put 1 (.slice B m e)
  simpa using this
end
end Go.Proofs.Ytgnffodnimafoaa
