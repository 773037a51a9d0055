/- The drawing of processes: what a process in memory of the call's own is. -/
import Derived.Test.YthlcbdjjegageaaDraw3
import Derived.Test.YthlcbdjjegageaaProcMem
import Derived.Test.YthlcbdjjegageaaAppRd
namespace Go.Proofs.Ythlcbdjjegageaa
open Go.RowKit

/-- The row of the value does not lie between the blocks. -/
def Off (v : Value) (l u : Nat) : Prop := ∀ g, v.ownBlock = some g → g < l ∨ u ≤ g
/-- Only such blocks of what was there may have changed. -/
structure Low (Bad : Nat → Prop) (w w' : World) : Prop where
  size : w.heap.size ≤ w'.heap.size
  block : ∀ i, i < w.heap.size → ¬ Bad i → w'.heap[i]? = w.heap[i]?
theorem low_grown {Bad : Nat → Prop} {w w' : World} {row : Option Nat} (h : w.grownBy w' row) (hr : ∀ j, row = some j → Bad j) : Low Bad w w' :=
  ⟨h.size, fun i hi hb => h.block i hi fun e => hb (hr i e.symm)⟩
theorem low_but {Bad : Nat → Prop} {r : Nat} {w w' : World} (h : But r w w') (hr : Bad r) : Low Bad w w' := low_grown h fun j e => by injection e with e; subst e; exact hr
theorem low_below {Bad : Nat → Prop} {w w' : World} (h : Below w.heap.size w w') : Low Bad w w' := ⟨h.size, fun i hi _ => h.block i hi⟩
theorem low_set {Bad : Nat → Prop} (w : World) (p : Addr) (u : Value) (hb : Bad p.block) : Low Bad w (w.setCell p u) :=
  ⟨by simp [World.setCell], fun i _ hi => Below.heap_setCell w p u i (by rintro rfl; exact hi hb)⟩
theorem own_same {w w' : World} {base : Nat} {e : TypeId} {size : Nat} {v : Value} {n : Nat} {xs : List Value} (h : w.ownsRow base e size v n xs) (hs : ∀ g, v.ownBlock = some g → w'.heap[g]? = w.heap[g]?) : w'.ownsRow base e size v n xs := by
  rcases h with ⟨h1, h2 | ⟨g, cap, cur, hv, hb, hh, r⟩⟩
  · exact ⟨h1, .inl h2⟩
  · exact ⟨h1, .inr ⟨g, cap, cur, hv, hb, (hs g (by rw [hv]; rfl)).trans hh, r⟩⟩
theorem own_low {Bad : Nat → Prop} {w w' : World} {base : Nat} {e : TypeId} {size : Nat} {v : Value} {n : Nat} {xs : List Value} (h : w.ownsRow base e size v n xs) (hv : ∀ g, v.ownBlock = some g → ¬ Bad g) (hl : Low Bad w w') : w'.ownsRow base e size v n xs :=
  own_same h fun g hg => hl.block g (h.lt g hg).2 (hv g hg)
theorem rd_low {Bad : Nat → Prop} {w w' : World} {l u size n : Nat} {A : Option Addr} {xs : List Value} (h : Rd w l u size A n xs) (hl : Low Bad w w') (hd : ∀ b, Bad b → b < l ∨ u ≤ b) (h2 : u ≤ w.heap.size) : Rd w' l u size A n xs :=
  ⟨h.1, fun hn => by
    obtain ⟨b, off, e, q1, q2, hc⟩ := h.2 hn
    exact ⟨b, off, e, q1, q2, fun j v hv => (World.cell?_of_block (w := w) (a := ⟨b, off + j, none⟩) (hl.block b (by omega) (fun hb => by have := hd b hb; omega))).trans (hc j v hv)⟩⟩

/-- A condition of a flow: where it lies, and that the two rows do not lie there. -/
def Wh (w : World) (Bad : Nat → Prop) (vn vf : Value) (h : Hd) (ps : List (Int × Int)) : Prop :=
  ∃ l u, u ≤ w.heap.size ∧ (∀ b, Bad b → b < l ∨ u ≤ b) ∧ Rd w l u 2 h.1 h.2.1 (pvs ps) ∧ h.2.1 ≤ 16 ∧ Off vn l u ∧ Off vf l u
/-- A process: its nodes and its flows each in a row of the call's own, apart from one another and from the bad blocks. -/
def Prc (w : World) (Bad : Nat → Prop) (vn vf : Value) (ns : List (Int × Int)) (fs : List Flw) : Prop :=
  w.ownsRow 0 32 2 vn ns.length (pvs ns) ∧ (vn.ownBlock = none ∨ vn.ownBlock ≠ vf.ownBlock) ∧ (∀ g, vn.ownBlock = some g → ¬ Bad g) ∧ (∀ g, vf.ownBlock = some g → ¬ Bad g) ∧
  ∃ hs : List Hd, hs.length = fs.length ∧ w.ownsRow 0 40 3 vf fs.length (fvs fs hs) ∧ ∀ (k : Nat) (f : Flw) (h : Hd), fs[k]? = some f → hs[k]? = some h → Wh w Bad vn vf h f.2.2

theorem Wh.low {Bad : Nat → Prop} {w w' : World} {vn vf : Value} {h : Hd} {ps : List (Int × Int)} (k : Wh w Bad vn vf h ps) (hl : Low Bad w w') : Wh w' Bad vn vf h ps := by
  obtain ⟨l, u, h1, h2, h3, h4⟩ := k
  exact ⟨l, u, Nat.le_trans h1 hl.size, h2, rd_low h3 hl h2 h1, h4⟩
theorem Prc.low {Bad : Nat → Prop} {w w' : World} {vn vf : Value} {ns : List (Int × Int)} {fs : List Flw} (h : Prc w Bad vn vf ns fs) (hl : Low Bad w w') : Prc w' Bad vn vf ns fs := by
  obtain ⟨h1, h2, b1, b2, hs, h3, h4, h5⟩ := h
  exact ⟨own_low h1 b1 hl, h2, b1, b2, hs, h3, own_low h4 b2 hl, fun k f x e e' => (h5 k f x e e').low hl⟩
theorem Prc.but {Bad : Nat → Prop} {w w' : World} {r : Nat} {vn vf : Value} {ns : List (Int × Int)} {fs : List Flw} (h : Prc w Bad vn vf ns fs) (hG : But r w w') (hr : Bad r) : Prc w' Bad vn vf ns fs := h.low (low_but hG hr)
theorem Prc.below {Bad : Nat → Prop} {w w' : World} {vn vf : Value} {ns : List (Int × Int)} {fs : List Flw} (h : Prc w Bad vn vf ns fs) (hb : Below w.heap.size w w') : Prc w' Bad vn vf ns fs := h.low (low_below hb)
theorem Prc.set {Bad : Nat → Prop} {w : World} {vn vf : Value} {ns : List (Int × Int)} {fs : List Flw} (h : Prc w Bad vn vf ns fs) (p : Addr) (u : Value) (hb : Bad p.block) : Prc (w.setCell p u) Bad vn vf ns fs := h.low (low_set w p u hb)
/-- Blocks that are not there yet may be bad, too. -/
theorem Prc.more {Bad Bad' : Nat → Prop} {w : World} {vn vf : Value} {ns : List (Int × Int)} {fs : List Flw} (h : Prc w Bad vn vf ns fs) (hb : ∀ b, Bad' b → Bad b ∨ w.heap.size ≤ b) : Prc w Bad' vn vf ns fs := by
  obtain ⟨h1, h2, b1, b2, hs, h3, h4, h5⟩ := h
  refine ⟨h1, h2, fun g hg hB => ?_, fun g hg hB => ?_, hs, h3, h4, fun k f x e e' => ?_⟩
  · rcases hb g hB with q | q
    · exact b1 g hg q
    · have := (h1.lt g hg).2; omega
  · rcases hb g hB with q | q
    · exact b2 g hg q
    · have := (h4.lt g hg).2; omega
  · obtain ⟨l, u, q1, q2, q3, q4⟩ := h5 k f x e e'
    refine ⟨l, u, q1, fun b hB => ?_, q3, q4⟩
    rcases hb b hB with q | q
    · exact q2 b q
    · exact .inr (by omega)
theorem Prc.less {Bad Bad' : Nat → Prop} {w : World} {vn vf : Value} {ns : List (Int × Int)} {fs : List Flw} (h : Prc w Bad vn vf ns fs) (hb : ∀ b, Bad' b → Bad b) : Prc w Bad' vn vf ns fs := h.more fun b q => .inl (hb b q)
theorem Prc.none (w : World) (Bad : Nat → Prop) : Prc w Bad (.slice none 0 0) (.slice none 0 0) [] [] :=
  ⟨World.ownsRow_nil _ _ _ _, .inl rfl, fun g h => by simp [Value.ownBlock] at h, fun g h => by simp [Value.ownBlock] at h, [], rfl, World.ownsRow_nil _ _ _ _, fun k f h e => by simp at e⟩
/-- With other nodes, in a row of the call's own that is new. -/
theorem Prc.nodes {Bad : Nat → Prop} {w w' : World} {vn vf vn' : Value} {ns ns' : List (Int × Int)} {fs : List Flw} (h : Prc w Bad vn vf ns fs) (hb : Below w.heap.size w w') (ho : w'.ownsRow w.heap.size 32 2 vn' ns'.length (pvs ns')) (hbad : ∀ b, Bad b → b < w.heap.size) : Prc w' Bad vn' vf ns' fs := by
  obtain ⟨h1, h2, b1, b2, hs, h3, h4, h5⟩ := h
  refine ⟨own_base ho (Nat.zero_le _), ?_, fun g hg hB => by have := hbad g hB; have := (ho.lt g hg).1; omega, b2, hs, h3, own_low h4 b2 (low_below hb), fun k f x e e' => ?_⟩
  · cases hx : vn'.ownBlock with
    | none => exact .inl rfl
    | some g =>
      refine .inr fun e => ?_
      have := (ho.lt g hx).1
      have := (h4.lt g e.symm).2
      omega
  · obtain ⟨l, u, q1, q2, q3, q4, q5, q6⟩ := h5 k f x e e'
    exact ⟨l, u, Nat.le_trans q1 hb.size, q2, q3.keep hb q1, q4, fun g hg => .inr (by have := (ho.lt g hg).1; omega), q6⟩
/-- With one flow more, all in a new row. -/
theorem Prc.flow {Bad : Nat → Prop} {w w' : World} {l u : Nat} {vn vf vf' : Value} {ns : List (Int × Int)} {fs : List Flw} {x y : Int} {h0 : Hd} {ps : List (Int × Int)} {hs : List Hd} (h1 : w.ownsRow 0 32 2 vn ns.length (pvs ns)) (b1 : ∀ g, vn.ownBlock = some g → ¬ Bad g) (h3 : hs.length = fs.length)
    (h5 : ∀ (k : Nat) (f : Flw) (h : Hd), fs[k]? = some f → hs[k]? = some h → Wh w Bad vn vf h f.2.2) (hw : Rd w l u 2 h0.1 h0.2.1 (pvs ps)) (hl : ∀ b, Bad b → b < l ∨ u ≤ b) (hu : u ≤ w.heap.size) (hn : h0.2.1 ≤ 16) (hoff : Off vn l u)
    (hb : Below w.heap.size w w') (ho1 : w'.ownsRow w.heap.size 40 3 vf' (fs.length + 1) (fvs fs hs ++ [.int .i64 x, .int .i64 y, hdv h0])) (hbad : ∀ b, Bad b → b < w.heap.size) : Prc w' Bad vn vf' ns (fs ++ [(x, y, ps)]) := by
  have hoff' : ∀ a b, b ≤ w.heap.size → Off vf' a b := fun a b hb g hg => .inr (by have := (ho1.lt g hg).1; omega)
  refine ⟨own_low h1 b1 (low_below hb), ?_, b1, fun g hg hB => by have := hbad g hB; have := (ho1.lt g hg).1; omega, hs ++ [h0], by simp [h3], ?_, fun k f x e e' => ?_⟩
  · cases hx : vn.ownBlock with
    | none => exact .inl rfl
    | some g =>
      refine .inr fun e => ?_
      have := (h1.lt g hx).2
      have := (ho1.lt g e.symm).1
      omega
  · rw [fvs_snoc fs hs _ _ h3, List.length_append]
    exact own_base ho1 (Nat.zero_le _)
  · rcases Nat.lt_or_ge k fs.length with hk | hk
    · rw [List.getElem?_append_left hk] at e
      rw [List.getElem?_append_left (by omega)] at e'
      obtain ⟨a, b, q1, q2, q3, q4, q5, q6⟩ := h5 k f x e e'
      exact ⟨a, b, Nat.le_trans q1 hb.size, q2, q3.keep hb q1, q4, q5, hoff' a b q1⟩
    · rw [List.getElem?_append_right hk] at e
      rw [List.getElem?_append_right (by omega), h3] at e'
      rcases Nat.eq_zero_or_pos (k - fs.length) with h0 | h0
      · rw [h0] at e e'
        simp at e e'
        subst e; subst e'
        exact ⟨l, u, Nat.le_trans hu hb.size, hl, hw.keep hb hu, hn, hoff, hoff' l u hu⟩
      · rw [List.getElem?_eq_none (by simp; omega)] at e; cases e
/-- What the process reads as. -/
theorem Prc.reads {Bad : Nat → Prop} {w : World} {An A : Option Addr} {nn cn n c : Nat} {ns : List (Int × Int)} {fs : List Flw} (h : Prc w Bad (.slice An nn cn) (.slice A n c) ns fs) (hn : nn = ns.length) (hf : n = fs.length) : Rd w 0 w.heap.size 2 An nn (pvs ns) ∧ Fls w 0 w.heap.size A n fs := by
  subst hn; subst hf
  obtain ⟨h1, _, _, _, hs, h3, h4, h5⟩ := h
  refine ⟨Rd.of_own h1, rfl, hs, h3, Rd.of_own h4, fun k f x e e' => ?_⟩
  obtain ⟨l, u, q1, _, q3, q4, _⟩ := h5 k f x e e'
  exact ⟨q3.wide (Nat.zero_le _) q1, by omega⟩
theorem Prc.form {Bad : Nat → Prop} {w : World} {vn vf : Value} {ns : List (Int × Int)} {fs : List Flw} (h : Prc w Bad vn vf ns fs) : ∃ An cn A c, vn = .slice An ns.length cn ∧ vf = .slice A fs.length c ∧ ns.length ≤ cn ∧ fs.length ≤ c ∧ cn ≤ 9223372036854775807 ∧ c ≤ 9223372036854775807 := by
  obtain ⟨h1, _, _, _, hs, h3, h4, h5⟩ := h
  obtain ⟨An, cn, e, q1, q2⟩ := own_cap h1
  obtain ⟨A, c, e', q3, q4⟩ := own_cap h4
  exact ⟨An, cn, A, c, e, e', q1, q3, q2, q4⟩
theorem Blk.but {w w' : World} {g r : Nat} {t : TypeId} {cs : Array Value} (h : Blk w g t cs) (hG : But r w w') (hne : g ≠ r) : Blk w' g t cs := h.grown hG (by simp [hne])
end Go.Proofs.Ythlcbdjjegageaa
