/- Merged: DrawP0, DrawP1, DrawP2. -/
import Derived.Test.YtmhbfdcikdhehaaDrawC
import Derived.Test.YtmhbfdcikdhehaaBase
import Derived.Deep.RegionHeld3
import Derived.Deep.DrawnRows
/- The drawing of processes: what a process in memory of the call's own is. -/
set_option linter.unusedSimpArgs false
set_option linter.unusedVariables false
namespace Go.Proofs.Ytmhbfdcikdhehaa
open Go.RowKit

/-- The row of the value does not lie between the blocks. -/
def Off (v : Value) (l u : Nat) : Prop := ∀ g, v.ownBlock = some g → g < l ∨ u ≤ g
/-- Only such blocks of what was there may have changed. -/
structure Low (Bad : Nat → Prop) (w w' : World) : Prop where
  size : w.heap.size ≤ w'.heap.size
  block : ∀ i, i < w.heap.size → ¬ Bad i → w'.heap[i]? = w.heap[i]?
theorem low_grown {Bad : Nat → Prop} {w w' : World} {row : Option Nat} (h : w.grownBy w' row) (hr : ∀ j, row = some j → Bad j) : Low Bad w w' :=
  ⟨h.size, fun i hi hb => h.block i hi fun e => hb (hr i e.symm)⟩
theorem low_but {Bad : Nat → Prop} {r : Nat} {w w' : World} (h : But r w w') (hr : Bad r) : Low Bad w w' := low_grown h fun j e => by injection e with e; subst e; exact hr
theorem low_below {Bad : Nat → Prop} {w w' : World} (h : Below w.heap.size w w') : Low Bad w w' := ⟨h.size, fun i hi _ => h.block i hi⟩
theorem low_set {Bad : Nat → Prop} (w : World) (p : Addr) (u : Value) (hb : Bad p.block) : Low Bad w (w.setCell p u) :=
  ⟨by simp [World.setCell], fun i _ hi => Below.heap_setCell w p u i (by rintro rfl; exact hi hb)⟩
theorem own_same {w w' : World} {base : Nat} {e : TypeId} {size : Nat} {v : Value} {n : Nat} {xs : List Value} (h : w.ownsRow base e size v n xs) (hs : ∀ g, v.ownBlock = some g → w'.heap[g]? = w.heap[g]?) : w'.ownsRow base e size v n xs := by
  rcases h with ⟨h1, h2 | ⟨g, cap, cur, hv, hb, hh, r⟩⟩
  · exact ⟨h1, .inl h2⟩
  · exact ⟨h1, .inr ⟨g, cap, cur, hv, hb, (hs g (by rw [hv]; rfl)).trans hh, r⟩⟩
theorem own_low {Bad : Nat → Prop} {w w' : World} {base : Nat} {e : TypeId} {size : Nat} {v : Value} {n : Nat} {xs : List Value} (h : w.ownsRow base e size v n xs) (hv : ∀ g, v.ownBlock = some g → ¬ Bad g) (hl : Low Bad w w') : w'.ownsRow base e size v n xs :=
  own_same h fun g hg => hl.block g (h.lt g hg).2 (hv g hg)
theorem rd_low {Bad : Nat → Prop} {w w' : World} {l u size n : Nat} {A : Option Addr} {xs : List Value} (h : Rd w l u size A n xs) (hl : Low Bad w w') (hd : ∀ b, Bad b → b < l ∨ u ≤ b) (h2 : u ≤ w.heap.size) : Rd w' l u size A n xs :=
  ⟨h.1, fun hn => by
    obtain ⟨b, off, e, q1, q2, hc⟩ := h.2 hn
    exact ⟨b, off, e, q1, q2, fun j v hv => (World.cell?_of_block (w := w) (a := ⟨b, off + j, none⟩) (hl.block b (by omega) (fun hb => by have := hd b hb; omega))).trans (hc j v hv)⟩⟩

/-- A condition of a flow: where it lies, and that the two rows do not lie there. -/
def Wh (w : World) (Bad : Nat → Prop) (vn vf : Value) (h : Hd) (ps : List (Int × Int)) : Prop :=
  ∃ l u, u ≤ w.heap.size ∧ (∀ b, Bad b → b < l ∨ u ≤ b) ∧ Rd w l u 2 h.1 h.2.1 (pvs ps) ∧ h.2.1 ≤ 16 ∧ Off vn l u ∧ Off vf l u
/-- A process: its nodes and its flows each in a row of the call's own, apart from one another and from the bad blocks. -/
def Prc (w : World) (Bad : Nat → Prop) (vn vf : Value) (ns : List (Int × Int)) (fs : List Flw) : Prop :=
  w.ownsRow 0 42 2 vn ns.length (pvs ns) ∧ (vn.ownBlock = none ∨ vn.ownBlock ≠ vf.ownBlock) ∧ (∀ g, vn.ownBlock = some g → ¬ Bad g) ∧ (∀ g, vf.ownBlock = some g → ¬ Bad g) ∧
  ∃ hs : List Hd, hs.length = fs.length ∧ w.ownsRow 0 45 3 vf fs.length (fvs fs hs) ∧ ∀ (k : Nat) (f : Flw) (h : Hd), fs[k]? = some f → hs[k]? = some h → Wh w Bad vn vf h f.2.2

theorem Wh.low {Bad : Nat → Prop} {w w' : World} {vn vf : Value} {h : Hd} {ps : List (Int × Int)} (k : Wh w Bad vn vf h ps) (hl : Low Bad w w') : Wh w' Bad vn vf h ps := by
  obtain ⟨l, u, h1, h2, h3, h4⟩ := k
  exact ⟨l, u, Nat.le_trans h1 hl.size, h2, rd_low h3 hl h2 h1, h4⟩
theorem Prc.low {Bad : Nat → Prop} {w w' : World} {vn vf : Value} {ns : List (Int × Int)} {fs : List Flw} (h : Prc w Bad vn vf ns fs) (hl : Low Bad w w') : Prc w' Bad vn vf ns fs := by
  obtain ⟨h1, h2, b1, b2, hs, h3, h4, h5⟩ := h
  exact ⟨own_low h1 b1 hl, h2, b1, b2, hs, h3, own_low h4 b2 hl, fun k f x e e' => (h5 k f x e e').low hl⟩
theorem Prc.but {Bad : Nat → Prop} {w w' : World} {r : Nat} {vn vf : Value} {ns : List (Int × Int)} {fs : List Flw} (h : Prc w Bad vn vf ns fs) (hG : But r w w') (hr : Bad r) : Prc w' Bad vn vf ns fs := h.low (low_but hG hr)
theorem Prc.below {Bad : Nat → Prop} {w w' : World} {vn vf : Value} {ns : List (Int × Int)} {fs : List Flw} (h : Prc w Bad vn vf ns fs) (hb : Below w.heap.size w w') : Prc w' Bad vn vf ns fs := h.low (low_below hb)
theorem Prc.set {Bad : Nat → Prop} {w : World} {vn vf : Value} {ns : List (Int × Int)} {fs : List Flw} (h : Prc w Bad vn vf ns fs) (p : Addr) (u : Value) (hb : Bad p.block) : Prc (w.setCell p u) Bad vn vf ns fs := h.low (low_set w p u hb)
/-- Blocks that are not there yet may be bad, too. -/
theorem Prc.more {Bad Bad' : Nat → Prop} {w : World} {vn vf : Value} {ns : List (Int × Int)} {fs : List Flw} (h : Prc w Bad vn vf ns fs) (hb : ∀ b, Bad' b → Bad b ∨ w.heap.size ≤ b) : Prc w Bad' vn vf ns fs := by
  obtain ⟨h1, h2, b1, b2, hs, h3, h4, h5⟩ := h
  refine ⟨h1, h2, fun g hg hB => ?_, fun g hg hB => ?_, hs, h3, h4, fun k f x e e' => ?_⟩
  · rcases hb g hB with q | q
    · exact b1 g hg q
    · have := (h1.lt g hg).2; omega
  · rcases hb g hB with q | q
    · exact b2 g hg q
    · have := (h4.lt g hg).2; omega
  · obtain ⟨l, u, q1, q2, q3, q4⟩ := h5 k f x e e'
    refine ⟨l, u, q1, fun b hB => ?_, q3, q4⟩
    rcases hb b hB with q | q
    · exact q2 b q
    · exact .inr (by omega)
theorem Prc.less {Bad Bad' : Nat → Prop} {w : World} {vn vf : Value} {ns : List (Int × Int)} {fs : List Flw} (h : Prc w Bad vn vf ns fs) (hb : ∀ b, Bad' b → Bad b) : Prc w Bad' vn vf ns fs := h.more fun b q => .inl (hb b q)
theorem Prc.none (w : World) (Bad : Nat → Prop) : Prc w Bad (.slice none 0 0) (.slice none 0 0) [] [] :=
  ⟨World.ownsRow_nil _ _ _ _, .inl rfl, fun g h => by simp [Value.ownBlock] at h, fun g h => by simp [Value.ownBlock] at h, [], rfl, World.ownsRow_nil _ _ _ _, fun k f h e => by simp at e⟩
/-- With other nodes, in a row of the call's own that is new. -/
theorem Prc.nodes {Bad : Nat → Prop} {w w' : World} {vn vf vn' : Value} {ns ns' : List (Int × Int)} {fs : List Flw} (h : Prc w Bad vn vf ns fs) (hb : Below w.heap.size w w') (ho : w'.ownsRow w.heap.size 42 2 vn' ns'.length (pvs ns')) (hbad : ∀ b, Bad b → b < w.heap.size) : Prc w' Bad vn' vf ns' fs := by
  obtain ⟨h1, h2, b1, b2, hs, h3, h4, h5⟩ := h
  refine ⟨own_base ho (Nat.zero_le _), ?_, fun g hg hB => by have := hbad g hB; have := (ho.lt g hg).1; omega, b2, hs, h3, own_low h4 b2 (low_below hb), fun k f x e e' => ?_⟩
  · cases hx : vn'.ownBlock with
    | none => exact .inl rfl
    | some g =>
      refine .inr fun e => ?_
      have := (ho.lt g hx).1
      have := (h4.lt g e.symm).2
      omega
  · obtain ⟨l, u, q1, q2, q3, q4, q5, q6⟩ := h5 k f x e e'
    exact ⟨l, u, Nat.le_trans q1 hb.size, q2, q3.keep hb q1, q4, fun g hg => .inr (by have := (ho.lt g hg).1; omega), q6⟩
/-- With one flow more, all in a new row. -/
theorem Prc.flow {Bad : Nat → Prop} {w w' : World} {l u : Nat} {vn vf vf' : Value} {ns : List (Int × Int)} {fs : List Flw} {x y : Int} {h0 : Hd} {ps : List (Int × Int)} {hs : List Hd} (h1 : w.ownsRow 0 42 2 vn ns.length (pvs ns)) (b1 : ∀ g, vn.ownBlock = some g → ¬ Bad g) (h3 : hs.length = fs.length)
    (h5 : ∀ (k : Nat) (f : Flw) (h : Hd), fs[k]? = some f → hs[k]? = some h → Wh w Bad vn vf h f.2.2) (hw : Rd w l u 2 h0.1 h0.2.1 (pvs ps)) (hl : ∀ b, Bad b → b < l ∨ u ≤ b) (hu : u ≤ w.heap.size) (hn : h0.2.1 ≤ 16) (hoff : Off vn l u)
    (hb : Below w.heap.size w w') (ho1 : w'.ownsRow w.heap.size 45 3 vf' (fs.length + 1) (fvs fs hs ++ [.int .i64 x, .int .i64 y, hdv h0])) (hbad : ∀ b, Bad b → b < w.heap.size) : Prc w' Bad vn vf' ns (fs ++ [(x, y, ps)]) := by
  have hoff' : ∀ a b, b ≤ w.heap.size → Off vf' a b := fun a b hb g hg => .inr (by have := (ho1.lt g hg).1; omega)
  refine ⟨own_low h1 b1 (low_below hb), ?_, b1, fun g hg hB => by have := hbad g hB; have := (ho1.lt g hg).1; omega, hs ++ [h0], by simp [h3], ?_, fun k f x e e' => ?_⟩
  · cases hx : vn.ownBlock with
    | none => exact .inl rfl
    | some g =>
      refine .inr fun e => ?_
      have := (h1.lt g hx).2
      have := (ho1.lt g e.symm).1
      omega
  · rw [fvs_snoc fs hs _ _ h3, List.length_append]
    exact own_base ho1 (Nat.zero_le _)
  · rcases Nat.lt_or_ge k fs.length with hk | hk
    · rw [List.getElem?_append_left hk] at e
      rw [List.getElem?_append_left (by omega)] at e'
      obtain ⟨a, b, q1, q2, q3, q4, q5, q6⟩ := h5 k f x e e'
      exact ⟨a, b, Nat.le_trans q1 hb.size, q2, q3.keep hb q1, q4, q5, hoff' a b q1⟩
    · rw [List.getElem?_append_right hk] at e
      rw [List.getElem?_append_right (by omega), h3] at e'
      rcases Nat.eq_zero_or_pos (k - fs.length) with h0 | h0
      · rw [h0] at e e'
        simp at e e'
        subst e; subst e'
        exact ⟨l, u, Nat.le_trans hu hb.size, hl, hw.keep hb hu, hn, hoff, hoff' l u hu⟩
      · rw [List.getElem?_eq_none (by simp; omega)] at e; cases e
/-- What the process reads as. -/
theorem Prc.reads {Bad : Nat → Prop} {w : World} {An A : Option Addr} {nn cn n c : Nat} {ns : List (Int × Int)} {fs : List Flw} (h : Prc w Bad (.slice An nn cn) (.slice A n c) ns fs) (hn : nn = ns.length) (hf : n = fs.length) : Rd w 0 w.heap.size 2 An nn (pvs ns) ∧ Fls w 0 w.heap.size A n fs := by
  subst hn; subst hf
  obtain ⟨h1, _, _, _, hs, h3, h4, h5⟩ := h
  refine ⟨Rd.of_own h1, rfl, hs, h3, Rd.of_own h4, fun k f x e e' => ?_⟩
  obtain ⟨l, u, q1, _, q3, q4, _⟩ := h5 k f x e e'
  exact ⟨q3.wide (Nat.zero_le _) q1, by omega⟩
theorem Prc.form {Bad : Nat → Prop} {w : World} {vn vf : Value} {ns : List (Int × Int)} {fs : List Flw} (h : Prc w Bad vn vf ns fs) : ∃ An cn A c, vn = .slice An ns.length cn ∧ vf = .slice A fs.length c ∧ ns.length ≤ cn ∧ fs.length ≤ c ∧ cn ≤ 9223372036854775807 ∧ c ≤ 9223372036854775807 := by
  obtain ⟨h1, _, _, _, hs, h3, h4, h5⟩ := h
  obtain ⟨An, cn, e, q1, q2⟩ := own_cap h1
  obtain ⟨A, c, e', q3, q4⟩ := own_cap h4
  exact ⟨An, cn, A, c, e, e', q1, q3, q2, q4⟩
theorem Blk.but {w w' : World} {g r : Nat} {t : TypeId} {cs : Array Value} (h : Blk w g t cs) (hG : But r w w') (hne : g ≠ r) : Blk w' g t cs := h.grown hG (by simp [hne])
end Go.Proofs.Ytmhbfdcikdhehaa


/- The drawing of processes: a flow more, a node more. -/
namespace Go.Proofs.Ytmhbfdcikdhehaa
open Go.RowKit
attribute [local go_sem ↓] Go.wp_at_zero Go.wp_at_succ

theorem infoFlowD : (Try.prog.info? 45).map (fun i => (i.zero, i.size, i.bytes)) = some (some (.agg #[.int .i64 0, .int .i64 0, .slice none 0 0]), 3, 40) := by kernel_rfl
theorem infoNodeD : (Try.prog.info? 42).map (fun i => (i.zero, i.size, i.bytes)) = some (some (.agg #[.int .i64 0, .int .i64 0]), 2, 16) := by kernel_rfl

/-- A process with one flow more. -/
def Linked (Bad : Nat → Prop) (vn : Value) (ns : List (Int × Int)) (fs' : List Flw) (w : World) (e : Ending) (w' : World) : Prop :=
  ∃ vf', e = .returned (.agg #[vn, vf']) ∧ Prc w' Bad vn vf' ns fs' ∧ Below w.heap.size w w'

set_option maxRecDepth 100000 in
set_option maxHeartbeats 6400000 in
theorem link_any (Bad : Nat → Prop) (l u nn cn : Nat) (An A Aw : Option Addr) (n c nw cw : Nat) (ns : List (Int × Int)) (fs : List Flw) (x y : Int) (ps : List (Int × Int)) (w : World) (hp : Prc w Bad (.slice An nn cn) (.slice A n c) ns fs) (hnf : n = fs.length) (hn : n ≤ 1000) (hbad : ∀ b, Bad b → b < w.heap.size)
    (hw : Rd w l u 2 Aw nw (pvs ps)) (hl : ∀ b, Bad b → b < l ∨ u ≤ b) (hu : u ≤ w.heap.size) (hnw : nw ≤ 16) (hoff : Off (.slice An nn cn) l u) :
    Calls Try.prog 60 #[.agg #[.slice An nn cn, .slice A n c], .int .i64 x, .int .i64 y, .slice Aw nw cw] w (Linked Bad (.slice An nn cn) ns (fs ++ [(x, y, ps)]) w) := by
  subst hnf
  obtain ⟨h1, _, hb1, _, hs, h3, h4, h5⟩ := hp
  have HBN := Lib.hid hb1
  obtain ⟨i0, hi0, hz0, hz1, hz2⟩ := info_parts infoFlowD
  have H1 := Lib.hid h1
  have H3 := Lib.hid h3
  have H5 := Lib.hid h5
  have HW := Lib.hid hw
  have hb2 := up_alloc (up_alloc (Below.refl _ w) (.cells #[.slice An nn cn, .slice A fs.length c] 26)) (.cells #[.slice none 0 0, .slice none 0 0] 26)
  have hp2 := (Blk.new w 26 #[.slice An nn cn, .slice A fs.length c]).alloc (.cells #[.slice none 0 0, .slice none 0 0] 26)
  have hr2 : Blk ((w.alloc (.cells #[.slice An nn cn, .slice A fs.length c] 26)).alloc (.cells #[.slice none 0 0, .slice none 0 0] 26)) (w.heap.size + 1) 26 #[.slice none 0 0, .slice none 0 0] := by
    simpa using Blk.new (w.alloc (.cells #[.slice An nn cn, .slice A fs.length c] 26)) 26 #[.slice none 0 0, .slice none 0 0]
  have hsr := (Rd.of_own h4).keep hb2 (Nat.le_refl _)
  have hsz2 : ((w.alloc (.cells #[.slice An nn cn, .slice A fs.length c] 26)).alloc (.cells #[.slice none 0 0, .slice none 0 0] 26)).heap.size = w.heap.size + 1 + 1 := by simp
  clear h1 h3 h4 h5 hw hb1
  go_enter Try.func60, Try.ntmps60
  go_wp2
  -- the three orders: the empty row first (a), then what is new (b), or what is new first (c)
  generalize hw2 : (w.alloc (.cells #[.slice An nn cn, .slice A fs.length c] 26)).alloc (.cells #[.slice none 0 0, .slice none 0 0] 26) = w2 at *
  clear hw2
  have k0 : w2.cell? ⟨w.heap.size, 0, none⟩ = some (.slice An nn cn) := hp2.cell 0
  have k1 : w2.cell? ⟨w.heap.size, 1, none⟩ = some (.slice A fs.length c) := hp2.cell 1
  have oa : ((w2.alloc (.cells #[] 45)).drew).ownsRow (w.heap.size + 1 + 1) 45 3 (.slice (some ⟨w.heap.size + 1 + 1, 0, none⟩) 0 0) 0 [] := by
    have := World.ownsRow_made w2 (base := w.heap.size + 1 + 1) (e := 45) (size := 3) #[] 0 (by omega) (by unfold maxLen; omega) (by simp)
    rw [hsz2] at this
    exact this.drew
  have ob : (((w2.alloc (.cells #[] 45)).alloc (.cells #[.int .i64 x, .int .i64 y, .slice Aw nw cw] 45)).drew).ownsRow (w.heap.size + 1 + 1) 45 3 (.slice (some ⟨w.heap.size + 1 + 1, 0, none⟩) 0 0) 0 [] := by
    have := World.ownsRow_made w2 (base := w.heap.size + 1 + 1) (e := 45) (size := 3) #[] 0 (by omega) (by unfold maxLen; omega) (by simp)
    rw [hsz2] at this
    exact (this.alloc _).drew
  have oc : (((w2.alloc (.cells #[.int .i64 x, .int .i64 y, .slice Aw nw cw] 45)).alloc (.cells #[] 45)).drew).ownsRow (w.heap.size + 1 + 1) 45 3 (.slice (some ⟨w.heap.size + 1 + 1 + 1, 0, none⟩) 0 0) 0 [] := by
    have := World.ownsRow_made (w2.alloc (.cells #[.int .i64 x, .int .i64 y, .slice Aw nw cw] 45)) (base := w.heap.size + 1 + 1) (e := 45) (size := 3) #[] 0 (by simp; omega) (by unfold maxLen; omega) (by simp)
    have e : (w2.alloc (.cells #[.int .i64 x, .int .i64 y, .slice Aw nw cw] 45)).heap.size = w.heap.size + 1 + 1 + 1 := by simp [hsz2]
    rw [e] at this
    exact this.drew
  have sa := hsr.keep (up_drew (up_alloc (Below.refl _ w2) (.cells #[] 45))) (by omega)
  have sb := hsr.keep (up_drew (up_alloc (up_alloc (Below.refl _ w2) (.cells #[] 45)) (.cells #[.int .i64 x, .int .i64 y, .slice Aw nw cw] 45))) (by omega)
  have sc := hsr.keep (up_drew (up_alloc (up_alloc (Below.refl _ w2) (.cells #[.int .i64 x, .int .i64 y, .slice Aw nw cw] 45)) (.cells #[] 45))) (by omega)
  have OA := Lib.hid oa
  have OB := Lib.hid ob
  have OC := Lib.hid oc
  have SA := Lib.hid sa
  have SB := Lib.hid sb
  have SC := Lib.hid sc
  clear oa ob oc sa sb sc hsr
  have FB : Blk (((w2.alloc (.cells #[] 45)).alloc (.cells #[.int .i64 x, .int .i64 y, .slice Aw nw cw] 45)).drew) (w.heap.size + 1 + 1 + 1) 45 #[.int .i64 x, .int .i64 y, .slice Aw nw cw] := by
    have := Blk.new (w2.alloc (.cells #[] 45)) 45 #[.int .i64 x, .int .i64 y, .slice Aw nw cw]
    have e : (w2.alloc (.cells #[] 45)).heap.size = w.heap.size + 1 + 1 + 1 := by simp [hsz2]
    rw [e] at this
    exact this.drew
  have FC : Blk (((w2.alloc (.cells #[.int .i64 x, .int .i64 y, .slice Aw nw cw] 45)).alloc (.cells #[] 45)).drew) (w.heap.size + 1 + 1) 45 #[.int .i64 x, .int .i64 y, .slice Aw nw cw] := by
    have := Blk.new w2 45 #[.int .i64 x, .int .i64 y, .slice Aw nw cw]
    rw [hsz2] at this
    exact (this.alloc _).drew
  have FB := Lib.hid FB
  have FC := Lib.hid FC
  go_region_held3 (fun w' => w'.cell? ⟨w.heap.size, 0, none⟩ = some (.slice An nn cn) ∧ w'.cell? ⟨w.heap.size, 1, none⟩ = some (.slice A fs.length c))
    (first
      | exact ⟨k0, k1⟩
      | (go_split_ands; refine ⟨by go_keep, by go_keep⟩)
      | (go_split_ands; refine ⟨?_, ?_⟩ <;> (rw [hg1.cell_far _ (by simp [hsz2]; omega) (by simp [Value.ownBlock]; omega)]; assumption))
      | (go_split_ands; refine ⟨?_, ?_⟩ <;> (rw [hg2.cell_far _ (by have := hg1.size; simp [hsz2] at this ⊢; omega) (fun e => by have := (ho1.lt _ e.symm).1; simp at this; omega)]; assumption)))
    ((first
      | (refine step_append_rd _ (by rfl) _ _ _ (by rfl) (w.heap.size + 1 + 1) 45 i0 _ 3 40 Try.underlying24 hi0 hz0 hz1 hz2 rfl (by omega) (.slice (some ⟨w.heap.size + 1 + 1, 0, none⟩) 0 0) 0 [] (by rfl) OA.out 0 w.heap.size A fs.length c (fvs fs hs) (by rfl) SA.out (fvs_one fs hs) (by unfold maxLen; omega) (by omega) (by simp; omega) ?_; intro v1 w3 ho1 hg1 hl1)
      | (refine step_append_rd _ (by rfl) _ _ _ (by rfl) (w.heap.size + 1 + 1) 45 i0 _ 3 40 Try.underlying24 hi0 hz0 hz1 hz2 rfl (by omega) (.slice (some ⟨w.heap.size + 1 + 1, 0, none⟩) 0 0) 0 [] (by rfl) OB.out 0 w.heap.size A fs.length c (fvs fs hs) (by rfl) SB.out (fvs_one fs hs) (by unfold maxLen; omega) (by omega) (by simp; omega) ?_; intro v1 w3 ho1 hg1 hl1)
      | (refine step_append_rd _ (by rfl) _ _ _ (by rfl) (w.heap.size + 1 + 1) 45 i0 _ 3 40 Try.underlying24 hi0 hz0 hz1 hz2 rfl (by omega) (.slice (some ⟨w.heap.size + 1 + 1 + 1, 0, none⟩) 0 0) 0 [] (by rfl) OC.out 0 w.heap.size A fs.length c (fvs fs hs) (by rfl) SC.out (fvs_one fs hs) (by unfold maxLen; omega) (by omega) (by simp; omega) ?_; intro v1 w3 ho1 hg1 hl1)
      | (refine step_append_rd _ (by rfl) _ _ _ (by rfl) (w.heap.size + 1 + 1) 45 i0 _ 3 40 Try.underlying24 hi0 hz0 hz1 hz2 rfl (by omega) v1 (0 + fs.length) ([] ++ fvs fs hs) (by rfl) (ho1.alloc _) _ _ _ 1 1 [.int .i64 x, .int .i64 y, .slice Aw nw cw] (by rfl) (Rd.of_blk (Blk.new w3 45 #[.int .i64 x, .int .i64 y, .slice Aw nw cw]) rfl) (by intro u hu; simp at hu; rcases hu with rfl | rfl | rfl <;> rfl) (by unfold maxLen; omega) (by omega) (by have := hg1.size; simp [hsz2] at this ⊢; omega) ?_
         intro v2 w4 ho2 hg2 hl2
         obtain ⟨A2, c2, rfl, _, _⟩ := own_cap ho2
         have hR4 : Blk w4 (w.heap.size + 1) 26 #[.slice none 0 0, .slice none 0 0] := ((((hr2.alloc _).drew).grown hg1 (by simp [Value.ownBlock])).alloc _).grown hg2 (fun e => by have := (ho1.lt _ e.symm).1; omega)
         have r0 : w4.cell? ⟨w.heap.size + 1, 0, none⟩ = some (.slice none 0 0) := hR4.cell 0
         have r1 : w4.cell? ⟨w.heap.size + 1, 1, none⟩ = some (.slice none 0 0) := hR4.cell 1
         have q0 := hR4.soft 0
         have q1 := hR4.soft 1
         have HR4 := Lib.hid hR4
         have HB4 := Lib.hid (show Below w.heap.size w w4 from ((up_alloc ((up_drew (up_alloc hb2 (.cells #[] 45))).grown hg1 (by simp; omega) (fun j hj => by simp [Value.ownBlock] at hj; omega)) (.cells #[.int .i64 x, .int .i64 y, .slice Aw nw cw] 45)).grown hg2 (by have := hg1.size; simp [hsz2] at this ⊢; omega) (fun j hj => by have := (ho1.lt j hj).1; omega)))
         clear hR4)
      | (refine step_append_rd _ (by rfl) _ _ _ (by rfl) (w.heap.size + 1 + 1) 45 i0 _ 3 40 Try.underlying24 hi0 hz0 hz1 hz2 rfl (by omega) v1 (0 + fs.length) ([] ++ fvs fs hs) (by rfl) ho1 _ _ _ 1 1 [.int .i64 x, .int .i64 y, .slice Aw nw cw] (by rfl) (Rd.of_blk (FB.out.grown hg1 (by simp [Value.ownBlock])) rfl) (by intro u hu; simp at hu; rcases hu with rfl | rfl | rfl <;> rfl) (by unfold maxLen; omega) (by omega) (by have := hg1.size; simp [hsz2] at this ⊢; omega) ?_
         intro v2 w4 ho2 hg2 hl2
         obtain ⟨A2, c2, rfl, _, _⟩ := own_cap ho2
         have hR4 : Blk w4 (w.heap.size + 1) 26 #[.slice none 0 0, .slice none 0 0] := ((((hr2.alloc _).alloc _).drew).grown hg1 (by simp [Value.ownBlock])).grown hg2 (fun e => by have := (ho1.lt _ e.symm).1; omega)
         have r0 : w4.cell? ⟨w.heap.size + 1, 0, none⟩ = some (.slice none 0 0) := hR4.cell 0
         have r1 : w4.cell? ⟨w.heap.size + 1, 1, none⟩ = some (.slice none 0 0) := hR4.cell 1
         have q0 := hR4.soft 0
         have q1 := hR4.soft 1
         have HR4 := Lib.hid hR4
         have HB4 := Lib.hid (show Below w.heap.size w w4 from (((up_drew (up_alloc (up_alloc hb2 (.cells #[] 45)) (.cells #[.int .i64 x, .int .i64 y, .slice Aw nw cw] 45))).grown hg1 (by simp; omega) (fun j hj => by simp [Value.ownBlock] at hj; omega)).grown hg2 (by have := hg1.size; simp [hsz2] at this ⊢; omega) (fun j hj => by have := (ho1.lt j hj).1; omega)))
         clear hR4)
      | (refine step_append_rd _ (by rfl) _ _ _ (by rfl) (w.heap.size + 1 + 1) 45 i0 _ 3 40 Try.underlying24 hi0 hz0 hz1 hz2 rfl (by omega) v1 (0 + fs.length) ([] ++ fvs fs hs) (by rfl) ho1 _ _ _ 1 1 [.int .i64 x, .int .i64 y, .slice Aw nw cw] (by rfl) (Rd.of_blk (FC.out.grown hg1 (by simp [Value.ownBlock])) rfl) (by intro u hu; simp at hu; rcases hu with rfl | rfl | rfl <;> rfl) (by unfold maxLen; omega) (by omega) (by have := hg1.size; simp [hsz2] at this ⊢; omega) ?_
         intro v2 w4 ho2 hg2 hl2
         obtain ⟨A2, c2, rfl, _, _⟩ := own_cap ho2
         have hR4 : Blk w4 (w.heap.size + 1) 26 #[.slice none 0 0, .slice none 0 0] := ((((hr2.alloc _).alloc _).drew).grown hg1 (by simp [Value.ownBlock])).grown hg2 (fun e => by have := (ho1.lt _ e.symm).1; omega)
         have r0 : w4.cell? ⟨w.heap.size + 1, 0, none⟩ = some (.slice none 0 0) := hR4.cell 0
         have r1 : w4.cell? ⟨w.heap.size + 1, 1, none⟩ = some (.slice none 0 0) := hR4.cell 1
         have q0 := hR4.soft 0
         have q1 := hR4.soft 1
         have HR4 := Lib.hid hR4
         have HB4 := Lib.hid (show Below w.heap.size w w4 from (((up_drew (up_alloc (up_alloc hb2 (.cells #[.int .i64 x, .int .i64 y, .slice Aw nw cw] 45)) (.cells #[] 45))).grown hg1 (by simp; omega) (fun j hj => by simp [Value.ownBlock] at hj; omega)).grown hg2 (by have := hg1.size; simp [hsz2] at this ⊢; omega) (fun j hj => by have := (ho1.lt j hj).1; omega)))
         clear hR4)))
  all_goals
    have hB2 := (HR4.out.put 0 (.slice An nn cn)).put 1 (.slice A2 (fs.length + 1) c2)
    have b0 := hB2.cell 0
    have b1 := hB2.cell 1
    simp at b0 b1
    have hgs := (grown_set w4 ⟨w.heap.size + 1, 0, none⟩ (.slice An nn cn)).trans (grown_set (w4.setCell ⟨w.heap.size + 1, 0, none⟩ (.slice An nn cn)) ⟨w.heap.size + 1, 1, none⟩ (.slice A2 (fs.length + 1) c2))
    have ho3 := own_grown ho2 hgs (fun j hj => by simp at hj; omega)
    rw [Nat.zero_add, List.nil_append] at ho3
    have HO3 := Lib.hid (own_base ho3 (show w.heap.size ≤ w.heap.size + 1 + 1 by omega))
    have HBF := Lib.hid ((HB4.out.setCell (p := ⟨w.heap.size + 1, 0, none⟩) (by simp) (.slice An nn cn)).setCell (p := ⟨w.heap.size + 1, 1, none⟩) (by simp) (.slice A2 (fs.length + 1) c2))
    clear hB2 hgs ho3 ho2 hg2 hl2 ho1 hg1 hl1 r0 r1 q0 q1
    go_wp2
    refine bodyPost_ret (v := .agg #[.slice An nn cn, .slice A2 (fs.length + 1) c2]) (by simp [results, Try.results60, go_sem, b0, b1]) rfl ⟨_, rfl, ?_, HBF.out⟩
    exact Prc.flow (h0 := (Aw, nw, cw)) H1.out HBN.out H3.out H5.out HW.out hl hu hnw hoff HBF.out HO3.out hbad
end Go.Proofs.Ytmhbfdcikdhehaa


/- The drawing of processes: a node more. -/
namespace Go.Proofs.Ytmhbfdcikdhehaa
open Go.RowKit
attribute [local go_sem ↓] Go.wp_at_zero Go.wp_at_succ

/-- A process with one node more, and its number. -/
def Added (Bad : Nat → Prop) (vf : Value) (ns' : List (Int × Int)) (fs : List Flw) (k : Int) (w : World) (e : Ending) (w' : World) : Prop :=
  ∃ vn', e = .returned (.tuple #[.agg #[vn', vf], .int .i64 k]) ∧ Prc w' Bad vn' vf ns' fs ∧ (∀ g, vn'.ownBlock = some g → w.heap.size ≤ g) ∧ Below w.heap.size w w'

set_option maxRecDepth 100000 in
set_option maxHeartbeats 6400000 in
theorem add_any (Bad : Nat → Prop) (nn cn n c : Nat) (An A : Option Addr) (ns : List (Int × Int)) (fs : List Flw) (kd vl : Int) (w : World) (hp : Prc w Bad (.slice An nn cn) (.slice A n c) ns fs) (hnn : nn = ns.length) (hn : nn ≤ 1000) (hbad : ∀ b, Bad b → b < w.heap.size) :
    Calls Try.prog 61 #[.agg #[.slice An nn cn, .slice A n c], .int .i64 kd, .int .i64 vl] w (Added Bad (.slice A n c) (ns ++ [(kd, vl)]) fs (nn : Int) w) := by
  subst hnn
  have HP := Lib.hid hp
  obtain ⟨h1, _⟩ := hp
  obtain ⟨i0, hi0, hz0, hz1, hz2⟩ := info_parts infoNodeD
  have hb2 := up_alloc (up_alloc (Below.refl _ w) (.cells #[.slice An ns.length cn, .slice A n c] 26)) (.cells #[.slice none 0 0, .slice none 0 0] 26)
  have hp2 := (Blk.new w 26 #[.slice An ns.length cn, .slice A n c]).alloc (.cells #[.slice none 0 0, .slice none 0 0] 26)
  have hr2 : Blk ((w.alloc (.cells #[.slice An ns.length cn, .slice A n c] 26)).alloc (.cells #[.slice none 0 0, .slice none 0 0] 26)) (w.heap.size + 1) 26 #[.slice none 0 0, .slice none 0 0] := by
    simpa using Blk.new (w.alloc (.cells #[.slice An ns.length cn, .slice A n c] 26)) 26 #[.slice none 0 0, .slice none 0 0]
  have hsr := (Rd.of_own h1).keep hb2 (Nat.le_refl _)
  have hsz2 : ((w.alloc (.cells #[.slice An ns.length cn, .slice A n c] 26)).alloc (.cells #[.slice none 0 0, .slice none 0 0] 26)).heap.size = w.heap.size + 1 + 1 := by simp
  clear h1
  go_enter Try.func61, Try.ntmps61
  go_wp2
  -- the three orders: the empty row first (a), then what is new (b), or what is new first (c)
  generalize hw2 : (w.alloc (.cells #[.slice An ns.length cn, .slice A n c] 26)).alloc (.cells #[.slice none 0 0, .slice none 0 0] 26) = w2 at *
  clear hw2
  have k0 : w2.cell? ⟨w.heap.size, 0, none⟩ = some (.slice An ns.length cn) := hp2.cell 0
  have k1 : w2.cell? ⟨w.heap.size, 1, none⟩ = some (.slice A n c) := hp2.cell 1
  have oa : ((w2.alloc (.cells #[] 42)).drew).ownsRow (w.heap.size + 1 + 1) 42 2 (.slice (some ⟨w.heap.size + 1 + 1, 0, none⟩) 0 0) 0 [] := by
    have := World.ownsRow_made w2 (base := w.heap.size + 1 + 1) (e := 42) (size := 2) #[] 0 (by omega) (by unfold maxLen; omega) (by simp)
    rw [hsz2] at this
    exact this.drew
  have ob : (((w2.alloc (.cells #[] 42)).alloc (.cells #[.int .i64 kd, .int .i64 vl] 42)).drew).ownsRow (w.heap.size + 1 + 1) 42 2 (.slice (some ⟨w.heap.size + 1 + 1, 0, none⟩) 0 0) 0 [] := by
    have := World.ownsRow_made w2 (base := w.heap.size + 1 + 1) (e := 42) (size := 2) #[] 0 (by omega) (by unfold maxLen; omega) (by simp)
    rw [hsz2] at this
    exact (this.alloc _).drew
  have oc : (((w2.alloc (.cells #[.int .i64 kd, .int .i64 vl] 42)).alloc (.cells #[] 42)).drew).ownsRow (w.heap.size + 1 + 1) 42 2 (.slice (some ⟨w.heap.size + 1 + 1 + 1, 0, none⟩) 0 0) 0 [] := by
    have := World.ownsRow_made (w2.alloc (.cells #[.int .i64 kd, .int .i64 vl] 42)) (base := w.heap.size + 1 + 1) (e := 42) (size := 2) #[] 0 (by simp; omega) (by unfold maxLen; omega) (by simp)
    have e : (w2.alloc (.cells #[.int .i64 kd, .int .i64 vl] 42)).heap.size = w.heap.size + 1 + 1 + 1 := by simp [hsz2]
    rw [e] at this
    exact this.drew
  have sa := hsr.keep (up_drew (up_alloc (Below.refl _ w2) (.cells #[] 42))) (by omega)
  have sb := hsr.keep (up_drew (up_alloc (up_alloc (Below.refl _ w2) (.cells #[] 42)) (.cells #[.int .i64 kd, .int .i64 vl] 42))) (by omega)
  have sc := hsr.keep (up_drew (up_alloc (up_alloc (Below.refl _ w2) (.cells #[.int .i64 kd, .int .i64 vl] 42)) (.cells #[] 42))) (by omega)
  have OA := Lib.hid oa
  have OB := Lib.hid ob
  have OC := Lib.hid oc
  have SA := Lib.hid sa
  have SB := Lib.hid sb
  have SC := Lib.hid sc
  clear oa ob oc sa sb sc hsr
  have FB : Blk (((w2.alloc (.cells #[] 42)).alloc (.cells #[.int .i64 kd, .int .i64 vl] 42)).drew) (w.heap.size + 1 + 1 + 1) 42 #[.int .i64 kd, .int .i64 vl] := by
    have := Blk.new (w2.alloc (.cells #[] 42)) 42 #[.int .i64 kd, .int .i64 vl]
    have e : (w2.alloc (.cells #[] 42)).heap.size = w.heap.size + 1 + 1 + 1 := by simp [hsz2]
    rw [e] at this
    exact this.drew
  have FC : Blk (((w2.alloc (.cells #[.int .i64 kd, .int .i64 vl] 42)).alloc (.cells #[] 42)).drew) (w.heap.size + 1 + 1) 42 #[.int .i64 kd, .int .i64 vl] := by
    have := Blk.new w2 42 #[.int .i64 kd, .int .i64 vl]
    rw [hsz2] at this
    exact (this.alloc _).drew
  have FB := Lib.hid FB
  have FC := Lib.hid FC
  go_region_held3 (fun w' => w'.cell? ⟨w.heap.size, 0, none⟩ = some (.slice An ns.length cn) ∧ w'.cell? ⟨w.heap.size, 1, none⟩ = some (.slice A n c))
    (first
      | exact ⟨k0, k1⟩
      | (go_split_ands; refine ⟨by go_keep, by go_keep⟩)
      | (go_split_ands; refine ⟨?_, ?_⟩ <;> (rw [hg1.cell_far _ (by simp [hsz2]; omega) (by simp [Value.ownBlock]; omega)]; assumption))
      | (go_split_ands; refine ⟨?_, ?_⟩ <;> (rw [hg2.cell_far _ (by have := hg1.size; simp [hsz2] at this ⊢; omega) (fun e => by have := (ho1.lt _ e.symm).1; simp at this; omega)]; assumption)))
    ((first
      | (refine step_append_rd _ (by rfl) _ _ _ (by rfl) (w.heap.size + 1 + 1) 42 i0 _ 2 16 Try.underlying23 hi0 hz0 hz1 hz2 rfl (by omega) (.slice (some ⟨w.heap.size + 1 + 1, 0, none⟩) 0 0) 0 [] (by rfl) OA.out 0 w.heap.size An ns.length cn (pvs ns) (by rfl) SA.out (pvs_one ns) (by unfold maxLen; omega) (by omega) (by simp; omega) ?_; intro v1 w3 ho1 hg1 hl1)
      | (refine step_append_rd _ (by rfl) _ _ _ (by rfl) (w.heap.size + 1 + 1) 42 i0 _ 2 16 Try.underlying23 hi0 hz0 hz1 hz2 rfl (by omega) (.slice (some ⟨w.heap.size + 1 + 1, 0, none⟩) 0 0) 0 [] (by rfl) OB.out 0 w.heap.size An ns.length cn (pvs ns) (by rfl) SB.out (pvs_one ns) (by unfold maxLen; omega) (by omega) (by simp; omega) ?_; intro v1 w3 ho1 hg1 hl1)
      | (refine step_append_rd _ (by rfl) _ _ _ (by rfl) (w.heap.size + 1 + 1) 42 i0 _ 2 16 Try.underlying23 hi0 hz0 hz1 hz2 rfl (by omega) (.slice (some ⟨w.heap.size + 1 + 1 + 1, 0, none⟩) 0 0) 0 [] (by rfl) OC.out 0 w.heap.size An ns.length cn (pvs ns) (by rfl) SC.out (pvs_one ns) (by unfold maxLen; omega) (by omega) (by simp; omega) ?_; intro v1 w3 ho1 hg1 hl1)
      | (refine step_append_rd _ (by rfl) _ _ _ (by rfl) (w.heap.size + 1 + 1) 42 i0 _ 2 16 Try.underlying23 hi0 hz0 hz1 hz2 rfl (by omega) v1 (0 + ns.length) ([] ++ pvs ns) (by rfl) (ho1.alloc _) _ _ _ 1 1 [.int .i64 kd, .int .i64 vl] (by rfl) (Rd.of_blk (Blk.new w3 42 #[.int .i64 kd, .int .i64 vl]) rfl) (by intro u hu; simp at hu; rcases hu with rfl | rfl <;> rfl) (by unfold maxLen; omega) (by omega) (by have := hg1.size; simp [hsz2] at this ⊢; omega) ?_
         intro v2 w4 ho2 hg2 hl2
         obtain ⟨A2, c2, rfl, _, _⟩ := own_cap ho2
         have hR4 : Blk w4 (w.heap.size + 1) 26 #[.slice none 0 0, .slice none 0 0] := ((((hr2.alloc _).drew).grown hg1 (by simp [Value.ownBlock])).alloc _).grown hg2 (fun e => by have := (ho1.lt _ e.symm).1; omega)
         have r0 : w4.cell? ⟨w.heap.size + 1, 0, none⟩ = some (.slice none 0 0) := hR4.cell 0
         have r1 : w4.cell? ⟨w.heap.size + 1, 1, none⟩ = some (.slice none 0 0) := hR4.cell 1
         have q0 := hR4.soft 0
         have q1 := hR4.soft 1
         have HR4 := Lib.hid hR4
         have HB4 := Lib.hid (show Below w.heap.size w w4 from ((up_alloc ((up_drew (up_alloc hb2 (.cells #[] 42))).grown hg1 (by simp; omega) (fun j hj => by simp [Value.ownBlock] at hj; omega)) (.cells #[.int .i64 kd, .int .i64 vl] 42)).grown hg2 (by have := hg1.size; simp [hsz2] at this ⊢; omega) (fun j hj => by have := (ho1.lt j hj).1; omega)))
         clear hR4)
      | (refine step_append_rd _ (by rfl) _ _ _ (by rfl) (w.heap.size + 1 + 1) 42 i0 _ 2 16 Try.underlying23 hi0 hz0 hz1 hz2 rfl (by omega) v1 (0 + ns.length) ([] ++ pvs ns) (by rfl) ho1 _ _ _ 1 1 [.int .i64 kd, .int .i64 vl] (by rfl) (Rd.of_blk (FB.out.grown hg1 (by simp [Value.ownBlock])) rfl) (by intro u hu; simp at hu; rcases hu with rfl | rfl <;> rfl) (by unfold maxLen; omega) (by omega) (by have := hg1.size; simp [hsz2] at this ⊢; omega) ?_
         intro v2 w4 ho2 hg2 hl2
         obtain ⟨A2, c2, rfl, _, _⟩ := own_cap ho2
         have hR4 : Blk w4 (w.heap.size + 1) 26 #[.slice none 0 0, .slice none 0 0] := ((((hr2.alloc _).alloc _).drew).grown hg1 (by simp [Value.ownBlock])).grown hg2 (fun e => by have := (ho1.lt _ e.symm).1; omega)
         have r0 : w4.cell? ⟨w.heap.size + 1, 0, none⟩ = some (.slice none 0 0) := hR4.cell 0
         have r1 : w4.cell? ⟨w.heap.size + 1, 1, none⟩ = some (.slice none 0 0) := hR4.cell 1
         have q0 := hR4.soft 0
         have q1 := hR4.soft 1
         have HR4 := Lib.hid hR4
         have HB4 := Lib.hid (show Below w.heap.size w w4 from (((up_drew (up_alloc (up_alloc hb2 (.cells #[] 42)) (.cells #[.int .i64 kd, .int .i64 vl] 42))).grown hg1 (by simp; omega) (fun j hj => by simp [Value.ownBlock] at hj; omega)).grown hg2 (by have := hg1.size; simp [hsz2] at this ⊢; omega) (fun j hj => by have := (ho1.lt j hj).1; omega)))
         clear hR4)
      | (refine step_append_rd _ (by rfl) _ _ _ (by rfl) (w.heap.size + 1 + 1) 42 i0 _ 2 16 Try.underlying23 hi0 hz0 hz1 hz2 rfl (by omega) v1 (0 + ns.length) ([] ++ pvs ns) (by rfl) ho1 _ _ _ 1 1 [.int .i64 kd, .int .i64 vl] (by rfl) (Rd.of_blk (FC.out.grown hg1 (by simp [Value.ownBlock])) rfl) (by intro u hu; simp at hu; rcases hu with rfl | rfl <;> rfl) (by unfold maxLen; omega) (by omega) (by have := hg1.size; simp [hsz2] at this ⊢; omega) ?_
         intro v2 w4 ho2 hg2 hl2
         obtain ⟨A2, c2, rfl, _, _⟩ := own_cap ho2
         have hR4 : Blk w4 (w.heap.size + 1) 26 #[.slice none 0 0, .slice none 0 0] := ((((hr2.alloc _).alloc _).drew).grown hg1 (by simp [Value.ownBlock])).grown hg2 (fun e => by have := (ho1.lt _ e.symm).1; omega)
         have r0 : w4.cell? ⟨w.heap.size + 1, 0, none⟩ = some (.slice none 0 0) := hR4.cell 0
         have r1 : w4.cell? ⟨w.heap.size + 1, 1, none⟩ = some (.slice none 0 0) := hR4.cell 1
         have q0 := hR4.soft 0
         have q1 := hR4.soft 1
         have HR4 := Lib.hid hR4
         have HB4 := Lib.hid (show Below w.heap.size w w4 from (((up_drew (up_alloc (up_alloc hb2 (.cells #[.int .i64 kd, .int .i64 vl] 42)) (.cells #[] 42))).grown hg1 (by simp; omega) (fun j hj => by simp [Value.ownBlock] at hj; omega)).grown hg2 (by have := hg1.size; simp [hsz2] at this ⊢; omega) (fun j hj => by have := (ho1.lt j hj).1; omega)))
         clear hR4)))
  all_goals
    have hB2 := (HR4.out.put 0 (.slice A2 (ns.length + 1) c2)).put 1 (.slice A n c)
    have b0 := hB2.cell 0
    have b1 := hB2.cell 1
    simp at b0 b1
    have hgs := (grown_set w4 ⟨w.heap.size + 1, 0, none⟩ (.slice A2 (ns.length + 1) c2)).trans (grown_set (w4.setCell ⟨w.heap.size + 1, 0, none⟩ (.slice A2 (ns.length + 1) c2)) ⟨w.heap.size + 1, 1, none⟩ (.slice A n c))
    have ho3 := own_grown ho2 hgs (fun j hj => by simp at hj; omega)
    rw [Nat.zero_add, List.nil_append] at ho3
    have HO3 := Lib.hid (own_base ho3 (show w.heap.size ≤ w.heap.size + 1 + 1 by omega))
    have HBF := Lib.hid ((HB4.out.setCell (p := ⟨w.heap.size + 1, 0, none⟩) (by simp) (.slice A2 (ns.length + 1) c2)).setCell (p := ⟨w.heap.size + 1, 1, none⟩) (by simp) (.slice A n c))
    clear hB2 hgs ho3 ho2 hg2 hl2 ho1 hg1 hl1 r0 r1 q0 q1
    go_wp2
    refine bodyPost_ret (v := .tuple #[.agg #[.slice A2 (ns.length + 1) c2, .slice A n c], .int .i64 (ns.length : Int)]) (by simp [results, Try.results61, go_sem, b0, b1]) rfl ⟨_, rfl, ?_, fun g hg => (HO3.out.lt g hg).1, HBF.out⟩
    refine HP.out.nodes HBF.out ?_ hbad
    rw [pvs_append, List.length_append]
    exact HO3.out
theorem rdr_set {w : World} {r : Nat} {A : Option Addr} {n c : Nat} {xs : List Int} {p : Int} (h : Rdr w r A n c xs p) (a : Addr) (u : Value) (ha : r < a.block) : Rdr (w.setCell a u) r A n c xs p :=
  ⟨h.1.far (by omega) u, h.2.1.setCell (.inr (by omega)) u, h.2.2⟩
end Go.Proofs.Ytmhbfdcikdhehaa

