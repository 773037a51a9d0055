/- The drawing of processes: where a function stands that holds a process in a cell of its own. -/
import Derived.Test.YthlcbdjjegageaaDrawP3
namespace Go.Proofs.Ythlcbdjjegageaa
open Go.RowKit

/-- A function was entered at w; its process lies in the block g, and its result's cell is the block q. None of the process's rows is in a bad block. -/
structure At (Bad : Nat → Prop) (r : Nat) (A : Option Addr) (n c : Nat) (xs : List Int) (g q : Nat) (w w' : World) (An : Option Addr) (ln cn : Nat) (Af : Option Addr) (lf cf : Nat) (ns : List (Int × Int)) (fs : List Flw) (p : Int) : Prop where
  prc : Prc w' Bad (.slice An ln cn) (.slice Af lf cf) ns fs
  rdr : Rdr w' r A n c xs p
  but : But r w w'
  here : Blk w' g 26 #[.slice An ln cn, .slice Af lf cf]
  res : Blk w' q 26 #[.slice none 0 0, .slice none 0 0]
  lt : r < w.heap.size
  bad : ∀ b, Bad b → b < w'.heap.size
  rb : Bad r
  gb : Bad g
  qb : Bad q
  wg : w.heap.size ≤ g
  wq : w.heap.size ≤ q
  ne : q ≠ g
  en : ns.length = ln
  ef : fs.length = lf

variable {Bad : Nat → Prop} {r : Nat} {A : Option Addr} {n c : Nat} {xs : List Int} {g q : Nat} {w w' : World} {An : Option Addr} {ln cn : Nat} {Af : Option Addr} {lf cf : Nat} {ns : List (Int × Int)} {fs : List Flw} {p : Int}

theorem At.moved (h : At Bad r A n c xs g q w w' An ln cn Af lf cf ns fs p) {w2 : World} {p2 : Int} (hg : But r w' w2) (hR : Rdr w2 r A n c xs p2) : At Bad r A n c xs g q w w2 An ln cn Af lf cf ns fs p2 :=
  ⟨h.prc.but hg h.rb, hR, but_trans h.but hg, h.here.but hg (by have := h.lt; have := h.wg; omega), h.res.but hg (by have := h.lt; have := h.wq; omega), h.lt, fun b hb => Nat.lt_of_lt_of_le (h.bad b hb) hg.size, h.rb, h.gb, h.qb, h.wg, h.wq, h.ne, h.en, h.ef⟩
theorem At.below (h : At Bad r A n c xs g q w w' An ln cn Af lf cf ns fs p) {w2 : World} (hb : Below w'.heap.size w' w2) : At Bad r A n c xs g q w w2 An ln cn Af lf cf ns fs p :=
  h.moved (but_below (but_refl r w') hb) (h.rdr.below hb)
/-- The two halves of the process are stored. -/
theorem At.put (h : At Bad r A n c xs g q w w' An ln cn Af lf cf ns fs p) {An' : Option Addr} {ln' cn' : Nat} {Af' : Option Addr} {lf' cf' : Nat} {ns' : List (Int × Int)} {fs' : List Flw}
    (hP : Prc w' Bad (.slice An' ln' cn') (.slice Af' lf' cf') ns' fs') (e1 : ns'.length = ln') (e2 : fs'.length = lf') :
    At Bad r A n c xs g q w ((w'.setCell ⟨g, 0, none⟩ (.slice An' ln' cn')).setCell ⟨g, 1, none⟩ (.slice Af' lf' cf')) An' ln' cn' Af' lf' cf' ns' fs' p := by
  have hl := Nat.lt_of_lt_of_le h.lt h.wg
  refine ⟨(hP.set ⟨g, 0, none⟩ _ h.gb).set ⟨g, 1, none⟩ _ h.gb, rdr_set (rdr_set h.rdr ⟨g, 0, none⟩ _ hl) ⟨g, 1, none⟩ _ hl,
    but_put (but_put h.but (p := ⟨g, 0, none⟩) (.inr h.wg) _) (p := ⟨g, 1, none⟩) (.inr h.wg) _, ?_, ?_, h.lt, fun b hb => by simpa [World.setCell] using h.bad b hb, h.rb, h.gb, h.qb, h.wg, h.wq, h.ne, e1, e2⟩
  · simpa using (h.here.put 0 (.slice An' ln' cn')).put 1 (.slice Af' lf' cf')
  · exact (h.res.far (p := ⟨g, 0, none⟩) h.ne _).far (p := ⟨g, 1, none⟩) h.ne _

/-- A call gave a process: it is to be stored. -/
def Gave (Bad : Nat → Prop) (r : Nat) (A : Option Addr) (n c : Nat) (xs : List Int) (g q : Nat) (w w2 : World) (An : Option Addr) (ln cn : Nat) (Af : Option Addr) (lf cf : Nat) (ns : List (Int × Int)) (fs : List Flw) (v : Value) (ln' lf' : Nat) (K : Int) : Prop :=
  ∃ An' cn' Af' cf' ns' fs' p', v = .agg #[.slice An' ln' cn', .slice Af' lf' cf'] ∧ p' ≤ K ∧ At Bad r A n c xs g q w w2 An ln cn Af lf cf ns fs p' ∧
    At Bad r A n c xs g q w ((w2.setCell ⟨g, 0, none⟩ (.slice An' ln' cn')).setCell ⟨g, 1, none⟩ (.slice Af' lf' cf')) An' ln' cn' Af' lf' cf' ns' fs' p' ∧
    Prc w2 Bad (.slice An' ln' cn') (.slice Af' lf' cf') ns' fs' ∧ ns'.length = ln' ∧ fs'.length = lf'
theorem nothing (w : World) (A : Option Addr) : Rd w 0 0 2 A 0 (pvs []) := ⟨rfl, fun h => absurd h (by omega)⟩

theorem At.link (h : At Bad r A n c xs g q w w' An ln cn Af lf cf ns fs p) (x y : Int) (hf : lf ≤ 1000) :
    Calls Try.prog 87 #[.agg #[.slice An ln cn, .slice Af lf cf], .int .i64 x, .int .i64 y, .slice none 0 0] w'
      (fun e w2 => ∃ v, e = .returned v ∧ Gave Bad r A n c xs g q w w2 An ln cn Af lf cf ns fs v ln (lf + 1) p) := by
  refine (link_any Bad 0 0 ln cn An Af none lf cf 0 0 ns fs x y [] w' h.prc h.ef.symm hf h.bad (nothing w' _) (fun b _ => .inr (by omega)) (by omega) (by omega) (fun g _ => .inr (by omega))).mono ?_
  rintro e w2 ⟨vf, rfl, hP, hb⟩
  obtain ⟨_, _, Af2, cf2, _, rfl, _⟩ := hP.form
  have h2 := h.below hb
  have e2 : (fs ++ [(x, y, [])]).length = lf + 1 := by rw [List.length_append, List.length_singleton, h.ef]
  rw [e2] at hP ⊢
  exact ⟨_, rfl, An, cn, Af2, cf2, ns, fs ++ [(x, y, [])], p, rfl, Int.le_refl _, h2, h2.put hP h.en e2, hP, h.en, e2⟩

theorem At.add (h : At Bad r A n c xs g q w w' An ln cn Af lf cf ns fs p) (kd vl : Int) (hn : ln ≤ 1000) :
    Calls Try.prog 88 #[.agg #[.slice An ln cn, .slice Af lf cf], .int .i64 kd, .int .i64 vl] w'
      (fun e w2 => ∃ v k, e = .returned (.tuple #[v, .int .i64 k]) ∧ Gave Bad r A n c xs g q w w2 An ln cn Af lf cf ns fs v (ln + 1) lf p) := by
  refine (add_any Bad ln cn lf cf An Af ns fs kd vl w' h.prc h.en.symm hn h.bad).mono ?_
  rintro e w2 ⟨vn, rfl, hP, _, hb⟩
  obtain ⟨An2, cn2, _, _, rfl, _, _⟩ := hP.form
  have h2 := h.below hb
  have e1 : (ns ++ [(kd, vl)]).length = ln + 1 := by rw [List.length_append, List.length_singleton, h.en]
  rw [e1] at hP ⊢
  exact ⟨_, _, rfl, An2, cn2, Af, cf, ns ++ [(kd, vl)], fs, p, rfl, Int.le_refl _, h2, h2.put hP e1 h.ef, hP, e1, h.ef⟩

theorem At.step (h : At Bad r A n c xs g q w w' An ln cn Af lf cf ns fs p) (fr : Int) (l u nw cw : Nat) (Aw : Option Addr) (ps : List (Int × Int)) (hp : p ≤ 900000) (h100 : ln ≤ 100) (h200 : lf ≤ 100)
    (hw : Rd w' l u 2 Aw nw (pvs ps)) (hl : ∀ b, Bad b → b < l ∨ u ≤ b) (hu : u ≤ w'.heap.size) (hnw : nw ≤ 16) :
    Calls Try.prog 106 #[.pointer (some ⟨r, 0, none⟩), .agg #[.slice An ln cn, .slice Af lf cf], .int .i64 fr, .slice Aw nw cw] w'
      (fun e w2 => ∃ v k, e = .returned (.tuple #[v, .int .i64 k]) ∧ Gave Bad r A n c xs g q w w2 An ln cn Af lf cf ns fs v (ln + 1) (lf + 1) (p + 3)) := by
  refine (addStep_any Bad r A n c xs p ln cn lf cf An Af ns fs fr l u nw cw Aw ps w' h.rdr hp h.rb h.bad h.prc h.en.symm h.ef.symm h100 h200 hw hl hu hnw).mono ?_
  rintro e w2 ⟨An2, cn2, Af2, cf2, ns2, fs2, k, p2, rfl, e1, e2, hP, hR, hp2, hgg⟩
  have h2 := h.moved hgg hR
  rw [h.en] at e1
  rw [h.ef] at e2
  rw [e1, e2] at hP ⊢
  exact ⟨_, _, rfl, An2, cn2, Af2, cf2, ns2, fs2, p2, rfl, hp2, h2, h2.put hP e1 e2, hP, e1, e2⟩
/-- What is laid later lies off the nodes' row. -/
theorem At.off (h : At Bad r A n c xs g q w w' An ln cn Af lf cf ns fs p) (u : Nat) : Off (.slice An ln cn) w'.heap.size u := fun k hk => .inl (h.prc.1.lt k hk).2
theorem At.linkW (h : At Bad r A n c xs g q w w' An ln cn Af lf cf ns fs p) (x y : Int) (l u nw cw : Nat) (Aw : Option Addr) (ps : List (Int × Int)) (hf : lf ≤ 1000)
    (hw : Rd w' l u 2 Aw nw (pvs ps)) (hl : ∀ b, Bad b → b < l ∨ u ≤ b) (hu : u ≤ w'.heap.size) (hnw : nw ≤ 16) (hoff : Off (.slice An ln cn) l u) :
    Calls Try.prog 87 #[.agg #[.slice An ln cn, .slice Af lf cf], .int .i64 x, .int .i64 y, .slice Aw nw cw] w'
      (fun e w2 => ∃ v, e = .returned v ∧ Gave Bad r A n c xs g q w w2 An ln cn Af lf cf ns fs v ln (lf + 1) p) := by
  refine (link_any Bad l u ln cn An Af Aw lf cf nw cw ns fs x y ps w' h.prc h.ef.symm hf h.bad hw hl hu hnw hoff).mono ?_
  rintro e w2 ⟨vf, rfl, hP, hb⟩
  obtain ⟨_, _, Af2, cf2, _, rfl, _⟩ := hP.form
  have h2 := h.below hb
  have e2 : (fs ++ [(x, y, ps)]).length = lf + 1 := by rw [List.length_append, List.length_singleton, h.ef]
  rw [e2] at hP ⊢
  exact ⟨_, rfl, An, cn, Af2, cf2, ns, fs ++ [(x, y, ps)], p, rfl, Int.le_refl _, h2, h2.put hP h.en e2, hP, h.en, e2⟩
/-- How a function begins that builds a process: its result's cell, the first node, the process's own cell (the walk lays it with what is stored into it). -/
theorem first_any (Bad : Nat → Prop) (r : Nat) (A : Option Addr) (n c : Nat) (xs : List Int) (p : Int) (kd vl : Int) (w : World) (hR : Rdr w r A n c xs p) (hrb : Bad r) (hbad : ∀ b, Bad b → b < w.heap.size) :
    Calls Try.prog 88 #[.agg #[.slice none 0 0, .slice none 0 0], .int .i64 kd, .int .i64 vl] (w.alloc (.cells #[.slice none 0 0, .slice none 0 0] 26))
      (fun e w2 => ∃ An cn Af cf ns fs, e = .returned (.tuple #[.agg #[.slice An 1 cn, .slice Af 0 cf], .int .i64 0]) ∧ w.heap.size < w2.heap.size ∧
        At (fun b => Bad b ∨ b = w.heap.size ∨ b = w2.heap.size) r A n c xs w2.heap.size w.heap.size w (w2.alloc (.cells #[.slice An 1 cn, .slice Af 0 cf] 26)) An 1 cn Af 0 cf ns fs p) := by
  have hb1 := up_alloc (Below.refl _ w) (.cells #[.slice none 0 0, .slice none 0 0] 26)
  have hs1 : (w.alloc (.cells #[.slice none 0 0, .slice none 0 0] 26)).heap.size = w.heap.size + 1 := by simp
  refine (add_any (fun b => Bad b ∨ b = w.heap.size) 0 0 0 0 none none [] [] kd vl _ (Prc.none _ _) rfl (by omega) (fun b hb => by rw [hs1]; rcases hb with hb | hb; have := hbad b hb; omega; omega)).mono ?_
  rintro e w2 ⟨vn, rfl, hP, _, hb⟩
  obtain ⟨An2, cn2, _, _, rfl, _, _⟩ := hP.form
  have hs2 : w.heap.size + 1 ≤ w2.heap.size := by have := hb.size; rw [hs1] at this; exact this
  have hb2 := up_alloc (Below.refl _ w2) (.cells #[.slice An2 1 cn2, .slice none 0 0] 26)
  have hs3 : (w2.alloc (.cells #[.slice An2 1 cn2, .slice none 0 0] 26)).heap.size = w2.heap.size + 1 := by simp
  have hP' : Prc (w2.alloc (.cells #[.slice An2 1 cn2, .slice none 0 0] 26)) (fun b => Bad b ∨ b = w.heap.size ∨ b = w2.heap.size) (.slice An2 1 cn2) (.slice none 0 0) [(kd, vl)] [] :=
    (hP.more (Bad' := fun b => Bad b ∨ b = w.heap.size ∨ b = w2.heap.size) (fun b hb => by rcases hb with hb | hb | hb; exact .inl (.inl hb); exact .inl (.inr hb); exact .inr (by omega))).below hb2
  exact ⟨An2, cn2, none, 0, [(kd, vl)], [], rfl, by omega, hP', ((hR.below hb1).below hb).below hb2, but_below (but_below (but_below (but_refl r w) hb1) hb) hb2, Blk.new w2 _ _,
      ((Blk.new w 26 #[.slice none 0 0, .slice none 0 0]).below hb (by rw [hs1]; omega)).alloc _, hR.lt,
      fun b hb => by rw [hs3]; rcases hb with hb | hb | hb; have := hbad b hb; omega; omega; omega, .inl hrb, .inr (.inr rfl), .inr (.inl rfl), by omega, Nat.le_refl _, by omega, rfl, rfl⟩
end Go.Proofs.Ythlcbdjjegageaa
