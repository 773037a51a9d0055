/- The program's runSteps, which defers: the deferred calls take back what was done. -/
import Derived.Test.YtogocinmlanikaaSagaI
import Derived.Test.YtogocinmlanikaaDrawR
import Derived.Defers
import Derived.Tactics2
set_option linter.unusedSimpArgs false
set_option linter.unusedVariables false
namespace Go.Proofs.Ytogocinmlanikaa
open Go.RowKit

theorem infoIntG : (Try.prog.info? 3).map (fun i => (i.zero, i.size, i.bytes)) = some (some (.int .i64 0), 1, 8) := by kernel_rfl
/-- How the function stands: its two results, in blocks E and K. -/
structure Sg (W w : World) (E K : Nat) (sv : Value) (k : Nat) (zs : List Int) (b : Bool) : Prop where
  bel : Below W.heap.size W w
  eff : Blk w E 34 #[sv]
  okb : Blk w K 4 #[.bool b]
  own : w.ownsRow W.heap.size 3 1 sv k (ivs zs)
  ne : ∀ g, sv.ownBlock = some g → g ≠ E ∧ g ≠ K
  hE : W.heap.size ≤ E
  hK : W.heap.size ≤ K
  hEK : E ≠ K
theorem Sg.alloc {W w : World} {E K : Nat} {sv : Value} {k : Nat} {zs : List Int} {b : Bool} (h : Sg W w E K sv k zs b) (o : Obj) : Sg W (w.alloc o) E K sv k zs b :=
  ⟨up_alloc h.bel o, h.eff.alloc o, h.okb.alloc o, own_keep h.own (up_alloc (Below.refl _ w) o), h.ne, h.hE, h.hK, h.hEK⟩
theorem Sg.appended {W w w' : World} {E K : Nat} {sv v' : Value} {k : Nat} {zs : List Int} {b : Bool} {x : Int} (h : Sg W w E K sv k zs b) (ho : w'.ownsRow W.heap.size 3 1 v' (k + 1) (ivs zs ++ [.int .i64 x])) (hg : w.grownBy w' sv.ownBlock)
    (hl : v'.ownBlock = sv.ownBlock ∨ v'.ownBlock = some w.heap.size) : Sg W (w'.setCell ⟨E, 0, none⟩ v') E K v' (k + 1) (zs ++ [x]) b := by
  have hE := h.eff.lt
  have hK := h.okb.lt
  have hne : ∀ g, v'.ownBlock = some g → g ≠ E ∧ g ≠ K := fun g e => by
    rcases hl with h1 | h1
    · exact h.ne g (h1 ▸ e)
    · rw [h1] at e; injection e with e; omega
  refine ⟨(up_grown h.bel h.own hg (Nat.le_refl _)).setCell (p := ⟨E, 0, none⟩) (by show _ ≤ E; exact h.hE) v', (h.eff.grown hg (fun e => (h.ne E e.symm).1 rfl)).put 0 v', (h.okb.grown hg (fun e => (h.ne K e.symm).2 rfl)).far (fun e => h.hEK e.symm) v', ?_, hne, h.hE, h.hK, h.hEK⟩
  have := World.ownsRow.kept ho (grown_set w' ⟨E, 0, none⟩ v') (by
    cases hv : v'.ownBlock with
    | none => exact .inl rfl
    | some k => exact .inr fun e => by injection e with e; exact (hne k hv).1 e)
  rw [ivs_append]
  exact this
/-- What a store of an appended slice leaves as it is. -/
def Sf (E : Nat) (w : World) (sv : Value) (w' : World) (sv' : Value) : Prop :=
  ∀ g t cs, Blk w g t cs → some g ≠ sv.ownBlock → g ≠ E → Blk w' g t cs ∧ some g ≠ sv'.ownBlock
theorem Sf.refl (E : Nat) (w : World) (sv : Value) : Sf E w sv w sv := fun _ _ _ h1 h2 _ => ⟨h1, h2⟩
theorem Sf.alloc (E : Nat) (w : World) (sv : Value) (o : Obj) : Sf E w sv (w.alloc o) sv := fun _ _ _ h1 h2 _ => ⟨h1.alloc o, h2⟩
theorem Sf.trans {E : Nat} {w w1 w2 : World} {v v1 v2 : Value} (h : Sf E w v w1 v1) (k : Sf E w1 v1 w2 v2) : Sf E w v w2 v2 := fun g t cs h1 h2 h3 => by
  obtain ⟨a, b⟩ := h g t cs h1 h2 h3
  exact k g t cs a b h3
theorem Sf.appended {E : Nat} {w w' : World} {sv v' : Value} (hg : w.grownBy w' sv.ownBlock) (hl : v'.ownBlock = sv.ownBlock ∨ v'.ownBlock = some w.heap.size) : Sf E w sv (w'.setCell ⟨E, 0, none⟩ v') v' := fun g t cs h1 h2 h3 => by
  refine ⟨(h1.grown hg h2).far h3 v', fun e => ?_⟩
  rcases hl with h4 | h4
  · exact h2 (e.trans h4)
  · rw [h4] at e; injection e with e; have := h1.lt; omega
/-- The deferred calls, the last one first, and what each of them puts. -/
def Dfs (E K : Nat) (w : World) (sv : Value) : List Deferred → List Int → Prop
  | [], [] => True
  | d :: ds, y :: ys => (∃ (g : Nat) (x : Int), d = { target := .fn (.func 45) #[.pointer (some ⟨K, 0, none⟩), .pointer (some ⟨E, 0, none⟩), .pointer (some ⟨g, 0, none⟩)], args := #[] } ∧ Blk w g 28 #[.int .i64 x, .int .i64 y] ∧ some g ≠ sv.ownBlock ∧ g ≠ E ∧ g ≠ K) ∧ Dfs E K w sv ds ys
  | _, _ => False
theorem Dfs.safe {E K : Nat} {w w' : World} {sv sv' : Value} (hf : Sf E w sv w' sv') : ∀ {ds : List Deferred} {ys : List Int}, Dfs E K w sv ds ys → Dfs E K w' sv' ds ys
  | [], [], _ => trivial
  | [], _ :: _, h => h.elim
  | _ :: _, [], h => h.elim
  | d :: ds, y :: ys, ⟨⟨g, x, h1, h2, h3, h4, h5⟩, h⟩ => by
    obtain ⟨a, b⟩ := hf g _ _ h2 h3 h4
    exact ⟨⟨g, x, h1, a, b, h4, h5⟩, Dfs.safe hf h⟩
theorem Dfs.put {E K : Nat} {w : World} {sv : Value} {ds : List Deferred} {ys : List Int} (h : Dfs E K w sv ds ys) {b : Bool} {W : World} {k : Nat} {zs : List Int} (hs : Sg W w E K sv k zs b) (b' : Bool) : Dfs E K (w.setCell ⟨K, 0, none⟩ (.bool b')) sv ds ys := by
  induction ds generalizing ys with
  | nil => cases ys with
    | nil => trivial
    | cons y ys => exact h.elim
  | cons d ds ih => cases ys with
    | nil => exact h.elim
    | cons y ys =>
      obtain ⟨⟨g, x, h1, h2, h3, h4, h5⟩, h⟩ := h
      exact ⟨⟨g, x, h1, h2.far h5 _, h3, h4, h5⟩, ih h⟩
theorem Sg.put {W w : World} {E K : Nat} {sv : Value} {k : Nat} {zs : List Int} {b : Bool} (h : Sg W w E K sv k zs b) (b' : Bool) : Sg W (w.setCell ⟨K, 0, none⟩ (.bool b')) E K sv k zs b' := by
  refine ⟨h.bel.setCell (p := ⟨K, 0, none⟩) (by show _ ≤ K; exact h.hK) _, h.eff.far h.hEK _, h.okb.put 0 _, ?_, h.ne, h.hE, h.hK, h.hEK⟩
  exact World.ownsRow.kept h.own (grown_set w ⟨K, 0, none⟩ _) (by
    cases hv : sv.ownBlock with
    | none => exact .inl rfl
    | some k => exact .inr fun e => by injection e with e; exact (h.ne k hv).2 e)
/-- A store of what is there. -/
theorem Sg.same {W w : World} {E K : Nat} {sv : Value} {k : Nat} {zs : List Int} {b : Bool} (h : Sg W w E K sv k zs b) : Sg W (w.setCell ⟨E, 0, none⟩ sv) E K sv k zs b := by
  refine ⟨h.bel.setCell (p := ⟨E, 0, none⟩) (by show _ ≤ E; exact h.hE) _, h.eff.put 0 _, h.okb.far (fun e => h.hEK e.symm) _, ?_, h.ne, h.hE, h.hK, h.hEK⟩
  exact World.ownsRow.kept h.own (grown_set w ⟨E, 0, none⟩ _) (by
    cases hv : sv.ownBlock with
    | none => exact .inl rfl
    | some k => exact .inr fun e => by injection e with e; exact (h.ne k hv).1 e)
theorem Sf.same (E : Nat) (w : World) (sv u : Value) : Sf E w sv (w.setCell ⟨E, 0, none⟩ u) sv := fun _ _ _ h1 h2 h3 => ⟨h1.far h3 u, h2⟩

set_option maxHeartbeats 400000 in
theorem undo_no (E K g : Nat) (u : FrameMode) (w : World) (hk : Blk w K 4 #[.bool true]) :
    CallsD Try.prog 45 #[.pointer (some ⟨K, 0, none⟩), .pointer (some ⟨E, 0, none⟩), .pointer (some ⟨g, 0, none⟩)] u w fun e u' w' => u' = u ∧ (e = .returned (.tuple #[]) ∧ w' = w) := by
  have hc : w.cell? ⟨K, 0, none⟩ = some (.bool true) := hk.cell 0
  go_enter_d Try.func45, Try.ntmps45
  go_wp2
  go_end0
  exact ⟨rfl, rfl⟩
set_option maxRecDepth 100000 in
set_option maxHeartbeats 1600000 in
theorem undo_yes (W : World) (E K g : Nat) (x y : Int) (u : FrameMode) (w : World) (sv : Value) (k : Nat) (zs : List Int) (h : Sg W w E K sv k zs false) (hg : Blk w g 28 #[.int .i64 x, .int .i64 y]) (hk : k ≤ 1000) :
    CallsD Try.prog 45 #[.pointer (some ⟨K, 0, none⟩), .pointer (some ⟨E, 0, none⟩), .pointer (some ⟨g, 0, none⟩)] u w fun e u' w' => u' = u ∧ (∃ sv', e = .returned (.tuple #[]) ∧ Sg W w' E K sv' (k + 1) (zs ++ [y]) false ∧ Sf E w sv w' sv') := by
  obtain ⟨i0, hi0, hz0, hz1, hz2⟩ := info_parts infoIntG
  have hc : w.cell? ⟨K, 0, none⟩ = some (.bool false) := h.okb.cell 0
  have he : w.cell? ⟨E, 0, none⟩ = some sv := h.eff.cell 0
  have hy : w.cell? ⟨g, 1, none⟩ = some (.int .i64 y) := hg.cell 1
  obtain ⟨A3, c3, rfl, hc3, _, _⟩ := own_form h.own
  have HS := Lib.hid h
  clear h hg
  have HRB := Lib.hid (show Rd (w.alloc (.cells #[.int .i64 y] 3)) w.heap.size (w.heap.size + 1) 1 (some ⟨w.heap.size, 0, none⟩) 1 [.int .i64 y] from Rd.of_blk (Blk.new w 3 #[.int .i64 y]) (n := 1) (size := 1) (by rfl))
  go_enter_d Try.func45, Try.ntmps45
  go_wp2_with (at_builtin; (refine wpList_append_rd _ rfl _ _ 34 rfl W.heap.size 3 i0 _ 1 8 Try.underlying34 hi0 hz0 hz1 hz2 rfl (by decide) _ _ _ rfl (HS.out.alloc _).own _ _ _ 1 1 [.int .i64 y] rfl HRB.out ?d2 ?d3 ?d4 ?d5 ?_))
  case d2 => intro u hu; simp at hu; subst hu; rfl
  case d3 => unfold maxLen; omega
  case d4 => omega
  case d5 => have := HS.out.bel.size; simp; omega
  intro v2 w2 hown2 hg2 hl2
  obtain ⟨A4, c4, rfl, _, _, _⟩ := own_form hown2
  have hst : w2.frozen? ⟨E, 0, none⟩ = false := ((HS.out.alloc _).eff.grown hg2 (fun e => (HS.out.ne E e.symm).1 rfl)).soft 0
  have hct : w2.cell? ⟨E, 0, none⟩ = some _ := ((HS.out.alloc _).eff.grown hg2 (fun e => (HS.out.ne E e.symm).1 rfl)).cell 0
  have HN := Lib.hid ((HS.out.alloc _).appended hown2 hg2 (by simpa only [World.size_alloc] using hl2))
  have HF := Lib.hid ((Sf.alloc E w _ _).trans (Sf.appended (E := E) (v' := .slice A4 (k + 1) c4) hg2 (by simpa only [World.size_alloc] using hl2)))
  clear hown2 hg2 hl2
  go_wp2
  go_end0
  exact ⟨_, rfl, HN.out, HF.out⟩
section
variable {fn : Func} {tmps : Array Value} {R : Ending → World → Prop} {W : World} {E K : Nat}
/-- All deferred calls, where a step has failed. -/
theorem leaves_yes (hres : ∀ (A : Option Addr) (k c : Nat) (w' : World), Blk w' E 34 #[.slice A k c] → Blk w' K 4 #[.bool false] → (results fn tmps).run Try.prog w' = .ok (.tuple #[.slice A k c, .bool false]) w') :
    ∀ (ds : List Deferred) (ys : List Int) (w : World) (sv : Value) (k : Nat) (zs : List Int), Sg W w E K sv k zs false → Dfs E K w sv ds ys → k + ys.length ≤ 1000 →
      (∀ sv' w', Sg W w' E K sv' (k + ys.length) (zs ++ ys) false → R (.returned (.tuple #[sv', .bool false])) w') → Leaves Try.prog fn tmps R ds .returning w
  | [], [], w, sv, k, zs, hs, _, _, hR => by
    obtain ⟨A, c, rfl, _, _, _⟩ := own_form hs.own
    exact ⟨_, hres A k c w hs.eff hs.okb, hR _ w (by simpa using hs)⟩
  | [], _ :: _, _, _, _, _, _, h, _, _ => h.elim
  | _ :: _, [], _, _, _, _, _, h, _, _ => h.elim
  | d :: ds, y :: ys, w, sv, k, zs, hs, ⟨⟨g, x, h1, h2, h3, h4, h5⟩, h⟩, hk, hR => by
    subst h1
    simp only [List.length_cons] at hk
    refine leaves_cons (f := 45) (args := #[.pointer (some ⟨K, 0, none⟩), .pointer (some ⟨E, 0, none⟩), .pointer (some ⟨g, 0, none⟩)]) (by simp) (by simp [go_sem]) ?_
    refine (undo_yes W E K g x y .returning w sv k zs hs h2 (by omega)).mono ?_
    rintro e u' w' ⟨rfl, sv', rfl, hS, hF⟩
    exact leaves_yes hres ds ys w' sv' (k + 1) (zs ++ [y]) hS (h.safe hF) (by omega) (fun sv2 w2 hs2 => hR sv2 w2 (by
      rw [List.length_cons, show k + (ys.length + 1) = k + 1 + ys.length by omega, show zs ++ y :: ys = zs ++ [y] ++ ys by simp]; exact hs2))
/-- All deferred calls, where none has failed. -/
theorem leaves_no (hres : ∀ (A : Option Addr) (k c : Nat) (w' : World), Blk w' E 34 #[.slice A k c] → Blk w' K 4 #[.bool true] → (results fn tmps).run Try.prog w' = .ok (.tuple #[.slice A k c, .bool true]) w') :
    ∀ (ds : List Deferred) (ys : List Int) (w : World) (sv : Value) (k : Nat) (zs : List Int), Sg W w E K sv k zs true → Dfs E K w sv ds ys →
      R (.returned (.tuple #[sv, .bool true])) w → Leaves Try.prog fn tmps R ds .returning w
  | [], _, w, sv, k, zs, hs, _, hR => by
    obtain ⟨A, c, rfl, _, _, _⟩ := own_form hs.own
    exact ⟨_, hres A k c w hs.eff hs.okb, hR⟩
  | _ :: _, [], _, _, _, _, _, h, _ => h.elim
  | d :: ds, y :: ys, w, sv, k, zs, hs, ⟨⟨g, x, h1, h2, h3, h4, h5⟩, h⟩, hR => by
    subst h1
    refine leaves_cons (f := 45) (args := #[.pointer (some ⟨K, 0, none⟩), .pointer (some ⟨E, 0, none⟩), .pointer (some ⟨g, 0, none⟩)]) (by simp) (by simp [go_sem]) ?_
    refine (undo_no E K g .returning w hs.okb).mono ?_
    rintro e u' w' ⟨rfl, rfl, rfl⟩
    exact leaves_no hres ds ys w' sv k zs hs h hR
end
/-- The effects, in memory of the call's own, and whether none has failed. -/
def RunPost (ps : List St) (z : Int) (w : World) (e : Ending) (w' : World) : Prop :=
  ∃ (v : Value) (k : Nat) (zs : List Int) (b : Bool), e = .returned (.tuple #[v, .bool b]) ∧ b = !failsAt ps z ∧ k = zs.length ∧ zs = (if failsAt ps z = true then backed (ps.take z.toNat) else dos ps) ∧ w'.ownsRow w.heap.size 3 1 v k (ivs zs) ∧ Below w.heap.size w w'
set_option maxRecDepth 100000 in
set_option maxHeartbeats 3200000 in
theorem runSteps_any (lo hi n c : Nat) (A : Option Addr) (ps : List St) (z : Int) (w : World) (hr : Rd w lo hi 2 A n (pvs ps)) (hB : hi ≤ w.heap.size) (hn : n ≤ 10) (hz : in64 z) :
    Calls Try.prog 40 #[.slice A n c, .int .i64 z] w (RunPost ps z w) := by
  obtain ⟨i0, hi0, hz0, hz1, hz2⟩ := info_parts infoIntG
  have HL := Lib.hid hr.len2
  have hmf : ∀ (fn : Fn) (first cap : Array Value) (w : World), (Instr.makeFunc fn first cap).run Try.prog w = .ok (.func fn first cap) w := fun _ _ _ _ => rfl
  have hs0 : Sg w ((w.alloc (.cells #[.slice none 0 0] 34)).alloc (.cells #[.bool false] 4)) w.heap.size (w.heap.size + 1) (.slice none 0 0) 0 [] false :=
    ⟨up_alloc (up_alloc (Below.refl _ w) _) _, (Blk.new w _ _).alloc _, (by have := Blk.new (w.alloc (.cells #[.slice none 0 0] 34)) 4 #[.bool false]; simpa using this), ⟨by simp [ivs], .inl ⟨rfl, rfl⟩⟩, (fun g h => by simp [Value.ownBlock] at h), Nat.le_refl _, by omega, by omega⟩
  have HS0 := Lib.hid hs0
  clear hs0
  go_enter_defers Try.func40, Try.ntmps40
  go_wp2
  refine wp_loop (fun a' w' => ∃ (u6 u7 u11 u12 u13 u14 u15 u16 u17 u18 u19 u20 u21 u22 u23 u24 u25 iv : Value) (ds : List Deferred), (∃ (k : Nat) (sv : Value), k ≤ n ∧ iv = .int .i64 (k : Int) ∧ Hid (∀ j : Nat, j < k → z ≠ (j : Int)) ∧ Hid (Sg w w' w.heap.size (w.heap.size + 1) sv k (dos (ps.take k)) false) ∧ Hid (Dfs w.heap.size (w.heap.size + 1) w' sv ds (undos (ps.take k)).reverse)) ∧ a' = { tmps := #[.slice A n c, .int .i64 z, undef, undef, .pointer (some ⟨w.heap.size, 0, none⟩), .pointer (some ⟨w.heap.size + 1, 0, none⟩), u6, u7, .slice A n c, .int .i64 (n : Int), iv, u11, u12, u13, u14, u15, u16, u17, u18, u19, u20, u21, u22, u23, u24, u25, undef], defers := ds }) (fun a' _ => n - (intOf (a'.tmps.getD 10 undef)).toNat) ?start ?round
  case start =>
    (repeat apply Exists.intro)
    refine ⟨?_, rfl⟩
    exact ⟨0, .slice none 0 0, by omega, rfl, fun j hj => by omega, HS0.out, trivial⟩
  case round =>
    clear HS0
    rintro _ wr ⟨u6, u7, u11, u12, u13, u14, u15, u16, u17, u18, u19, u20, u21, u22, u23, u24, u25, iv, ds, ⟨k, sv, hk, rfl, hNZ, hS, hD⟩, rfl⟩
    try dsimp only
    obtain ⟨A3, c3, rfl, hc3, _, _⟩ := own_form hS.out.own
    by_cases hlt : k < n
    · obtain ⟨b, off, x, y, hA, hbB, _, hg, hc0, hc1⟩ := (hr.keep hS.out.bel hB).pair hlt
      subst hA
      have hkn : (k : Int) < (n : Int) := by omega
      have hk0 : (0 : Int) ≤ (k : Int) := by omega
      have HG := Lib.hid hg
      clear hg
      have HS1 := Lib.hid (hS.out.alloc (.cells #[.int .i64 x, .int .i64 y] 28))
      have HD1 := Lib.hid (hD.out.safe (Sf.alloc _ wr _ (.cells #[.int .i64 x, .int .i64 y] 28)))
      have HB1 := Lib.hid (Blk.new wr 28 #[.int .i64 x, .int .i64 y])
      have hE : (wr.alloc (.cells #[.int .i64 x, .int .i64 y] 28)).cell? ⟨w.heap.size, 0, none⟩ = some (.slice A3 k c3) := HS1.out.eff.cell 0
      have hEs : (wr.alloc (.cells #[.int .i64 x, .int .i64 y] 28)).frozen? ⟨w.heap.size, 0, none⟩ = false := HS1.out.eff.soft 0
      have hKs : (wr.alloc (.cells #[.int .i64 x, .int .i64 y] 28)).frozen? ⟨w.heap.size + 1, 0, none⟩ = false := HS1.out.okb.soft 0
      have hKc : (wr.alloc (.cells #[.int .i64 x, .int .i64 y] 28)).cell? ⟨w.heap.size + 1, 0, none⟩ = some (.bool false) := HS1.out.okb.cell 0
      have hszr := hS.out.bel.size
      have hKlt := hS.out.okb.lt
      by_cases hzk : z = (k : Int)
      · have hq : ((k : Int) == z) = true := by simp [hzk]
        have HSF := Lib.hid (HS1.out.same.put false)
        have HDF := Lib.hid ((HD1.out.safe (Sf.same w.heap.size _ _ (.slice A3 k c3))).put HS1.out.same false)
        have hfl : failsAt ps z = true := failsAt_iff.2 ⟨by omega, by rw [HL.out]; omega⟩
        go_wp2
        refine leaves_yes (by
          intro A k c w' h1 h2
          have e1 := h1.cell 0
          have e2 := h2.cell 0
          simp [results, Try.results40, go_sem, e1, e2]) ds _ _ _ _ _ HSF.out HDF.out (by simp [undos, HL.out]; omega) (fun sv' w' hs => ⟨sv', _, _, _, rfl, by rw [hfl]; rfl, ?_, ?_, hs.own, hs.bel⟩)
        · simp [dos, undos, HL.out]; try omega
        · rw [if_pos hfl, hzk]; rfl
      · have hq : ((k : Int) == z) = false := by simp; omega
        have HRB := Lib.hid (show Rd ((wr.alloc (.cells #[.int .i64 x, .int .i64 y] 28)).alloc (.cells #[.int .i64 x] 3)) (wr.heap.size + 1) (wr.heap.size + 1 + 1) 1 (some ⟨wr.heap.size + 1, 0, none⟩) 1 [.int .i64 x] from by
          have h := Rd.of_blk (Blk.new (wr.alloc (.cells #[.int .i64 x, .int .i64 y] 28)) 3 #[.int .i64 x]) (n := 1) (size := 1) (by rfl)
          rw [World.size_alloc] at h; exact h)
        go_wp2_with (at_builtin; (refine wpList_append_rd _ rfl _ _ 34 rfl w.heap.size 3 i0 _ 1 8 Try.underlying34 hi0 hz0 hz1 hz2 rfl (by decide) _ _ _ rfl (HS1.out.alloc _).own _ _ _ 1 1 [.int .i64 x] rfl HRB.out ?d2 ?d3 ?d4 ?d5 ?_))
        case d2 => intro u hu; simp at hu; subst hu; rfl
        case d3 => unfold maxLen; omega
        case d4 => omega
        case d5 => have := HS1.out.bel.size; simp; omega
        intro v2 w2 hown2 hg2 hl2
        obtain ⟨A4, c4, rfl, _, _, _⟩ := own_form hown2
        have hst : w2.frozen? ⟨w.heap.size, 0, none⟩ = false := ((HS1.out.alloc _).eff.grown hg2 (fun e => (HS1.out.ne _ e.symm).1 rfl)).soft 0
        have hct : w2.cell? ⟨w.heap.size, 0, none⟩ = some _ := ((HS1.out.alloc _).eff.grown hg2 (fun e => (HS1.out.ne _ e.symm).1 rfl)).cell 0
        have HN := Lib.hid ((HS1.out.alloc _).appended hown2 hg2 (by simpa only [World.size_alloc] using hl2))
        have HF := Lib.hid ((Sf.alloc w.heap.size _ _ _).trans (Sf.appended (E := w.heap.size) (v' := .slice A4 (k + 1) c4) hg2 (by simpa only [World.size_alloc] using hl2)))
        clear hown2 hg2 hl2
        have hne0 : some wr.heap.size ≠ (Value.slice A3 k c3).ownBlock := fun e => by have := hS.out.own.lt _ e.symm; omega
        have HBX := Lib.hid (HF.out _ _ _ HB1.out hne0 (by omega))
        have HDX := Lib.hid (HD1.out.safe HF.out)
        have HNZ := Lib.hid (show ∀ j : Nat, j < k + 1 → z ≠ (j : Int) from fun j hj => by
          rcases Nat.lt_succ_iff_lt_or_eq.1 hj with h | h
          · exact hNZ.out j h
          · subst h; exact hzk)
        have HNN := Lib.hid (show Sg w (w2.setCell ⟨w.heap.size, 0, none⟩ (.slice A4 (k + 1) c4)) w.heap.size (w.heap.size + 1) (.slice A4 (k + 1) c4) (k + 1) (dos (ps.take (k + 1))) false from by rw [dos_take_step HG.out]; exact HN.out)
        have HDN := Lib.hid (show Dfs w.heap.size (w.heap.size + 1) (w2.setCell ⟨w.heap.size, 0, none⟩ (.slice A4 (k + 1) c4)) (.slice A4 (k + 1) c4) ({ target := .fn (.func 45) #[.pointer (some ⟨w.heap.size + 1, 0, none⟩), .pointer (some ⟨w.heap.size, 0, none⟩), .pointer (some ⟨wr.heap.size, 0, none⟩)], args := #[] } :: ds) (undos (ps.take (k + 1))).reverse from by
          rw [undos_take_step HG.out, List.reverse_append]
          exact ⟨⟨wr.heap.size, x, rfl, HBX.out.1, HBX.out.2, by omega, by omega⟩, HDX.out⟩)
        go_wp2
        refine ⟨?_, ?_⟩
        · (repeat apply Exists.intro)
          refine ⟨?_, rfl⟩
          exact ⟨k + 1, .slice A4 (k + 1) c4, by omega, by go_num, HNZ, HNN, HDN⟩
        · simp [intOf]; omega
    · obtain rfl : n = k := by omega
      have hE : wr.cell? ⟨w.heap.size, 0, none⟩ = some (.slice A3 n c3) := hS.out.eff.cell 0
      have hEs : wr.frozen? ⟨w.heap.size, 0, none⟩ = false := hS.out.eff.soft 0
      have hKs : wr.frozen? ⟨w.heap.size + 1, 0, none⟩ = false := hS.out.okb.soft 0
      have hKc : wr.cell? ⟨w.heap.size + 1, 0, none⟩ = some (.bool false) := hS.out.okb.cell 0
      have HSF := Lib.hid (hS.out.same.put true)
      have HDF := Lib.hid ((hD.out.safe (Sf.same w.heap.size _ _ (.slice A3 n c3))).put hS.out.same true)
      have hfl : failsAt ps z = false := by
        cases h : failsAt ps z with
        | false => rfl
        | true =>
          obtain ⟨h0, h1⟩ := failsAt_iff.1 h
          rw [HL.out] at h1
          exact absurd (show z = ((z.toNat : Nat) : Int) by omega) (hNZ.out z.toNat (by omega))
      go_wp2
      refine leaves_no (by
          intro A k c w' h1 h2
          have e1 := h1.cell 0
          have e2 := h2.cell 0
          simp [results, Try.results40, go_sem, e1, e2]) ds _ _ _ _ _ HSF.out HDF.out ⟨_, _, _, _, rfl, by rw [hfl]; rfl, ?_, ?_, HSF.out.own, HSF.out.bel⟩
      · simp [dos, HL.out]
      · rw [hfl, List.take_of_length_le (by rw [HL.out]; omega)]; rfl
set_option maxRecDepth 100000 in
set_option maxHeartbeats 1600000 in
theorem RunSagaI_any (lo hi n c : Nat) (A : Option Addr) (ps : List St) (z : Int) (w : World) (hr : Rd w lo hi 2 A n (pvs ps)) (hB : hi ≤ w.heap.size) (hn : n ≤ 1048576) (hz : in64 z) :
    Calls Try.prog 24 #[.slice A n c, .int .i64 z] w (FreshS (sagaOf ps z) (sagaOk ps z) w) := by
  have HL := Lib.hid hr.len2
  have HR := Lib.hid hr
  clear hr
  go_enter Try.func24, Try.ntmps24
  go_wp2_with (fail)
  (with_reducible refine (validStepsI_any lo hi n c A ps _ HR.out hB hn).mono ?_)
  rintro e w1 ⟨rfl, hb1⟩
  have HB1 := Lib.hid hb1
  have hs1 := hb1.size
  clear hb1
  cases hv : vSteps ps with
  | false =>
    have HX := Lib.hid (show FreshS (sagaOf ps z) (sagaOk ps z) w (.returned (.tuple #[.slice none 0 0, .bool false])) w1 by
      rw [(sagaOf_bad hv).1, (sagaOf_bad hv).2]; exact FreshS.nope HB1.out)
    clear hv
    go_wp2
    exact bodyPost_ret (v := .tuple #[.slice none 0 0, .bool false]) (by simp [results, Try.results24, go_sem]) rfl HX.out
  | true =>
  have HV := Lib.hid hv
  have h10 := vSteps_len hv
  rw [HL.out] at h10
  clear hv
  go_wp2_with (fail)
  (with_reducible refine (runSteps_any lo hi n c A ps z w1 (HR.out.keep HB1.out hB) (by omega) h10 hz).mono ?_)
  rintro e w2 ⟨v, k, zs, b, rfl, hb, hk, hzs, ho, hbl⟩
  obtain ⟨A3, c3, rfl, hc3, _, _⟩ := own_form ho
  have HX := Lib.hid (show FreshS (sagaOf ps z) (sagaOk ps z) w (.returned (.tuple #[.slice A3 k c3, .bool b])) w2 by
    have e1 : sagaOf ps z = zs := by rw [hzs, sagaOf, if_pos HV.out]
    have e2 : sagaOk ps z = b := by rw [hb, sagaOk, HV.out]; rfl
    rw [e1, e2]
    subst hk
    exact FreshS.of_own (own_base ho hs1) (up HB1.out hbl))
  clear hb hk hzs ho hbl
  go_wp2
  exact bodyPost_ret (v := .tuple #[.slice A3 k c3, .bool b]) (by simp [results, Try.results24, go_sem]) rfl HX.out
end Go.Proofs.Ytogocinmlanikaa
