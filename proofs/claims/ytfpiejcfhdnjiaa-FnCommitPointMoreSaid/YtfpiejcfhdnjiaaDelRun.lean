/- Deleting in a row of the call's own: the pieces. No program. -/
import Derived.Test.YtfpiejcfhdnjiaaTripMem
import Derived.Deep.DeepAppendRoom
import Derived.Lib.SliceRun
set_option linter.unusedSimpArgs false
set_option linter.unusedVariables false
namespace Go.Proofs.Ytfpiejcfhdnjiaa
open Go.RowKit

theorem step_append_spare {P : Program} (w : World) {ops : Array Oper} {o : Oper} {a : Act} {K : Act → World → Prop} {Q : Exit → Act → World → Prop} {E : Prop} (hgd : o.guard = none) (s x : Operand) (t : TypeId)
    (ho : o.op = .call { callee := .builtin .append, args := #[s, x], argTypes := #[t, t] })
    (base : Nat) (e : TypeId) (i : TypeInfo) (size : Nat) (ht : P.underlying t = some (.slice e)) (hi : P.info? e = some i) (hsize : i.size = size)
    (g n cap : Nat) (xs : List Value) (hs : a.eval s = .slice (some ⟨g, 0, none⟩) n cap) (hown : w.ownsRow base e size (.slice (some ⟨g, 0, none⟩) n cap) n xs)
    (ad : Addr) (m c : Nat) (news : List Value) (hx : a.eval x = .slice (some ad) m c) (hl : news.length = m * size) (hnews : ∀ j u, news[j]? = some u → w.cell? (ad.add j) = some u) (h1 : ∀ u ∈ news, u.oneCell' = true)
    (hroom : n + m ≤ cap)
    (h : ∀ w', w'.ownsRow base e size (.slice (some ⟨g, 0, none⟩) (n + m) cap) (n + m) (xs ++ news) → w.grownBy w' (some g) → K (a.put o.dst (.slice (some ⟨g, 0, none⟩) (n + m) cap)) w') :
    if Region.wanted o (yielded ops a.tmps) = true then Oper.wp P o a w K Q else E := by
  have hw : Region.wanted o (yielded ops a.tmps) = true := by simp [Region.wanted, hgd]
  rw [if_pos hw]
  exact wp_append_own_spare w s x t ho base e i size ht hi hsize g n cap xs hs hown ad m c news hx hl hnews h1 hroom h
theorem grown_below {w w' : World} (h : Below w.heap.size w w') (row : Option Nat) : w.grownBy w' row := ⟨h.os, h.tape, h.output, h.size, fun k hk _ => h.block k hk⟩
theorem tvs_take (ps : List Tri) (k : Nat) : (tvs ps).take (k * 3) = tvs (ps.take k) := by
  induction ps generalizing k with
  | nil => simp [tvs]
  | cons p ps ih =>
    cases k with
    | zero => simp [tvs]
    | succ k =>
      have e : (k + 1) * 3 = k * 3 + 3 := by omega
      have := ih k
      rw [e]
      simpa [tvs, tv] using this
theorem tvs_drop (ps : List Tri) (k : Nat) : (tvs ps).drop (k * 3) = tvs (ps.drop k) := by
  induction ps generalizing k with
  | nil => simp [tvs]
  | cons p ps ih =>
    cases k with
    | zero => simp [tvs]
    | succ k =>
      have e : (k + 1) * 3 = k * 3 + 3 := by omega
      have := ih k
      rw [e]
      simpa [tvs, tv] using this
/-- Where s[i+1:] begins: at the capacity's end the slice keeps its address. -/
theorem tail_addr {w : World} {base : Nat} {e : TypeId} {g n c i : Nat} {ss : List Tri} (h : w.ownsRow base e 3 (.slice (some ⟨g, 0, none⟩) n c) n (tvs ss)) (hi : i < n) :
    ∃ A : Addr, (if c = i + 1 then some (⟨g, 0, none⟩ : Addr) else some ⟨g, (i + 1) * 3, none⟩) = some A ∧ ∀ j u, (tvs (ss.drop (i + 1)))[j]? = some u → w.cell? (A.add j) = some u := by
  have hl : ss.length = n := by have := h.1; rw [tvs_length] at this; omega
  by_cases hc : c = i + 1
  · refine ⟨⟨g, 0, none⟩, by simp [hc], fun j u hu => ?_⟩
    have hle : n ≤ c := by
      rcases h.2 with ⟨hv, _⟩ | ⟨g', cap, cur, hv, _, _, hle, _⟩
      · cases hv
      · cases hv; exact hle
    rw [List.drop_of_length_le (by omega)] at hu
    simp [tvs] at hu
  · refine ⟨⟨g, (i + 1) * 3, none⟩, by simp [hc], fun j u hu => ?_⟩
    rw [← tvs_drop, List.getElem?_drop] at hu
    have hr := (Rd.of_own h).2 (by omega)
    obtain ⟨b, off, he, _, _, hcell⟩ := hr
    injection he with he; injection he with e1 e2
    subst e1; subst e2
    have := hcell _ u hu
    rw [Nat.zero_add] at this
    rw [show (⟨g, (i + 1) * 3, none⟩ : Addr).add j = ⟨g, (i + 1) * 3 + j, none⟩ from by unfold Addr.add; split <;> simp_all]
    exact this
/-- The cells of the row up to its capacity. -/
theorem own_room {w : World} {base : Nat} {e : TypeId} {size g m cap : Nat} {xs : List Value} (h : w.ownsRow base e size (.slice (some ⟨g, 0, none⟩) m cap) m xs) {j : Nat} (hj : j < cap * size) : (w.cell? ⟨g, j, none⟩).isSome = true ∧ w.frozen? ⟨g, j, none⟩ = false := by
  rcases h.2 with ⟨hv, _⟩ | ⟨g', cap', cur, hv, _, hh, _, _, hcs, _⟩
  · cases hv
  · cases hv
    refine ⟨?_, frozen_of_row w g j cur e hh⟩
    rw [cell_of_row w g j cur e (0, 0) hh, Array.getElem?_eq_getElem (by omega)]
    rfl
theorem run_clear_trip {P : Program} (w : World) (t e ty : TypeId) (z : Value) (ht : P.underlying t = some (.slice e)) (hv : ∀ w, (zeroValue e).run P w = .ok z w) (hz : z.cells = #[.int .i64 0, .int .i64 0, .int .i64 0]) (b o n c : Nat) (hn : 0 < n)
    (hc : ∀ j, j < n * 3 → (w.cell? ⟨b, o + j, none⟩).isSome = true) (hf : ∀ j, j < n * 3 → w.frozen? ⟨b, o + j, none⟩ = false) :
    (Builtin.clear_ #[t] ty #[.slice (some ⟨b, o, none⟩) n c]).run P w = .ok (.tuple #[]) (w.setCells b o (List.replicate (n * 3) (.int .i64 0))) := by
  have hzc : (Builtin.zeroCells z.cells n).toList = List.replicate (n * 3) (.int .i64 0) := by
    rw [hz]
    simp [Builtin.zeroCells]
    apply List.ext_getElem
    · simp <;> omega
    · intro i h1 h2
      rcases (show i % 3 = 0 ∨ i % 3 = 1 ∨ i % 3 = 2 by omega) with h | h | h <;> simp [h]
  have hst := run_storeCells_cells (P := P) b o (List.replicate (n * 3) (.int .i64 0)) 0 w (by simpa using hc) (by simpa using hf) (by intro v hv'; rw [List.eq_of_mem_replicate hv']; rfl)
  simp only [Nat.add_zero] at hst
  obtain ⟨m, rfl⟩ : ∃ m, n = m + 1 := ⟨n - 1, by omega⟩
  simp [Builtin.clear_, run_underlying ht, hv, hzc, hst]
theorem own_setCells {base : Nat} {e : TypeId} {size g n cap : Nat} {xs : List Value} (vs : List Value) : ∀ (o : Nat) (w : World), w.ownsRow base e size (.slice (some ⟨g, 0, none⟩) n cap) n xs → n * size ≤ o →
    (w.setCells g o vs).ownsRow base e size (.slice (some ⟨g, 0, none⟩) n cap) n xs ∧ w.grownBy (w.setCells g o vs) (some g) := by
  induction vs with
  | nil => intro o w h _; exact ⟨h, World.grownBy.refl w _⟩
  | cons v vs ih =>
    intro o w h ho
    have h1 := (h.stored o v).1
    rw [List.set_eq_of_length_le (by rw [h.1]; exact ho)] at h1
    obtain ⟨a, b⟩ := ih (o + 1) _ h1 (by omega)
    exact ⟨a, (grown_set w ⟨g, o, none⟩ v).trans b⟩
/-- A block just made, its number given. -/
theorem Blk.new2 {w : World} {t : TypeId} {cs : Array Value} {g : Nat} (h : w.heap.size = g) : Blk (w.alloc (.cells cs t)) g t cs := h ▸ Blk.new w t cs
/-- A row of no elements lies in a block of no cells. -/
theorem own_of_blk {w : World} {base g size : Nat} {t : TypeId} (h : Blk w g t #[]) (hb : base ≤ g) : w.ownsRow base t size (.slice (some ⟨g, 0, none⟩) 0 0) 0 [] :=
  ⟨by simp, .inr ⟨g, 0, #[], rfl, hb, h, Nat.le_refl _, by unfold maxLen; omega, by simp, by simp⟩⟩
/-- A part of a slice from place i on, and where it begins: at the capacity's end the slice keeps its address. -/
theorem Rd.behind {w : World} {lo hi b off n c i : Nat} {ss : List Tri} (h : Rd w lo hi 3 (some ⟨b, off, none⟩) n (tvs ss)) (hi' : i < n) (hc : n ≤ c) :
    ∃ A : Addr, (if c = i + 1 then some (⟨b, off, none⟩ : Addr) else some ⟨b, off + (i + 1) * 3, none⟩) = some A ∧ Rd w lo hi 3 (some A) (n - (i + 1)) (tvs (ss.drop (i + 1))) := by
  have hl : ss.length = n := h.len3
  by_cases hcc : c = i + 1
  · have h0 : n - (i + 1) = 0 := by omega
    have h1 : ss.drop (i + 1) = [] := List.drop_of_length_le (by omega)
    rw [h0, h1]
    exact ⟨⟨b, off, none⟩, by simp [hcc], Rd.nil _ _ _ _ _⟩
  · refine ⟨⟨b, off + (i + 1) * 3, none⟩, by simp [hcc], by rw [tvs_length, List.length_drop, hl], fun hn => ?_⟩
    obtain ⟨b', off', e, h1, h2, hcell⟩ := h.2 (by omega)
    injection e with e; injection e with e1 e2
    subst e1; subst e2
    refine ⟨b, off + (i + 1) * 3, rfl, h1, h2, fun j u hu => ?_⟩
    rw [← tvs_drop, List.getElem?_drop] at hu
    have := hcell _ u hu
    rwa [← Nat.add_assoc] at this
/-- One struct in a block of its own, read as a slice. -/
theorem Rd.of_blk3 {w : World} {g : Nat} {t : TypeId} {x y z : Int} (h : Blk w g t #[.int .i64 x, .int .i64 y, .int .i64 z]) : Rd w g (g + 1) 3 (some ⟨g, 0, none⟩) 1 (tvs [(x, y, z)]) :=
  ⟨by simp [tvs, tv], fun _ => ⟨g, 0, rfl, Nat.le_refl _, Nat.lt_succ_self _, fun j u hu => by rw [Nat.zero_add, h.cell]; simpa [tvs, tv] using hu⟩⟩
theorem own_set {w : World} {base : Nat} {e : TypeId} {size : Nat} {v : Value} {n : Nat} {xs : List Value} (h : w.ownsRow base e size v n xs) {p : Addr} (u : Value) (hne : ∀ g, v.ownBlock = some g → g ≠ p.block) : (w.setCell p u).ownsRow base e size v n xs :=
  h.kept (grown_set w p u) (by
    cases hv : v.ownBlock with
    | none => exact .inl rfl
    | some k => exact .inr fun e => by injection e with e; exact hne k hv e)
end Go.Proofs.Ytfpiejcfhdnjiaa
