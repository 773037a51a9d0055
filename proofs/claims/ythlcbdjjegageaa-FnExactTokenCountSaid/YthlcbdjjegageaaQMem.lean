/- A queue in memory of the call's own: a slice of one-cell values that may begin inside its row. Plain theorems over any program. -/
import Derived.Test.YthlcbdjjegageaaWords
import Derived.ArgAppend
namespace Go.Proofs.Ythlcbdjjegageaa
open Go.RowKit

/-- A slice that may begin inside a row of the call's own. -/
def QRow (w : World) (base : Nat) (e : TypeId) (v : Value) (n : Nat) (xs : List Value) : Prop :=
  ∃ g off cap cur, v = .slice (some ⟨g, off, none⟩) n cap ∧ base ≤ g ∧ w.heap[g]? = some (.cells cur e (0, 0)) ∧ n ≤ cap ∧ off + cap ≤ cur.size ∧ cap ≤ maxLen ∧ xs.length = n ∧ ∀ j u, xs[j]? = some u → cur[off + j]? = some u

theorem addr_add (b off j : Nat) : (⟨b, off, none⟩ : Addr).add j = ⟨b, off + j, none⟩ := by unfold Addr.add; split <;> simp_all
theorem QRow.of_blk {w : World} {base g : Nat} {e : TypeId} {cs : Array Value} (h : Blk w g e cs) (hb : base ≤ g) (hm : cs.size ≤ maxLen) : QRow w base e (.slice (some ⟨g, 0, none⟩) cs.size cs.size) cs.size cs.toList :=
  ⟨g, 0, cs.size, cs, rfl, hb, h, Nat.le_refl _, by omega, hm, by simp, fun j u hu => by simpa using hu⟩
theorem QRow.form {w : World} {base : Nat} {e : TypeId} {v : Value} {n : Nat} {xs : List Value} (h : QRow w base e v n xs) :
    ∃ g off cap, v = .slice (some ⟨g, off, none⟩) n cap ∧ base ≤ g ∧ g < w.heap.size ∧ n ≤ cap ∧ cap ≤ 9223372036854775807 ∧ ∀ j u, xs[j]? = some u → w.cell? ⟨g, off + j, none⟩ = some u := by
  obtain ⟨g, off, cap, cur, h1, h2, h3, h4, h5, h6, h7, h8⟩ := h
  unfold maxLen at h6
  exact ⟨g, off, cap, h1, h2, (Array.getElem?_eq_some_iff.1 h3).1, h4, by omega, fun j u hu => (cell_of_row w g _ cur e (0, 0) h3).trans (h8 j u hu)⟩
theorem QRow.grown {w w' : World} {base : Nat} {e : TypeId} {v : Value} {n : Nat} {xs : List Value} (h : QRow w base e v n xs) {row : Option Nat} (hg : w.grownBy w' row) (hr : ∀ j, row = some j → j < base) : QRow w' base e v n xs := by
  obtain ⟨g, off, cap, cur, h1, h2, h3, h4⟩ := h
  exact ⟨g, off, cap, cur, h1, h2, (hg.block g (Array.getElem?_eq_some_iff.1 h3).1 (fun e => by have := hr g e.symm; omega)).trans h3, h4⟩
theorem QRow.keep {w w' : World} {base : Nat} {e : TypeId} {v : Value} {n : Nat} {xs : List Value} (h : QRow w base e v n xs) (hb : Below w.heap.size w w') : QRow w' base e v n xs := by
  obtain ⟨g, off, cap, cur, h1, h2, h3, h4⟩ := h
  exact ⟨g, off, cap, cur, h1, h2, (hb.block g (Array.getElem?_eq_some_iff.1 h3).1).trans h3, h4⟩
/-- Without its first element. -/
theorem QRow.tail {w : World} {base : Nat} {e : TypeId} {g off n cap : Nat} {xs : List Value} (h : QRow w base e (.slice (some ⟨g, off, none⟩) (n + 1) cap) (n + 1) xs) :
    (2 ≤ cap → QRow w base e (.slice (some ⟨g, off + 1, none⟩) n (cap - 1)) n (xs.drop 1)) ∧ (cap = 1 → n = 0 ∧ QRow w base e (.slice (some ⟨g, off, none⟩) 0 0) 0 (xs.drop 1)) := by
  obtain ⟨g', off', cap', cur, h1, h2, h3, h4, h5, h6, h7, h8⟩ := h
  injection h1 with h1 _ hc
  injection h1 with h1
  injection h1 with hg ho
  subst hg; subst ho; subst hc
  refine ⟨fun hc2 => ⟨g, off + 1, cap - 1, cur, rfl, h2, h3, by omega, by omega, by omega, by simp [h7], fun j u hu => ?_⟩, fun hc1 => ?_⟩
  · rw [List.getElem?_drop] at hu
    have := h8 _ u hu
    rwa [show off + (1 + j) = off + 1 + j by omega] at this
  · subst hc1
    obtain rfl : n = 0 := by omega
    refine ⟨rfl, g, off, 0, cur, rfl, h2, h3, Nat.le_refl _, by omega, by omega, by simp [h7], fun j u hu => ?_⟩
    rw [List.getElem?_drop] at hu
    rw [List.getElem?_eq_none (by omega)] at hu
    cases hu
/-- With one value behind. -/
theorem QRow.app {P : Program} {w : World} {base : Nat} {t ty e : TypeId} {i : TypeInfo} {z : Value} {bytes : Nat} (ht : P.underlying t = some (.slice e)) (hi : P.info? e = some i) (hz : i.zero = some z) (hsize : i.size = 1) (hby : i.bytes = bytes) (hzs : z.cells.size = 1)
    {v : Value} {n : Nat} {xs : List Value} (h : QRow w base e v n xs) (ad : Addr) (c : Nat) (u : Value) (hu : w.cell? ad = some u) (h1 : u.oneCell' = true) (h63 : n + 1 ≤ maxLen) (hbytes : (n + 1) * bytes ≤ 140737488355328) (hbase : base ≤ w.heap.size) :
    ∃ v' w', (Builtin.append_ #[t, t] ty #[v, .slice (some ad) 1 c]).run P w = .ok v' w' ∧ QRow w' base e v' (n + 1) (xs ++ [u]) ∧ ∃ g, base ≤ g ∧ w.grownBy w' (some g) := by
  obtain ⟨g, off, cap, cur, rfl, h2, h3, h4, h5, h6, h7, h8⟩ := h
  have hc : ∀ j u', [u][j]? = some u' → w.cell? (ad.add j) = some u' := by
    intro j u' hj
    cases j with
    | zero =>
      simp at hj
      subst hj
      rw [show ad.add 0 = ad from by cases ad; unfold Addr.add; split <;> simp_all]
      exact hu
    | succ j => simp at hj
  by_cases hr : n + 1 ≤ cap
  · have hlt : off + n < cur.size := by omega
    have hcell : w.cell? ⟨g, off + n, none⟩ = cur[off + n]? := cell_of_row w g _ cur e (0, 0) h3
    have hrun := run_append_room_cells (P := P) w t ty e i ht hi g off n cap ad 1 c [u] (by simp [hsize]) hc (by simpa using h1) hr
      (fun j hj => by
        obtain rfl : j = 0 := by simp at hj; omega
        rw [hsize, Nat.mul_one, Nat.add_zero, hcell]; simp [hlt])
      (fun j hj => frozen_of_row w g _ cur e h3)
    rw [hsize, Nat.mul_one] at hrun
    refine ⟨_, _, hrun, ⟨g, off, cap, cur.setIfInBounds (off + n) u, rfl, h2, ?_, hr, by simpa using h5, h6, by simp [h7], fun j u' hj => ?_⟩, g, h2, ?_⟩
    · show (w.setCell ⟨g, off + n, none⟩ u).heap[g]? = _
      simp [World.setCell, Array.getElem?_modify, h3]
    · rcases Nat.lt_or_ge j n with hjn | hjn
      · rw [List.getElem?_append_left (by omega)] at hj
        rw [Array.getElem?_setIfInBounds_ne (by omega)]
        exact h8 j u' hj
      · rw [List.getElem?_append_right (by omega)] at hj
        obtain rfl : j = n := by
          rcases Nat.eq_zero_or_pos (j - xs.length) with h0 | h0
          · omega
          · rw [List.getElem?_eq_none (by simp; omega)] at hj; cases hj
        simp [h7] at hj
        subst hj
        simp [hlt]
    · exact ⟨rfl, rfl, rfl, by simp [World.setCells, World.setCell], fun k hk hne => Below.heap_setCell w _ u k (fun e => hne (by rw [e]))⟩
  · obtain ⟨v', w', hrun, ho, hg⟩ := run_append_arg_grows (P := P) w t ty e i z 1 bytes ht hi hz hsize hby hzs (by omega) ⟨g, off, none⟩ n cap xs (by omega) (fun j u hj => by rw [addr_add]; exact (cell_of_row w g _ cur e (0, 0) h3).trans (h8 j u hj)) ad 1 c [u] (by simp) hc (by omega) h63 hbytes
    refine ⟨v', w', hrun, ?_, w.heap.size, hbase, ⟨hg.os, hg.tape, hg.output, hg.size, fun k hk _ => hg.block k hk (by simp)⟩⟩
    rcases ho.2 with ⟨_, h0⟩ | ⟨g', cap', cur', hv, hb', hh, q1, q2, q3, q4⟩
    · omega
    · refine ⟨g', 0, cap', cur', hv, by omega, hh, q1, by omega, q2, by simp [h7], fun j u' hj => ?_⟩
      rw [Nat.zero_add, ← Array.getElem?_toList]
      have e1 : (cur'.toList.take ((n + 1) * 1))[j]? = some u' := by rw [q4]; exact hj
      rw [List.getElem?_take] at e1
      split at e1
      · exact e1
      · cases e1
/-- At a plain region's list. -/
theorem wpList_append_q {P : Program} {w : World} {ops : Array Oper} {rest : List Oper} {o : Oper} {a : Act} {Q : Exit → Act → World → Prop} (hgd : o.guard = none) (s x : Operand) (t : TypeId) (ho : o.op = .call { callee := .builtin .append, args := #[s, x], argTypes := #[t, t] })
    {base : Nat} {e : TypeId} {i : TypeInfo} {z : Value} {bytes : Nat} (ht : P.underlying t = some (.slice e)) (hi : P.info? e = some i) (hz : i.zero = some z) (hsize : i.size = 1) (hby : i.bytes = bytes) (hzs : z.cells.size = 1)
    {v : Value} {n : Nat} {xs : List Value} (hs : a.eval s = v) (h : QRow w base e v n xs) (ad : Addr) (c : Nat) (u : Value) (hx : a.eval x = .slice (some ad) 1 c) (hu : w.cell? ad = some u) (h1 : u.oneCell' = true) (h63 : n + 1 ≤ maxLen) (hbytes : (n + 1) * bytes ≤ 140737488355328) (hbase : base ≤ w.heap.size)
    (hK : ∀ v' w' g, QRow w' base e v' (n + 1) (xs ++ [u]) → base ≤ g → w.grownBy w' (some g) → wpList P ops Q rest (a.put o.dst v') w') : wpList P ops Q (o :: rest) a w := by
  obtain ⟨v', w', hrun, h2, g, h3, h4⟩ := h.app (P := P) (ty := o.type) ht hi hz hsize hby hzs ad c u hu h1 h63 hbytes hbase
  refine wpList_plain hgd fun K hKK => ?_
  unfold Oper.wp execOp
  simp only [ho, resolve, invoke, builtin, Sem.run_bind, Sem.run_pure, Result.andThen_ok, List.map_toArray, List.map_cons, List.map_nil, hs, hx, hrun]
  exact hKK _ _ (hK v' w' g h2 h3 h4)
end Go.Proofs.Ythlcbdjjegageaa
