/- Drawing post offices: a number drawn beside one; the end of the function. -/
import Derived.Test.YtgnffodnimafoaaDrawT1
set_option linter.unusedSimpArgs false
set_option linter.unusedVariables false
namespace Go.Proofs.Ytgnffodnimafoaa
open Go.RowKit

section
variable {w0 w wc : World} {r : Nat} {A : Option Addr} {n c : Nat} {xs : List Int} {p : Int} {xb : Nat} {A1 A2 : Option Addr} {n1 c1 n2 c2 : Nat} {ns fs : List Tri}
theorem Ps.one (h : Ps w0 w r A n c xs p xb A1 n1 c1 A2 n2 c2 ns fs) (hp : p ≤ 900000) (hb : Below w.heap.size w wc) {g k : Nat} {t : TypeId} {cs : Array Value} (hB : Blk wc g t cs) (hg : r < g) (hk : cs.size = k) (hk1 : 1 ≤ k) (hk2 : k ≤ 1000)
    (hall : ∀ (i : Nat) (v : Value), cs[i]? = some v → ∃ z, v = Value.int .i64 z) :
    Calls Try.prog 29 #[.pointer (some ⟨r, 0, none⟩), .slice (some ⟨g, 0, none⟩) k k] wc fun e w' => ∃ z : Int, e = .returned (.int .i64 z) ∧ Ps w0 w' r A n c xs (p + 1) xb A1 n1 c1 A2 n2 c2 ns fs ∧ But r wc w' ∧ wc.heap.size ≤ w'.heap.size := by
  have hc := h.below hb
  have hr := h.rdr.lt
  refine (one_blk r A n c xs p g k t cs wc hc.rdr (by omega) hB hk hk1 (by omega) (by omega) hall).mono ?_
  rintro e w' ⟨q, rfl, hR, hG⟩
  exact ⟨q, rfl, hc.drawn hR hG, hG, hG.size⟩
theorem Ps.fin (h : Ps w0 w r A n c xs p xb A1 n1 c1 A2 n2 c2 ns fs) :
    w.cell? ⟨xb, 0, none⟩ = some (.slice A1 n1 c1) ∧ w.cell? ⟨xb, 1, none⟩ = some (.slice A2 n2 c2) ∧ w.cell? ⟨w0.heap.size, 0, none⟩ = some (.slice none 0 0) ∧ w.cell? ⟨w0.heap.size, 1, none⟩ = some (.slice none 0 0) ∧
    w.frozen? ⟨w0.heap.size, 0, none⟩ = false ∧ w.frozen? ⟨w0.heap.size, 1, none⟩ = false ∧
    ((w.setCell ⟨w0.heap.size, 0, none⟩ (.slice A1 n1 c1)).setCell ⟨w0.heap.size, 1, none⟩ (.slice A2 n2 c2)).cell? ⟨w0.heap.size, 0, none⟩ = some (.slice A1 n1 c1) ∧
    ((w.setCell ⟨w0.heap.size, 0, none⟩ (.slice A1 n1 c1)).setCell ⟨w0.heap.size, 1, none⟩ (.slice A2 n2 c2)).cell? ⟨w0.heap.size, 1, none⟩ = some (.slice A2 n2 c2) ∧
    Hid (CopyRows (w0.heap.size + 1) ns fs n1 n2 (.slice A1 n1 c1) (.slice A2 n2 c2) ((w.setCell ⟨w0.heap.size, 0, none⟩ (.slice A1 n1 c1)).setCell ⟨w0.heap.size, 1, none⟩ (.slice A2 n2 c2)) ∧
      Rdr ((w.setCell ⟨w0.heap.size, 0, none⟩ (.slice A1 n1 c1)).setCell ⟨w0.heap.size, 1, none⟩ (.slice A2 n2 c2)) r A n c xs p ∧ But r w0 ((w.setCell ⟨w0.heap.size, 0, none⟩ (.slice A1 n1 c1)).setCell ⟨w0.heap.size, 1, none⟩ (.slice A2 n2 c2))) := by
  have hz := (h.res.put 0 (.slice A1 n1 c1)).put 1 (.slice A2 n2 c2)
  have hof1 : ∀ q, (Value.slice A1 n1 c1).ownBlock = some q → q ≠ w0.heap.size := fun q hq => by have := (h.rows.1.lt q hq).1; omega
  have hof2 : ∀ q, (Value.slice A2 n2 c2).ownBlock = some q → q ≠ w0.heap.size := fun q hq => by have := (h.rows.2.1.lt q hq).1; omega
  exact ⟨h.box.cell 0, h.box.cell 1, h.res.cell 0, h.res.cell 1, h.res.soft 0, h.res.soft 1, hz.cell 0, hz.cell 1, Lib.hid ⟨(h.rows.set (q := ⟨w0.heap.size, 0, none⟩) (.slice A1 n1 c1) hof1 hof2).set (q := ⟨w0.heap.size, 1, none⟩) (.slice A2 n2 c2) hof1 hof2,
    rdr_set (rdr_set h.rdr (q := ⟨w0.heap.size, 0, none⟩) h.hr (.slice A1 n1 c1)) (q := ⟨w0.heap.size, 1, none⟩) h.hr (.slice A2 n2 c2),
    but_put (but_put h.but (p := ⟨w0.heap.size, 0, none⟩) (.inr (Nat.le_refl _)) (.slice A1 n1 c1)) (p := ⟨w0.heap.size, 1, none⟩) (.inr (Nat.le_refl _)) (.slice A2 n2 c2)⟩⟩
end
end Go.Proofs.Ytgnffodnimafoaa
