/- Maps that the call itself makes, keyed by int: what stands at each key. Plain theorems over any program. -/
import Derived.Test.YthlcbdjjegageaaWords
import Derived.Maps.OwnSet
import Derived.Maps.Views
namespace Go.Proofs.Ythlcbdjjegageaa
open Go.RowKit Go.Maps

def heldR : Value → Option (DataW Value × List MemPlace) := fun v => some (.held v, [])
def asHeld : Option Value → DataW Value
  | none => .nil
  | some v => .held v
theorem asHeld_inj : ∀ {a b : Option Value}, asHeld a = asHeld b → a = b
  | none, none, _ => rfl
  | some _, some _, h => by simp [asHeld] at h; rw [h]
  | none, some _, h => by simp [asHeld] at h
  | some _, none, h => by simp [asHeld] at h
/-- An int in its kind's range. -/
def in64 (z : Int) : Prop := -9223372036854775808 ≤ z ∧ z ≤ 9223372036854775807
theorem in64_wf {z : Int} (h : in64 z) : (Lit.int .i64 z).wf = true := WalkArith.wf_i64 h
/-- Block b is a map of at most n entries; at the key z stands g z. -/
def IMap (P : Program) (kt : TypeId) (w : World) (b n : Nat) (g : Int → Option Value) : Prop :=
  ∃ D, w.ownsMap P kt heldR b n D ∧ ∀ z, D.atKey (.int .i64 z) .nil = asHeld (g z)

section
variable {P : Program} {kt t et : TypeId} {w w1 : World} {b n : Nat} {g : Int → Option Value}

theorem IMap.made (P : Program) (kt : TypeId) (w : World) : IMap P kt (w.alloc (.map #[] 0)) w.heap.size 0 (fun _ => none) :=
  ⟨_, World.ownsMap_made _ _ _ _, fun _ => rfl⟩
theorem IMap.lt (h : IMap P kt w b n g) : b < w.heap.size := h.choose_spec.1.lt
theorem IMap.mono (h : IMap P kt w b n g) {n' : Nat} (hn : n ≤ n') : IMap P kt w b n' g := by
  obtain ⟨D, h1, h2⟩ := h
  exact ⟨D, h1.mono hn, h2⟩
theorem IMap.same (h : IMap P kt w b n g) (he : w1.heap[b]? = w.heap[b]?) : IMap P kt w1 b n g := by
  obtain ⟨D, ⟨es, clock, hb, r⟩, h2⟩ := h
  exact ⟨D, ⟨es, clock, he.trans hb, r⟩, h2⟩
theorem IMap.kept (h : IMap P kt w b n g) {row : Option Nat} (hg : w.grownBy w1 row) (hne : some b ≠ row) : IMap P kt w1 b n g := by
  obtain ⟨D, h1, h2⟩ := h
  exact ⟨D, h1.kept hg hne, h2⟩
theorem IMap.keep (h : IMap P kt w b n g) {B : Nat} (hb : Below B w w1) (hB : b < B) : IMap P kt w1 b n g := h.same (hb.block b hB)
theorem IMap.alloc (h : IMap P kt w b n g) (o : Obj) : IMap P kt (w.alloc o) b n g := by
  obtain ⟨D, h1, h2⟩ := h
  exact ⟨D, h1.alloc o, h2⟩
theorem IMap.congr (h : IMap P kt w b n g) {g' : Int → Option Value} (he : ∀ z, g z = g' z) : IMap P kt w b n g' := by
  obtain ⟨D, h1, h2⟩ := h
  exact ⟨D, h1, fun z => by rw [← he z]; exact h2 z⟩

/-- The reading of the map at a key, in any world where the block is the same. -/
theorem IMap.look (h : IMap P kt w b n g) (K : Keyed P kt) (hk : P.underlying kt = some (.int .i64)) (ht : P.underlying t = some (.map kt et)) {zv : Value} (hz : (zeroValue et).run P w1 = .ok zv w1) {z : Int} (hr : in64 z) (he : w1.heap[b]? = w.heap[b]?) :
    (Instr.lookup t (.map (some b)) (.int .i64 z) false).run P w1 = .ok ((g z).getD zv) w1 := by
  obtain ⟨D, ⟨es, clock, hb, F, hs, hD⟩, h2⟩ := h
  have hb1 := he.trans hb
  have hkey := keyOf_int_mk hk (in64_wf hr)
  have hx := h2 z
  rcases Maps.fit_look false K ht hz hb1 F hkey with ⟨hrun, _, hat⟩ | ⟨e0, y, _, _, hrun, hR, hat, _⟩
  · rw [hD, hat] at hx
    cases hg : g z with
    | none => simpa using hrun
    | some v => rw [hg] at hx; simp [asHeld] at hx
  · rw [hD, hat] at hx
    simp [heldR] at hR
    subst hR
    cases hg : g z with
    | none => rw [hg] at hx; simp [asHeld] at hx
    | some v => rw [hg] at hx; simp [asHeld] at hx; subst hx; simpa using hrun
theorem IMap.lookOk (h : IMap P kt w b n g) (K : Keyed P kt) (hk : P.underlying kt = some (.int .i64)) (ht : P.underlying t = some (.map kt et)) {zv : Value} (hz : (zeroValue et).run P w1 = .ok zv w1) {z : Int} (hr : in64 z) (he : w1.heap[b]? = w.heap[b]?) :
    (Instr.lookup t (.map (some b)) (.int .i64 z) true).run P w1 = .ok (.tuple #[(g z).getD zv, .bool (g z).isSome]) w1 := by
  obtain ⟨D, ⟨es, clock, hb, F, hs, hD⟩, h2⟩ := h
  have hb1 := he.trans hb
  have hkey := keyOf_int_mk hk (in64_wf hr)
  have hx := h2 z
  rcases Maps.fit_look true K ht hz hb1 F hkey with ⟨hrun, _, hat⟩ | ⟨e0, y, _, _, hrun, hR, hat, _⟩
  · rw [hD, hat] at hx
    cases hg : g z with
    | none => simpa using hrun
    | some v => rw [hg] at hx; simp [asHeld] at hx
  · rw [hD, hat] at hx
    simp [heldR] at hR
    subst hR
    cases hg : g z with
    | none => rw [hg] at hx; simp [asHeld] at hx
    | some v => rw [hg] at hx; simp [asHeld] at hx; subst hx; simpa using hrun
/-- A store at a key. -/
theorem IMap.put (h : IMap P kt w b n g) (K : Keyed P kt) (hk : P.underlying kt = some (.int .i64)) (ht : P.underlying t = some (.map kt et)) (hn : n < maxLen) {z : Int} (hr : in64 z) (v : Value) :
    ∃ w1, (Instr.mapUpdate t (.map (some b)) (.int .i64 z) v).run P w = .ok () w1 ∧ IMap P kt w1 b (n + 1) (fun y => if y = z then some v else g y) ∧ w.grownBy w1 (some b) := by
  obtain ⟨D, h1, h2⟩ := h
  have hkey := keyOf_int_mk hk (in64_wf hr)
  obtain ⟨w1, hrun, ho, hg⟩ := h1.update (val := v) (d := .held v) (ps := []) K ht hn hkey rfl
  refine ⟨w1, hrun, ⟨_, ho, fun y => ?_⟩, hg⟩
  by_cases hy : y = z
  · subst hy
    rw [atKey_put_same h1.isMap (K.key hkey)]
    simp [asHeld]
  · rw [atKey_put_other (fun e => hy (by injection e)), h2 y]
    simp only [if_neg hy]
end
end Go.Proofs.Ythlcbdjjegageaa
