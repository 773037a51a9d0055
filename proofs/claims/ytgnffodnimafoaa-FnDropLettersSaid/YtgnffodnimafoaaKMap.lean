/- Maps that the call itself makes, keyed by any comparable value (structs, arrays): what stands at each key. Plain theorems over any program. -/
import Derived.Test.YtgnffodnimafoaaBase
set_option linter.unusedSimpArgs false
set_option linter.unusedVariables false
namespace Go.Proofs.Ytgnffodnimafoaa
open Go.RowKit Go.Maps

/-- Block b is a map of at most n entries; at the key mk v stands g v. -/
def KMap {κ : Type} (mk : κ → Value) (P : Program) (kt : TypeId) (w : World) (b n : Nat) (g : κ → Option Value) : Prop :=
  ∃ D, w.ownsMap P kt heldR b n D ∧ ∀ v l, keyOf P kt (mk v) = some l → D.atKey l .nil = asHeld (g v)

section
variable {κ : Type} {mk : κ → Value} {P : Program} {kt t et : TypeId} {w w1 : World} {b n : Nat} {g : κ → Option Value}

theorem KMap.made (mk : κ → Value) (P : Program) (kt : TypeId) (w : World) : KMap mk P kt (w.alloc (.map #[] 0)) w.heap.size 0 (fun _ => none) :=
  ⟨_, World.ownsMap_made _ _ _ _, fun _ _ _ => rfl⟩
theorem KMap.lt (h : KMap mk P kt w b n g) : b < w.heap.size := h.choose_spec.1.lt
theorem KMap.mono (h : KMap mk P kt w b n g) {n' : Nat} (hn : n ≤ n') : KMap mk P kt w b n' g := by
  obtain ⟨D, h1, h2⟩ := h
  exact ⟨D, h1.mono hn, h2⟩
theorem KMap.same (h : KMap mk P kt w b n g) (he : w1.heap[b]? = w.heap[b]?) : KMap mk P kt w1 b n g := by
  obtain ⟨D, ⟨es, clock, hb, r⟩, h2⟩ := h
  exact ⟨D, ⟨es, clock, he.trans hb, r⟩, h2⟩
theorem KMap.kept (h : KMap mk P kt w b n g) {row : Option Nat} (hg : w.grownBy w1 row) (hne : some b ≠ row) : KMap mk P kt w1 b n g := by
  obtain ⟨D, h1, h2⟩ := h
  exact ⟨D, h1.kept hg hne, h2⟩
theorem KMap.keep (h : KMap mk P kt w b n g) {B : Nat} (hb : Below B w w1) (hB : b < B) : KMap mk P kt w1 b n g := h.same (hb.block b hB)
theorem KMap.alloc (h : KMap mk P kt w b n g) (o : Obj) : KMap mk P kt (w.alloc o) b n g := by
  obtain ⟨D, h1, h2⟩ := h
  exact ⟨D, h1.alloc o, h2⟩
theorem KMap.congr (h : KMap mk P kt w b n g) {g' : κ → Option Value} (he : ∀ v l, keyOf P kt (mk v) = some l → g v = g' v) : KMap mk P kt w b n g' := by
  obtain ⟨D, h1, h2⟩ := h
  exact ⟨D, h1, fun v l hl => by rw [← he v l hl]; exact h2 v l hl⟩
/-- The reading of the map at a key, in any world where the block is the same. -/
theorem KMap.look (h : KMap mk P kt w b n g) (K : Keyed P kt) (ht : P.underlying t = some (.map kt et)) {zv : Value} (hz : (zeroValue et).run P w1 = .ok zv w1) {v : κ} {l : Lit} (hkey : keyOf P kt (mk v) = some l) (he : w1.heap[b]? = w.heap[b]?) :
    (Instr.lookup t (.map (some b)) (mk v) false).run P w1 = .ok ((g v).getD zv) w1 := by
  obtain ⟨D, ⟨es, clock, hb, F, hs, hD⟩, h2⟩ := h
  have hb1 := he.trans hb
  have hx := h2 v l hkey
  rcases Maps.fit_look false K ht hz hb1 F hkey with ⟨hrun, _, hat⟩ | ⟨e0, y, _, _, hrun, hR, hat, _⟩
  · rw [hD, hat] at hx
    cases hg : g v with
    | none => simpa using hrun
    | some v' => rw [hg] at hx; simp [asHeld] at hx
  · rw [hD, hat] at hx
    simp [heldR] at hR
    subst hR
    cases hg : g v with
    | none => rw [hg] at hx; simp [asHeld] at hx
    | some v' => rw [hg] at hx; simp [asHeld] at hx; subst hx; simpa using hrun
theorem KMap.lookOk (h : KMap mk P kt w b n g) (K : Keyed P kt) (ht : P.underlying t = some (.map kt et)) {zv : Value} (hz : (zeroValue et).run P w1 = .ok zv w1) {v : κ} {l : Lit} (hkey : keyOf P kt (mk v) = some l) (he : w1.heap[b]? = w.heap[b]?) :
    (Instr.lookup t (.map (some b)) (mk v) true).run P w1 = .ok (.tuple #[(g v).getD zv, .bool (g v).isSome]) w1 := by
  obtain ⟨D, ⟨es, clock, hb, F, hs, hD⟩, h2⟩ := h
  have hb1 := he.trans hb
  have hx := h2 v l hkey
  rcases Maps.fit_look true K ht hz hb1 F hkey with ⟨hrun, _, hat⟩ | ⟨e0, y, _, _, hrun, hR, hat, _⟩
  · rw [hD, hat] at hx
    cases hg : g v with
    | none => simpa using hrun
    | some v' => rw [hg] at hx; simp [asHeld] at hx
  · rw [hD, hat] at hx
    simp [heldR] at hR
    subst hR
    cases hg : g v with
    | none => rw [hg] at hx; simp [asHeld] at hx
    | some v' => rw [hg] at hx; simp [asHeld] at hx; subst hx; simpa using hrun
/-- A store at a key. -/
theorem KMap.put [DecidableEq κ] (h : KMap mk P kt w b n g) (K : Keyed P kt) (hinj : ∀ x y, mk x = mk y → x = y) (ht : P.underlying t = some (.map kt et)) (hn : n < maxLen) {v : κ} {l : Lit} (hkey : keyOf P kt (mk v) = some l) (x : Value) :
    ∃ w1, (Instr.mapUpdate t (.map (some b)) (mk v) x).run P w = .ok () w1 ∧ KMap mk P kt w1 b (n + 1) (fun y => if y = v then some x else g y) ∧ w.grownBy w1 (some b) := by
  obtain ⟨D, h1, h2⟩ := h
  obtain ⟨w1, hrun, ho, hg⟩ := h1.update (val := x) (d := .held x) (ps := []) K ht hn hkey rfl
  refine ⟨w1, hrun, ⟨_, ho, fun y l' hl' => ?_⟩, hg⟩
  by_cases hy : y = v
  · subst hy
    obtain rfl : l = l' := by rw [hkey] at hl'; injection hl'
    rw [atKey_put_same h1.isMap (K.key hkey)]
    simp [asHeld]
  · have hne : l' ≠ l := fun e => hy (hinj _ _ (K.inj (by rw [hl', e]) hkey))
    rw [atKey_put_other hne, h2 y l' hl']
    simp only [if_neg hy]
end
end Go.Proofs.Ytgnffodnimafoaa
