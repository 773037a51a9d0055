/- Maps that the call made, from a number to the record that has it. Plain theorems over any program. -/
import Derived.Test.YtipoakimjhfhfabNumMath
import Derived.Lib.SlKeysI
import Derived.Lib.SlMapFilter
import Derived.Maps.OwnSet
set_option linter.unusedSimpArgs false
set_option linter.unusedVariables false
namespace Go.Proofs.Ytipoakimjhfhfab
open Go.RowKit Go.Maps

/-- Block b is a map of at most n entries that holds just these records, each at its number. -/
def NMap {α : Type} (P : Program) (kt : TypeId) (w : World) (b n : Nat) (f : α → Int) (sv : α → Value) (qs : List α) : Prop :=
  IMap P kt w b n (fun z => (atNum f qs z).map sv) ∧ Asc f qs
section
variable {α : Type} {P : Program} {kt t et : TypeId} {w w1 : World} {b n : Nat} {f : α → Int} {sv : α → Value} {qs : List α}
theorem NMap.made (P : Program) (kt : TypeId) (w : World) (f : α → Int) (sv : α → Value) : NMap P kt (w.alloc (.map #[] 0)) w.heap.size 0 f sv [] :=
  ⟨(IMap.made P kt w).congr fun z => rfl, asc_nil⟩
theorem NMap.lt (h : NMap P kt w b n f sv qs) : b < w.heap.size := h.1.lt
theorem NMap.kept (h : NMap P kt w b n f sv qs) {row : Option Nat} (hg : w.grownBy w1 row) (hne : some b ≠ row) : NMap P kt w1 b n f sv qs := ⟨h.1.kept hg hne, h.2⟩
theorem NMap.keep (h : NMap P kt w b n f sv qs) {B : Nat} (hb : Below B w w1) (hB : b < B) : NMap P kt w1 b n f sv qs := ⟨h.1.keep hb hB, h.2⟩
theorem NMap.alloc (h : NMap P kt w b n f sv qs) (o : Obj) : NMap P kt (w.alloc o) b n f sv qs := ⟨h.1.alloc o, h.2⟩
theorem NMap.mono (h : NMap P kt w b n f sv qs) {n' : Nat} (hn : n ≤ n') : NMap P kt w b n' f sv qs := ⟨h.1.mono hn, h.2⟩
theorem NMap.put (h : NMap P kt w b n f sv qs) (K : Keyed P kt) (hk : P.underlying kt = some (.int .i64)) (ht : P.underlying t = some (.map kt et)) (hn : n < maxLen) (q : α) (hr : in64 (f q)) :
    ∃ w1, (Instr.mapUpdate t (.map (some b)) (.int .i64 (f q)) (sv q)).run P w = .ok () w1 ∧ NMap P kt w1 b (n + 1) f sv (insNum f qs q) ∧ w.grownBy w1 (some b) := by
  obtain ⟨w1, hrun, hm, hg⟩ := h.1.put K hk ht hn hr (sv q)
  refine ⟨w1, hrun, ⟨hm.congr fun z => ?_, h.2.ins q⟩, hg⟩
  rw [atNum_ins h.2 q z]
  split <;> rfl
theorem NMap.look (h : NMap P kt w b n f sv qs) (K : Keyed P kt) (hk : P.underlying kt = some (.int .i64)) (ht : P.underlying t = some (.map kt et)) {zv : Value} (hz : (zeroValue et).run P w1 = .ok zv w1) {z : Int} (hr : in64 z) (he : w1.heap[b]? = w.heap[b]?) :
    (Instr.lookup t (.map (some b)) (.int .i64 z) false).run P w1 = .ok (((atNum f qs z).map sv).getD zv) w1 := h.1.look K hk ht hz hr he
theorem NMap.lookOk (h : NMap P kt w b n f sv qs) (K : Keyed P kt) (hk : P.underlying kt = some (.int .i64)) (ht : P.underlying t = some (.map kt et)) {zv : Value} (hz : (zeroValue et).run P w1 = .ok zv w1) {z : Int} (hr : in64 z) (he : w1.heap[b]? = w.heap[b]?) :
    (Instr.lookup t (.map (some b)) (.int .i64 z) true).run P w1 = .ok (.tuple #[((atNum f qs z).map sv).getD zv, .bool (atNum f qs z).isSome]) w1 := by
  have h1 := h.1.lookOk K hk ht hz hr he
  simpa using h1
/-- A map on data that has lost those whose number is told, has the others. -/
theorem asc_filter_at {qs : List α} (h : Asc f qs) (p : α → Bool) (z : Int) : atNum f (qs.filter p) z = (atNum f qs z).filter p := by
  cases e : atNum f qs z with
  | none =>
    rw [Option.filter_none, atNum_none]
    exact fun q hq => atNum_none.1 e q (List.mem_filter.1 hq).1
  | some q =>
    obtain ⟨h1, h2⟩ := atNum_some e
    cases hp : p q with
    | true =>
      rw [Option.filter_some_pos (by simpa using hp)]
      exact (atNum_iff (h.filter p)).2 ⟨List.mem_filter.2 ⟨h1, hp⟩, h2⟩
    | false =>
      rw [Option.filter_some_neg (by simp [hp])]
      rw [atNum_none]
      intro r hr e2
      obtain ⟨h3, h4⟩ := List.mem_filter.1 hr
      rw [h.inj h3 h1 (by omega), hp] at h4
      cases h4
theorem NMap.drop (h : NMap P kt w b n f sv qs) (K : Keyed P kt) (hk : P.underlying kt = some (.int .i64)) (ht : P.underlying t = some (.map kt et)) {z : Int} (hr : in64 z) (ty : TypeId) :
    ∃ w1, (Builtin.delete_ #[t, kt] ty #[.map (some b), .int .i64 z]).run P w = .ok (.tuple #[]) w1 ∧ NMap P kt w1 b n f sv (qs.filter fun p => !(f p == z)) ∧ w.grownBy w1 (some b) := by
  obtain ⟨D, h1, h2⟩ := h.1
  obtain ⟨w1, hrun, ho, hturn⟩ := h1.drop K ht (keyOf_int_mk hk (in64_wf hr)) ty
  refine ⟨w1, hrun, ⟨⟨_, ho, fun y => ?_⟩, h.2.filter _⟩, hturn.grown⟩
  by_cases hy : y = z
  · subst hy
    show (D.del _).atKey _ _ = asHeld ((atNum f (qs.filter fun p => !(f p == y)) y).map sv)
    rw [atKey_del_same, show atNum f (qs.filter fun p => !(f p == y)) y = none from atNum_none.2 fun q hq e => by have := (List.mem_filter.1 hq).2; simp [e] at this]
    rfl
  · show (D.del _).atKey _ _ = asHeld ((atNum f (qs.filter fun p => !(f p == z)) y).map sv)
    rw [atKey_del_other (fun e => hy (by injection e)), h2 y]
    refine congrArg asHeld (congrArg (Option.map sv) (atNum_eq h.2 (h.2.filter _) fun p hp => ?_))
    rw [List.mem_filter]
    refine ⟨fun h => ⟨h, ?_⟩, fun h => h.1⟩
    simp; omega
theorem perm_keys {D : DataW Value} (hown : w.ownsMap P kt heldR b n D) (K : Keyed P kt) (hk : P.underlying kt = some (.int .i64)) (ht : P.underlying t = some (.map kt et)) {zv : Value} (hz : (zeroValue et).run P w = .ok zv w) (hD : ∀ z, D.atKey (.int .i64 z) .nil = asHeld ((atNum f qs z).map sv)) (ha : Asc f qs) : (qs.map f).Perm (intKeys D) := by
  obtain ⟨es, rfl, hpw, _⟩ := hown.entries K
  obtain ⟨es', hD', hko⟩ := hown.keysOf
  obtain rfl : es = es' := by simpa using hD'
  have hkl : ∀ p ∈ es, ∃ x, p.1 = .int .i64 x := fun p hp => by obtain ⟨v, hv⟩ := hko p hp; obtain ⟨x, _, hx, _⟩ := Maps.keyOf_i64 hk hv; exact ⟨x, hx⟩
  refine perm_intKeys hpw hkl (keys_nodup ha) fun x => ?_
  obtain ⟨es1, clock, hb, F, hs, hE⟩ := hown
  constructor
  · intro hx
    obtain ⟨q, hq, rfl⟩ := List.mem_map.1 hx
    cases hh : has (.map es) (.int .i64 (f q)) with
    | true => rfl
    | false =>
      have h1 := atKey_of_not_has hh .nil
      rw [hD, atNum_mem ha hq] at h1
      simp [asHeld] at h1
  · intro hh
    obtain ⟨p, hp, hpk⟩ := List.any_eq_true.1 hh
    obtain ⟨v, hv⟩ := hko p hp
    obtain ⟨y, rfl, hy, hwf⟩ := Maps.keyOf_i64 hk hv
    have e := WideAt.sameKey_eq hpk
    rw [hy] at e
    have hxy : y = x := by injection e
    subst hxy
    have hkey := keyOf_int_mk hk hwf
    have hx := hD y
    cases hat : atNum f qs y with
    | some q => exact List.mem_map.2 ⟨q, (atNum_some hat).1, (atNum_some hat).2⟩
    | none =>
      exfalso
      rw [hat] at hx
      rw [hE] at hx hh
      rcases Maps.fit_look false K ht hz hb F hkey with ⟨_, _, h4⟩ | ⟨e0, y', _, _, _, hR, h4, _⟩
      · rw [has_false_of_atKey h4] at hh
        cases hh
      · rw [h4] at hx
        simp [heldR] at hR
        subst hR
        simp [asHeld] at hx
theorem NMap.keys (h : NMap P kt w b n f sv qs) (K : Keyed P kt) (hk : P.underlying kt = some (.int .i64)) (ht : P.underlying t = some (.map kt et)) {zv : Value} (hz : (zeroValue et).run P w = .ok zv w) : ∃ D : DataW Value, w.ownsMap P kt heldR b n D ∧ (∀ ss : List Int, ss.Perm (intKeys D) → ss.mergeSort (fun x y => decide (x ≤ y)) = qs.map f) ∧ Maps.size D ≤ n ∧ Maps.size D = qs.length := by
  obtain ⟨⟨D, h1, h2⟩, h3⟩ := h
  have hp := perm_keys h1 K hk ht hz h2 h3
  refine ⟨D, h1, fun ss hs => ?_, ?_, ?_⟩
  · rw [mergeSort_of_perm_i (hs.trans hp.symm)]
    exact keys_sorted h3
  · exact h1.size_le
  · have := hp.length_eq
    obtain ⟨es, rfl, _, _⟩ := h1.entries K
    simpa [intKeys, Maps.size] using this.symm
end
end Go.Proofs.Ytipoakimjhfhfab
