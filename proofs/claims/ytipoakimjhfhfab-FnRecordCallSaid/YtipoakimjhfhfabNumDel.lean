/- A map by number from which those that a predicate names are struck. Plain theorems over any program. -/
import Derived.Test.YtipoakimjhfhfabNumMem
set_option linter.unusedSimpArgs false
set_option linter.unusedVariables false
namespace Go.Proofs.Ytipoakimjhfhfab
open Go.RowKit Go.Maps

/-- A predicate on values, at what a map holds. -/
def pdAt (pv : Value → Bool) : Lit → DataW Value → Bool := fun _ d => match d with | .held v => pv v | _ => false
section
variable {α : Type} {P : Program} {kt t et : TypeId} {w w1 : World} {b n n1 : Nat} {f : α → Int} {sv : α → Value} {qs : List α}
theorem has_at {D : DataW Value} (hown : w.ownsMap P kt heldR b n D) (K : Keyed P kt) (hk : P.underlying kt = some (.int .i64)) (ht : P.underlying t = some (.map kt et)) {zv : Value} (hz : (zeroValue et).run P w = .ok zv w) (hD : ∀ z, D.atKey (.int .i64 z) .nil = asHeld ((atNum f qs z).map sv)) (ha : Asc f qs) {z : Int} (h : has D (.int .i64 z) = true) : ∃ q, q ∈ qs ∧ f q = z := by
  have hperm := perm_keys hown K hk ht hz hD ha
  obtain ⟨es, rfl, hpw, hkl⟩ := hown.entries K
  obtain ⟨p, hp, hpk⟩ := List.any_eq_true.1 h
  have e := WideAt.sameKey_eq hpk
  have hz' : z ∈ qs.map f := hperm.mem_iff.2 (List.mem_map.2 ⟨p, hp, by rw [e]; rfl⟩)
  obtain ⟨q, hq, hqz⟩ := List.mem_map.1 hz'
  exact ⟨q, hq, hqz⟩
/-- What is still in the map, is one of the records. -/
theorem held_shape {es : List (Lit × DataW Value)} (hown : w.ownsMap P kt heldR b n (.map es)) (K : Keyed P kt) (hk : P.underlying kt = some (.int .i64)) (ht : P.underlying t = some (.map kt et)) {zv : Value} (hz : (zeroValue et).run P w = .ok zv w) (hpw : es.Pairwise (fun p q => p.1 ≠ q.1)) (hD : ∀ z, (DataW.map es).atKey (.int .i64 z) .nil = asHeld ((atNum f qs z).map sv)) (ha : Asc f qs)
    {p : Lit × DataW Value → Bool} {z : Int} {c : Value} (hkz : WideAt.IsKeyLit (.int .i64 z)) (hat : (DataW.map (es.filter p)).atKey (.int .i64 z) .nil = .held c) : ∃ q, q ∈ qs ∧ f q = z ∧ sv q = c := by
  cases hh : has (DataW.map (es.filter p)) (.int .i64 z) with
  | false => rw [atKey_of_not_has hh] at hat; cases hat
  | true =>
    obtain ⟨r, hr, hrk⟩ := List.any_eq_true.1 hh
    have e := WideAt.sameKey_eq hrk
    have hr2 : (Lit.int .i64 z, r.2) ∈ es.filter p := by rw [← e]; exact hr
    have e1 := WideAt.atKey_mem .nil hkz (hpw.filter _) hr2
    rw [hat] at e1
    have hr3 : (Lit.int .i64 z, r.2) ∈ es := (List.mem_filter.1 hr2).1
    have e2 := WideAt.atKey_mem .nil hkz hpw hr3
    rw [hD z, ← e1] at e2
    cases hq : atNum f qs z with
    | none => rw [hq] at e2; cases e2
    | some q =>
      rw [hq] at e2
      obtain ⟨h1, h2⟩ := atNum_some hq
      refine ⟨q, h1, h2, ?_⟩
      simp only [Option.map_some, asHeld] at e2
      injection e2
theorem NMap.struck {D : DataW Value} (h1 : w.ownsMap P kt heldR b n D) (K : Keyed P kt) (hk : P.underlying kt = some (.int .i64)) (ht : P.underlying t = some (.map kt et)) {zv : Value} (hz : (zeroValue et).run P w = .ok zv w) (hD : ∀ z, D.atKey (.int .i64 z) .nil = asHeld ((atNum f qs z).map sv)) (ha : Asc f qs)
    (pv : Value → Bool) (keep : α → Bool) (hp : ∀ q ∈ qs, pv (sv q) = !keep q) (h2 : w1.ownsMap P kt heldR b n1 (Lib.deleteFuncD (pdAt pv) D)) : NMap P kt w1 b n1 f sv (qs.filter keep) := by
  have hin := fun z => has_at (z := z) h1 K hk ht hz hD ha
  obtain ⟨es, rfl, hpw, hkeys⟩ := h1.entries K
  refine ⟨⟨_, h2, fun z => ?_⟩, ha.filter _⟩
  show (Lib.deleteFuncD (pdAt pv) (DataW.map es)).atKey (.int .i64 z) .nil = asHeld ((atNum f (qs.filter keep) z).map sv)
  rw [asc_filter_at ha]
  show (DataW.map (es.filter fun p => !pdAt pv p.1 p.2)).atKey (.int .i64 z) .nil = _
  cases hh : has (DataW.map es) (.int .i64 z) with
  | false =>
    have e1 := hD z
    rw [atKey_of_not_has hh] at e1
    have e3 : atNum f qs z = none := by
      cases hx : atNum f qs z with
      | none => rfl
      | some q => rw [hx] at e1; cases e1
    have hn : has (DataW.map (es.filter fun p => !pdAt pv p.1 p.2)) (.int .i64 z) = false := List.any_eq_false.2 fun p hp => List.any_eq_false.1 hh p (List.mem_filter.1 hp).1
    rw [e3, atKey_of_not_has hn]
    rfl
  | true =>
    obtain ⟨q, hq, hqz⟩ := hin z hh
    obtain ⟨p, hpe, hpk⟩ := List.any_eq_true.1 hh
    have e := WideAt.sameKey_eq hpk
    have hkz : WideAt.IsKeyLit (.int .i64 z) := by rw [← e]; exact hkeys p hpe
    have hm : (Lit.int .i64 z, p.2) ∈ es := by rw [← e]; exact hpe
    have e1 := WideAt.atKey_mem .nil hkz hpw hm
    rw [hD z] at e1
    subst hqz
    rw [atNum_mem ha hq] at e1 ⊢
    have hpv := hp q hq
    have e2 : p.2 = .held (sv q) := by rw [← e1]; rfl
    rw [e2] at hm
    cases hkq : keep q with
    | true =>
      rw [hkq] at hpv
      rw [Option.filter_some_pos (by simpa using hkq)]
      exact WideAt.atKey_mem .nil hkz (hpw.filter _) (List.mem_filter.2 ⟨hm, by simp [pdAt, asHeld, hpv]⟩)
    | false =>
      rw [hkq] at hpv
      rw [Option.filter_some_neg (by simp [hkq])]
      have hn : has (DataW.map (es.filter fun p => !pdAt pv p.1 p.2)) (.int .i64 (f q)) = false := by
        refine List.any_eq_false.2 fun r hr hs => ?_
        obtain ⟨h3, h4⟩ := List.mem_filter.1 hr
        have e5 := WideAt.sameKey_eq hs
        have hm5 : (Lit.int .i64 (f q), r.2) ∈ es := by rw [← e5]; exact h3
        have e6 := (WideAt.atKey_mem .nil hkz hpw hm5).symm.trans (WideAt.atKey_mem .nil hkz hpw hm)
        rw [e6] at h4
        simp [pdAt, asHeld, hpv] at h4
      rw [atKey_of_not_has hn]
      rfl
end
end Go.Proofs.Ytipoakimjhfhfab
