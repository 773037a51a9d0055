/- A load may be taken first though the region's last operation writes its cell, if that operation waits for it: what the load reads has to hold only behind operations that do not wait for it. -/
import Derived.OrdersHeld
import Derived.RegionTactic
import Derived.Test.YtgnffodnimafoaaBase
set_option linter.unusedSimpArgs false
set_option linter.unusedVariables false
namespace Go.Proofs.Ytgnffodnimafoaa
open Go.RowKit

section
variable {P : Program} {ops : Array Oper} {Q : Exit → Act → World → Prop} {md : Region.Mode} {S : World → Prop}
/-- Operation j waits for operation i. -/
def awaits (md : Region.Mode) (ops : Array Oper) (i j : Nat) : Bool := ((ops[j]?).map fun o => o.after.any fun e => Region.binds md e && e.on == i).getD false
/-- All orders of what is left; behind each operation that does not wait for i the world meets S. -/
def LateAll (P : Program) (md : Region.Mode) (ops : Array Oper) (Q : Exit → Act → World → Prop) (S : World → Prop) (i : Nat) : Nat → Array Bool → Act → World → Prop
  | 0, done, a, w => Region.ready md ops done = [] ∧ Q .normal a w
  | k + 1, done, a, w => (Region.ready md ops done = [] → Q .normal a w) ∧
      ∀ j ∈ Region.ready md ops done, wpOp P ops Q j (fun a' w' => (awaits md ops i j = false → S w') ∧ LateAll P md ops Q S i k (done.setIfInBounds j true) a' w') a w
theorem LateAll.any {i : Nat} : ∀ {k : Nat} {done : Array Bool} {a : Act} {w : World}, LateAll P md ops Q S i k done a w → wpAny P md ops Q k done a w
  | 0, _, _, _, h => h
  | _ + 1, _, _, _, h => ⟨h.1, fun j hj => wpOp_mono (fun _ _ h' => h'.2.any) (h.2 j hj)⟩
theorem awaits_no {i j : Nat} {o : Oper} (ho : ops[j]? = some o) (h : ∀ e ∈ o.after, Region.binds md e = true → e.on ≠ i) : awaits md ops i j = false := by
  unfold awaits
  rw [ho]
  simp only [Option.map_some, Option.getD_some]
  rw [Array.any_eq_false]
  intro k hk
  have := h _ (Array.getElem_mem hk)
  cases hb : Region.binds md o.after[k] with
  | false => simp
  | true => simpa [hb] using this hb
/-- **The load is taken first.** -/
theorem late_first {i : Nat} {oi : Oper} {v : Value} (hi : ops[i]? = some oi) (hsel : ∀ (j : Nat) (o : Oper) cs b, ops[j]? = some o → o.op ≠ .select cs b) (hQ : ∀ c a w, Q (.panic c) (a.put oi.dst v) w → Q (.panic c) a w)
    (k : Nat) : ∀ (done : Array Bool) (a : Act) (w : World), (∀ j oj, ops[j]? = some oj → j ≠ i → done.getD j true = false → (∀ e ∈ oj.after, Region.binds md e = true → e.on ≠ i) → oi.apart ops oj = true) →
      i ∈ Region.ready md ops done → YieldsIf P ops S oi v a → S w → LateAll P md ops Q S i k (done.setIfInBounds i true) (a.put oi.dst v) w → wpAny P md ops Q (k + 1) done a w := by
  induction k with
  | zero =>
    intro done a w _ hr hy hS H
    refine ⟨fun h => by rw [h] at hr; exact absurd hr (List.not_mem_nil), fun j hj => ?_⟩
    rcases Decidable.em (j = i) with rfl | hne
    · exact hy.wpOp hi hS H
    · exact absurd (ready_mono hj hne) (by rw [H.1]; exact List.not_mem_nil)
  | succ k ih =>
    intro done a w hfree hr hy hS H
    refine ⟨fun h => by rw [h] at hr; exact absurd hr (List.not_mem_nil), fun j hj => ?_⟩
    rcases Decidable.em (j = i) with rfl | hne
    · exact hy.wpOp hi hS H.any
    obtain ⟨hun, oj, hoj, hall⟩ := mem_ready.1 hj
    -- an operation that is ready while i is not done does not wait for i
    have hno : ∀ e ∈ oj.after, Region.binds md e = true → e.on ≠ i := by
      intro e he hb h
      have h1 := hall e he hb
      have h2 := (mem_ready.1 hr).1
      rw [h] at h1
      rcases Nat.lt_or_ge i done.size with hlt | hge
      · simp [hlt] at h1 h2; rw [h1] at h2; cases h2
      · simp [Array.getElem?_eq_none hge] at h1
    have hstep := wpOp_putIf hoj (hfree j oj hoj hne hun hno) (fun cs b => hsel i oi cs b hi) (fun cs b => hsel j oj cs b hoj) hQ hy (H.2 j (ready_mono hj hne))
    refine wpOp_mono (fun a' w' h3 => ?_) hstep
    refine ih _ a' w' ?_ (ready_mono hr (Ne.symm hne)) h3.1 (h3.2.1 (awaits_no hoj hno)) ?_
    · intro m om hm hmi hmu hmn
      refine hfree m om hm hmi ?_ hmn
      rcases Decidable.em (j = m) with rfl | hjm
      · exact hun
      · rwa [getD_set_ne true hjm] at hmu
    · rw [Array.setIfInBounds_comm _ _ hne]; exact h3.2.2
/-- At a walk's state. -/
theorem late_take {i : Nat} {oi : Oper} {v : Value} {k : Nat} {done : Array Bool} {a : Act} {w : World} (S : World → Prop) (hi : ops[i]? = some oi) (hs : Region.noSelect ops = true) (hf : Region.free md ops done i = true)
    (hr : (Region.ready md ops done).contains i = true) (hQ : ∀ c a w, Q (.panic c) (a.put oi.dst v) w → Q (.panic c) a w) (hy : YieldsIf P ops S oi v a) (hS : S w)
    (h : LateAll P md ops Q S i k (done.setIfInBounds i true) (a.put oi.dst v) w) : wpAny P md ops Q (k + 1) done a w :=
  late_first hi (Region.noSelect_spec hs) hQ k done a w (Region.free_spec hi hf) (by simpa using hr) hy hS h
/-- Those that may come up, one after the other. -/
def LateReady (P : Program) (md : Region.Mode) (ops : Array Oper) (Q : Exit → Act → World → Prop) (S : World → Prop) (i k : Nat) (done : Array Bool) (a : Act) (w : World) (rs : List Nat) : Prop :=
  ∀ j ∈ rs, wpOp P ops Q j (fun a' w' => (awaits md ops i j = false → S w') ∧ LateAll P md ops Q S i k (done.setIfInBounds j true) a' w') a w
theorem LateReady.nil {i k : Nat} {done : Array Bool} {a : Act} {w : World} : LateReady P md ops Q S i k done a w [] := fun _ h => nomatch h
theorem LateReady.cons {i k j : Nat} {o : Oper} {rs : List Nat} {done : Array Bool} {a : Act} {w : World} (ho : ops[j]? = some o)
    (h : ∀ K : Act → World → Prop, (∀ a' w', (awaits md ops i j = false → S w') → LateAll P md ops Q S i k (done.setIfInBounds j true) a' w' → K a' w') →
      if Region.wanted o (yielded ops a.tmps) = true then o.wp P a w K Q else K (a.put o.dst undef) w)
    (hrest : LateReady P md ops Q S i k done a w rs) : LateReady P md ops Q S i k done a w (j :: rs) := by
  intro m hm
  rcases List.mem_cons.1 hm with rfl | hm
  · have h1 := h _ (fun a' w' h2 h3 => (⟨h2, h3⟩ : (awaits md ops i m = false → S w') ∧ LateAll P md ops Q S i k (done.setIfInBounds m true) a' w'))
    unfold wpOp
    simp only [ho]
    split
    · rename_i hw; rw [if_pos hw] at h1; exact .inl h1
    · rename_i hw; rw [if_neg hw] at h1; exact h1
  · exact hrest m hm
theorem late_ready {i k : Nat} {rs : List Nat} {done : Array Bool} {a : Act} {w : World} (hr : Region.ready md ops done = rs) (hne : rs ≠ []) (h : LateReady P md ops Q S i k done a w rs) : LateAll P md ops Q S i (k + 1) done a w :=
  ⟨fun h0 => absurd (hr ▸ h0) hne, hr ▸ h⟩
theorem late_done {i : Nat} {done : Array Bool} {a : Act} {w : World} (hr : Region.ready md ops done = []) (h : Q .normal a w) : ∀ k, LateAll P md ops Q S i k done a w
  | 0 => ⟨hr, h⟩
  | _ + 1 => ⟨fun _ => h, by rw [hr]; exact fun _ h => nomatch h⟩
end
end Go.Proofs.Ytgnffodnimafoaa
