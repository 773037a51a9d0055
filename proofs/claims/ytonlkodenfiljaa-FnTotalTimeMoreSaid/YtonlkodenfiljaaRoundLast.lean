/- In a round of a range over a function: a region that draws its order, all of whose operations but the last one only read: one walk of the lexical order, and then the last operation. Plain theorems over any program. -/
import Derived.Deep.Quiet
import Derived.BigQuiet
import Derived.OrdersIn
import Derived.RangeFuncCalls
import Derived.TacticsIn
import Derived.Test.YtonlkodenfiljaaBase
set_option linter.unusedSimpArgs false
set_option linter.unusedVariables false
namespace Go.Proofs.Ytonlkodenfiljaa
open Go.RowKit

/-- The operation that does nothing, in another's place. -/
def idle (o : Oper) : Oper := { o with op := .move (.const undef) }
def lastOff : List Oper → List Oper
  | [] => []
  | [o] => [idle o]
  | o :: o' :: l => o :: lastOff (o' :: l)
def noDefer (o : Oper) : Bool := match o.op with | .defer _ => false | _ => true
/-- Each operation waits for earlier ones alone; each but the last one is waited for; none defers. -/
def lastB (ops : Array Oper) : Bool :=
  ((List.range ops.size).all fun k => match ops[k]? with | none => false | some o => (o.after.all fun e => !Region.binds .any e || decide (e.on < k)) && noDefer o) &&
  ((List.range (ops.size - 1)).all fun j => (List.range ops.size).any fun k => decide (j < k) && match ops[k]? with | none => false | some o => o.after.any fun e => Region.binds .any e && e.on == j)
theorem lastOff_len : ∀ (l : List Oper), (lastOff l).length = l.length
  | [] => rfl
  | [_] => rfl
  | _ :: o' :: l => by simp only [lastOff, List.length_cons]; rw [lastOff_len (o' :: l)]; rfl
theorem lastOff_at : ∀ (l : List Oper) (j : Nat), j + 1 ≠ l.length → (lastOff l)[j]? = l[j]?
  | [], _, _ => rfl
  | [o], j, h => by
    cases j with
    | zero => simp at h
    | succ j => simp [lastOff]
  | o :: o' :: l, j, h => by
    cases j with
    | zero => rfl
    | succ j => 
      simp only [lastOff, List.getElem?_cons_succ]
      exact lastOff_at (o' :: l) j (by simpa using h)
theorem lastOff_last : ∀ (l : List Oper) (o : Oper), l[l.length - 1]? = some o → (lastOff l)[l.length - 1]? = some (idle o)
  | [], _, h => by simp at h
  | [x], o, h => by simp at h; subst h; rfl
  | x :: o' :: l, o, h => by
    simp only [lastOff, List.length_cons, Nat.add_sub_cancel, List.getElem?_cons_succ] at h ⊢
    exact lastOff_last (o' :: l) o (by simpa using h)
section
variable {P : Program} {C : World → Prop} {l n : Nat} {ls : List Oper} {Q : Exit → Act → World → Prop} {Qa : Act → Prop} {om : Oper}

theorem semAt_nd {o : Oper} (h : noDefer o = true) (ro : Option Nat) (ρ : Operand → Value) : Oper.semAt ro ρ o = execOp ρ o :=
  Oper.semAt_eq ro ρ o (fun c hc => by unfold noDefer at h; rw [hc] at h; cases h)
theorem wpIn_quiet {o : Oper} {a : Act} {K : Act → Prop} {K' : Act → World → Prop} {w : World} (hnd : noDefer o = true) (hw : C w) (h : ∀ a w', C w' → K a → K' a w') (hh : o.quiet P a C K) : o.wpIn (Fence.wide.inRound l) n P a w K' Q := by
  obtain ⟨v, h1, h2⟩ := hh
  have h3 := h1 w hw
  unfold Oper.quietAt at h3
  unfold Oper.wpIn
  refine ⟨fun _ _ => trivial, ?_⟩
  rw [semAt_nd hnd]
  generalize (execOp a.eval o).run P w = r at *
  cases r with
  | ok x w' =>
    cases x <;> simp only [Oper.quietUpon] at h3 <;> simp only [Oper.uponIn]
    case value u =>
      obtain ⟨e1, e2⟩ := h3
      rw [e1, e2]
      exact h _ _ hw h2
    case skip =>
      obtain ⟨e1, e2⟩ := h3
      rw [e1, ← e2]
      exact h _ _ hw h2
    case enter f args =>
      obtain ⟨e1, hc⟩ := h3
      rw [e1]
      refine ⟨fun hd => (by cases hd), CallsIn.inRound l (callsIn_wide.2 (hc.mono fun e w'' ⟨he, hw''⟩ => ?_))⟩
      subst he
      exact h _ _ hw'' h2
  | halt x w' => simp only [Oper.quietUpon] at h3
theorem wpIn_of_wp {o : Oper} {a : Act} {K : Act → World → Prop} {w : World} (hnd : noDefer o = true) (hne : ∀ f args w', (execOp a.eval o).run P w ≠ .ok (.enter f args) w') (hnr : ∀ r args w', (execOp a.eval o).run P w ≠ .ok (.row r args) w') (h : o.wp P a w K Q) : o.wpIn (Fence.wide.inRound l) n P a w K Q := by
  unfold Oper.wp at h
  unfold Oper.wpIn
  refine ⟨fun _ _ => trivial, ?_⟩
  rw [semAt_nd hnd]
  generalize (execOp a.eval o).run P w = r at *
  cases r with
  | ok x w' =>
    cases x <;> simp only [Oper.upon] at h <;> simp only [Oper.uponIn] <;> try exact h
    case enter f args => exact absurd rfl (hne f args w')
    case row r args => exact absurd rfl (hnr r args w')
  | halt x w' => cases x <;> simp only [Oper.upon] at h <;> simp only [Oper.uponIn] <;> exact h

theorem off_size : (lastOff ls).toArray.size = ls.toArray.size := by simp [lastOff_len]
theorem off_at {j : Nat} (h : j + 1 ≠ ls.length) : (lastOff ls).toArray[j]? = ls.toArray[j]? := by simp only [List.getElem?_toArray]; exact lastOff_at ls j h
theorem off_after (j : Nat) : ((lastOff ls).toArray[j]?).map (·.after) = (ls.toArray[j]?).map (·.after) := by
  simp only [List.getElem?_toArray]
  by_cases h : j + 1 = ls.length
  · obtain ⟨o, ho⟩ : ∃ o, ls[ls.length - 1]? = some o := ⟨_, List.getElem?_eq_getElem (by omega)⟩
    rw [show j = ls.length - 1 by omega, lastOff_last ls o ho, ho]; rfl
  · rw [lastOff_at ls j h]
theorem off_ready (md : Region.Mode) (listed : Array Bool) : Region.ready md (lastOff ls).toArray listed = Region.ready md ls.toArray listed := by
  unfold Region.ready
  rw [off_size]
  refine List.filter_congr fun i _ => ?_
  have := off_after (ls := ls) i
  cases h1 : (lastOff ls).toArray[i]? <;> cases h2 : ls.toArray[i]? <;> rw [h1, h2] at this <;> simp_all
theorem off_yielded (hd : om.dst = none) (hom : ls[ls.length - 1]? = some om) (tmps : Array Value) : yielded (lastOff ls).toArray tmps = yielded ls.toArray tmps := by
  funext j
  unfold yielded
  by_cases h : j + 1 = ls.length
  · simp only [List.getElem?_toArray]
    rw [show j = ls.length - 1 by omega, lastOff_last ls om hom, hom]; rfl
  · rw [off_at h]
/-- What is listed is listed with all that it waits for. -/
def Closed (ops : Array Oper) (listed : Array Bool) : Prop := ∀ k o, ops[k]? = some o → listed.getD k true = true → ∀ e ∈ o.after, Region.binds .any e = true → listed.getD e.on false = true
theorem getD_at {a : Array Bool} {i : Nat} (hi : i < a.size) (x y : Bool) : a.getD i x = a.getD i y := by simp [hi]
theorem all_listed {listed : Array Bool} (hB : lastB ls.toArray = true) (hs : listed.size = ls.length) (hc : Closed ls.toArray listed) {m : Nat} (hm : m + 1 = ls.length)
    (hr : ∀ o, ls.toArray[m]? = some o → ∀ e ∈ o.after, Region.binds .any e = true → listed.getD e.on false = true) : ∀ d j, j + d = m → 0 < d → listed.getD j false = true := by
  unfold lastB at hB
  rw [Bool.and_eq_true] at hB
  intro d
  induction d using Nat.strongRecOn with
  | ind d ih =>
    intro j hj hd
    have h2 := List.all_eq_true.1 hB.2 j (List.mem_range.2 (by simp; omega))
    obtain ⟨k, hk, hk2⟩ := List.any_eq_true.1 h2
    rw [List.mem_range] at hk
    rw [Bool.and_eq_true] at hk2
    have hjk : j < k := by simpa using hk2.1
    have hkl : k < ls.length := by simpa using hk
    cases ho : ls.toArray[k]? with
    | none => rw [ho] at hk2; simp at hk2
    | some o =>
      rw [ho] at hk2
      obtain ⟨ei, hei, hb⟩ := Array.any_eq_true.1 hk2.2
      have he := Array.getElem_mem hei
      generalize o.after[ei] = e at he hb
      simp only [Bool.and_eq_true, beq_iff_eq] at hb
      have : listed.getD e.on false = true := by
        by_cases hkm : k = m
        · subst hkm; exact hr o ho e he hb.1
        · exact hc k o ho (by rw [getD_at (by omega) true false]; exact ih (m - k) (by omega) k (by omega) (by omega)) e he hb.1
      rw [← hb.2]; exact this
theorem ready_none {listed : Array Bool} (hs : listed.size = ls.length) (h : ∀ j, j < ls.length → listed.getD j false = true) (md : Region.Mode) : Region.ready md ls.toArray listed = [] := by
  rw [List.eq_nil_iff_forall_not_mem]
  intro j hj
  obtain ⟨h0, o, ho, _⟩ := mem_ready.1 hj
  have hl : j < ls.length := by simpa using (Array.getElem?_eq_some_iff.1 ho).1
  rw [getD_at (by omega) true false, h j hl] at h0
  cases h0
theorem some_ready {listed : Array Bool} (hB : lastB ls.toArray = true) (hs : listed.size = ls.length) : ∀ (j : Nat), j < ls.length → listed.getD j false = false → Region.ready .any ls.toArray listed ≠ [] := by
  unfold lastB at hB
  rw [Bool.and_eq_true] at hB
  intro j
  induction j using Nat.strongRecOn with
  | ind j ih =>
    intro hj hu
    by_cases hall : ∀ i, i < j → listed.getD i false = true
    · intro h0
      have h1 := List.all_eq_true.1 hB.1 j (List.mem_range.2 (by simpa using hj))
      cases ho : ls.toArray[j]? with
      | none => rw [ho] at h1; cases h1
      | some o =>
        rw [ho, Bool.and_eq_true] at h1
        have : j ∈ Region.ready .any ls.toArray listed := mem_ready.2 ⟨by rw [getD_at (by omega) true false]; exact hu, o, ho, fun e he hb => by
          have := Array.all_eq_true_iff_forall_mem.1 h1.1 e he
          rw [hb] at this
          exact hall _ (by simpa using this)⟩
        rw [h0] at this; cases this
    · obtain ⟨i, hi⟩ := Classical.not_forall.1 hall
      have hij : i < j := Classical.byContradiction fun h => hi fun h' => absurd h' h
      exact ih i hij (by omega) (by
        cases hb : listed.getD i false with
        | false => rfl
        | true => exact absurd (fun _ => hb) hi)
theorem nd_at (hB : lastB ls.toArray = true) {j : Nat} {o : Oper} (ho : ls.toArray[j]? = some o) : noDefer o = true := by
  unfold lastB at hB
  rw [Bool.and_eq_true] at hB
  have h1 := List.all_eq_true.1 hB.1 j (List.mem_range.2 (Array.getElem?_eq_some_iff.1 ho).1)
  rw [ho, Bool.and_eq_true] at h1
  exact h1.2

theorem wpAnyIn_last (hB : lastB ls.toArray = true) (hom : ls[ls.length - 1]? = some om) (hd : om.dst = none) (hg : om.guard = none)
    (hlast : ∀ a w, C w → Qa a → om.wpIn (Fence.wide.inRound l) n P a w (fun a' w' => Q .normal a' w') Q) :
    ∀ (fuel : Nat) (listed : Array Bool) (a : Act) (w : World), C w → listed.size = ls.length → Closed ls.toArray listed → listed.getD (ls.length - 1) false = false →
      wpAnyQ P .any (lastOff ls).toArray C Qa fuel listed a → wpAnyIn (Fence.wide.inRound l) n P .any ls.toArray Q fuel listed a w := by
  have hl0 : 0 < ls.length := by
    rcases Nat.eq_zero_or_pos ls.length with h | h
    · rw [List.length_eq_zero_iff] at h; subst h; simp at hom
    · exact h
  intro fuel
  induction fuel with
  | zero =>
    intro listed a w _ hs _ hu h
    rw [wpAnyQ, off_ready] at h
    exact absurd h.1 (some_ready hB hs _ (by omega) hu)
  | succ fuel ih =>
    intro listed a w hw hs hc hu h
    rw [wpAnyQ, off_ready] at h
    refine ⟨fun h0 => absurd h0 (some_ready hB hs _ (by omega) hu), fun j hj => ?_⟩
    have hq := h.2 j hj
    obtain ⟨hju, o, ho, hall⟩ := mem_ready.1 hj
    have hjl : j < ls.length := by simpa using (Array.getElem?_eq_some_iff.1 ho).1
    unfold wpOpIn
    simp only [ho]
    by_cases hjm : j + 1 = ls.length
    · have hol : o = om := by
        rw [List.getElem?_toArray, show j = ls.length - 1 by omega, hom] at ho
        exact (Option.some.inj ho).symm
      subst hol
      have hwant : Region.wanted o (yielded ls.toArray a.tmps) = true := by unfold Region.wanted; rw [hg]
      rw [if_pos hwant]
      have hlist : ∀ i, i < ls.length → (listed.setIfInBounds j true).getD i false = true := fun i hi => by
        by_cases hij : i = j
        · subst hij; simp [hs, hi]
        · have := all_listed (m := j) hB hs hc hjm (fun o' ho' e he hb => by rw [ho] at ho'; cases ho'; exact hall e he hb) (j - i) i (by omega) (by omega)
          exact getD_set_true this
      have hrd := ready_none (ls := ls) (listed := listed.setIfInBounds j true) (by simpa using hs) hlist .any
      -- what the walk has come to
      have hQa : Qa a := by
        have ho' : (lastOff ls).toArray[j]? = some (idle o) := by
          rw [List.getElem?_toArray, show j = ls.length - 1 by omega, lastOff_last ls o hom]
        unfold qOp at hq
        simp only [ho'] at hq
        have hwant' : Region.wanted (idle o) (yielded (lastOff ls).toArray a.tmps) = true := by unfold Region.wanted idle; simp only [hg]
        rw [if_pos hwant'] at hq
        obtain ⟨v, _, hk⟩ := hq
        have hput : a.put (idle o).dst v = a := by unfold idle; rw [hd]; rfl
        rw [hput] at hk
        cases fuel with
        | zero => exact hk.2
        | succ fuel => rw [wpAnyQ, off_ready] at hk; exact hk.1 hrd
      refine Oper.wpIn_mono (fun a' w' hQ' => ?_) (hlast a w hw hQa)
      cases fuel with
      | zero => exact ⟨hrd, hQ'⟩
      | succ fuel => exact ⟨fun _ => hQ', by rw [hrd]; exact fun _ h => nomatch h⟩
    · have ho' : (lastOff ls).toArray[j]? = some o := (off_at hjm).trans ho
      have hc' : Closed ls.toArray (listed.setIfInBounds j true) := fun k ok hk hkl e he hb => by
        by_cases hkj : k = j
        · subst hkj
          rw [ho] at hk; cases hk
          exact getD_set_true (hall e he hb)
        · rw [getD_set_ne true (Ne.symm hkj)] at hkl
          exact getD_set_true (hc k ok hk hkl e he hb)
      have hu' : (listed.setIfInBounds j true).getD (ls.length - 1) false = false := by
        rw [getD_at (by simp; omega) false true, getD_set_ne true (by omega), getD_at (by omega) true false]; exact hu
      have hstep : ∀ a' w', C w' → wpAnyQ P .any (lastOff ls).toArray C Qa fuel (listed.setIfInBounds j true) a' → wpAnyIn (Fence.wide.inRound l) n P .any ls.toArray Q fuel (listed.setIfInBounds j true) a' w' :=
        fun a' w' hw' h' => ih _ a' w' hw' (by simpa using hs) hc' hu' h'
      unfold qOp at hq
      simp only [ho'] at hq
      rw [off_yielded hd hom] at hq
      by_cases hwant : Region.wanted o (yielded ls.toArray a.tmps) = true
      · rw [if_pos hwant] at hq ⊢
        exact wpIn_quiet (nd_at hB ho) hw hstep hq
      · rw [if_neg hwant] at hq ⊢
        exact ⟨fun _ _ => trivial, hstep _ _ hw hq⟩
/-- **In a round: the lexical walk of all but the last, then the last.** -/
theorem wpIn_region_last {id : Nat} {a : Act} {w : World} (hm : P.follows .mixedOrders = true) (hB : lastB ls.toArray = true) (hx : Region.lexB .any (lastOff ls).toArray = true) (hom : ls[ls.length - 1]? = some om) (hd : om.dst = none) (hg : om.guard = none)
    (h : wpQuiet P (lastOff ls).toArray (fun w' => ∃ k, w' = w.drewN k) (fun a' => ∀ w', (∃ k, w' = w.drewN k) → om.wpIn (Fence.wide.inRound l) n P a' w' (fun a'' w'' => Q .normal a'' w'') Q) (lastOff ls) a) :
    (Code.region id ls.toArray true).wpIn (Fence.wide.inRound l) n P Q a w := by
  have hl0 : 0 < ls.length := by
    rcases Nat.eq_zero_or_pos ls.length with h | h
    · rw [List.length_eq_zero_iff] at h; subst h; simp at hom
    · exact h
  simp only [Region.lexB, Bool.and_eq_true] at hx
  refine wpIn_region_any hm (wpAnyIn_last (C := fun w' => ∃ k, w' = w.drewN k) (Qa := fun a' => ∀ w', (∃ k, w' = w.drewN k) → om.wpIn (Fence.wide.inRound l) n P a' w' (fun a'' w'' => Q .normal a'' w'') Q) hB hom hd hg (fun a w hw hQ => hQ w hw) _ _ _ _ ⟨1, rfl⟩ (by simp) ?_ ?_ ?_)
  · intro k o hk hkl
    simp only [Array.getD_eq_getD_getElem?, Array.getElem?_replicate] at hkl
    split at hkl
    · simp at hkl
    · rename_i hlt
      exact absurd (Array.getElem?_eq_some_iff.1 hk).1 hlt
  · simp only [Array.getD_eq_getD_getElem?, Array.getElem?_replicate]
    split <;> rfl
  · have := wpAnyQ_lex (C := fun w' => ∃ k, w' = w.drewN k) (md := .any) hx.1 (lastOff ls) 0 (Array.replicate (lastOff ls).toArray.size false) a (by simp) (by simpa using hx.2) h
    rw [off_size] at this
    simpa [lastOff_len] using this
end
end Go.Proofs.Ytonlkodenfiljaa
