/- Merged: PlanMath, PlanOrd, PlanKahn, PlanLate, PlanWalk, PlanPull, PlanBound. -/
/- The earliest begins of a net without circles, in plain mathematics: relaxing the flows in any order stays below every plan that keeps them; once all flows are kept, the plan is the least. No program. -/
set_option linter.unusedSimpArgs false
set_option linter.unusedVariables false
namespace Go.Proofs.Ytonlkodenfiljaa

/-- A begin of a node, 0 where there is none. -/
def beg (b : List Int) (v : Nat) : Int := b.getD v 0
/-- A flow pushes the begin of the node that it leads to. -/
def plx (t : List Int) (b : List Int) (e : Nat × Nat) : List Int := b.set e.2 (max (beg b e.2) (beg b e.1 + beg t e.1))
theorem plx_len (t b : List Int) (e : Nat × Nat) : (plx t b e).length = b.length := List.length_set
theorem beg_set (b : List Int) (i v : Nat) (x : Int) (hi : i < b.length) : beg (b.set i x) v = if v = i then x else beg b v := by
  unfold beg
  rw [List.getD_eq_getElem?_getD, List.getD_eq_getElem?_getD, List.getElem?_set]
  by_cases h : i = v
  · subst h; rw [if_pos rfl, if_pos hi, if_pos rfl]; rfl
  · rw [if_neg h, if_neg (fun e => h e.symm)]
theorem plx_at {t b : List Int} {e : Nat × Nat} (h : e.2 < b.length) (v : Nat) : beg (plx t b e) v = if v = e.2 then max (beg b e.2) (beg b e.1 + beg t e.1) else beg b v := beg_set b e.2 v _ h
/-- Begins only grow. -/
theorem plx_up {t b : List Int} {e : Nat × Nat} (h : e.2 < b.length) (v : Nat) : beg b v ≤ beg (plx t b e) v := by
  rw [plx_at h]; by_cases hv : v = e.2
  · rw [if_pos hv, hv]; omega
  · rw [if_neg hv]; omega
/-- All flows lead to nodes. -/
def Ins (es : List (Nat × Nat)) (N : Nat) : Prop := ∀ e ∈ es, e.1 < N ∧ e.2 < N
def plxAll (t : List Int) (b : List Int) (es : List (Nat × Nat)) : List Int := es.foldl (plx t) b
theorem plxAll_len (t : List Int) : ∀ (es : List (Nat × Nat)) (b : List Int), (plxAll t b es).length = b.length
  | [], _ => rfl
  | e :: es, b => by
    show (plxAll t (plx t b e) es).length = _
    rw [plxAll_len t es, plx_len]
theorem plxAll_cons (t : List Int) (b : List Int) (e : Nat × Nat) (es : List (Nat × Nat)) : plxAll t b (e :: es) = plxAll t (plx t b e) es := rfl
theorem plxAll_append (t : List Int) (b : List Int) (es fs : List (Nat × Nat)) : plxAll t b (es ++ fs) = plxAll t (plxAll t b es) fs := List.foldl_append
theorem plxAll_up {t : List Int} {N : Nat} (v : Nat) : ∀ {es : List (Nat × Nat)} {b : List Int}, b.length = N → Ins es N → beg b v ≤ beg (plxAll t b es) v
  | [], _, _, _ => Int.le_refl _
  | e :: es, b, hb, hi => by
    rw [plxAll_cons]
    refine Int.le_trans (plx_up (by have := (hi e (by simp)).2; omega) v) (plxAll_up v (by rw [plx_len]; exact hb) fun f hf => hi f (by simp [hf]))
/-- A plan that keeps the flows. -/
def Keeps (es : List (Nat × Nat)) (t : List Int) (F : Nat → Int) : Prop := (∀ v, 0 ≤ F v) ∧ ∀ e ∈ es, F e.1 + beg t e.1 ≤ F e.2
/-- Each begin is 0, or some flow asks for it. -/
def Tight (es : List (Nat × Nat)) (t b : List Int) : Prop := ∀ v, beg b v = 0 ∨ ∃ u, (u, v) ∈ es ∧ beg b v ≤ beg b u + beg t u
theorem plx_below {es : List (Nat × Nat)} {t b : List Int} {F : Nat → Int} {e : Nat × Nat} (hF : Keeps es t F) (he : e ∈ es) (hl : e.2 < b.length) (h : ∀ v, beg b v ≤ F v) : ∀ v, beg (plx t b e) v ≤ F v := by
  intro v
  rw [plx_at hl]
  by_cases hv : v = e.2
  · rw [if_pos hv, hv]
    have h1 := h e.1; have h2 := h e.2; have h3 := hF.2 e he
    omega
  · rw [if_neg hv]; exact h v
theorem plxAll_below {es0 : List (Nat × Nat)} {t : List Int} {F : Nat → Int} {N : Nat} (hF : Keeps es0 t F) : ∀ {es : List (Nat × Nat)} {b : List Int}, b.length = N → Ins es N → (∀ e ∈ es, e ∈ es0) → (∀ v, beg b v ≤ F v) → ∀ v, beg (plxAll t b es) v ≤ F v
  | [], _, _, _, _, h => h
  | e :: es, b, hb, hi, hs, h => by
    rw [plxAll_cons]
    exact plxAll_below hF (by rw [plx_len]; exact hb) (fun f hf => hi f (by simp [hf])) (fun f hf => hs f (by simp [hf])) (plx_below hF (hs e (by simp)) (by have := (hi e (by simp)).2; omega) h)
theorem plx_tight {es : List (Nat × Nat)} {t b : List Int} {e : Nat × Nat} (he : e ∈ es) (hl : e.2 < b.length) (h : Tight es t b) : Tight es t (plx t b e) := by
  intro v
  have up := fun u => plx_up (t := t) (b := b) (e := e) hl u
  by_cases hv : v = e.2
  · have hval : beg (plx t b e) v = max (beg b e.2) (beg b e.1 + beg t e.1) := by rw [plx_at hl, if_pos hv]
    by_cases hm : beg b e.2 ≤ beg b e.1 + beg t e.1
    · refine .inr ⟨e.1, by rw [hv]; exact he, ?_⟩
      have := up e.1
      rw [hval]; omega
    · have hval2 : beg (plx t b e) v = beg b v := by rw [hval, hv]; omega
      rw [hval2]
      rcases h v with h0 | ⟨u, hu, hle⟩
      · exact .inl h0
      · exact .inr ⟨u, hu, by have := up u; omega⟩
  · have hval2 : beg (plx t b e) v = beg b v := by rw [plx_at hl, if_neg hv]
    rw [hval2]
    rcases h v with h0 | ⟨u, hu, hle⟩
    · exact .inl h0
    · exact .inr ⟨u, hu, by have := up u; omega⟩
theorem plxAll_tight {es0 : List (Nat × Nat)} {t : List Int} {N : Nat} : ∀ {es : List (Nat × Nat)} {b : List Int}, b.length = N → Ins es N → (∀ e ∈ es, e ∈ es0) → Tight es0 t b → Tight es0 t (plxAll t b es)
  | [], _, _, _, _, h => h
  | e :: es, b, hb, hi, hs, h => by
    rw [plxAll_cons]
    exact plxAll_tight (by rw [plx_len]; exact hb) (fun f hf => hi f (by simp [hf])) (fun f hf => hs f (by simp [hf])) (plx_tight (hs e (by simp)) (by have := (hi e (by simp)).2; omega) h)
/-- One round keeps each of its flows, seen from the begin that its first node had. -/
theorem plxAll_hit {t : List Int} {N : Nat} {e : Nat × Nat} : ∀ {es : List (Nat × Nat)} {b : List Int}, b.length = N → Ins es N → e ∈ es → beg b e.1 + beg t e.1 ≤ beg (plxAll t b es) e.2
  | [], _, _, _, h => by simp at h
  | f :: es, b, hb, hi, h => by
    rw [plxAll_cons]
    have hl : f.2 < b.length := by have := (hi f (by simp)).2; omega
    have hi2 : Ins es N := fun g hg => hi g (by simp [hg])
    have hb2 : (plx t b f).length = N := by rw [plx_len]; exact hb
    rcases List.mem_cons.1 h with rfl | h
    · have h1 := plxAll_up (t := t) e.2 hb2 hi2
      have h2 : beg (plx t b e) e.2 = max (beg b e.2) (beg b e.1 + beg t e.1) := by rw [plx_at hl, if_pos rfl]
      omega
    · have h1 := plxAll_hit (t := t) hb2 hi2 h
      have h2 := plx_up (t := t) (e := f) hl e.1
      omega
theorem beg_zeros (N v : Nat) : beg (List.replicate N 0) v = 0 := by
  unfold beg; rw [List.getD_eq_getElem?_getD, List.getElem?_replicate]; split <;> rfl
/-- k rounds over all flows, from nothing. -/
def roundsOf (t : List Int) (es : List (Nat × Nat)) (N : Nat) : Nat → List Int
  | 0 => List.replicate N 0
  | k + 1 => plxAll t (roundsOf t es N k) es
theorem rounds_len (t : List Int) (es : List (Nat × Nat)) (N : Nat) : ∀ k, (roundsOf t es N k).length = N
  | 0 => List.length_replicate
  | k + 1 => by rw [roundsOf, plxAll_len]; exact rounds_len t es N k
theorem rounds_nonneg {t : List Int} {es : List (Nat × Nat)} {N : Nat} (hi : Ins es N) (v : Nat) : ∀ k, 0 ≤ beg (roundsOf t es N k) v
  | 0 => by rw [roundsOf, beg_zeros]; omega
  | k + 1 => Int.le_trans (rounds_nonneg hi v k) (plxAll_up v (rounds_len t es N k) hi)
theorem rounds_below {t : List Int} {es : List (Nat × Nat)} {N : Nat} {F : Nat → Int} (hi : Ins es N) (hF : Keeps es t F) : ∀ k v, beg (roundsOf t es N k) v ≤ F v
  | 0, v => by rw [roundsOf, beg_zeros]; exact hF.1 v
  | k + 1, v => plxAll_below hF (rounds_len t es N k) hi (fun _ h => h) (rounds_below hi hF k) v
/-- With a rank that all flows raise: as many rounds as ranks reach a plan that keeps the flows and is tight. -/
theorem rounds_reach {t : List Int} {es : List (Nat × Nat)} {N : Nat} {L : List Int} {rank : Nat → Nat} (hi : Ins es N) (hr : ∀ e ∈ es, rank e.1 < rank e.2) (hK : Keeps es t (beg L)) (hT : Tight es t L) : ∀ k v, rank v < k → beg (roundsOf t es N k) v = beg L v
  | 0, v, h => by omega
  | k + 1, v, h => by
    have hle := rounds_below hi hK (k + 1) v
    have hge : beg L v ≤ beg (roundsOf t es N (k + 1)) v := by
      rcases hT v with h0 | ⟨u, hu, hl⟩
      · rw [h0]; exact rounds_nonneg hi v (k + 1)
      · have h1 := rounds_reach hi hr hK hT k u (by have := hr (u, v) hu; simp only at this; omega)
        have h2 := plxAll_hit (t := t) (rounds_len t es N k) hi hu
        simp only at h2
        rw [roundsOf]
        omega
    omega
theorem beg_ext {a b : List Int} (hl : a.length = b.length) (h : ∀ v, beg a v = beg b v) : a = b := by
  refine List.ext_getElem hl fun i h1 h2 => ?_
  have := h i
  unfold beg at this
  rwa [List.getD_eq_getElem?_getD, List.getD_eq_getElem?_getD, List.getElem?_eq_getElem h1, List.getElem?_eq_getElem h2] at this
end Go.Proofs.Ytonlkodenfiljaa


/- The earliest begins of a net without circles: node by node in an order that all flows follow, or in as many rounds as there are nodes: the same. Plain mathematics, no program. -/
namespace Go.Proofs.Ytonlkodenfiljaa

theorem beg_set_ne (b : List Int) (i v : Nat) (x : Int) (h : i ≠ v) : beg (b.set i x) v = beg b v := by
  unfold beg
  rw [List.getD_eq_getElem?_getD, List.getD_eq_getElem?_getD, List.getElem?_set_ne h]
theorem plx_other {t b : List Int} {e : Nat × Nat} {v : Nat} (h : e.2 ≠ v) : beg (plx t b e) v = beg b v := beg_set_ne b e.2 v _ h
theorem plxAll_other {t : List Int} {v : Nat} : ∀ {es : List (Nat × Nat)} {b : List Int}, (∀ e ∈ es, e.2 ≠ v) → beg (plxAll t b es) v = beg b v
  | [], _, _ => rfl
  | e :: es, b, h => by rw [plxAll_cons, plxAll_other fun f hf => h f (by simp [hf]), plx_other (h e (by simp))]
/-- The flows out of a node. -/
def outs (es : List (Nat × Nat)) (u : Nat) : List (Nat × Nat) := es.filter fun e => e.1 == u
theorem outs_mem {es : List (Nat × Nat)} {u : Nat} {e : Nat × Nat} : e ∈ outs es u ↔ e ∈ es ∧ e.1 = u := by unfold outs; rw [List.mem_filter]; simp
/-- Node by node. -/
def planOf (t : List Int) (es : List (Nat × Nat)) (b : List Int) (os : List Nat) : List Int := plxAll t b (os.flatMap (outs es))
theorem flat_in {es : List (Nat × Nat)} {N : Nat} (hi : Ins es N) (os : List Nat) : Ins (os.flatMap (outs es)) N := fun e he => by
  obtain ⟨u, _, h⟩ := List.mem_flatMap.1 he; exact hi e (outs_mem.1 h).1
theorem flat_sub {es : List (Nat × Nat)} (os : List Nat) : ∀ e ∈ os.flatMap (outs es), e ∈ es := fun e he => by
  obtain ⟨u, _, h⟩ := List.mem_flatMap.1 he; exact (outs_mem.1 h).1
/-- An order that all flows follow. -/
structure Order (es : List (Nat × Nat)) (N : Nat) (os : List Nat) : Prop where
  ins : Ins es N
  len : os.length ≤ N
  all : ∀ v, v < N → v ∈ os
  up : ∀ pre u post, os = pre ++ u :: post → ∀ e ∈ es, e.2 = u → e.1 ∉ u :: post
theorem Order.keeps {es : List (Nat × Nat)} {N : Nat} {os : List Nat} (h : Order es N os) (t : List Int) : Keeps es t (beg (planOf t es (List.replicate N 0) os)) := by
  refine ⟨fun v => ?_, fun e he => ?_⟩
  · have := plxAll_up (t := t) v (List.length_replicate (n := N) (a := (0 : Int))) (flat_in h.ins os)
    rw [beg_zeros] at this; exact this
  · obtain ⟨pre, post, ho⟩ := List.append_of_mem (h.all e.1 (h.ins e he).1)
    have hu := h.up pre e.1 post ho
    unfold planOf
    rw [ho, List.flatMap_append, List.flatMap_cons, plxAll_append, plxAll_append]
    have hl1 : (plxAll t (List.replicate N 0) (pre.flatMap (outs es))).length = N := by rw [plxAll_len, List.length_replicate]
    generalize plxAll t (List.replicate N 0) (pre.flatMap (outs es)) = b1 at hl1 ⊢
    have hin : Ins (outs es e.1) N := fun f hf => h.ins f (outs_mem.1 hf).1
    have h1 := plxAll_hit (t := t) hl1 hin (outs_mem.2 ⟨he, rfl⟩)
    have hl2 : (plxAll t b1 (outs es e.1)).length = N := by rw [plxAll_len]; exact hl1
    have h2 := plxAll_up (t := t) e.2 hl2 (flat_in h.ins post)
    have h3 : beg (plxAll t b1 (outs es e.1)) e.1 = beg b1 e.1 := plxAll_other fun f hf h4 => hu f (outs_mem.1 hf).1 h4 (by rw [(outs_mem.1 hf).2]; simp)
    have h5 : beg (plxAll t (plxAll t b1 (outs es e.1)) (post.flatMap (outs es))) e.1 = beg (plxAll t b1 (outs es e.1)) e.1 := plxAll_other fun f hf h4 => by
      obtain ⟨x, hx, hf⟩ := List.mem_flatMap.1 hf
      exact hu f (outs_mem.1 hf).1 h4 (by rw [(outs_mem.1 hf).2]; simp [hx])
    omega
theorem Order.tight {es : List (Nat × Nat)} {N : Nat} {os : List Nat} (h : Order es N os) (t : List Int) : Tight es t (planOf t es (List.replicate N 0) os) :=
  plxAll_tight List.length_replicate (flat_in h.ins os) (flat_sub os) fun v => .inl (beg_zeros N v)
theorem find_pre {os : List Nat} {v : Nat} (h : v ∈ os) : ∃ pre post, os = pre ++ v :: post ∧ os.findIdx (fun x => x == v) = pre.length := by
  induction os with
  | nil => simp at h
  | cons a os ih =>
    by_cases ha : a = v
    · subst ha; exact ⟨[], os, rfl, by rw [List.findIdx_cons]; simp⟩
    · obtain ⟨pre, post, h1, h2⟩ := ih (by rcases List.mem_cons.1 h with h | h; exact absurd h.symm ha; exact h)
      refine ⟨a :: pre, post, by rw [h1]; rfl, ?_⟩
      have : (a == v) = false := by simpa using ha
      rw [List.findIdx_cons, this, h2]; rfl
theorem find_lt {pre post : List Nat} {v : Nat} (h : v ∈ pre) : (pre ++ post).findIdx (fun x => x == v) < pre.length := by
  obtain ⟨p1, p2, h1, h2⟩ := find_pre h
  subst h1
  have : ((p1 ++ v :: p2) ++ post).findIdx (fun x => x == v) ≤ p1.length := by
    rw [List.append_assoc]
    refine Nat.le_of_not_lt fun hlt => ?_
    have hn := List.not_of_lt_findIdx hlt
    simp at hn
  simp only [List.length_append, List.length_cons]; omega
theorem Order.rank {es : List (Nat × Nat)} {N : Nat} {os : List Nat} (h : Order es N os) : ∀ e ∈ es, os.findIdx (fun x => x == e.1) < os.findIdx (fun x => x == e.2) := by
  intro e he
  obtain ⟨pre, post, h1, h2⟩ := find_pre (h.all e.2 (h.ins e he).2)
  have hu := h.up pre e.2 post h1 e he rfl
  have hm := h.all e.1 (h.ins e he).1
  rw [h1] at hm
  have hp : e.1 ∈ pre := by rcases List.mem_append.1 hm with hm | hm; exact hm; exact absurd hm hu
  rw [h2, h1]
  exact find_lt hp
/-- The rounds come to what the order comes to. -/
theorem Order.same {es : List (Nat × Nat)} {N : Nat} {os : List Nat} (h : Order es N os) (t : List Int) : roundsOf t es N N = planOf t es (List.replicate N 0) os := by
  have hl : (planOf t es (List.replicate N 0) os).length = N := by unfold planOf; rw [plxAll_len, List.length_replicate]
  refine beg_ext (by rw [rounds_len, hl]) fun v => ?_
  by_cases hv : v < N
  · refine rounds_reach (rank := fun v => os.findIdx (fun x => x == v)) h.ins h.rank (h.keeps t) (h.tight t) N v ?_
    have := List.findIdx_lt_length_of_exists (p := fun x => x == v) ⟨v, h.all v hv, by simp⟩
    have := h.len
    omega
  · unfold beg
    rw [List.getD_eq_getElem?_getD, List.getD_eq_getElem?_getD, List.getElem?_eq_none (by rw [rounds_len]; omega), List.getElem?_eq_none (by rw [hl]; omega)]
end Go.Proofs.Ytonlkodenfiljaa


/- An order that all flows follow: the nodes are taken one after the other, each once all flows into it come from taken nodes; without a circle this takes all. Plain mathematics, no program. -/
namespace Go.Proofs.Ytonlkodenfiljaa

/-- A way of one flow or more. -/
inductive Path (es : List (Nat × Nat)) : Nat → Nat → Prop
  | one {a b : Nat} (h : (a, b) ∈ es) : Path es a b
  | cons {a b c : Nat} (h : (a, b) ∈ es) (p : Path es b c) : Path es a c
theorem nodup_le : ∀ {N : Nat} {l : List Nat}, l.Nodup → (∀ x ∈ l, x < N) → l.length ≤ N
  | 0, l, _, h => by
    cases l with
    | nil => exact Nat.le_refl _
    | cons a l => exact absurd (h a (by simp)) (by omega)
  | N + 1, l, hn, h => by
    by_cases hm : N ∈ l
    · have h1 : (l.erase N).length ≤ N := nodup_le (hn.erase N) fun x hx => by
        have h2 := (hn.mem_erase_iff).1 hx
        have := h x h2.2
        have := h2.1
        omega
      rw [List.length_erase_of_mem hm] at h1
      omega
    · exact Nat.le_trans (nodup_le hn fun x hx => by
        have := h x hx
        have : x ≠ N := fun e => hm (e ▸ hx)
        omega) (Nat.le_succ N)
/-- Where each node of a kind has a flow into it from one of the kind, there is a circle. -/
theorem no_sink {es : List (Nat × Nat)} {N : Nat} {M : Nat → Prop} (hN : ∀ v, M v → v < N) (hp : ∀ v, M v → ∃ u, (u, v) ∈ es ∧ M u) (hc : ∀ v, ¬ Path es v v) (v : Nat) : ¬ M v := by
  intro hv
  have key : ∀ k, ∃ a l, (a :: l : List Nat).length = k + 1 ∧ (a :: l).Nodup ∧ (∀ x ∈ a :: l, M x) ∧ ∀ x ∈ l, Path es a x := by
    intro k
    induction k with
    | zero => exact ⟨v, [], rfl, by simp, by simpa using hv, by simp⟩
    | succ k ih =>
      obtain ⟨a, l, h1, h2, h3, h4⟩ := ih
      obtain ⟨u, hu, hM⟩ := hp a (h3 a (by simp))
      refine ⟨u, a :: l, by rw [List.length_cons, h1], List.nodup_cons.2 ⟨fun hm => ?_, h2⟩, fun x hx => ?_, fun x hx => ?_⟩
      · rcases List.mem_cons.1 hm with rfl | hm
        · exact hc _ (.one hu)
        · exact hc _ (.cons hu (h4 u hm))
      · rcases List.mem_cons.1 hx with rfl | hx
        · exact hM
        · exact h3 x hx
      · rcases List.mem_cons.1 hx with rfl | hx
        · exact .one hu
        · exact .cons hu (h4 x hx)
  obtain ⟨a, l, h1, h2, h3, _⟩ := key N
  have := nodup_le h2 fun x hx => hN x (h3 x hx)
  omega
/-- How many flows lead to a node. -/
def cntE (es : List (Nat × Nat)) (v : Nat) : Nat := es.countP fun e => e.2 == v
theorem cntE_append (a b : List (Nat × Nat)) (v : Nat) : cntE (a ++ b) v = cntE a v + cntE b v := List.countP_append
theorem cntE_one (e : Nat × Nat) (v : Nat) : cntE [e] v = if e.2 = v then 1 else 0 := by unfold cntE; simp [List.countP_cons]
/-- The flows out of some nodes. -/
theorem cntE_flat {es : List (Nat × Nat)} (v : Nat) : ∀ {l : List Nat}, l.Nodup → cntE (l.flatMap (outs es)) v = es.countP fun e => e.2 == v && l.contains e.1
  | [], _ => by simp [cntE]
  | u :: l, h => by
    obtain ⟨h1, h2⟩ := List.nodup_cons.1 h
    rw [List.flatMap_cons, cntE_append, cntE_flat v h2]
    unfold cntE outs
    rw [List.countP_filter]
    induction es with
    | nil => rfl
    | cons e es ih =>
      simp only [List.countP_cons]
      have key : (if (e.2 == v && e.1 == u) = true then 1 else 0) + (if (e.2 == v && l.contains e.1) = true then 1 else 0) = if (e.2 == v && (u :: l).contains e.1) = true then 1 else 0 := by
        rw [List.contains_cons]
        cases hv : e.2 == v with
        | false => simp
        | true =>
          by_cases hu : e.1 = u
          · have : l.contains e.1 = false := by rw [hu]; simpa using h1
            rw [this]; simp [hu]
          · have : (e.1 == u) = false := by simpa using hu
            rw [this]; simp
      omega
theorem countP_full {α : Type} {p q : α → Bool} : ∀ {l : List α}, l.countP (fun x => p x && q x) = l.countP p → ∀ x ∈ l, p x = true → q x = true
  | [], _, x, hx, _ => by simp at hx
  | a :: l, h, x, hx, hp => by
    have hle : l.countP (fun x => p x && q x) ≤ l.countP p := List.countP_mono_left fun x _ h => by simp only [Bool.and_eq_true] at h; exact h.1
    rw [List.countP_cons, List.countP_cons] at h
    cases hpa : p a <;> cases hqa : q a <;> simp only [hpa, hqa, Bool.and_false, Bool.and_true, Bool.false_eq_true, if_true, if_false] at h
    · rcases List.mem_cons.1 hx with rfl | hx
      · rw [hpa] at hp; cases hp
      · exact countP_full (by omega) x hx hp
    · rcases List.mem_cons.1 hx with rfl | hx
      · rw [hpa] at hp; cases hp
      · exact countP_full (by omega) x hx hp
    · omega
    · rcases List.mem_cons.1 hx with rfl | hx
      · exact hqa
      · exact countP_full (by omega) x hx hp
theorem countP_and_le {α : Type} (p q : α → Bool) (l : List α) : l.countP (fun x => p x && q x) ≤ l.countP p := List.countP_mono_left fun x _ h => by simp only [Bool.and_eq_true] at h; exact h.1

/-- A flow comes to a node: it is counted, and the node is taken with the last one. -/
def kStep (es : List (Nat × Nat)) (st : List Nat × (Nat → Nat)) (e : Nat × Nat) : List Nat × (Nat → Nat) :=
  (if st.2 e.2 + 1 = cntE es e.2 then st.1 ++ [e.2] else st.1, fun x => if x = e.2 then st.2 e.2 + 1 else st.2 x)
/-- How it stands behind the flows ps, all out of the nodes D. -/
structure Kahn (es : List (Nat × Nat)) (s : Nat) (os : List Nat) (co : Nat → Nat) (ps : List (Nat × Nat)) : Prop where
  co : ∀ v, co v = cntE ps v
  nd : os.Nodup
  st : s ∈ os
  full : ∀ v ∈ os, v = s ∨ cntE ps v = cntE es v
  rest : ∀ v, v ≠ s → v ∉ os → cntE ps v < cntE es v ∨ cntE es v = 0
  up : ∀ pre v post, os = pre ++ v :: post → ∀ e ∈ es, e.2 = v → e.1 ∈ pre
theorem Kahn.start {es : List (Nat × Nat)} {s : Nat} (hs : ∀ e ∈ es, e.2 ≠ s) : Kahn es s [s] (fun _ => 0) [] := by
  refine ⟨fun v => rfl, by simp, by simp, fun v hv => .inl (by simpa using hv), fun v hv _ => ?_, fun pre v post h e he hev => ?_⟩
  · by_cases h : cntE es v = 0
    · exact .inr h
    · exact .inl (show 0 < cntE es v by omega)
  · have : v = s := by
      have : v ∈ [s] := by rw [h]; simp
      simpa using this
    exact absurd (hev.trans this) (hs e he)
theorem Kahn.step {es : List (Nat × Nat)} {s : Nat} {os : List Nat} {co : Nat → Nat} {ps : List (Nat × Nat)} {e : Nat × Nat} (h : Kahn es s os co ps) (hs : ∀ e ∈ es, e.2 ≠ s) (he : e ∈ es)
    {D : List Nat} (hD : ∀ v, cntE (ps ++ [e]) v ≤ es.countP fun e => e.2 == v && D.contains e.1) (hDo : ∀ x ∈ D, x ∈ os) : Kahn es s (kStep es (os, co) e).1 (kStep es (os, co) e).2 (ps ++ [e]) := by
  have hc : ∀ v, cntE (ps ++ [e]) v = cntE ps v + if e.2 = v then 1 else 0 := fun v => by rw [cntE_append, cntE_one]
  have hle : ∀ v, cntE (ps ++ [e]) v ≤ cntE es v := fun v => Nat.le_trans (hD v) (countP_and_le _ _ _)
  have hco : ∀ v, (kStep es (os, co) e).2 v = cntE (ps ++ [e]) v := fun v => by
    rw [hc]
    show (if v = e.2 then co e.2 + 1 else co v) = _
    by_cases hv : v = e.2
    · rw [if_pos hv, if_pos hv.symm, h.co, hv]
    · rw [if_neg hv, if_neg fun x => hv x.symm, h.co]; rfl
  have hnew : e.2 ∉ os := fun hm => by
    rcases h.full e.2 hm with h1 | h1
    · exact hs e he h1
    · have := hle e.2; rw [hc, if_pos rfl] at this; omega
  have hone : cntE (ps ++ [e]) e.2 = cntE ps e.2 + 1 := by rw [hc, if_pos rfl]
  by_cases hf : co e.2 + 1 = cntE es e.2
  · have ho : (kStep es (os, co) e).1 = os ++ [e.2] := if_pos hf
    have hful : cntE (ps ++ [e]) e.2 = cntE es e.2 := by rw [hone, ← h.co]; exact hf
    refine ⟨hco, ?_, by rw [ho]; simp [h.st], fun v hv => ?_, fun v hv hm => ?_, fun pre v post hsp f hfe hfv => ?_⟩
    · rw [ho]; exact List.nodup_append.2 ⟨h.nd, by simp, fun a ha b hb => by rw [List.mem_singleton] at hb; subst hb; exact fun x => hnew (x ▸ ha)⟩
    · rw [ho] at hv
      rcases List.mem_append.1 hv with hv | hv
      · rcases h.full v hv with h1 | h1
        · exact .inl h1
        · right
          have h2 := hle v; rw [hc] at h2 ⊢
          have : e.2 ≠ v := fun x => hnew (x ▸ hv)
          rw [if_neg this]; exact h1
      · rw [List.mem_singleton] at hv; subst hv; exact .inr hful
    · rw [ho] at hm
      have hne : e.2 ≠ v := fun x => hm (by rw [← x]; simp)
      have := h.rest v hv fun x => hm (by simp [x])
      rw [hc, if_neg hne]; exact this
    · rw [ho] at hsp
      rcases List.eq_nil_or_concat post with hp | ⟨post', z, hp⟩
      · subst hp
        have hl := List.append_inj' hsp (by simp)
        have hv : v = e.2 := by have := hl.2; simp at this; exact this.symm
        have hq : es.countP (fun e => e.2 == v && D.contains e.1) = es.countP fun e => e.2 == v := by
          have h1 := hD v
          have h2 := countP_and_le (fun e : Nat × Nat => e.2 == v) (fun e => D.contains e.1) es
          have h3 : cntE (ps ++ [e]) v = es.countP fun e => e.2 == v := by rw [hv]; exact hful
          omega
        have := countP_full hq f hfe (by simpa using hfv)
        rw [← hl.1]
        exact hDo _ (by simpa using this)
      · subst hp
        have hsp' : os ++ [e.2] = (pre ++ v :: post') ++ [z] := by rw [hsp, List.append_assoc]; simp [List.concat_eq_append]
        have hl := List.append_inj' hsp' rfl
        exact h.up pre v post' hl.1 f hfe hfv
  · have ho : (kStep es (os, co) e).1 = os := if_neg hf
    refine ⟨hco, by rw [ho]; exact h.nd, by rw [ho]; exact h.st, fun v hv => ?_, fun v hv hm => ?_, by rw [ho]; exact h.up⟩
    · rw [ho] at hv
      rcases h.full v hv with h1 | h1
      · exact .inl h1
      · right
        have : e.2 ≠ v := fun x => hnew (x ▸ hv)
        rw [hc, if_neg this]; exact h1
    · rw [ho] at hm
      by_cases hev : e.2 = v
      · left
        have h1 := hle v
        rw [← hev, hone] at h1 ⊢
        rw [h.co] at hf
        omega
      · have := h.rest v hv hm
        rw [hc, if_neg hev]; exact this
theorem kStep_mem {es : List (Nat × Nat)} {st : List Nat × (Nat → Nat)} {e : Nat × Nat} {x : Nat} (h : x ∈ st.1) : x ∈ (kStep es st e).1 := by
  unfold kStep
  by_cases hf : st.2 e.2 + 1 = cntE es e.2
  · show x ∈ (if st.2 e.2 + 1 = cntE es e.2 then st.1 ++ [e.2] else st.1)
    rw [if_pos hf]; simp [h]
  · show x ∈ (if st.2 e.2 + 1 = cntE es e.2 then st.1 ++ [e.2] else st.1)
    rw [if_neg hf]; exact h
/-- All flows out of a node. -/
theorem Kahn.run {es : List (Nat × Nat)} {s : Nat} {D : List Nat} (hs : ∀ e ∈ es, e.2 ≠ s) : ∀ {qs ps : List (Nat × Nat)} {st : List Nat × (Nat → Nat)}, Kahn es s st.1 st.2 ps → (∀ e ∈ qs, e ∈ es) →
    (∀ v, cntE (ps ++ qs) v ≤ es.countP fun e => e.2 == v && D.contains e.1) → (∀ x ∈ D, x ∈ st.1) → Kahn es s (qs.foldl (kStep es) st).1 (qs.foldl (kStep es) st).2 (ps ++ qs)
  | [], ps, st, h, _, _, _ => by rw [List.append_nil]; exact h
  | e :: qs, ps, st, h, hq, hc, hD => by
    have h1 := h.step hs (hq e (by simp)) (D := D) (fun v => Nat.le_trans (by rw [show ps ++ e :: qs = (ps ++ [e]) ++ qs by simp]; rw [cntE_append _ qs]; omega) (hc v)) hD
    have := Kahn.run hs (qs := qs) (ps := ps ++ [e]) (st := kStep es st e) h1 (fun f hf => hq f (by simp [hf])) (by rw [show (ps ++ [e]) ++ qs = ps ++ e :: qs by simp]; exact hc) (fun x hx => kStep_mem (hD x hx))
    rw [show ps ++ e :: qs = (ps ++ [e]) ++ qs by simp]
    exact this
/-- All is taken: the order is whole. -/
theorem Kahn.order {es : List (Nat × Nat)} {s N : Nat} {os : List Nat} {co : Nat → Nat} (h : Kahn es s os co (os.flatMap (outs es))) (hi : Ins es N) (hsN : s < N) (hin : ∀ v, v < N → v ≠ s → 0 < cntE es v) (hc : ∀ v, ¬ Path es v v) (hoN : ∀ v ∈ os, v < N) : Order es N os := by
  refine ⟨hi, nodup_le h.nd hoN, fun v hv => ?_, fun pre u post ho e he heu hm => ?_⟩
  · refine Classical.byContradiction fun hno => no_sink (N := N) (M := fun v => v < N ∧ v ∉ os) (fun v hv => hv.1) (fun v hv => ?_) hc v ⟨hv, hno⟩
    have hvs : v ≠ s := fun x => hv.2 (x ▸ h.st)
    refine Classical.byContradiction fun hall => ?_
    have hq : ∀ e ∈ es, e.2 = v → e.1 ∈ os := fun e he hev => Classical.byContradiction fun hn => hall ⟨e.1, by rw [← hev]; exact he, (hi e he).1, hn⟩
    have h1 : cntE (os.flatMap (outs es)) v = cntE es v := by
      rw [cntE_flat v h.nd]
      unfold cntE
      refine List.countP_congr fun e he => ?_
      simp only [Bool.and_eq_true, beq_iff_eq]
      exact ⟨fun x => x.1, fun x => ⟨x, by simpa using hq e he x⟩⟩
    have h2 := hin v hv.1 hvs
    rcases h.rest v hvs hv.2 with h3 | h3 <;> omega
  · have h1 := h.up pre u post ho e he heu
    have h2 := h.nd
    rw [ho] at h2
    exact (List.nodup_append.1 h2).2.2 e.1 h1 e.1 hm rfl
end Go.Proofs.Ytonlkodenfiljaa


/- The latest begins, and the order taken node by node: more of a net without circles. Plain mathematics, no program. -/
namespace Go.Proofs.Ytonlkodenfiljaa

/-- One node of the order: all flows out of it. -/
theorem Kahn.round {es : List (Nat × Nat)} {s N i u : Nat} {os : List Nat} {co : Nat → Nat} (hs : ∀ e ∈ es, e.2 ≠ s) (h : Kahn es s os co ((os.take i).flatMap (outs es))) (hu : os[i]? = some u) :
    Kahn es s ((outs es u).foldl (kStep es) (os, co)).1 ((outs es u).foldl (kStep es) (os, co)).2 ((os.take (i + 1)).flatMap (outs es)) := by
  have ht : os.take (i + 1) = os.take i ++ [u] := by rw [List.take_add_one, hu]; rfl
  have hf : (os.take (i + 1)).flatMap (outs es) = (os.take i).flatMap (outs es) ++ outs es u := by rw [ht, List.flatMap_append]; simp
  rw [hf]
  refine Kahn.run (D := os.take (i + 1)) hs h (fun e he => (outs_mem.1 he).1) (fun v => ?_) (fun x hx => List.mem_of_mem_take hx)
  rw [← hf, cntE_flat v (h.nd.sublist (List.take_sublist _ _))]
  exact Nat.le_refl _
/-- What is taken stays: it only grows at its end. -/
theorem kStep_grows {es : List (Nat × Nat)} : ∀ {qs : List (Nat × Nat)} {st : List Nat × (Nat → Nat)}, ∃ l, (qs.foldl (kStep es) st).1 = st.1 ++ l ∧ ∀ x ∈ l, ∃ e ∈ qs, e.2 = x
  | [], st => ⟨[], by simp, by simp⟩
  | e :: qs, st => by
    obtain ⟨l, h1, h2⟩ := kStep_grows (qs := qs) (st := kStep es st e)
    rw [List.foldl_cons, h1]
    by_cases hf : st.2 e.2 + 1 = cntE es e.2
    · have : (kStep es st e).1 = st.1 ++ [e.2] := if_pos hf
      refine ⟨e.2 :: l, by rw [this]; simp, fun x hx => ?_⟩
      rcases List.mem_cons.1 hx with rfl | hx
      · exact ⟨e, by simp, rfl⟩
      · obtain ⟨f, hf1, hf2⟩ := h2 x hx; exact ⟨f, by simp [hf1], hf2⟩
    · have : (kStep es st e).1 = st.1 := if_neg hf
      refine ⟨l, by rw [this], fun x hx => ?_⟩
      obtain ⟨f, hf1, hf2⟩ := h2 x hx; exact ⟨f, by simp [hf1], hf2⟩
/-- A plan that keeps the flows and is tight is what the rounds come to. -/
theorem Order.only {es : List (Nat × Nat)} {N : Nat} {os : List Nat} (h : Order es N os) {t L : List Int} (hK : Keeps es t (beg L)) (hT : Tight es t L) (hl : L.length = N) : roundsOf t es N N = L := by
  refine beg_ext (by rw [rounds_len, hl]) fun v => ?_
  by_cases hv : v < N
  · refine rounds_reach (rank := fun v => os.findIdx (fun x => x == v)) h.ins h.rank hK hT N v ?_
    have := List.findIdx_lt_length_of_exists (p := fun x => x == v) ⟨v, h.all v hv, by simp⟩
    have := h.len
    omega
  · unfold beg
    rw [List.getD_eq_getElem?_getD, List.getD_eq_getElem?_getD, List.getElem?_eq_none (by rw [rounds_len]; omega), List.getElem?_eq_none (by rw [hl]; omega)]
/-- The flows the other way round. -/
def swp (es : List (Nat × Nat)) : List (Nat × Nat) := es.map fun e => (e.2, e.1)
theorem swp_mem {es : List (Nat × Nat)} {a b : Nat} : (a, b) ∈ swp es ↔ (b, a) ∈ es := by
  unfold swp
  rw [List.mem_map]
  exact ⟨fun ⟨e, h1, h2⟩ => by injection h2 with h3 h4; subst h3; subst h4; exact h1, fun h => ⟨(b, a), h, rfl⟩⟩
theorem Order.back {es : List (Nat × Nat)} {N : Nat} {os : List Nat} (h : Order es N os) : Order (swp es) N os.reverse := by
  refine ⟨fun e he => ?_, by rw [List.length_reverse]; exact h.len, fun v hv => List.mem_reverse.2 (h.all v hv), fun pre u post ho e he heu hm => ?_⟩
  · have := h.ins (e.2, e.1) (swp_mem.1 he); exact ⟨this.2, this.1⟩
  · have he2 : (e.2, e.1) ∈ es := swp_mem.1 he
    have ho2 : os = post.reverse ++ u :: pre.reverse := by
      have := congrArg List.reverse ho
      rw [List.reverse_reverse] at this
      rw [this]; simp
    rcases List.mem_cons.1 hm with h1 | h1
    · exact h.up post.reverse u pre.reverse ho2 (e.2, e.1) he2 h1 (by simp [heu])
    · obtain ⟨x, y, hxy⟩ := List.append_of_mem (List.mem_reverse.2 h1)
      exact h.up x e.1 (y ++ u :: pre.reverse) (by rw [ho2, hxy]; simp) (e.2, e.1) he2 rfl (by simp [heu])
/-- A flow pulls the begin of the node that it comes from. -/
def plxL (t b : List Int) (e : Nat × Nat) : List Int := b.set e.1 (min (beg b e.1) (beg b e.2 - beg t e.1))
def roundsL (t : List Int) (es : List (Nat × Nat)) (M : Int) (N : Nat) : Nat → List Int
  | 0 => (List.range N).map fun v => M - beg t v
  | k + 1 => es.foldl (plxL t) (roundsL t es M N k)
/-- How long it takes behind a node, at least, if it begins so. -/
def dual (t : List Int) (M : Int) (N : Nat) (b : List Int) : List Int := (List.range N).map fun v => M - beg t v - beg b v
theorem beg_range (N : Nat) (f : Nat → Int) (v : Nat) : beg ((List.range N).map f) v = if v < N then f v else 0 := by
  unfold beg
  rw [List.getD_eq_getElem?_getD, List.getElem?_map]
  by_cases h : v < N
  · rw [if_pos h, List.getElem?_range h]; rfl
  · rw [if_neg h, List.getElem?_eq_none (by simpa using h)]; rfl
theorem dual_len (t : List Int) (M : Int) (N : Nat) (b : List Int) : (dual t M N b).length = N := by unfold dual; rw [List.length_map, List.length_range]
theorem beg_dual (t : List Int) (M : Int) (N : Nat) (b : List Int) (v : Nat) : beg (dual t M N b) v = if v < N then M - beg t v - beg b v else 0 := beg_range N _ v
theorem dual_step {t b : List Int} {M : Int} {N : Nat} {e : Nat × Nat} (hb : b.length = N) (h1 : e.1 < N) (h2 : e.2 < N) : dual t M N (plxL t b e) = plx t (dual t M N b) (e.2, e.1) := by
  refine beg_ext (by rw [dual_len, plx_len, dual_len]) fun v => ?_
  rw [beg_dual, plx_at (by rw [dual_len]; exact h1), beg_dual, beg_dual, beg_dual, if_pos h1, if_pos h2]
  unfold plxL
  rw [beg_set b e.1 v _ (by omega)]
  by_cases hv : v = e.1
  · subst hv; rw [if_pos h1, if_pos rfl, if_pos rfl]; dsimp only; omega
  · rw [if_neg hv]; simp only [hv, if_false]
theorem foldL_len (t : List Int) : ∀ (es : List (Nat × Nat)) (b : List Int), (es.foldl (plxL t) b).length = b.length
  | [], _ => rfl
  | e :: es, b => by rw [List.foldl_cons, foldL_len t es]; exact List.length_set
theorem dual_fold {t : List Int} {M : Int} {N : Nat} : ∀ {es : List (Nat × Nat)} {b : List Int}, b.length = N → Ins es N → dual t M N (es.foldl (plxL t) b) = plxAll t (dual t M N b) (swp es)
  | [], _, _, _ => rfl
  | e :: es, b, hb, hi => by
    have he := hi e (by simp)
    rw [List.foldl_cons, dual_fold (by unfold plxL; rw [List.length_set]; exact hb) fun f hf => hi f (by simp [hf]), dual_step hb he.1 he.2]
    rfl
theorem roundsL_len (t : List Int) (es : List (Nat × Nat)) (M : Int) (N : Nat) : ∀ k, (roundsL t es M N k).length = N
  | 0 => by rw [roundsL, List.length_map, List.length_range]
  | k + 1 => by rw [roundsL, foldL_len]; exact roundsL_len t es M N k
theorem dual_rounds {t : List Int} {es : List (Nat × Nat)} {M : Int} {N : Nat} (hi : Ins es N) : ∀ k, dual t M N (roundsL t es M N k) = roundsOf t (swp es) N k
  | 0 => by
    refine beg_ext (by rw [dual_len, rounds_len]) fun v => ?_
    rw [beg_dual, roundsOf, beg_zeros, roundsL, beg_range]
    by_cases hv : v < N
    · rw [if_pos hv, if_pos hv]; omega
    · rw [if_neg hv]
  | k + 1 => by rw [roundsL, dual_fold (roundsL_len t es M N k) hi, dual_rounds hi k]; rfl
/-- Each begin is pulled by the flows out of its node, and by nothing else. -/
structure Pulled (es : List (Nat × Nat)) (t : List Int) (M : Int) (N : Nat) (b : List Int) : Prop where
  len : b.length = N
  top : ∀ v, v < N → beg b v ≤ M - beg t v
  keep : ∀ e ∈ es, beg b e.1 ≤ beg b e.2 - beg t e.1
  tight : ∀ v, v < N → beg b v = M - beg t v ∨ ∃ u, (v, u) ∈ es ∧ beg b v = beg b u - beg t v
theorem Pulled.same {es : List (Nat × Nat)} {t b : List Int} {M : Int} {N : Nat} {os : List Nat} (h : Pulled es t M N b) (ho : Order es N os) : roundsL t es M N N = b := by
  have hd : roundsOf t (swp es) N N = dual t M N b := by
    refine ho.back.only ⟨fun v => ?_, fun e he => ?_⟩ (fun v => ?_) (dual_len t M N b)
    · rw [beg_dual]; by_cases hv : v < N
      · rw [if_pos hv]; have := h.top v hv; omega
      · rw [if_neg hv]; omega
    · have hm : (e.2, e.1) ∈ es := swp_mem.1 he
      have hi := ho.ins _ hm
      have hk := h.keep _ hm
      simp only at hi hk
      rw [beg_dual, beg_dual, if_pos hi.1, if_pos hi.2]; omega
    · rw [beg_dual]; by_cases hv : v < N
      · rw [if_pos hv]
        rcases h.tight v hv with h1 | ⟨u, h1, h2⟩
        · left; omega
        · right
          have hi := ho.ins _ h1
          refine ⟨u, swp_mem.2 h1, ?_⟩
          simp only at hi
          rw [beg_dual, if_pos hi.2]; omega
      · rw [if_neg hv]; exact .inl rfl
  have he := (dual_rounds (t := t) (M := M) ho.ins N).trans hd
  refine beg_ext (by rw [roundsL_len, h.len]) fun v => ?_
  have hv := congrArg (fun l => beg l v) he
  simp only [beg_dual] at hv
  by_cases hvN : v < N
  · rw [if_pos hvN, if_pos hvN] at hv; omega
  · unfold beg
    rw [List.getD_eq_getElem?_getD, List.getD_eq_getElem?_getD, List.getElem?_eq_none (by rw [roundsL_len]; omega), List.getElem?_eq_none (by rw [h.len]; omega)]
end Go.Proofs.Ytonlkodenfiljaa


/- How the loop that takes the nodes stands, at each node and within it. Plain mathematics, no program. -/
namespace Go.Proofs.Ytonlkodenfiljaa

/-- Ahead of the node at place i. -/
structure Walk (es : List (Nat × Nat)) (s N i : Nat) (os : List Nat) (co : Nat → Nat) : Prop where
  kahn : Kahn es s os co ((os.take i).flatMap (outs es))
  lt : ∀ v ∈ os, v < N
  le : i ≤ os.length
theorem Walk.start {es : List (Nat × Nat)} {s N : Nat} (hs : ∀ e ∈ es, e.2 ≠ s) (hN : s < N) : Walk es s N 0 [s] (fun _ => 0) :=
  ⟨Kahn.start hs, fun v hv => by rw [List.mem_singleton] at hv; omega, Nat.zero_le _⟩
theorem Walk.len {es : List (Nat × Nat)} {s N i : Nat} {os : List Nat} {co : Nat → Nat} (h : Walk es s N i os co) : os.length ≤ N := nodup_le h.kahn.nd h.lt
/-- Within the node at place i, behind the first j flows out of it. -/
theorem Walk.mid {es : List (Nat × Nat)} {s N i u : Nat} {os : List Nat} {co : Nat → Nat} (h : Walk es s N i os co) (hs : ∀ e ∈ es, e.2 ≠ s) (hi : Ins es N) (hu : os[i]? = some u) (j : Nat) :
    Kahn es s (((outs es u).take j).foldl (kStep es) (os, co)).1 (((outs es u).take j).foldl (kStep es) (os, co)).2 ((os.take i).flatMap (outs es) ++ (outs es u).take j) ∧
    (∀ v ∈ (((outs es u).take j).foldl (kStep es) (os, co)).1, v < N) ∧ (∃ l, (((outs es u).take j).foldl (kStep es) (os, co)).1 = os ++ l) ∧ ∀ v, (((outs es u).take j).foldl (kStep es) (os, co)).2 v ≤ es.length := by
  have hnd := h.kahn.nd
  have ht : os.take (i + 1) = os.take i ++ [u] := by rw [List.take_add_one, hu]; rfl
  have hf : (os.take (i + 1)).flatMap (outs es) = (os.take i).flatMap (outs es) ++ outs es u := by rw [ht, List.flatMap_append]; simp
  have hle : ∀ v, cntE ((os.take i).flatMap (outs es) ++ (outs es u).take j) v ≤ es.countP fun e => e.2 == v && (os.take (i + 1)).contains e.1 := fun v => by
    rw [← cntE_flat v (hnd.sublist (List.take_sublist _ _)), hf, cntE_append, cntE_append]
    have : cntE ((outs es u).take j) v ≤ cntE (outs es u) v := (List.take_sublist _ _).countP_le
    omega
  have hk := Kahn.run (D := os.take (i + 1)) hs (st := (os, co)) h.kahn (qs := (outs es u).take j) (fun e he => (outs_mem.1 (List.mem_of_mem_take he)).1) hle (fun x hx => List.mem_of_mem_take hx)
  obtain ⟨l, h1, h2⟩ := kStep_grows (es := es) (qs := (outs es u).take j) (st := (os, co))
  refine ⟨hk, fun v hv => ?_, ⟨l, h1⟩, fun v => ?_⟩
  · rw [h1] at hv
    rcases List.mem_append.1 hv with hv | hv
    · exact h.lt v hv
    · obtain ⟨e, he, rfl⟩ := h2 v hv
      exact (hi e (outs_mem.1 (List.mem_of_mem_take he)).1).2
  · rw [hk.co]
    exact Nat.le_trans (hle v) List.countP_le_length
/-- The next node. -/
theorem Walk.next {es : List (Nat × Nat)} {s N i u : Nat} {os : List Nat} {co : Nat → Nat} (h : Walk es s N i os co) (hs : ∀ e ∈ es, e.2 ≠ s) (hi : Ins es N) (hu : os[i]? = some u) :
    Walk es s N (i + 1) ((outs es u).foldl (kStep es) (os, co)).1 ((outs es u).foldl (kStep es) (os, co)).2 := by
  have hk := h.kahn.round (N := N) hs hu
  have hil : i < os.length := (List.getElem?_eq_some_iff.1 hu).1
  obtain ⟨l, h1, h2⟩ := kStep_grows (es := es) (qs := outs es u) (st := (os, co))
  refine ⟨?_, fun v hv => ?_, ?_⟩
  · have : ((outs es u).foldl (kStep es) (os, co)).1.take (i + 1) = os.take (i + 1) := by
      rw [h1]; exact List.take_append_of_le_length (show i + 1 ≤ os.length by omega)
    rw [this]; exact hk
  · rw [h1] at hv
    rcases List.mem_append.1 hv with hv | hv
    · exact h.lt v hv
    · obtain ⟨e, he, rfl⟩ := h2 v hv
      exact (hi e (outs_mem.1 he).1).2
  · rw [h1, List.length_append]; dsimp only; omega
/-- Behind the last one. -/
theorem Walk.whole {es : List (Nat × Nat)} {s N i : Nat} {os : List Nat} {co : Nat → Nat} (h : Walk es s N i os co) (hi : os.length ≤ i) : Kahn es s os co (os.flatMap (outs es)) := by
  have := h.kahn
  rwa [List.take_of_length_le hi] at this
end Go.Proofs.Ytonlkodenfiljaa


/- The latest begins, node by node from the end: each is pulled by the flows out of its node. Plain mathematics, no program. -/
namespace Go.Proofs.Ytonlkodenfiljaa

/-- One node: what the flows out of it leave. -/
theorem foldL_pull {t : List Int} {u : Nat} : ∀ {qs : List (Nat × Nat)} {b : List Int}, u < b.length → (∀ e ∈ qs, e.1 = u ∧ e.2 ≠ u) →
    (∀ v, v ≠ u → beg (qs.foldl (plxL t) b) v = beg b v) ∧ beg (qs.foldl (plxL t) b) u ≤ beg b u ∧ (∀ e ∈ qs, beg (qs.foldl (plxL t) b) u ≤ beg b e.2 - beg t u) ∧
    (beg (qs.foldl (plxL t) b) u = beg b u ∨ ∃ e ∈ qs, beg (qs.foldl (plxL t) b) u = beg b e.2 - beg t u)
  | [], b, _, _ => ⟨fun _ _ => rfl, Int.le_refl _, fun e he => by simp at he, .inl rfl⟩
  | e :: qs, b, hl, hq => by
    obtain ⟨h1, h2⟩ := hq e (by simp)
    have hl2 : u < (plxL t b e).length := by unfold plxL; rw [List.length_set]; exact hl
    obtain ⟨i1, i2, i3, i4⟩ := foldL_pull (t := t) (qs := qs) hl2 fun f hf => hq f (by simp [hf])
    rw [List.foldl_cons]
    have hat : beg (plxL t b e) u = min (beg b u) (beg b e.2 - beg t u) := by
      unfold plxL; rw [h1, beg_set b u u _ hl, if_pos rfl]
    have hof : ∀ v, v ≠ u → beg (plxL t b e) v = beg b v := fun v hv => by
      unfold plxL; rw [h1]; exact beg_set_ne b u v _ fun x => hv x.symm
    refine ⟨fun v hv => (i1 v hv).trans (hof v hv), by omega, fun f hf => ?_, ?_⟩
    · rcases List.mem_cons.1 hf with rfl | hf
      · omega
      · have := i3 f hf
        rw [hof f.2 (hq f (by simp [hf])).2] at this; exact this
    · rcases i4 with h | ⟨f, hf, h⟩
      · rw [h, hat]
        by_cases hm : beg b u ≤ beg b e.2 - beg t u
        · left; omega
        · exact .inr ⟨e, by simp, by omega⟩
      · rw [hof f.2 (hq f (by simp [hf])).2] at h
        exact .inr ⟨f, by simp [hf], h⟩
def pullNode (t : List Int) (es : List (Nat × Nat)) (M : Int) (b : List Int) (u : Nat) : List Int := (outs es u).foldl (plxL t) (b.set u (M - beg t u))
/-- How it stands behind some nodes. -/
structure Pulls (es : List (Nat × Nat)) (t : List Int) (M : Int) (N : Nat) (done : List Nat) (b : List Int) : Prop where
  len : b.length = N
  top : ∀ v ∈ done, beg b v ≤ M - beg t v
  keep : ∀ e ∈ es, e.1 ∈ done → beg b e.1 ≤ beg b e.2 - beg t e.1
  tight : ∀ v ∈ done, beg b v = M - beg t v ∨ ∃ u, (v, u) ∈ es ∧ beg b v = beg b u - beg t v
theorem Pulls.step {es : List (Nat × Nat)} {t b : List Int} {M : Int} {N u : Nat} {done : List Nat} (h : Pulls es t M N done b) (hu : u < N) (hd : u ∉ done) (hs : ∀ e ∈ es, e.1 = u → e.2 ∈ done) (hc : ∀ e ∈ es, e.1 ∈ done → e.2 ∈ done) : Pulls es t M N (done ++ [u]) (pullNode t es M b u) := by
  have hl : u < (b.set u (M - beg t u)).length := by rw [List.length_set, h.len]; exact hu
  have hne : ∀ e ∈ outs es u, e.1 = u ∧ e.2 ≠ u := fun e he => by
    obtain ⟨h1, h2⟩ := outs_mem.1 he
    exact ⟨h2, fun x => hd (x ▸ hs e h1 h2)⟩
  obtain ⟨i1, i2, i3, i4⟩ := foldL_pull (t := t) hl hne
  have hat : beg (b.set u (M - beg t u)) u = M - beg t u := by rw [beg_set b u u _ (by rw [h.len]; exact hu), if_pos rfl]
  have hof : ∀ v, v ≠ u → beg (pullNode t es M b u) v = beg b v := fun v hv => (i1 v hv).trans (beg_set_ne b u v _ fun x => hv x.symm)
  have hin : ∀ v ∈ done, v ≠ u := fun v hv x => hd (x ▸ hv)
  have hdn : ∀ v ∈ done, beg (pullNode t es M b u) v = beg b v := fun v hv => hof v (hin v hv)
  have hset : ∀ v ∈ done, beg (b.set u (M - beg t u)) v = beg b v := fun v hv => beg_set_ne b u v _ fun x => hin v hv x.symm
  refine ⟨by unfold pullNode; rw [foldL_len, List.length_set]; exact h.len, fun v hv => ?_, fun e he hv => ?_, fun v hv => ?_⟩
  · rcases List.mem_append.1 hv with hv | hv
    · rw [hdn v hv]; exact h.top v hv
    · rw [List.mem_singleton] at hv; subst hv
      have : beg (pullNode t es M b v) v ≤ beg (b.set v (M - beg t v)) v := i2
      omega
  · rcases List.mem_append.1 hv with hv | hv
    · rw [hdn _ hv, hdn _ (hc e he hv)]; exact h.keep e he hv
    · rw [List.mem_singleton] at hv
      have h2 := hs e he hv
      have h3 := i3 e (outs_mem.2 ⟨he, hv⟩)
      rw [hset _ h2] at h3
      rw [hdn _ h2, hv]; exact h3
  · rcases List.mem_append.1 hv with hv | hv
    · rw [hdn v hv]
      rcases h.tight v hv with h1 | ⟨w, h1, h2⟩
      · exact .inl h1
      · exact .inr ⟨w, h1, by rw [hdn w (hc _ h1 hv)]; exact h2⟩
    · rw [List.mem_singleton] at hv; subst hv
      rcases i4 with h1 | ⟨e, he, h1⟩
      · exact .inl (h1.trans hat)
      · obtain ⟨h2, h3⟩ := outs_mem.1 he
        have h4 := hs e h2 h3
        rw [hset _ h4] at h1
        exact .inr ⟨e.2, by rw [← h3]; exact h2, by rw [hdn _ h4]; exact h1⟩
theorem Pulls.run {es : List (Nat × Nat)} {t : List Int} {M : Int} {N : Nat} {os : List Nat} (ho : Order es N os) (hn : os.Nodup) (hN : ∀ v ∈ os, v < N) : ∀ {todo done : List Nat} {b : List Int}, os.reverse = done ++ todo → Pulls es t M N done b → Pulls es t M N os.reverse (todo.foldl (pullNode t es M) b)
  | [], done, b, he, h => by rw [List.append_nil] at he; rw [he]; exact h
  | u :: todo, done, b, he, h => by
    have hr : os.reverse.Nodup := List.pairwise_reverse.2 (hn.imp fun h x => h x.symm)
    rw [he] at hr
    have hap := List.nodup_append.1 hr
    have hsucc : ∀ pre x post, os.reverse = pre ++ x :: post → ∀ e ∈ es, e.1 = x → e.2 ∈ pre := fun pre x post hp e hee hx => by
      have h1 := ho.back.up pre x post hp (e.2, e.1) (swp_mem.2 hee) hx
      have h2 : e.2 ∈ os.reverse := List.mem_reverse.2 (ho.all e.2 (ho.ins e hee).2)
      rw [hp] at h2
      rcases List.mem_append.1 h2 with h2 | h2
      · exact h2
      · exact absurd h2 h1
    have hst := h.step (u := u) (hN u (List.mem_reverse.1 (by rw [he]; simp))) (fun hm => hap.2.2 u hm u (by simp) rfl) (hsucc done u todo he) (fun e hee hd => by
      obtain ⟨x, y, hxy⟩ := List.append_of_mem hd
      have := hsucc x e.1 (y ++ u :: todo) (by rw [he, hxy]; simp) e hee rfl
      rw [hxy]; simp [this])
    rw [List.foldl_cons]
    exact Pulls.run ho hn hN (done := done ++ [u]) (by rw [he]; simp) hst
/-- All nodes, from the end: it is what the rounds come to. -/
theorem Order.latest {es : List (Nat × Nat)} {N : Nat} {os : List Nat} (ho : Order es N os) (hn : os.Nodup) (hN : ∀ v ∈ os, v < N) (t : List Int) (M : Int) {b : List Int} (hb : b.length = N) : roundsL t es M N N = os.reverse.foldl (pullNode t es M) b := by
  have h := Pulls.run (t := t) (M := M) ho hn hN (todo := os.reverse) (done := []) (b := b) rfl ⟨hb, fun v hv => by simp at hv, fun e _ hv => by simp at hv, fun v hv => by simp at hv⟩
  have hm : ∀ v, v < N → v ∈ os.reverse := fun v hv => List.mem_reverse.2 (ho.all v hv)
  exact Pulled.same ⟨h.len, fun v hv => h.top v (hm v hv), fun e he => h.keep e he (hm _ (ho.ins e he).1), fun v hv => h.tight v (hm v hv)⟩ ho
end Go.Proofs.Ytonlkodenfiljaa


/- How large begins become: no more than 500 for each node ahead. Plain mathematics, no program. -/
namespace Go.Proofs.Ytonlkodenfiljaa

/-- 500 for each node ahead in the order. -/
def capOf (os : List Nat) (v : Nat) : Int := 500 * (os.findIdx (fun x => x == v) : Nat)
theorem capOf_le {es : List (Nat × Nat)} {N : Nat} {os : List Nat} (h : Order es N os) (v : Nat) : 0 ≤ capOf os v ∧ capOf os v ≤ 500 * (N : Int) := by
  unfold capOf
  have h1 : os.findIdx (fun x => x == v) ≤ os.length := List.findIdx_le_length
  have h2 := h.len
  omega
theorem Order.cap {es : List (Nat × Nat)} {N : Nat} {os : List Nat} (h : Order es N os) {t : List Int} (ht : ∀ v, beg t v ≤ 500) : Keeps es t (capOf os) := by
  refine ⟨fun v => (capOf_le h v).1, fun e he => ?_⟩
  have h1 := h.rank e he
  have h2 := ht e.1
  unfold capOf
  omega
/-- Whatever flows have been relaxed, from a state within the bounds. -/
theorem Order.within {es fs : List (Nat × Nat)} {N : Nat} {os : List Nat} {t b : List Int} (h : Order es N os) (ht : ∀ v, beg t v ≤ 500) (hb : b.length = N) (h0 : ∀ v, 0 ≤ beg b v) (h1 : ∀ v, beg b v ≤ capOf os v) (hs : ∀ e ∈ fs, e ∈ es) (v : Nat) : 0 ≤ beg (plxAll t b fs) v ∧ beg (plxAll t b fs) v ≤ capOf os v := by
  have hi : Ins fs N := fun e he => h.ins e (hs e he)
  exact ⟨Int.le_trans (h0 v) (plxAll_up v hb hi), plxAll_below (h.cap ht) hb hi hs h1 v⟩
theorem Order.rounds_in {es : List (Nat × Nat)} {N : Nat} {os : List Nat} {t : List Int} (h : Order es N os) (ht : ∀ v, beg t v ≤ 500) (k v : Nat) : 0 ≤ beg (roundsOf t es N k) v ∧ beg (roundsOf t es N k) v ≤ capOf os v :=
  ⟨rounds_nonneg h.ins v k, rounds_below h.ins (h.cap ht) k v⟩
/-- The latest begins, too: none is earlier than this. -/
theorem Order.late_in {es : List (Nat × Nat)} {N : Nat} {os : List Nat} {t : List Int} (h : Order es N os) (ht : ∀ v, 0 ≤ beg t v ∧ beg t v ≤ 500) (M : Int) (k v : Nat) (hv : v < N) : M - 500 - 500 * (N : Int) ≤ beg (roundsL t es M N k) v ∧ beg (roundsL t es M N k) v ≤ M := by
  have h1 := h.back.rounds_in (t := t) (fun v => (ht v).2) k v
  have h2 := (capOf_le h.back v).2
  rw [← dual_rounds h.ins (M := M), beg_dual, if_pos hv] at h1
  have := ht v
  omega
end Go.Proofs.Ytonlkodenfiljaa

