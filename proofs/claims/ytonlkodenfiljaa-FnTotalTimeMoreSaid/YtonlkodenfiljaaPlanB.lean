/- Merged: PlanNet, PlanNext, PlanTimes, PlanOk. -/
import Derived.Test.YtonlkodenfiljaaBase
import Derived.Test.YtonlkodenfiljaaPlanA
import Derived.Test.YtonlkodenfiljaaStartA
/- A valid process without a circle has an order that all its flows follow: the one in which the nodes are taken. Plain mathematics, no program. -/
set_option linter.unusedSimpArgs false
set_option linter.unusedVariables false
namespace Go.Proofs.Ytonlkodenfiljaa
open Go.RowKit

/-- The flows, as pairs of nodes. -/
def esOf (fs : List Flw) : List (Nat × Nat) := fs.map fun f => (f.1.toNat, f.2.1.toNat)
theorem esOf_mem {fs : List Flw} {N : Nat} (h : Inside fs N) {a b : Nat} (he : (a, b) ∈ esOf fs) : Stp fs (a : Int) (b : Int) ∧ a < N ∧ b < N := by
  obtain ⟨f, hf, e⟩ := List.mem_map.1 he
  injection e with e1 e2
  have := h f hf
  exact ⟨⟨f, hf, by omega, by omega⟩, by omega, by omega⟩
theorem esOf_ins {fs : List Flw} {N : Nat} (h : Inside fs N) : Ins (esOf fs) N := fun e he => (esOf_mem h (a := e.1) (b := e.2) he).2
theorem path_rch {fs : List Flw} {N : Nat} (h : Inside fs N) {a b : Nat} (p : Path (esOf fs) a b) : Rch1 fs (a : Int) (b : Int) := by
  induction p with
  | one he => exact ⟨_, (esOf_mem h he).1, .refl⟩
  | cons he _ ih => exact ⟨_, (esOf_mem h he).1, ih.rch⟩
theorem path_lt {fs : List Flw} {N : Nat} (h : Inside fs N) {a b : Nat} (p : Path (esOf fs) a b) : a < N := by
  cases p with
  | one he => exact (esOf_mem h he).2.1
  | cons he _ => exact (esOf_mem h he).2.1
theorem no_path {fs : List Flw} {N : Nat} (h : Inside fs N) (hc : ∀ v : Nat, v < N → ¬ Rch1 fs (v : Int) (v : Int)) (v : Nat) : ¬ Path (esOf fs) v v := fun p => hc v (path_lt h p) (path_rch h p)
theorem cntE_flUp {fs : List Flw} {N : Nat} (h : Inside fs N) (v : Nat) : ∀ k, k ≤ fs.length → (flUp fs false (v : Int) k).length = cntE (esOf (fs.take k)) v
  | 0, _ => by simp [flUp, esOf, cntE]
  | k + 1, hk => by
    have hg : fs[k]? = some fs[k] := List.getElem?_eq_getElem hk
    have ih := cntE_flUp h v k (by omega)
    have hin := h fs[k] (List.getElem_mem hk)
    have ht : esOf (fs.take (k + 1)) = esOf (fs.take k) ++ [(fs[k].1.toNat, fs[k].2.1.toNat)] := by
      rw [List.take_add_one, hg]; unfold esOf; rw [List.map_append]; rfl
    rw [ht, cntE_append, cntE_one, ← ih]
    by_cases he : fs[k].2.1 = (v : Int)
    · rw [flUp_yes hg (show endOf false fs[k] = (v : Int) from he), List.length_append, if_pos (by show fs[k].2.1.toNat = v; omega)]; rfl
    · rw [flUp_no hg (show ¬ endOf false fs[k] = (v : Int) from he), if_neg (by show ¬ fs[k].2.1.toNat = v; omega)]; rfl
/-- As many flows lead to a node as the process counts. -/
theorem cntE_flOf {fs : List Flw} {N : Nat} (h : Inside fs N) (v : Nat) : (flOf fs false (v : Int)).length = cntE (esOf fs) v := by
  have := cntE_flUp h v fs.length (Nat.le_refl _)
  rw [List.take_length] at this
  exact this
theorem one_start : ∀ {ns : List (Int × Int)} {i j : Nat} {x y : Int}, nStarts ns = 1 → ns[i]? = some (0, x) → ns[j]? = some (0, y) → i = j
  | [], i, _, _, _, _, hi, _ => by simp at hi
  | p :: ns, i, j, x, y, h, hi, hj => by
    unfold nStarts at h
    rw [List.countP_cons] at h
    have pos : ∀ {k : Nat} {z : Int}, ns[k]? = some (0, z) → 0 < ns.countP fun n => n.1 == 0 := fun hk => List.countP_pos_iff.2 ⟨_, List.mem_of_getElem? hk, by simp⟩
    match i, j with
    | 0, 0 => rfl
    | 0, j + 1 =>
      simp only [List.getElem?_cons_zero, Option.some.injEq] at hi
      simp only [List.getElem?_cons_succ] at hj
      have := pos hj
      rw [hi, if_pos (by rfl)] at h; omega
    | i + 1, 0 =>
      simp only [List.getElem?_cons_zero, Option.some.injEq] at hj
      simp only [List.getElem?_cons_succ] at hi
      have := pos hi
      rw [hj, if_pos (by rfl)] at h; omega
    | i + 1, j + 1 =>
      simp only [List.getElem?_cons_succ] at hi hj
      have := pos hi
      have h1 : nStarts ns = 1 := by unfold nStarts; split at h <;> omega
      rw [one_start h1 hi hj]
/-- Only the start has no flow into it. -/
theorem into_node {ns : List (Int × Int)} {fs : List Flw} (h : vProc ns fs = true) {s v : Nat} {y : Int} (hs : ns[s]? = some (0, y)) (hv : v < ns.length) : v ≠ s ↔ 0 < cntE (esOf fs) v := by
  obtain ⟨⟨k, z⟩, hk⟩ : ∃ p, ns[v]? = some p := ⟨_, List.getElem?_eq_getElem hv⟩
  obtain ⟨_, h2⟩ := vProc_node h hk
  rw [cntE_flOf (vProc_inside h)] at h2
  constructor
  · intro hne
    have hk0 : k ≠ 0 := fun e => hne (one_start (vProc_starts h) (by rw [hk, e]) hs)
    unfold vKind at h2
    rw [if_neg hk0] at h2
    refine Nat.pos_of_ne_zero fun h0 => ?_
    rw [h0] at h2
    simp at h2
  · intro hp e
    subst e
    rw [hs] at hk
    injection hk with hk; injection hk with hk _
    subst hk
    unfold vKind at h2
    simp at h2
    omega
/-- The nodes as inOrder takes them, behind all: an order that all flows follow. -/
theorem net_order {ns : List (Int × Int)} {fs : List Flw} (h : vProc ns fs = true) (hc : ∀ v : Nat, v < ns.length → ¬ Rch1 fs (v : Int) (v : Int)) {s : Nat} {y : Int} (hs : ns[s]? = some (0, y)) {os : List Nat} {co : Nat → Nat}
    (hk : Kahn (esOf fs) s os co (os.flatMap (outs (esOf fs)))) (hN : ∀ v ∈ os, v < ns.length) : Order (esOf fs) ns.length os :=
  hk.order (esOf_ins (vProc_inside h)) (List.getElem?_eq_some_iff.1 hs).1 (fun v hv hne => (into_node h hs hv).1 hne) (no_path (vProc_inside h) hc) hN
/-- No flow leads to the start. -/
theorem start_free {ns : List (Int × Int)} {fs : List Flw} (h : vProc ns fs = true) {s : Nat} {y : Int} (hs : ns[s]? = some (0, y)) : ∀ e ∈ esOf fs, e.2 ≠ s := by
  intro e he hes
  have h1 : ¬ 0 < cntE (esOf fs) s := fun hp => (into_node h hs (List.getElem?_eq_some_iff.1 hs).1).2 hp rfl
  exact h1 (List.countP_pos_iff.2 ⟨e, he, by simpa using hes⟩)
end Go.Proofs.Ytonlkodenfiljaa


/- The flows out of a node, as the process lists them. Plain mathematics, no program. -/
namespace Go.Proofs.Ytonlkodenfiljaa
open Go.RowKit

/-- Where a flow leads. -/
def toOf (fs : List Flw) (i : Int) : Nat := match fs[i.toNat]? with | some f => f.2.1.toNat | none => 0
theorem toOf_at {fs : List Flw} {k : Nat} {f : Flw} (hg : fs[k]? = some f) : toOf fs (k : Int) = f.2.1.toNat := by unfold toOf; rw [Int.toNat_natCast, hg]
theorem outs_append (a b : List (Nat × Nat)) (u : Nat) : outs (a ++ b) u = outs a u ++ outs b u := List.filter_append _ _
theorem outs_flUp {fs : List Flw} {N : Nat} (h : Inside fs N) (u : Nat) : ∀ k, k ≤ fs.length → outs (esOf (fs.take k)) u = (flUp fs true (u : Int) k).map fun i => (u, toOf fs i)
  | 0, _ => by simp [flUp, esOf, outs]
  | k + 1, hk => by
    have hg : fs[k]? = some fs[k] := List.getElem?_eq_getElem hk
    have ih := outs_flUp h u k (by omega)
    have hin := h fs[k] (List.getElem_mem hk)
    have ht : esOf (fs.take (k + 1)) = esOf (fs.take k) ++ [(fs[k].1.toNat, fs[k].2.1.toNat)] := by
      rw [List.take_add_one, hg]; unfold esOf; rw [List.map_append]; rfl
    rw [ht, outs_append, ih]
    by_cases he : fs[k].1 = (u : Int)
    · have hu : fs[k].1.toNat = u := by omega
      rw [flUp_yes hg (show endOf true fs[k] = (u : Int) from he), List.map_append, List.map_cons, List.map_nil, toOf_at hg]
      unfold outs
      simp [hu]
    · have hu : ¬ fs[k].1.toNat = u := by omega
      rw [flUp_no hg (show ¬ endOf true fs[k] = (u : Int) from he)]
      unfold outs
      simp [hu]
/-- nextNodes, in its order. -/
theorem outs_flOf {fs : List Flw} {N : Nat} (h : Inside fs N) (u : Nat) : outs (esOf fs) u = (flOf fs true (u : Int)).map fun i => (u, toOf fs i) := by
  have := outs_flUp h u fs.length (Nat.le_refl _)
  rw [List.take_length] at this
  exact this
end Go.Proofs.Ytonlkodenfiljaa


/- What chapter 15 asks of a valid process without a circle and its times: the order is there, and the begins are small. Plain mathematics, no program. -/
namespace Go.Proofs.Ytonlkodenfiljaa
open Go.RowKit

theorem has_start {ns : List (Int × Int)} {fs : List Flw} (h : vProc ns fs = true) : ∃ (s : Nat) (y : Int), ns[s]? = some (0, y) := by
  have h1 := vProc_starts h
  unfold nStarts at h1
  obtain ⟨p, hp, h0⟩ := List.countP_pos_iff.1 (show 0 < ns.countP fun n => n.1 == 0 by omega)
  obtain ⟨i, hi⟩ := List.mem_iff_getElem?.1 hp
  have : p.1 = 0 := by simpa using h0
  exact ⟨i, p.2, by rw [hi, ← this]⟩
/-- The loop comes to its end. -/
theorem walk_end {es : List (Nat × Nat)} {s N : Nat} (hs : ∀ e ∈ es, e.2 ≠ s) (hi : Ins es N) (hN : s < N) : ∃ i os co, Walk es s N i os co ∧ os.length ≤ i := by
  have key : ∀ k, ∃ i os co, Walk es s N i os co ∧ (os.length ≤ i ∨ k ≤ i) := by
    intro k
    induction k with
    | zero => exact ⟨0, _, _, Walk.start hs hN, .inr (Nat.le_refl _)⟩
    | succ k ih =>
      obtain ⟨i, os, co, h, hk⟩ := ih
      by_cases hl : os.length ≤ i
      · exact ⟨i, os, co, h, .inl hl⟩
      · have hki : k ≤ i := by rcases hk with hk | hk; exact absurd hk hl; exact hk
        have hu : os[i]? = some os[i] := List.getElem?_eq_getElem (by omega)
        exact ⟨i + 1, _, _, h.next hs hi hu, .inr (by omega)⟩
  obtain ⟨i, os, co, h, hk⟩ := key N
  refine ⟨i, os, co, h, ?_⟩
  have := h.len
  rcases hk with hk | hk <;> omega
/-- An order that all flows follow. -/
theorem order_is {ns : List (Int × Int)} {fs : List Flw} (h : vProc ns fs = true) (hc : ∀ v : Nat, v < ns.length → ¬ Rch1 fs (v : Int) (v : Int)) : ∃ os, Order (esOf fs) ns.length os ∧ os.Nodup ∧ ∀ v ∈ os, v < ns.length := by
  obtain ⟨s, y, hs⟩ := has_start h
  obtain ⟨i, os, co, hw, hl⟩ := walk_end (start_free h hs) (esOf_ins (vProc_inside h)) (List.getElem?_eq_some_iff.1 hs).1
  exact ⟨os, net_order h hc hs (hw.whole hl) hw.lt, hw.kahn.nd, hw.lt⟩
/-- The times are valid. -/
def vTimes (ns : List (Int × Int)) (ts : List Int) : Bool := decide (ts.length = ns.length) && ts.all fun t => inR t 0 500
theorem vTimes_at {ns : List (Int × Int)} {ts : List Int} (h : vTimes ns ts = true) (v : Nat) : 0 ≤ beg ts v ∧ beg ts v ≤ 500 := by
  unfold vTimes at h
  rw [Bool.and_eq_true, List.all_eq_true] at h
  unfold beg
  rw [List.getD_eq_getElem?_getD]
  cases hv : ts[v]? with
  | none => exact ⟨Int.le_refl _, by decide⟩
  | some t => exact inR_iff.1 (h.2 t (List.mem_of_getElem? hv))
/-- When each node can begin; when all have ended; when each has to begin; how much later it can. -/
def earlyOf (ns : List (Int × Int)) (fs : List Flw) (ts : List Int) : List Int := roundsOf ts (esOf fs) ns.length ns.length
def totalUp (ts b : List Int) (k : Nat) : Int := (List.range k).foldl (fun m v => max m (beg b v + beg ts v)) 0
def totalOf (ns : List (Int × Int)) (fs : List Flw) (ts : List Int) : Int := totalUp ts (earlyOf ns fs ts) ns.length
def lateOf (ns : List (Int × Int)) (fs : List Flw) (ts : List Int) : List Int := roundsL ts (esOf fs) (totalOf ns fs ts) ns.length ns.length
def slackOf (ns : List (Int × Int)) (fs : List Flw) (ts : List Int) : List Int := (List.range ns.length).map fun v => beg (lateOf ns fs ts) v - beg (earlyOf ns fs ts) v
def critUp (sl : List Int) (k : Nat) : List Int := ((List.range k).filter fun v => beg sl v == 0).map fun (v : Nat) => (v : Int)
def critOf (ns : List (Int × Int)) (fs : List Flw) (ts : List Int) : List Int := critUp (slackOf ns fs ts) ns.length
theorem totalUp_step (ts b : List Int) (k : Nat) : totalUp ts b (k + 1) = max (totalUp ts b k) (beg b k + beg ts k) := by unfold totalUp; rw [List.range_succ, List.foldl_append]; rfl
theorem totalUp_in {ts b : List Int} {M : Int} (hM : 0 ≤ M) (h : ∀ v, 0 ≤ beg b v + beg ts v ∧ beg b v + beg ts v ≤ M) : ∀ k, 0 ≤ totalUp ts b k ∧ totalUp ts b k ≤ M
  | 0 => ⟨Int.le_refl _, hM⟩
  | k + 1 => by
    have := totalUp_in hM h k
    have := h k
    rw [totalUp_step]
    omega
theorem early_in {ns : List (Int × Int)} {fs : List Flw} {ts : List Int} (h : vProc ns fs = true) (hc : ∀ v : Nat, v < ns.length → ¬ Rch1 fs (v : Int) (v : Int)) (ht : vTimes ns ts = true) (k v : Nat) : 0 ≤ beg (roundsOf ts (esOf fs) ns.length k) v ∧ beg (roundsOf ts (esOf fs) ns.length k) v ≤ 5000 := by
  obtain ⟨os, ho, _, _⟩ := order_is h hc
  have h1 := ho.rounds_in (t := ts) (fun v => (vTimes_at ht v).2) k v
  have h2 := (capOf_le ho v).2
  have h3 := (vProc_len h).2.1
  omega
theorem total_in {ns : List (Int × Int)} {fs : List Flw} {ts : List Int} (h : vProc ns fs = true) (hc : ∀ v : Nat, v < ns.length → ¬ Rch1 fs (v : Int) (v : Int)) (ht : vTimes ns ts = true) (k : Nat) : 0 ≤ totalUp ts (earlyOf ns fs ts) k ∧ totalUp ts (earlyOf ns fs ts) k ≤ 5500 :=
  totalUp_in (by decide) (fun v => by have h1 := early_in h hc ht ns.length v; have h2 := vTimes_at ht v; unfold earlyOf; omega) k
end Go.Proofs.Ytonlkodenfiljaa


/- What chapter 15's functions answer, with the guards; the bounds within a round. Plain mathematics, no program. -/
namespace Go.Proofs.Ytonlkodenfiljaa
open Go.RowKit

noncomputable def planOk (ns : List (Int × Int)) (fs : List Flw) (ts : List Int) : Bool := vProc ns fs && !circOf ns fs && vTimes ns ts
structure Plan (ns : List (Int × Int)) (fs : List Flw) (ts : List Int) : Prop where
  v : vProc ns fs = true
  c : ∀ v : Nat, v < ns.length → ¬ Rch1 fs (v : Int) (v : Int)
  t : vTimes ns ts = true
theorem plan_of {ns : List (Int × Int)} {fs : List Flw} {ts : List Int} (h : planOk ns fs ts = true) : Plan ns fs ts := by
  unfold planOk at h
  simp only [Bool.and_eq_true, Bool.not_eq_true'] at h
  obtain ⟨⟨h1, h2⟩, h3⟩ := h
  refine ⟨h1, fun v hv hr => ?_, h3⟩
  unfold circOf at h2
  rw [h1, Bool.true_and] at h2
  unfold circUp at h2
  have := List.any_eq_false.1 h2 v (List.mem_range.2 hv)
  exact this (rch1B_iff.2 hr)
noncomputable def earlyR (ns : List (Int × Int)) (fs : List Flw) (ts : List Int) : List Int := if planOk ns fs ts then earlyOf ns fs ts else []
noncomputable def totalR (ns : List (Int × Int)) (fs : List Flw) (ts : List Int) : Int := if planOk ns fs ts then totalOf ns fs ts else -1
noncomputable def slackR (ns : List (Int × Int)) (fs : List Flw) (ts : List Int) : List Int := if planOk ns fs ts then slackOf ns fs ts else []
noncomputable def critR (ns : List (Int × Int)) (fs : List Flw) (ts : List Int) : List Int := if planOk ns fs ts then critOf ns fs ts else []
theorem earlyOf_len (ns : List (Int × Int)) (fs : List Flw) (ts : List Int) : (earlyOf ns fs ts).length = ns.length := rounds_len _ _ _ _
theorem lateOf_len (ns : List (Int × Int)) (fs : List Flw) (ts : List Int) : (lateOf ns fs ts).length = ns.length := roundsL_len _ _ _ _ _
theorem slackOf_len (ns : List (Int × Int)) (fs : List Flw) (ts : List Int) : (slackOf ns fs ts).length = ns.length := by unfold slackOf; rw [List.length_map, List.length_range]
theorem critUp_le (sl : List Int) (k : Nat) : (critUp sl k).length ≤ k := by
  unfold critUp; rw [List.length_map]; have := List.length_filter_le (fun v => beg sl v == 0) (List.range k); rwa [List.length_range] at this
theorem critUp_yes {sl : List Int} {k : Nat} (h : beg sl k = 0) : critUp sl (k + 1) = critUp sl k ++ [(k : Int)] := by
  unfold critUp; rw [List.range_succ, List.filter_append, List.map_append]; simp [h]
theorem critUp_no {sl : List Int} {k : Nat} (h : ¬ beg sl k = 0) : critUp sl (k + 1) = critUp sl k := by
  unfold critUp; rw [List.range_succ, List.filter_append, List.map_append]; simp [h]
theorem earlyR_len (ns : List (Int × Int)) (fs : List Flw) (ts : List Int) : (earlyR ns fs ts).length ≤ ns.length := by
  unfold earlyR; split
  · rw [earlyOf_len]; exact Nat.le_refl _
  · exact Nat.zero_le _
theorem slackR_len (ns : List (Int × Int)) (fs : List Flw) (ts : List Int) : (slackR ns fs ts).length ≤ ns.length := by
  unfold slackR; split
  · rw [slackOf_len]; exact Nat.le_refl _
  · exact Nat.zero_le _
theorem critR_len (ns : List (Int × Int)) (fs : List Flw) (ts : List Int) : (critR ns fs ts).length ≤ ns.length := by
  unfold critR; split
  · exact critUp_le _ _
  · exact Nat.zero_le _
theorem vTimes_len {ns : List (Int × Int)} {ts : List Int} (h : vTimes ns ts = true) : ts.length = ns.length := by
  unfold vTimes at h
  simp only [Bool.and_eq_true, decide_eq_true_eq] at h
  exact h.1
theorem esOf_take (fs : List Flw) (k : Nat) : esOf (fs.take k) = (esOf fs).take k := by unfold esOf; rw [List.map_take]
theorem esOf_len (fs : List Flw) : (esOf fs).length = fs.length := by unfold esOf; rw [List.length_map]
theorem esOf_at {fs : List Flw} {k : Nat} {f : Flw} (h : fs[k]? = some f) : (esOf fs)[k]? = some (f.1.toNat, f.2.1.toNat) := by unfold esOf; rw [List.getElem?_map, h]; rfl
/-- The state within a round, behind k flows. -/
def midOf (ts : List Int) (fs : List Flw) (N r k : Nat) : List Int := plxAll ts (roundsOf ts (esOf fs) N r) ((esOf fs).take k)
theorem midOf_zero (ts : List Int) (fs : List Flw) (N r : Nat) : midOf ts fs N r 0 = roundsOf ts (esOf fs) N r := rfl
theorem midOf_all (ts : List Int) (fs : List Flw) (N r : Nat) : midOf ts fs N r fs.length = roundsOf ts (esOf fs) N (r + 1) := by
  unfold midOf; rw [List.take_of_length_le (by rw [esOf_len]; exact Nat.le_refl _)]; rfl
theorem midOf_step {ts : List Int} {fs : List Flw} {N r k : Nat} {f : Flw} (h : fs[k]? = some f) : midOf ts fs N r (k + 1) = plx ts (midOf ts fs N r k) (f.1.toNat, f.2.1.toNat) := by
  unfold midOf
  rw [take_snoc (esOf_at h), plxAll_append]; rfl
theorem midOf_len (ts : List Int) (fs : List Flw) (N r k : Nat) : (midOf ts fs N r k).length = N := by unfold midOf; rw [plxAll_len, rounds_len]
theorem Plan.mid {ns : List (Int × Int)} {fs : List Flw} {ts : List Int} (h : Plan ns fs ts) (r k v : Nat) : 0 ≤ beg (midOf ts fs ns.length r k) v ∧ beg (midOf ts fs ns.length r k) v ≤ 5000 := by
  have hi := esOf_ins (vProc_inside h.v)
  have h0 := early_in h.v h.c h.t r v
  have h1 := early_in h.v h.c h.t (r + 1) v
  have hi1 : Ins ((esOf fs).take k) ns.length := fun e he => hi e (List.mem_of_mem_take he)
  have hi2 : Ins ((esOf fs).drop k) ns.length := fun e he => hi e (List.mem_of_mem_drop he)
  have h2 := plxAll_up (t := ts) v (rounds_len ts (esOf fs) ns.length r) hi1
  have h3 := plxAll_up (t := ts) v (show (midOf ts fs ns.length r k).length = ns.length from midOf_len _ _ _ _ _) hi2
  have h4 : plxAll ts (midOf ts fs ns.length r k) ((esOf fs).drop k) = roundsOf ts (esOf fs) ns.length (r + 1) := by
    unfold midOf; rw [← plxAll_append, List.take_append_drop]; rfl
  rw [h4] at h3
  unfold midOf at h3 ⊢
  omega
theorem foldL_down {t : List Int} {N : Nat} (v : Nat) : ∀ {es : List (Nat × Nat)} {b : List Int}, b.length = N → Ins es N → beg (es.foldl (plxL t) b) v ≤ beg b v
  | [], _, _, _ => Int.le_refl _
  | e :: es, b, hb, hi => by
    rw [List.foldl_cons]
    have h1 := (hi e (by simp)).1
    have h2 := foldL_down (t := t) v (es := es) (b := plxL t b e) (by unfold plxL; rw [List.length_set]; exact hb) fun f hf => hi f (by simp [hf])
    have h3 : beg (plxL t b e) v ≤ beg b v := by
      unfold plxL; rw [beg_set b e.1 v _ (by omega)]
      by_cases hv : v = e.1
      · rw [if_pos hv, hv]; omega
      · rw [if_neg hv]; omega
    omega
/-- The latest begins within a round. -/
def midL (ts : List Int) (fs : List Flw) (M : Int) (N r k : Nat) : List Int := ((esOf fs).take k).foldl (plxL ts) (roundsL ts (esOf fs) M N r)
theorem midL_zero (ts : List Int) (fs : List Flw) (M : Int) (N r : Nat) : midL ts fs M N r 0 = roundsL ts (esOf fs) M N r := rfl
theorem midL_all (ts : List Int) (fs : List Flw) (M : Int) (N r : Nat) : midL ts fs M N r fs.length = roundsL ts (esOf fs) M N (r + 1) := by
  unfold midL; rw [List.take_of_length_le (by rw [esOf_len]; exact Nat.le_refl _)]; rfl
theorem midL_step {ts : List Int} {fs : List Flw} {M : Int} {N r k : Nat} {f : Flw} (h : fs[k]? = some f) : midL ts fs M N r (k + 1) = plxL ts (midL ts fs M N r k) (f.1.toNat, f.2.1.toNat) := by
  unfold midL
  rw [take_snoc (esOf_at h), List.foldl_append]; rfl
theorem midL_len (ts : List Int) (fs : List Flw) (M : Int) (N r k : Nat) : (midL ts fs M N r k).length = N := by unfold midL; rw [foldL_len, roundsL_len]
theorem Plan.midL {ns : List (Int × Int)} {fs : List Flw} {ts : List Int} (h : Plan ns fs ts) (r k v : Nat) (hv : v < ns.length) : -5500 ≤ beg (midL ts fs (totalOf ns fs ts) ns.length r k) v ∧ beg (midL ts fs (totalOf ns fs ts) ns.length r k) v ≤ 5500 := by
  obtain ⟨os, ho, _, _⟩ := order_is h.v h.c
  have hi := esOf_ins (vProc_inside h.v)
  have hM := total_in h.v h.c h.t ns.length
  have hN := (vProc_len h.v).2.1
  have h0 := ho.late_in (fun v => vTimes_at h.t v) (totalOf ns fs ts) r v hv
  have h1 := ho.late_in (fun v => vTimes_at h.t v) (totalOf ns fs ts) (r + 1) v hv
  have hi1 : Ins ((esOf fs).take k) ns.length := fun e he => hi e (List.mem_of_mem_take he)
  have hi2 : Ins ((esOf fs).drop k) ns.length := fun e he => hi e (List.mem_of_mem_drop he)
  have h2 := foldL_down (t := ts) v (roundsL_len ts (esOf fs) (totalOf ns fs ts) ns.length r) hi1
  have h3 := foldL_down (t := ts) v (midL_len ts fs (totalOf ns fs ts) ns.length r k) hi2
  have h4 : ((esOf fs).drop k).foldl (plxL ts) (Go.Proofs.Ytonlkodenfiljaa.midL ts fs (totalOf ns fs ts) ns.length r k) = roundsL ts (esOf fs) (totalOf ns fs ts) ns.length (r + 1) := by
    unfold Go.Proofs.Ytonlkodenfiljaa.midL; rw [← List.foldl_append, List.take_append_drop]; rfl
  rw [h4] at h3
  have h5 : totalOf ns fs ts = totalUp ts (earlyOf ns fs ts) ns.length := rfl
  unfold Go.Proofs.Ytonlkodenfiljaa.midL at h3 ⊢
  omega
theorem Plan.total {ns : List (Int × Int)} {fs : List Flw} {ts : List Int} (h : Plan ns fs ts) (k : Nat) : 0 ≤ totalUp ts (earlyOf ns fs ts) k ∧ totalUp ts (earlyOf ns fs ts) k ≤ 5500 := total_in h.v h.c h.t k
theorem Plan.totalOf {ns : List (Int × Int)} {fs : List Flw} {ts : List Int} (h : Plan ns fs ts) : 0 ≤ totalOf ns fs ts ∧ totalOf ns fs ts ≤ 5500 := total_in h.v h.c h.t ns.length
theorem Plan.early {ns : List (Int × Int)} {fs : List Flw} {ts : List Int} (h : Plan ns fs ts) (v : Nat) : 0 ≤ beg (earlyOf ns fs ts) v ∧ beg (earlyOf ns fs ts) v ≤ 5000 := early_in h.v h.c h.t ns.length v
theorem Plan.late {ns : List (Int × Int)} {fs : List Flw} {ts : List Int} (h : Plan ns fs ts) (v : Nat) (hv : v < ns.length) : -5500 ≤ beg (lateOf ns fs ts) v ∧ beg (lateOf ns fs ts) v ≤ 5500 := by
  have := h.midL ns.length 0 v hv
  rw [midL_zero] at this
  exact this
theorem beg_at {b : List Int} {v : Nat} {x : Int} (h : b[v]? = some x) : beg b v = x := by unfold beg; rw [List.getD_eq_getElem?_getD, h]; rfl
theorem at_beg {b : List Int} {v : Nat} (h : v < b.length) : b[v]? = some (beg b v) := by unfold beg; rw [List.getD_eq_getElem?_getD, List.getElem?_eq_getElem h]; rfl
end Go.Proofs.Ytonlkodenfiljaa

