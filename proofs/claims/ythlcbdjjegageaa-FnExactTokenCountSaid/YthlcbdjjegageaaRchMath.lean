/- Which nodes flows lead to, in plain mathematics. No program. -/
import Derived.Test.YthlcbdjjegageaaProcMath
namespace Go.Proofs.Ythlcbdjjegageaa
open Go.RowKit

/-- A flow leads from a to b. -/
def Stp (fs : List Flw) (a b : Int) : Prop := ∃ f ∈ fs, f.1 = a ∧ f.2.1 = b
/-- Flows lead from a to c, none or more. -/
inductive Rch (fs : List Flw) (a : Int) : Int → Prop
  | refl : Rch fs a a
  | step {b c : Int} (h : Rch fs a b) (s : Stp fs b c) : Rch fs a c
/-- One or more. -/
def Rch1 (fs : List Flw) (a c : Int) : Prop := ∃ b, Stp fs a b ∧ Rch fs b c
theorem Rch.trans {fs : List Flw} {a b c : Int} (h : Rch fs a b) (k : Rch fs b c) : Rch fs a c := by
  induction k with
  | refl => exact h
  | step _ s ih => exact ih.step s
theorem Rch1.of_step {fs : List Flw} {a b c : Int} (h : Rch fs a b) (s : Stp fs b c) : Rch1 fs a c := by
  induction h generalizing c with
  | refl => exact ⟨c, s, .refl⟩
  | step _ s' ih =>
    obtain ⟨d, h1, h2⟩ := ih s'
    exact ⟨d, h1, h2.step s⟩
theorem Rch1.rch {fs : List Flw} {a c : Int} (h : Rch1 fs a c) : Rch fs a c := by
  obtain ⟨b, s, k⟩ := h
  exact (Rch.refl.step s).trans k
theorem Rch.cases' {fs : List Flw} {a c : Int} (h : Rch fs a c) : a = c ∨ Rch1 fs a c := by
  cases h with
  | refl => exact .inl rfl
  | step h s => exact .inr (Rch1.of_step h s)
theorem Rch1.last {fs : List Flw} {a c : Int} (h : Rch1 fs a c) : ∃ b, Rch fs a b ∧ Stp fs b c := by
  obtain ⟨b, s, k⟩ := h
  cases k with
  | refl => exact ⟨a, .refl, s⟩
  | step k s' => exact ⟨_, (Rch.refl.step s).trans k, s'⟩
open Classical in
noncomputable def rchB (fs : List Flw) (a c : Int) : Bool := decide (Rch fs a c)
open Classical in
noncomputable def rch1B (fs : List Flw) (a c : Int) : Bool := decide (Rch1 fs a c)
theorem rchB_iff {fs : List Flw} {a c : Int} : rchB fs a c = true ↔ Rch fs a c := by simp [rchB]
theorem rch1B_iff {fs : List Flw} {a c : Int} : rch1B fs a c = true ↔ Rch1 fs a c := by simp [rch1B]

/-- All ends of the flows are numbers of N nodes. -/
def Inside (fs : List Flw) (N : Nat) : Prop := ∀ f ∈ fs, 0 ≤ f.1 ∧ f.1 < (N : Int) ∧ 0 ≤ f.2.1 ∧ f.2.1 < (N : Int)
theorem Inside.rch {fs : List Flw} {N : Nat} (h : Inside fs N) {a c : Int} (ha : 0 ≤ a ∧ a < (N : Int)) (k : Rch fs a c) : 0 ≤ c ∧ c < (N : Int) := by
  cases k with
  | refl => exact ha
  | step _ s =>
    obtain ⟨f, hf, rfl, rfl⟩ := s
    have := h f hf
    exact ⟨this.2.2.1, this.2.2.2⟩

/-! ### Sweeps over all flows -/
def relax (s : List Bool) (f : Flw) : List Bool := if s[f.1.toNat]? = some true then s.set f.2.1.toNat true else s
def Sound (fs : List Flw) (a : Int) (s : List Bool) : Prop := ∀ i : Nat, s[i]? = some true → Rch fs a (i : Int)
def ClosedB (s : List Bool) (fs : List Flw) : Prop := ∀ f ∈ fs, s[f.1.toNat]? = some true → s[f.2.1.toNat]? = some true
def cnt (s : List Bool) : Nat := s.countP id
theorem cnt_le (s : List Bool) : cnt s ≤ s.length := List.countP_le_length
theorem cnt_set : ∀ (s : List Bool) (i : Nat), s[i]? = some false → cnt (s.set i true) = cnt s + 1
  | [], i, h => by simp at h
  | b :: s, 0, h => by
    simp at h
    subst h
    simp [cnt]
  | b :: s, i + 1, h => by
    have := cnt_set s i (by simpa using h)
    simp only [List.set_cons_succ, cnt, List.countP_cons] at this ⊢
    omega
theorem set_same : ∀ (s : List Bool) (i : Nat), s[i]? = some true → s.set i true = s
  | [], i, h => by simp at h
  | b :: s, 0, h => by simp at h; simp [h]
  | b :: s, i + 1, h => by simp [set_same s i (by simpa using h)]
structure Sweep (fs : List Flw) (a : Int) (N k j : Nat) (s : List Bool) : Prop where
  len : s.length = N
  sound : Sound fs a s
  at_a : s[a.toNat]? = some true
  prog : ClosedB s fs ∨ k + 2 ≤ cnt s ∨ (ClosedB s (fs.take j) ∧ k + 1 ≤ cnt s)
theorem Sweep.start {fs : List Flw} {a : Int} {N : Nat} (ha : 0 ≤ a ∧ a < (N : Int)) : Sweep fs a N 0 0 ((List.replicate N false).set a.toNat true) := by
  have hl : a.toNat < N := by omega
  refine ⟨by simp, fun i hi => ?_, by simp [hl], .inr (.inr ⟨fun f hf => by simp at hf, ?_⟩)⟩
  · by_cases hia : i = a.toNat
    · subst hia
      rw [Int.toNat_of_nonneg ha.1]; exact .refl
    · rw [List.getElem?_set_ne (fun e => hia e.symm)] at hi
      rw [List.getElem?_replicate] at hi
      split at hi <;> simp at hi
  · rw [cnt_set _ _ (by rw [List.getElem?_replicate, if_pos hl])]
    omega
theorem Sweep.step {fs : List Flw} {a : Int} {N k j : Nat} {s : List Bool} {f : Flw} (hin : Inside fs N) (h : Sweep fs a N k j s) (hf : fs[j]? = some f) : Sweep fs a N k (j + 1) (relax s f) := by
  have hm : f ∈ fs := List.mem_of_getElem? hf
  have hi := hin f hm
  unfold relax
  by_cases h1 : s[f.1.toNat]? = some true
  · rw [if_pos h1]
    have hto : f.2.1.toNat < s.length := by rw [h.len]; omega
    rcases hb : s[f.2.1.toNat]? with _ | b
    · rw [List.getElem?_eq_none_iff] at hb; omega
    cases b with
    | true =>
      rw [set_same s _ hb]
      refine ⟨h.len, h.sound, h.at_a, ?_⟩
      rcases h.prog with h2 | h2 | ⟨h2, h3⟩
      · exact .inl h2
      · exact .inr (.inl h2)
      · refine .inr (.inr ⟨fun g hg hg1 => ?_, h3⟩)
        rw [take_snoc hf] at hg
        rcases List.mem_append.1 hg with hg | hg
        · exact h2 g hg hg1
        · simp at hg; subst hg; exact hb
    | false =>
      refine ⟨by simp [h.len], fun i hi' => ?_, ?_, ?_⟩
      · by_cases hif : i = f.2.1.toNat
        · subst hif
          have hr := h.sound _ h1
          rw [Int.toNat_of_nonneg hi.1] at hr
          rw [Int.toNat_of_nonneg hi.2.2.1]
          exact hr.step ⟨f, hm, rfl, rfl⟩
        · rw [List.getElem?_set_ne (fun e => hif e.symm)] at hi'
          exact h.sound i hi'
      · by_cases hat : f.2.1.toNat = a.toNat
        · rw [hat] at hto ⊢
          rw [List.getElem?_set_self hto]
        · rw [List.getElem?_set_ne hat]; exact h.at_a
      · have hc := cnt_set s _ hb
        rcases h.prog with h2 | h2 | ⟨h2, h3⟩
        · have := h2 f hm h1
          rw [hb] at this; cases this
        · exact .inr (.inl (by omega))
        · exact .inr (.inl (by omega))
  · rw [if_neg h1]
    refine ⟨h.len, h.sound, h.at_a, ?_⟩
    rcases h.prog with h2 | h2 | ⟨h2, h3⟩
    · exact .inl h2
    · exact .inr (.inl h2)
    · refine .inr (.inr ⟨fun g hg hg1 => ?_, h3⟩)
      rw [take_snoc hf] at hg
      rcases List.mem_append.1 hg with hg | hg
      · exact h2 g hg hg1
      · simp at hg; subst hg; exact absurd hg1 h1
theorem Sweep.round {fs : List Flw} {a : Int} {N k : Nat} {s : List Bool} (h : Sweep fs a N k fs.length s) : Sweep fs a N (k + 1) 0 s := by
  refine ⟨h.len, h.sound, h.at_a, ?_⟩
  rcases h.prog with h2 | h2 | ⟨h2, h3⟩
  · exact .inl h2
  · exact .inr (.inr ⟨fun f hf => by simp at hf, by omega⟩)
  · rw [List.take_length] at h2
    exact .inl h2
theorem Sweep.done {fs : List Flw} {a : Int} {N : Nat} {s : List Bool} (_hin : Inside fs N) (_ha : 0 ≤ a ∧ a < (N : Int)) (h : Sweep fs a N N 0 s) {i : Nat} (hi : i < N) : s[i]? = some (rchB fs a (i : Int)) := by
  have hc : ClosedB s fs := by
    have hl := cnt_le s
    rw [h.len] at hl
    rcases h.prog with h2 | h2 | ⟨_, h3⟩
    · exact h2
    · omega
    · omega
  have hall : ∀ c, Rch fs a c → s[c.toNat]? = some true := by
    intro c hr
    induction hr with
    | refl => exact h.at_a
    | step _ st ih =>
      obtain ⟨f, hf, rfl, rfl⟩ := st
      exact hc f hf ih
  rcases hb : s[i]? with _ | b
  · rw [List.getElem?_eq_none_iff, h.len] at hb; omega
  congr 1
  cases b with
  | true => exact (rchB_iff.2 (h.sound i hb)).symm
  | false =>
    symm
    rw [Bool.eq_false_iff]
    intro hr
    have := hall _ (rchB_iff.1 hr)
    simp [hb] at this

/-! ### A search with a queue -/
/-- What stands in the middle of a search from a: bh: found; q: the queue. -/
structure Bfs (fs : List Flw) (a : Int) (bh : Int → Bool) (q : List Int) : Prop where
  sound : ∀ z, bh z = true → Rch1 fs a z
  queue : ∀ z ∈ q, z = a ∨ bh z = true
  open_ : ∀ z, z = a ∨ bh z = true → z ∈ q ∨ ∀ c, Stp fs z c → bh c = true
theorem Bfs.start (fs : List Flw) (a : Int) : Bfs fs a (fun _ => false) [a] :=
  ⟨(fun _ h => by cases h), fun z h => Or.inl (by simpa using h), fun z h => Or.inl (by
    rcases h with rfl | h
    · simp
    · cases h)⟩
theorem Bfs.push {fs : List Flw} {a : Int} {bh : Int → Bool} {x c : Int} {q : List Int} (h : Bfs fs a bh (x :: q)) (hs : Stp fs x c) : Bfs fs a (fun z => z == c || bh z) (x :: q ++ [c]) := by
  refine ⟨fun z hz => ?_, fun z hz => ?_, fun z hz => ?_⟩
  · simp at hz
    rcases hz with rfl | hz
    · rcases h.queue x (by simp) with rfl | hx
      · exact ⟨_, hs, .refl⟩
      · exact Rch1.of_step (h.sound x hx).rch hs
    · exact h.sound z hz
  · rw [List.mem_append] at hz
    rcases hz with hz | hz
    · rcases h.queue z hz with h1 | h1
      · exact .inl h1
      · exact .inr (by simp [h1])
    · simp at hz
      exact .inr (by simp [hz])
  · by_cases hc : z = c
    · exact .inl (by simp [hc])
    · have hz' : z = a ∨ bh z = true := by simpa [hc] using hz
      rcases h.open_ z hz' with h1 | h1
      · exact .inl (List.mem_append_left _ h1)
      · exact .inr fun d hd => by simp [h1 d hd]
theorem Bfs.pop {fs : List Flw} {a : Int} {bh : Int → Bool} {x : Int} {q : List Int} (h : Bfs fs a bh (x :: q)) (hx : ∀ c, Stp fs x c → bh c = true) : Bfs fs a bh q := by
  refine ⟨h.sound, fun z hz => h.queue z (List.mem_cons_of_mem _ hz), fun z hz => ?_⟩
  rcases h.open_ z hz with h1 | h1
  · rcases List.mem_cons.1 h1 with rfl | h1
    · exact .inr hx
    · exact .inl h1
  · exact .inr h1
theorem Bfs.done {fs : List Flw} {a : Int} {bh : Int → Bool} (h : Bfs fs a bh []) (z : Int) : bh z = rch1B fs a z := by
  have hcl : ∀ z, z = a ∨ bh z = true → ∀ c, Stp fs z c → bh c = true := by
    intro z hz
    rcases h.open_ z hz with h1 | h1
    · simp at h1
    · exact h1
  have hall : ∀ c, Rch1 fs a c → bh c = true := by
    intro c hr
    obtain ⟨b, hs, hr⟩ := hr
    induction hr with
    | refl => exact hcl a (.inl rfl) _ hs
    | step _ st ih => exact hcl _ (.inr ih) _ st
  cases hb : bh z with
  | true => exact (rch1B_iff.2 (h.sound z hb)).symm
  | false =>
    symm
    rw [Bool.eq_false_iff]
    intro hr
    have := hall z (rch1B_iff.1 hr)
    rw [hb] at this
    cases this
/-- How many of the nodes are not found yet. -/
def unfound (bh : Int → Bool) (N : Nat) : Nat := (List.range N).countP fun (i : Nat) => !bh (i : Int)
theorem unfound_push {bh : Int → Bool} {c : Int} : ∀ {N : Nat}, bh c = false → 0 ≤ c → c < (N : Int) → unfound (fun z => z == c || bh z) N + 1 = unfound bh N
  | 0, _, h0, h1 => by omega
  | N + 1, hb, h0, h1 => by
    unfold unfound
    rw [List.range_succ, List.countP_append, List.countP_append]
    by_cases hc : c = (N : Int)
    · subst hc
      have e : (List.range N).countP (fun (i : Nat) => !(((i : Int) == (N : Int)) || bh (i : Int))) = (List.range N).countP (fun (i : Nat) => !bh (i : Int)) := by
        refine List.countP_congr fun i hi => ?_
        have : i < N := List.mem_range.1 hi
        have : ((i : Int) == (N : Int)) = false := by simp; omega
        simp [this]
      rw [e]
      simp [hb]
    · have ih := unfound_push (N := N) hb h0 (by omega)
      unfold unfound at ih
      dsimp only at ih
      have hne : ((N : Int) == c) = false := by simp; omega
      simp only [List.countP_cons, List.countP_nil, hne, Bool.false_or]
      omega
end Go.Proofs.Ythlcbdjjegageaa
