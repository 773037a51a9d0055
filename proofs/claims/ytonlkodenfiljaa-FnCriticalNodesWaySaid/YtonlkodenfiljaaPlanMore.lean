/- More on plans: what chapter 15's promises say. Plain mathematics, no program. -/
import Derived.Test.YtonlkodenfiljaaPlanB
set_option linter.unusedSimpArgs false
set_option linter.unusedVariables false
namespace Go.Proofs.Ytonlkodenfiljaa
open Go.RowKit

section
variable {ns : List (Int × Int)} {fs : List Flw} {ts : List Int}
theorem Order.pulled {es : List (Nat × Nat)} {N : Nat} {os : List Nat} (ho : Order es N os) (hn : os.Nodup) (hN : ∀ v ∈ os, v < N) (t : List Int) (M : Int) : Pulled es t M N (roundsL t es M N N) := by
  have h := Pulls.run (t := t) (M := M) ho hn hN (todo := os.reverse) (done := []) (b := List.replicate N 0) rfl ⟨List.length_replicate, fun v hv => by simp at hv, fun e _ hv => by simp at hv, fun v hv => by simp at hv⟩
  have hm : ∀ v, v < N → v ∈ os.reverse := fun v hv => List.mem_reverse.2 (ho.all v hv)
  rw [ho.latest hn hN t M (List.length_replicate (n := N) (a := (0 : Int)))]
  exact ⟨h.len, fun v hv => h.top v (hm v hv), fun e he => h.keep e he (hm _ (ho.ins e he).1), fun v hv => h.tight v (hm v hv)⟩
theorem Plan.rank (h : Plan ns fs ts) : ∃ rank : Nat → Nat, (∀ e ∈ esOf fs, rank e.1 < rank e.2) ∧ ∀ v, rank v ≤ ns.length := by
  obtain ⟨os, ho, _, _⟩ := order_is h.v h.c
  exact ⟨fun v => os.findIdx (fun x => x == v), ho.rank, fun v => Nat.le_trans List.findIdx_le_length ho.len⟩
theorem Plan.keeps (h : Plan ns fs ts) : Keeps (esOf fs) ts (beg (earlyOf ns fs ts)) := by
  obtain ⟨os, ho, _, _⟩ := order_is h.v h.c
  unfold earlyOf; rw [ho.same ts]; exact ho.keeps ts
theorem Plan.tight (h : Plan ns fs ts) (v : Nat) : beg (earlyOf ns fs ts) v = 0 ∨ ∃ u, (u, v) ∈ esOf fs ∧ beg (earlyOf ns fs ts) v = beg (earlyOf ns fs ts) u + beg ts u := by
  obtain ⟨os, ho, _, _⟩ := order_is h.v h.c
  have hk := h.keeps
  have ht := ho.tight ts
  rw [← ho.same ts] at ht
  rcases ht v with h0 | ⟨u, hu, hle⟩
  · exact .inl h0
  · refine .inr ⟨u, hu, ?_⟩
    have := hk.2 (u, v) hu
    simp only at this
    unfold earlyOf at this ⊢
    omega
theorem Plan.pulled (h : Plan ns fs ts) : Pulled (esOf fs) ts (Go.Proofs.Ytonlkodenfiljaa.totalOf ns fs ts) ns.length (lateOf ns fs ts) := by
  obtain ⟨os, ho, hn, hl⟩ := order_is h.v h.c
  exact ho.pulled hn hl ts _
theorem totalUp_ge (ts b : List Int) : ∀ (k v : Nat), v < k → beg b v + beg ts v ≤ totalUp ts b k
  | 0, v, h => by omega
  | k + 1, v, h => by
    rw [totalUp_step]
    by_cases hv : v = k
    · subst hv; omega
    · have := totalUp_ge ts b k v (by omega); omega
theorem totalUp_le {ts b : List Int} {B : Int} (hB : 0 ≤ B) : ∀ (k : Nat), (∀ v, v < k → beg b v + beg ts v ≤ B) → totalUp ts b k ≤ B
  | 0, _ => hB
  | k + 1, h => by
    rw [totalUp_step]
    have h1 := totalUp_le hB k fun v hv => h v (by omega)
    have h2 := h k (by omega)
    omega
theorem totalUp_at {ts b : List Int} (hb : ∀ v, 0 ≤ beg b v + beg ts v) : ∀ (k : Nat), 0 < k → ∃ v, v < k ∧ beg b v + beg ts v = totalUp ts b k
  | 0, h => by omega
  | k + 1, _ => by
    rw [totalUp_step]
    by_cases hk : k = 0
    · subst hk
      have := hb 0
      exact ⟨0, by omega, by show _ = max 0 _; omega⟩
    · obtain ⟨v, hv, he⟩ := totalUp_at hb k (by omega)
      by_cases hm : totalUp ts b k ≤ beg b k + beg ts k
      · exact ⟨k, by omega, by omega⟩
      · exact ⟨v, by omega, by omega⟩
theorem Plan.sums (h : Plan ns fs ts) (v : Nat) : 0 ≤ beg (earlyOf ns fs ts) v + beg ts v := by have := h.early v; have := vTimes_at h.t v; omega
theorem Plan.ge (h : Plan ns fs ts) {v : Nat} (hv : v < ns.length) : beg (earlyOf ns fs ts) v + beg ts v ≤ Go.Proofs.Ytonlkodenfiljaa.totalOf ns fs ts := totalUp_ge _ _ _ v hv
theorem Plan.at_ (h : Plan ns fs ts) : ∃ v, v < ns.length ∧ beg (earlyOf ns fs ts) v + beg ts v = Go.Proofs.Ytonlkodenfiljaa.totalOf ns fs ts := totalUp_at h.sums _ (by have := (vProc_len h.v).1; omega)
/-- The end is no later than what any plan that keeps the flows comes to. -/
theorem Plan.total_le (h : Plan ns fs ts) {F : Nat → Int} {B : Int} (hF : Keeps (esOf fs) ts F) (hB : 0 ≤ B) (h2 : ∀ v, v < ns.length → F v + beg ts v ≤ B) : Go.Proofs.Ytonlkodenfiljaa.totalOf ns fs ts ≤ B :=
  totalUp_le hB _ fun v hv => by
    have h1 := rounds_below (esOf_ins (vProc_inside h.v)) hF ns.length v
    have h3 := h2 v hv
    unfold earlyOf
    omega
theorem Plan.below (h : Plan ns fs ts) {F : Nat → Int} (hF : Keeps (esOf fs) ts F) (v : Nat) : beg (earlyOf ns fs ts) v ≤ F v := rounds_below (esOf_ins (vProc_inside h.v)) hF ns.length v
/-- What begins at x at a node ends no earlier than this. -/
theorem Plan.tail (h : Plan ns fs ts) {F : Nat → Int} {ts' : List Int} {T x : Int} (hF : Keeps (esOf fs) ts' F) (ht : ∀ v, beg ts v ≤ beg ts' v) (hT : ∀ v, v < ns.length → F v + beg ts' v ≤ T) : ∀ v, v < ns.length → x ≤ F v → x + (Go.Proofs.Ytonlkodenfiljaa.totalOf ns fs ts - beg (lateOf ns fs ts) v) ≤ T := by
  obtain ⟨rank, hr, hN⟩ := h.rank
  have hp := h.pulled
  have hi := esOf_ins (vProc_inside h.v)
  have key : ∀ m v x, v < ns.length → ns.length - rank v ≤ m → x ≤ F v → x + (Go.Proofs.Ytonlkodenfiljaa.totalOf ns fs ts - beg (lateOf ns fs ts) v) ≤ T := by
    intro m
    induction m with
    | zero =>
      intro v x hv hm hx
      have h1 := hT v hv
      have h2 := ht v
      rcases hp.tight v hv with h3 | ⟨u, hu, _⟩
      · omega
      · have := hr _ hu; have := hN u; have := hN v; simp only at *; omega
    | succ m ih =>
      intro v x hv hm hx
      rcases hp.tight v hv with h3 | ⟨u, hu, h3⟩
      · have h1 := hT v hv
        have h2 := ht v
        omega
      · have h4 := hr _ hu
        have h5 := hF.2 _ hu
        have h6 := ht v
        have h7 := hN u
        simp only at h4 h5
        have := ih u (x + beg ts v) (hi _ hu).2 (by omega) (by omega)
        omega
  exact fun v hv hx => key _ v x hv (Nat.le_refl _) hx
/-- No node has to begin before it can. -/
theorem Plan.slack0 (h : Plan ns fs ts) {v : Nat} (hv : v < ns.length) : beg (earlyOf ns fs ts) v ≤ beg (lateOf ns fs ts) v := by
  have := h.tail (x := beg (earlyOf ns fs ts) v) h.keeps (fun _ => Int.le_refl _) (fun v hv => h.ge hv) v hv (Int.le_refl _)
  omega
theorem beg_bump {k : Nat} {d : Int} (hk : k < ts.length) (v : Nat) : beg (ts.set k (beg ts k + d)) v = if v = k then beg ts k + d else beg ts v := beg_set ts k v _ hk
/-- A longer node. -/
theorem Plan.bump (h : Plan ns fs ts) {k : Nat} {d : Int} (hk : k < ns.length) (hd : 0 ≤ d) (h' : Plan ns fs (ts.set k (beg ts k + d))) :
    Go.Proofs.Ytonlkodenfiljaa.totalOf ns fs (ts.set k (beg ts k + d)) = max (Go.Proofs.Ytonlkodenfiljaa.totalOf ns fs ts) (Go.Proofs.Ytonlkodenfiljaa.totalOf ns fs ts - (beg (lateOf ns fs ts) k - beg (earlyOf ns fs ts) k) + d) := by
  have hkt : k < ts.length := by have := vTimes_len h.t; omega
  have hb := beg_bump (ts := ts) (d := d) hkt
  have hle : ∀ v, beg ts v ≤ beg (ts.set k (beg ts k + d)) v := fun v => by rw [hb]; split <;> rename_i hv <;> first | omega | (subst hv; omega)
  have hp := h.pulled
  have hi := esOf_ins (vProc_inside h.v)
  have hM := h.totalOf
  obtain ⟨os, ho, hn, hl⟩ := order_is h.v h.c
  obtain ⟨rank, hrank⟩ : ∃ rank : Nat → Nat, rank = fun v => os.findIdx (fun x => x == v) := ⟨_, rfl⟩
  have hr : ∀ e ∈ esOf fs, rank e.1 < rank e.2 := by rw [hrank]; exact ho.rank
  have hs := h.slack0 hk
  have hkp' := h'.keeps
  refine Int.le_antisymm ?_ ?_
  · -- no more
    refine h'.total_le (F := fun v => if rank k < rank v ∧ v < ns.length then beg (lateOf ns fs ts) v + max 0 (d - (beg (lateOf ns fs ts) k - beg (earlyOf ns fs ts) k)) else beg (earlyOf ns fs ts) v) ⟨fun v => ?_, fun e he => ?_⟩ (by omega) fun v hv => ?_
    · try dsimp only
      have h1 := h.early v
      split
      · rename_i hc; have := h.slack0 hc.2; omega
      · omega
    · try dsimp only
      have h1 := hr e he
      have h2 := hi e he
      have h3 := hp.keep e he
      have h4 := h.keeps.2 e he
      have h5 := h.slack0 h2.2
      rw [hb]
      by_cases hek : e.1 = k
      · rw [if_pos hek, if_neg (by rw [hek]; omega), if_pos ⟨by rw [← hek]; exact h1, h2.2⟩]
        rw [hek] at h3 ⊢
        omega
      · rw [if_neg hek]
        by_cases hd1 : rank k < rank e.1
        · rw [if_pos ⟨hd1, h2.1⟩, if_pos ⟨by omega, h2.2⟩]; omega
        · rw [if_neg (fun hc => hd1 hc.1)]
          by_cases hd2 : rank k < rank e.2
          · rw [if_pos ⟨hd2, h2.2⟩]; omega
          · rw [if_neg (fun hc => hd2 hc.1)]; exact h4
    · try dsimp only
      have h1 := h.ge hv
      have h2 := hp.top v hv
      have h3 := hp.top k hk
      rw [hb]
      by_cases hvk : v = k
      · subst hvk
        rw [if_neg (fun hc => absurd hc.1 (Nat.lt_irrefl _)), if_pos rfl]; omega
      · rw [if_neg hvk]
        split <;> omega
  · -- no less
    have h1 : Go.Proofs.Ytonlkodenfiljaa.totalOf ns fs ts ≤ Go.Proofs.Ytonlkodenfiljaa.totalOf ns fs (ts.set k (beg ts k + d)) := by
      refine h.total_le (F := beg (earlyOf ns fs (ts.set k (beg ts k + d)))) ⟨hkp'.1, fun e he => ?_⟩ h'.totalOf.1 fun v hv => ?_
      · have := hkp'.2 e he; have := hle e.1; omega
      · have := h'.ge hv; have := hle v; omega
    have hek : beg (earlyOf ns fs ts) k ≤ beg (earlyOf ns fs (ts.set k (beg ts k + d))) k := h.below ⟨hkp'.1, fun e he => by have := hkp'.2 e he; have := hle e.1; omega⟩ k
    have h2 : beg (earlyOf ns fs ts) k + (Go.Proofs.Ytonlkodenfiljaa.totalOf ns fs ts - beg (lateOf ns fs ts) k) + d ≤ Go.Proofs.Ytonlkodenfiljaa.totalOf ns fs (ts.set k (beg ts k + d)) := by
      rcases hp.tight k hk with h3 | ⟨u, hu, h3⟩
      · have h4 := h'.ge hk
        rw [hb, if_pos rfl] at h4
        omega
      · have h4 := hkp'.2 _ hu
        simp only at h4
        rw [hb, if_pos rfl] at h4
        have := h.tail (x := beg (earlyOf ns fs ts) k + (beg ts k + d)) hkp' hle (fun v hv => h'.ge hv) u (hi _ hu).2 (by omega)
        omega
    omega
/-- Longer times begin later. -/
theorem Plan.mono (h : Plan ns fs ts) {ts' : List Int} (h' : Plan ns fs ts') (hle : ∀ v, beg ts v ≤ beg ts' v) (v : Nat) : beg (earlyOf ns fs ts) v ≤ beg (earlyOf ns fs ts') v :=
  h.below ⟨h'.keeps.1, fun e he => by have := h'.keeps.2 e he; have := hle e.1; omega⟩ v
/-- Who is critical begins at once, or behind one that is critical. -/
theorem Plan.way (h : Plan ns fs ts) {v : Nat} (hv : v < ns.length) (hc : beg (lateOf ns fs ts) v = beg (earlyOf ns fs ts) v) :
    beg (earlyOf ns fs ts) v = 0 ∨ ∃ u, (u, v) ∈ esOf fs ∧ beg (earlyOf ns fs ts) u + beg ts u = beg (earlyOf ns fs ts) v ∧ beg (lateOf ns fs ts) u = beg (earlyOf ns fs ts) u := by
  rcases h.tight v with h0 | ⟨u, hu, he⟩
  · exact .inl h0
  · refine .inr ⟨u, hu, he.symm, ?_⟩
    have h1 := h.pulled.keep _ hu
    have h2 := h.slack0 (esOf_ins (vProc_inside h.v) _ hu).1
    simp only at h1 h2
    omega
end
end Go.Proofs.Ytonlkodenfiljaa
