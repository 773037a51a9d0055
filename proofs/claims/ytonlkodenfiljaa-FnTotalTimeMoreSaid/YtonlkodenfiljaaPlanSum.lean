/- Sums of times: the end is no later than all times together; the critical nodes make it. Plain mathematics, no program. -/
import Derived.Test.YtonlkodenfiljaaPlanMore
import Derived.Test.YtonlkodenfiljaaPlanC
import Derived.Test.YtonlkodenfiljaaLawLists
set_option linter.unusedSimpArgs false
set_option linter.unusedVariables false
namespace Go.Proofs.Ytonlkodenfiljaa
open Go.RowKit

theorem perm_sum {a b : List Int} (h : a.Perm b) : a.sum = b.sum := by
  induction h with
  | nil => rfl
  | cons x _ ih => rw [List.sum_cons, List.sum_cons, ih]
  | swap x y l => simp only [List.sum_cons]; omega
  | trans _ _ h1 h2 => rw [h1, h2]
section
variable {ns : List (Int × Int)} {fs : List Flw} {ts : List Int}
def sumT (ts : List Int) (l : List Nat) : Int := (l.map (beg ts)).sum
theorem sumT_append (ts : List Int) (a b : List Nat) : sumT ts (a ++ b) = sumT ts a + sumT ts b := by unfold sumT; rw [List.map_append, List.sum_append]
theorem sumT_nonneg {ts : List Int} (h : ∀ v, 0 ≤ beg ts v) : ∀ l : List Nat, 0 ≤ sumT ts l
  | [] => Int.le_refl _
  | v :: l => by
    have h1 := sumT_nonneg h l
    have h2 := h v
    show 0 ≤ ((v :: l).map (beg ts)).sum
    rw [List.map_cons, List.sum_cons]
    unfold sumT at h1
    omega
theorem sumT_take {ts : List Int} (h : ∀ v, 0 ≤ beg ts v) (os : List Nat) {i j : Nat} (hij : i ≤ j) : sumT ts (os.take i) ≤ sumT ts (os.take j) := by
  have he : os.take j = os.take i ++ (os.drop i).take (j - i) := by
    rw [← List.take_add, show i + (j - i) = j by omega]
  rw [he, sumT_append]
  have := sumT_nonneg h ((os.drop i).take (j - i))
  omega
theorem sumT_range (ts : List Int) : sumT ts (List.range ts.length) = ts.sum := by
  unfold sumT
  congr 1
  refine List.ext_getElem (by simp) fun i h1 h2 => ?_
  simp only [List.getElem_map, List.getElem_range]
  exact beg_at (List.getElem?_eq_getElem h2)
theorem Plan.sum (h : Plan ns fs ts) : Go.Proofs.Ytonlkodenfiljaa.totalOf ns fs ts ≤ ts.sum := by
  obtain ⟨os, ho, hn, hl⟩ := order_is h.v h.c
  have ht : ∀ v, 0 ≤ beg ts v := fun v => (vTimes_at h.t v).1
  have hall : sumT ts os = ts.sum := by
    have hp : os.Perm (List.range ts.length) := (List.perm_ext_iff_of_nodup hn List.nodup_range).2 fun v => by
      rw [List.mem_range, vTimes_len h.t]
      exact ⟨hl v, ho.all v⟩
    rw [← sumT_range]
    unfold sumT
    exact perm_sum (hp.map (beg ts))
  have hstep : ∀ v, v < ns.length → sumT ts (os.take (os.findIdx (fun x => x == v) + 1)) = sumT ts (os.take (os.findIdx (fun x => x == v))) + beg ts v := fun v hv => by
    obtain ⟨pre, post, h1, h2⟩ := find_pre (ho.all v hv)
    have hg : os[os.findIdx (fun x => x == v)]? = some v := by rw [h2, h1]; simp
    rw [take_snoc hg, sumT_append]
    show _ + ([v].map (beg ts)).sum = _
    simp
  refine h.total_le (F := fun v => sumT ts (os.take (os.findIdx (fun x => x == v)))) ⟨fun v => sumT_nonneg ht _, fun e he => ?_⟩ (by rw [← hall]; exact sumT_nonneg ht _) fun v hv => ?_
  · have h1 := ho.rank e he
    have h2 := hstep e.1 (ho.ins e he).1
    have h3 := sumT_take ht os (show os.findIdx (fun x => x == e.1) + 1 ≤ os.findIdx (fun x => x == e.2) by omega)
    try dsimp only
    omega
  · have h2 := hstep v hv
    have h3 := sumT_take ht os (show os.findIdx (fun x => x == v) + 1 ≤ max (os.findIdx (fun x => x == v) + 1) os.length by omega)
    rw [List.take_of_length_le (i := max (os.findIdx (fun x => x == v) + 1) os.length) (by omega), hall] at h3
    try dsimp only
    omega
/-- The sum over those below k that are chosen. -/
def pickSum (ts : List Int) (p : Nat → Bool) : Nat → Int
  | 0 => 0
  | k + 1 => pickSum ts p k + if p k then beg ts k else 0
theorem pickSum_in {ts : List Int} (h : ∀ v, 0 ≤ beg ts v ∧ beg ts v ≤ 500) (p : Nat → Bool) : ∀ k : Nat, 0 ≤ pickSum ts p k ∧ pickSum ts p k ≤ 500 * (k : Int)
  | 0 => ⟨Int.le_refl _, Int.le_refl _⟩
  | k + 1 => by
    have h1 := pickSum_in h p k
    have h2 := h k
    unfold pickSum
    split <;> omega
theorem pickSum_le {ts : List Int} (h : ∀ v, 0 ≤ beg ts v) {p q : Nat → Bool} (hpq : ∀ v, p v = true → q v = true) : ∀ k : Nat, pickSum ts p k ≤ pickSum ts q k
  | 0 => Int.le_refl _
  | k + 1 => by
    have h1 := pickSum_le h hpq k
    have h2 := h k
    have h3 := hpq k
    unfold pickSum
    cases hp : p k with
    | true => rw [h3 hp]; simp only [if_true]; omega
    | false => cases hq : q k <;> simp only [Bool.false_eq_true, if_false, if_true] <;> omega
theorem pickSum_one {ts : List Int} (h : ∀ v, 0 ≤ beg ts v) {p q : Nat → Bool} {v : Nat} (hpq : ∀ v, p v = true → q v = true) (hv : p v = false) (hq : q v = true) : ∀ k : Nat, v < k → pickSum ts p k + beg ts v ≤ pickSum ts q k
  | 0, hk => by omega
  | k + 1, hk => by
    have h2 := h k
    have h3 := hpq k
    unfold pickSum
    by_cases hvk : v = k
    · subst hvk
      have h1 := pickSum_le h hpq v
      rw [hv, hq]; simp; omega
    · have h1 := pickSum_one h hpq hv hq k (by omega)
      cases hp : p k with
      | true => rw [h3 hp]; simp only [if_true]; omega
      | false => cases hq' : q k <;> simp only [Bool.false_eq_true, if_false, if_true] <;> omega
theorem Plan.critSum (h : Plan ns fs ts) : Go.Proofs.Ytonlkodenfiljaa.totalOf ns fs ts ≤ pickSum ts (fun v => beg (slackOf ns fs ts) v == 0) ns.length := by
  obtain ⟨rank, hr, hN⟩ := h.rank
  have ht : ∀ v, 0 ≤ beg ts v := fun v => (vTimes_at h.t v).1
  have hi := esOf_ins (vProc_inside h.v)
  have hcr : ∀ v, v < ns.length → (beg (slackOf ns fs ts) v == 0) = true → beg (lateOf ns fs ts) v = beg (earlyOf ns fs ts) v := fun v hv hb => by
    rw [slackOf_at hv] at hb
    have : beg (lateOf ns fs ts) v - beg (earlyOf ns fs ts) v = 0 := by simpa using hb
    omega
  have hcr' : ∀ v, v < ns.length → beg (lateOf ns fs ts) v = beg (earlyOf ns fs ts) v → (beg (slackOf ns fs ts) v == 0) = true := fun v hv hb => by
    rw [slackOf_at hv, hb]; simp
  have key : ∀ m v, v < ns.length → rank v ≤ m → beg (lateOf ns fs ts) v = beg (earlyOf ns fs ts) v → beg (earlyOf ns fs ts) v + beg ts v ≤ pickSum ts (fun x => (beg (slackOf ns fs ts) x == 0) && decide (rank x ≤ rank v)) ns.length := by
    intro m
    induction m with
    | zero =>
      intro v hv hm hc
      have hq : ((beg (slackOf ns fs ts) v == 0) && decide (rank v ≤ rank v)) = true := by rw [hcr' v hv hc]; simp
      rcases h.way hv hc with h0 | ⟨u, hu, _⟩
      · have := pickSum_one ht (p := fun _ => false) (q := fun x => (beg (slackOf ns fs ts) x == 0) && decide (rank x ≤ rank v)) (v := v) (fun _ h => by cases h) rfl hq ns.length hv
        have h2 := (pickSum_in (fun v => vTimes_at h.t v) (fun _ => false) ns.length).1
        omega
      · have := hr _ hu; simp only at this; omega
    | succ m ih =>
      intro v hv hm hc
      have hq : ((beg (slackOf ns fs ts) v == 0) && decide (rank v ≤ rank v)) = true := by rw [hcr' v hv hc]; simp
      rcases h.way hv hc with h0 | ⟨u, hu, he, hcu⟩
      · have := pickSum_one ht (p := fun _ => false) (q := fun x => (beg (slackOf ns fs ts) x == 0) && decide (rank x ≤ rank v)) (v := v) (fun _ h => by cases h) rfl hq ns.length hv
        have h2 := (pickSum_in (fun v => vTimes_at h.t v) (fun _ => false) ns.length).1
        omega
      · have h1 := hr _ hu
        simp only at h1
        have h2 := ih u (hi _ hu).1 (by omega) hcu
        have h3 := pickSum_one ht (p := fun x => (beg (slackOf ns fs ts) x == 0) && decide (rank x ≤ rank u)) (q := fun x => (beg (slackOf ns fs ts) x == 0) && decide (rank x ≤ rank v)) (v := v) (fun x hx => by
          simp only [Bool.and_eq_true, decide_eq_true_eq] at hx ⊢
          exact ⟨hx.1, by omega⟩) (by simp only [Bool.and_eq_false_iff, decide_eq_false_iff_not]; exact .inr (by omega)) hq ns.length hv
        omega
  obtain ⟨v, hv, he⟩ := h.at_
  have hc : beg (lateOf ns fs ts) v = beg (earlyOf ns fs ts) v := by
    have h1 := h.pulled.top v hv
    have h2 := h.slack0 hv
    omega
  have h1 := key (rank v) v hv (Nat.le_refl _) hc
  have h2 := pickSum_le ht (p := fun x => (beg (slackOf ns fs ts) x == 0) && decide (rank x ≤ rank v)) (q := fun v => beg (slackOf ns fs ts) v == 0) (fun x hx => by simp only [Bool.and_eq_true] at hx; exact hx.1) ns.length
  omega
/-- Some node is critical. -/
theorem Plan.someCrit (h : Plan ns fs ts) : ∃ v, v < ns.length ∧ beg (slackOf ns fs ts) v = 0 := by
  obtain ⟨v, hv, he⟩ := h.at_
  refine ⟨v, hv, ?_⟩
  rw [slackOf_at hv]
  have h1 := h.pulled.top v hv
  have h2 := h.slack0 hv
  omega
theorem critUp_mem {sl : List Int} {k : Nat} {z : Int} : z ∈ critUp sl k ↔ ∃ v : Nat, z = (v : Int) ∧ v < k ∧ beg sl v = 0 := by
  unfold critUp
  rw [List.mem_map]
  constructor
  · rintro ⟨v, hv, rfl⟩
    have := List.mem_filter.1 hv
    exact ⟨v, rfl, List.mem_range.1 this.1, by simpa using this.2⟩
  · rintro ⟨v, rfl, hk, h0⟩
    exact ⟨v, List.mem_filter.2 ⟨List.mem_range.2 hk, by simpa using h0⟩, rfl⟩
theorem critUp_isIn {sl : List Int} {k v : Nat} (hv : v < k) : inL (critUp sl k) (v : Int) = (beg sl v == 0) := by
  rw [inL, Bool.eq_iff_iff, List.contains_iff_mem, critUp_mem]
  constructor
  · rintro ⟨u, hu, _, h0⟩
    obtain rfl : v = u := by omega
    simpa using h0
  · intro h
    exact ⟨v, rfl, hv, by simpa using h⟩
theorem critUp_pos {sl : List Int} {k v : Nat} (hv : v < k) (h0 : beg sl v = 0) : 1 ≤ (critUp sl k).length := List.length_pos_of_mem (critUp_mem.2 ⟨v, rfl, hv, h0⟩)
end
end Go.Proofs.Ytonlkodenfiljaa
