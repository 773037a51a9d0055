/- Groups of servers as sets of bits; the commit point as the program reckons it. Plain mathematics; no program. -/
import Derived.Test.YtfpiejcfhdnjiaaLogMath
import Derived.Lib.BitFns
set_option linter.unusedSimpArgs false
set_option linter.unusedVariables false
namespace Go.Proofs.Ytfpiejcfhdnjiaa
open Go.RowKit

/-- The set of the servers in a list, a bit for each. -/
def maskStep (m : Nat) (x : Int) : Nat := if inR x 0 6 then m ||| 2 ^ x.toNat else m
def maskOf (xs : List Int) : Nat := xs.foldl maskStep 0
def popc (m : Nat) : Nat := (List.range 7).countP fun i => m.testBit i
theorem popc_ones : ∀ m : Fin 128, Go.Lib.onesCount m.val = popc m.val := by decide +kernel
theorem maskStep_lt {m : Nat} (h : m < 128) (x : Int) : maskStep m x < 128 := by
  unfold maskStep
  split
  · rename_i hx
    rw [inR_iff] at hx
    exact Nat.or_lt_two_pow (n := 7) h (Nat.lt_of_le_of_lt (Nat.pow_le_pow_right (by omega) (show x.toNat ≤ 6 by omega)) (by decide))
  · exact h
theorem mask_lt_from : ∀ (xs : List Int) {m : Nat}, m < 128 → xs.foldl maskStep m < 128
  | [], _, h => h
  | x :: xs, _, h => mask_lt_from xs (maskStep_lt h x)
theorem mask_lt (xs : List Int) : maskOf xs < 128 := mask_lt_from xs (by omega)
theorem maskStep_bit (m : Nat) (x : Int) {i : Nat} (hi : i < 7) : (maskStep m x).testBit i = (m.testBit i || decide (x = (i : Int))) := by
  unfold maskStep
  split
  · rename_i hx
    rw [inR_iff] at hx
    rw [Nat.testBit_or, Nat.testBit_two_pow]
    congr 1
    by_cases h : x = (i : Int)
    · simp [h]
    · rw [decide_eq_false h, decide_eq_false (by omega)]
  · rename_i hx
    rw [inR_iff] at hx
    rw [decide_eq_false (by omega), Bool.or_false]
theorem mask_bit_from : ∀ (xs : List Int) (m : Nat) {i : Nat}, i < 7 → (xs.foldl maskStep m).testBit i = (m.testBit i || xs.contains (i : Int))
  | [], m, i, _ => by simp
  | x :: xs, m, i, hi => by
    rw [List.foldl_cons, mask_bit_from xs _ hi, maskStep_bit m x hi, List.contains_cons, Bool.or_assoc]
    congr 2
    rw [Bool.eq_iff_iff]
    simp only [decide_eq_true_eq, beq_iff_eq]
    exact eq_comm
theorem mask_bit (xs : List Int) {i : Nat} (hi : i < 7) : (maskOf xs).testBit i = xs.contains (i : Int) := by
  rw [maskOf, mask_bit_from xs 0 hi, Nat.zero_testBit, Bool.false_or]
theorem countP_same {α : Type} {p q : α → Bool} : ∀ {l : List α}, (∀ x ∈ l, p x = q x) → l.countP p = l.countP q
  | [], _ => rfl
  | x :: l, h => by
    rw [List.countP_cons, List.countP_cons, countP_same (fun y hy => h y (List.mem_cons_of_mem _ hy)), h x (List.mem_cons_self ..)]
/-- How many of the servers are in a list, and named besides. -/
def inBoth (q : Int → Bool) (xs : List Int) : Nat := (List.range 7).countP fun i : Nat => xs.contains (i : Int) && q i
theorem countP_at {l : List Nat} (hl : l.Nodup) (p : Nat → Bool) (k : Nat) (b : Bool) (hk : p k = false) : (l.countP fun i => if i = k then b else p i) = l.countP p + if k ∈ l ∧ b = true then 1 else 0 := by
  induction l with
  | nil => simp
  | cons x l ih =>
    rw [List.nodup_cons] at hl
    rw [List.countP_cons, List.countP_cons, ih hl.2]
    by_cases hx : x = k
    · subst hx
      rw [if_pos rfl, hk]
      have : ¬ (x ∈ l ∧ b = true) := fun h => hl.1 h.1
      rw [if_neg this]
      cases b <;> simp
    · rw [if_neg hx]
      have : (k ∈ x :: l ∧ b = true) ↔ (k ∈ l ∧ b = true) := by
        rw [List.mem_cons]
        constructor
        · rintro ⟨h | h, hb⟩
          · exact absurd h.symm hx
          · exact ⟨h, hb⟩
        · exact fun h => ⟨.inr h.1, h.2⟩
      by_cases hh : k ∈ l ∧ b = true
      · rw [if_pos hh, if_pos (this.2 hh)]; omega
      · rw [if_neg hh, if_neg (fun h => hh (this.1 h))]; omega
theorem inBoth_cons (q : Int → Bool) (x : Int) (xs : List Int) (hx : xs.contains x = false) : inBoth q (x :: xs) = inBoth q xs + if inR x 0 6 = true ∧ q x = true then 1 else 0 := by
  unfold inBoth
  by_cases hr : inR x 0 6 = true
  · obtain ⟨k, rfl⟩ : ∃ k : Nat, x = (k : Int) := ⟨x.toNat, by rw [inR_iff] at hr; omega⟩
    rw [inR_iff] at hr
    have e : ((List.range 7).countP fun i : Nat => ((k : Int) :: xs).contains (i : Int) && q i) = (List.range 7).countP fun i => if i = k then q k else xs.contains (i : Int) && q i := by
      apply countP_same
      intro i hi
      by_cases hik : i = k
      · subst hik; simp
      · rw [if_neg hik, List.contains_cons]
        have : ((i : Int) == (k : Int)) = false := by rw [beq_eq_false_iff_ne]; omega
        rw [this, Bool.false_or]
    rw [e, countP_at List.nodup_range _ k _ (by rw [hx]; rfl)]
    congr 1
    have : k ∈ List.range 7 := by rw [List.mem_range]; omega
    simp [this, inR_iff.2 hr]
  · rw [if_neg (fun h => hr h.1), Nat.add_zero]
    apply countP_same
    intro i hi
    rw [List.mem_range] at hi
    rw [List.contains_cons]
    have : ((i : Int) == x) = false := by
      rw [beq_eq_false_iff_ne]; rintro rfl; exact hr (inR_iff.2 (by omega))
    rw [this, Bool.false_or]
theorem inBoth_again (q : Int → Bool) (x : Int) (xs : List Int) (hx : xs.contains x = true) : inBoth q (x :: xs) = inBoth q xs := by
  apply countP_same
  intro i hi
  rw [List.contains_cons]
  by_cases h : (i : Int) = x
  · rw [h, hx]; simp
  · rw [beq_false_of_ne h, Bool.false_or]
/-- All different and in range. -/
def Grp (xs : List Int) : Prop := xs.Nodup ∧ ∀ x ∈ xs, inR x 0 6 = true
theorem inBoth_grp (q : Int → Bool) : ∀ {xs : List Int}, Grp xs → inBoth q xs = xs.countP q
  | [], _ => by simp [inBoth]
  | x :: xs, h => by
    have hn := List.nodup_cons.1 h.1
    rw [inBoth_cons q x xs (by simpa using hn.1), inBoth_grp q ⟨hn.2, fun y hy => h.2 y (List.mem_cons_of_mem _ hy)⟩, List.countP_cons]
    have := h.2 x (List.mem_cons_self ..)
    simp [this]
theorem inBoth_le : ∀ xs : List Int, inBoth (fun _ => true) xs ≤ xs.length
  | [] => by simp [inBoth]
  | x :: xs => by
    have ih := inBoth_le xs
    cases hx : xs.contains x with
    | true => rw [inBoth_again _ x xs hx, List.length_cons]; omega
    | false =>
      rw [inBoth_cons _ x xs hx, List.length_cons]
      split <;> omega
theorem grp_of : ∀ {xs : List Int}, inBoth (fun _ => true) xs = xs.length → Grp xs
  | [], _ => ⟨List.nodup_nil, by simp⟩
  | x :: xs, h => by
    have hle := inBoth_le xs
    rw [List.length_cons] at h
    cases hx : xs.contains x with
    | true => rw [inBoth_again _ x xs hx] at h; omega
    | false =>
      rw [inBoth_cons _ x xs hx] at h
      by_cases hr : inR x 0 6 = true
      · have ih := grp_of (xs := xs) (by rw [if_pos ⟨hr, rfl⟩] at h; omega)
        refine ⟨List.nodup_cons.2 ⟨by simpa using hx, ih.1⟩, fun y hy => ?_⟩
        rcases List.mem_cons.1 hy with rfl | hy
        · exact hr
        · exact ih.2 y hy
      · rw [if_neg (fun h => hr h.1)] at h; omega
theorem popc_mask (xs : List Int) : popc (maskOf xs) = inBoth (fun _ => true) xs := by
  unfold popc inBoth
  apply countP_same
  intro i hi
  rw [mask_bit xs (List.mem_range.1 hi), Bool.and_true]
theorem popc_and (xs ys : List Int) : popc (maskOf xs &&& maskOf ys) = inBoth (fun x => ys.contains x) xs := by
  unfold popc inBoth
  apply countP_same
  intro i hi
  rw [Nat.testBit_and, mask_bit xs (List.mem_range.1 hi), mask_bit ys (List.mem_range.1 hi)]
theorem popc_xor (xs ys : List Int) : popc (maskOf xs ^^^ maskOf ys) = ([0, 1, 2, 3, 4, 5, 6] : List Int).countP (fun s => xs.contains s != ys.contains s) := by
  have e : ([0, 1, 2, 3, 4, 5, 6] : List Int) = (List.range 7).map fun i : Nat => (i : Int) := by decide
  rw [e, List.countP_map]
  unfold popc
  apply countP_same
  intro i hi
  rw [Nat.testBit_xor, mask_bit xs (List.mem_range.1 hi), mask_bit ys (List.mem_range.1 hi)]
  rfl
theorem upFrom_iff : ∀ {xs : List Int} {z : Option Int}, upFrom z xs = true ↔ up2 xs ∧ ∀ y, z = some y → ∀ x ∈ xs, y < x
  | [], z => by simp [upFrom, up2]
  | x :: xs, z => by
    simp only [upFrom]
    rw [Bool.and_eq_true, upFrom_iff]
    simp only [up2, List.pairwise_cons, List.mem_cons]
    constructor
    · rintro ⟨h1, h2, h3⟩
      refine ⟨⟨h3 _ rfl, h2⟩, ?_⟩
      rintro y rfl q (rfl | hq)
      · simpa using h1
      · have := h3 _ rfl q hq
        have h1 : y < x := by simpa using h1
        omega
    · rintro ⟨⟨h1, h2⟩, h3⟩
      refine ⟨?_, h2, fun y hy q hq => by injection hy with hy; rw [← hy]; exact h1 q hq⟩
      cases z with
      | none => rfl
      | some y => simpa using h3 y rfl x (.inl rfl)
theorem vGroup_iff {xs : List Int} : vGroup xs = true ↔ up2 xs ∧ (1 ≤ xs.length ∧ xs.length ≤ 7) ∧ ∀ x ∈ xs, inR x 0 6 = true := by
  unfold vGroup
  rw [Bool.and_eq_true, Bool.and_eq_true, upFrom_iff, inR_iff, List.all_eq_true]
  constructor
  · rintro ⟨⟨⟨h1, _⟩, h2⟩, h3⟩
    exact ⟨h1, by omega, h3⟩
  · rintro ⟨h1, h2, h3⟩
    exact ⟨⟨⟨h1, by intro y h; cases h⟩, by omega⟩, h3⟩
theorem vGroup_grp {xs : List Int} (h : vGroup xs = true) : Grp xs := by
  obtain ⟨h1, _, h3⟩ := vGroup_iff.1 h
  exact ⟨h1.imp (fun h => by omega), h3⟩
/-- Sorted, as the program asks. -/
def sorted (xs : List Int) : Prop := xs.Pairwise fun a b => a ≤ b
theorem vGroup_mask {xs : List Int} : vGroup xs = true ↔ 1 ≤ xs.length ∧ popc (maskOf xs) = xs.length ∧ sorted xs := by
  constructor
  · intro h
    obtain ⟨h1, h2, h3⟩ := vGroup_iff.1 h
    refine ⟨h2.1, ?_, h1.imp (fun h => by omega)⟩
    rw [popc_mask, inBoth_grp _ (vGroup_grp h)]
    simp
  · rintro ⟨h1, h2, h3⟩
    rw [popc_mask] at h2
    have hg := grp_of h2
    have h7 : inBoth (fun _ => true) xs ≤ 7 := by
      have := List.countP_le_length (p := fun i : Nat => xs.contains (i : Int) && true) (l := List.range 7)
      simpa [inBoth] using this
    refine vGroup_iff.2 ⟨?_, ⟨h1, by omega⟩, hg.2⟩
    exact (List.Pairwise.and h3 hg.1).imp (fun h => by omega)
theorem popc_quorum {g s : List Int} (h : vGroup g = true) : popc (maskOf g &&& maskOf s) = g.countP fun x => s.contains x := by
  rw [popc_and, inBoth_grp _ (vGroup_grp h)]
theorem quorum_mask {g s : List Int} (h : vGroup g = true) : quorumOf g s = decide (popc (maskOf g) < 2 * popc (maskOf g &&& maskOf s)) := by
  rw [quorumOf, h, popc_quorum h, (vGroup_mask.1 h).2.1, Bool.true_and]
theorem step_mask {a b : List Int} (h : vGroup a = true) (k : vGroup b = true) : stepOf a b = decide (popc (maskOf a ^^^ maskOf b) = 1) := by
  rw [stepOf, h, k, popc_xor]; rfl
theorem topFrom_at (ps : List En) (has : List Int) (term : Int) : ∀ {N k : Nat}, k ≤ N → (∀ n, k < n → n ≤ N → ¬ (termOf ps n = term ∧ has.length < 2 * haveN has n)) → (k = 0 ∨ (termOf ps k = term ∧ has.length < 2 * haveN has k)) → topFrom ps has term N = k
  | 0, k, hk, _, _ => by rw [topFrom]; omega
  | N + 1, k, hk, h, h0 => by
    by_cases e : k = N + 1
    · subst e
      rcases h0 with h0 | h0
      · omega
      · rw [topFrom, if_pos h0]
    · rw [topFrom, if_neg (h (N + 1) (by omega) (Nat.le_refl _)), topFrom_at ps has term (N := N) (k := k) (by omega) (fun n h1 h2 => h n h1 (by omega)) h0]
theorem topFrom_fact (ps : List En) (has : List Int) (term : Int) : ∀ N, topFrom ps has term N ≤ N ∧ (topFrom ps has term N = 0 ∨ (termOf ps (topFrom ps has term N) = term ∧ has.length < 2 * haveN has (topFrom ps has term N))) ∧ ∀ n, topFrom ps has term N < n → n ≤ N → ¬ (termOf ps n = term ∧ has.length < 2 * haveN has n)
  | 0 => ⟨Nat.le_refl _, .inl rfl, fun n h1 h2 => by rw [topFrom] at h1; omega⟩
  | N + 1 => by
    rw [topFrom]
    split
    · rename_i h
      exact ⟨Nat.le_refl _, .inr h, fun n h1 h2 => by omega⟩
    · rename_i h
      obtain ⟨h1, h2, h3⟩ := topFrom_fact ps has term N
      refine ⟨by omega, h2, fun n h4 h5 => ?_⟩
      by_cases e : n = N + 1
      · subst e; exact h
      · exact h3 n h4 (by omega)
/-- Of a sorted list more than half are at least as great as what is at most its middle. -/
theorem middle {s : List Int} (hs : s.Pairwise fun a b => a ≤ b) {m : Int} (hm : s[(s.length - 1) / 2]? = some m) (x : Int) : s.length < 2 * haveN s x ↔ x ≤ m := by
  have hl : (s.length - 1) / 2 < s.length := (List.getElem?_eq_some_iff.1 hm).1
  have hmg := (List.getElem?_eq_some_iff.1 hm).2
  generalize hj : (s.length - 1) / 2 = j at *
  have hsplit : haveN s x = haveN (s.take j) x + haveN (s.drop j) x := by
    unfold haveN; rw [← List.countP_append, List.take_append_drop]
  have hsplit2 : haveN s x = haveN (s.take (j + 1)) x + haveN (s.drop (j + 1)) x := by
    unfold haveN; rw [← List.countP_append, List.take_append_drop]
  constructor
  · intro h
    apply Classical.byContradiction
    intro hx
    have h0 : haveN (s.take (j + 1)) x = 0 := by
      unfold haveN
      rw [List.countP_eq_zero]
      intro y hy
      obtain ⟨i, hi, rfl⟩ := List.mem_iff_getElem.1 hy
      rw [List.length_take] at hi
      rw [List.getElem_take]
      have : s[i] ≤ s[j] := by
        rcases Nat.lt_or_ge i j with h1 | h1
        · exact List.pairwise_iff_getElem.1 hs i j (by omega) hl h1
        · have e : i = j := by omega
          subst e; exact Int.le_refl _
      simp; omega
    have h1 : haveN (s.drop (j + 1)) x ≤ s.length - (j + 1) := by
      have := List.countP_le_length (p := fun h => decide (x ≤ h)) (l := s.drop (j + 1))
      rwa [List.length_drop] at this
    omega
  · intro hx
    have h1 : haveN (s.drop j) x = s.length - j := by
      unfold haveN
      rw [← List.length_drop, List.countP_eq_length]
      intro y hy
      obtain ⟨i, hi, rfl⟩ := List.mem_iff_getElem.1 hy
      rw [List.length_drop] at hi
      rw [List.getElem_drop]
      have : s[j] ≤ s[j + i] := by
        rcases Nat.eq_zero_or_pos i with h1 | h1
        · subst h1; exact Int.le_refl _
        · exact List.pairwise_iff_getElem.1 hs j (j + i) hl (by omega) (by omega)
      simp; omega
    omega
/-- How many places are still false, where what holds goes on holding. -/
theorem bound_at (p : Nat → Bool) : ∀ (n : Nat), (∀ a b, a ≤ b → b < n → p a = true → p b = true) → ((List.range n).countP fun i => !p i) ≤ n ∧ (∀ i, i < (List.range n).countP (fun i => !p i) → p i = false) ∧ ∀ i, (List.range n).countP (fun i => !p i) ≤ i → i < n → p i = true
  | 0, _ => by simp
  | n + 1, h => by
    obtain ⟨h1, h2, h3⟩ := bound_at p n (fun a b hab hb => h a b hab (by omega))
    rw [List.range_succ, List.countP_append, List.countP_cons, List.countP_nil]
    cases hp : p n with
    | true =>
      simp only [Bool.not_true, Bool.false_eq_true, if_false, Nat.add_zero]
      refine ⟨by omega, h2, fun i hi hi2 => ?_⟩
      by_cases e : i = n
      · subst e; exact hp
      · exact h3 i hi (by omega)
    | false =>
      have hall : ∀ i, i < n → p i = false := fun i hi => by
        cases hpi : p i with
        | false => rfl
        | true => have := h i n (by omega) (by omega) hpi; rw [hp] at this; cases this
      have e : (List.range n).countP (fun i => !p i) = n := by
        rw [show (List.range n).countP (fun i => !p i) = (List.range n).length from List.countP_eq_length.2 fun i hi => by rw [hall i (List.mem_range.1 hi)]; rfl, List.length_range]
      rw [e]
      simp only [Bool.not_false, if_true]
      refine ⟨by omega, fun i hi => ?_, fun i hi hi2 => by omega⟩
      by_cases e : i = n
      · subst e; exact hp
      · exact hall i (by omega)
theorem termOf_mono {ps : List En} (hr : Ris ps) {a b : Nat} (hab : a ≤ b) (hb : b < ps.length) : termOf ps (a + 1) ≤ termOf ps (b + 1) := by
  have ha : a < ps.length := by omega
  rw [termOf_get (List.getElem?_eq_getElem ha), termOf_get (List.getElem?_eq_getElem hb)]
  rcases Nat.eq_or_lt_of_le hab with e | h
  · subst e; exact Int.le_refl _
  · exact List.pairwise_iff_getElem.1 hr a b ha hb h
/-- What the program reckons: the less of the middle and of how many are not above the term. -/
theorem commit_prog {ps : List En} (hr : Ris ps) {has s : List Int} (hperm : s.Perm has) (hs : s.Pairwise fun a b => a ≤ b) {m : Nat} (hm : s[(has.length - 1) / 2]? = some (m : Int)) (term : Int) {u k : Nat} (hu : u = (List.range ps.length).countP fun i => !decide (term < termOf ps (i + 1))) (hk : k = min m u) :
    topFrom ps has term ps.length = if termOf ps k = term then k else 0 := by
  have hlen : s.length = has.length := hperm.length_eq
  rw [← hlen] at hm
  have hmid := middle hs hm
  have hhave : ∀ x, haveN has x = haveN s x := fun x => (hperm.countP_eq _).symm
  obtain ⟨b1, b2, b3⟩ := bound_at (fun i => decide (term < termOf ps (i + 1))) ps.length (fun a b hab hb h => by
    have := termOf_mono hr hab hb
    have h : term < termOf ps (a + 1) := by simpa using h
    simp; omega)
  rw [← hu] at b1 b2 b3
  have hno : ∀ n, k < n → n ≤ ps.length → ¬ (termOf ps n = term ∧ has.length < 2 * haveN has n) := by
    rintro n h1 h2 ⟨h3, h4⟩
    rw [hhave, ← hlen, hmid] at h4
    have : u < n := by omega
    obtain ⟨j, rfl⟩ : ∃ j, n = j + 1 := ⟨n - 1, by omega⟩
    have := b3 j (by omega) (by omega)
    simp at this
    omega
  split
  · rename_i ht
    refine topFrom_at ps has term (by omega) hno ?_
    rcases Nat.eq_zero_or_pos k with h0 | h0
    · exact .inl h0
    · refine .inr ⟨ht, ?_⟩
      rw [hhave, ← hlen, hmid]
      omega
  · rename_i ht
    refine topFrom_at ps has term (by omega) (fun n h1 h2 => ?_) (.inl rfl)
    by_cases hkn : k < n
    · exact hno n hkn h2
    · rintro ⟨h3, -⟩
      obtain ⟨j, rfl⟩ : ∃ j, n = j + 1 := ⟨n - 1, by omega⟩
      obtain ⟨i, hi⟩ : ∃ i, k = i + 1 := ⟨k - 1, by omega⟩
      rw [hi] at ht hkn
      have h5 := termOf_mono hr (show j ≤ i by omega) (show i < ps.length by omega)
      have := b2 i (by omega)
      simp at this
      omega
end Go.Proofs.Ytfpiejcfhdnjiaa
