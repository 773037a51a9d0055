/- Merged: InstMath, HeapMath, InstU. -/
import Derived.Test.YtknphikoikdcjaaGreatTokFireA
/- Instances in plain mathematics: timers, settling, what is valid. No program. -/
set_option linter.unusedSimpArgs false
set_option linter.unusedVariables false
namespace Go.Proofs.YtknphikoikdcjaaGreat
open Go.RowKit

/-- A timer: its node, when it is due. -/
abbrev Tm := Int × Int
def tlt (a b : Tm) : Bool := decide (a.2 < b.2) || (decide (a.2 = b.2) && decide (a.1 < b.1))
theorem tlt_iff {a b : Tm} : tlt a b = true ↔ a.2 < b.2 ∨ (a.2 = b.2 ∧ a.1 < b.1) := by simp [tlt]
theorem tlt_not {a b : Tm} : tlt a b = false ↔ b.2 < a.2 ∨ (a.2 = b.2 ∧ b.1 ≤ a.1) := by
  rw [← Bool.not_eq_true, tlt_iff]; omega
theorem tlt_anti {a b : Tm} (h1 : tlt a b = false) (h2 : tlt b a = false) : a = b := by
  rw [tlt_not] at h1 h2
  have e2 : a.2 = b.2 := by omega
  have e1 : a.1 = b.1 := by omega
  exact Prod.ext e1 e2
theorem tlt_trans {a b c : Tm} (h1 : tlt b a = false) (h2 : tlt c b = false) : tlt c a = false := by
  rw [tlt_not] at *; omega
/-- In order. -/
def TSort (l : List Tm) : Prop := l.Pairwise fun a b => tlt b a = false
theorem TSort.unique : ∀ {l m : List Tm}, TSort l → TSort m → l.Perm m → l = m
  | [], _, _, _, hp => hp.nil_eq
  | a :: l, [], _, _, hp => absurd hp.length_eq (by simp)
  | a :: l, b :: m, hl, hm, hp => by
    have hl' := List.pairwise_cons.1 hl
    have hm' := List.pairwise_cons.1 hm
    have e : a = b := by
      rcases List.mem_cons.1 (hp.mem_iff.1 (List.mem_cons_self ..)) with e | h1
      · exact e
      · rcases List.mem_cons.1 (hp.mem_iff.2 (List.mem_cons_self ..)) with e | h2
        · exact e.symm
        · exact tlt_anti (hm'.1 a h1) (hl'.1 b h2)
    subst e
    rw [TSort.unique hl'.2 hm'.2 hp.cons_inv]
/-- A timer put where it belongs. -/
def addT (ts : List Tm) (t : Tm) : List Tm := ts.filter (fun u => !tlt t u) ++ t :: ts.filter (fun u => tlt t u)
theorem addT_perm (ts : List Tm) (t : Tm) : (addT ts t).Perm (t :: ts) := by
  unfold addT
  refine List.perm_middle.trans (List.Perm.cons _ ?_)
  have := List.filter_append_perm (fun u => tlt t u) ts
  exact List.perm_append_comm.trans this
theorem addT_sort {ts : List Tm} (h : TSort ts) (t : Tm) : TSort (addT ts t) := by
  unfold addT TSort
  rw [List.pairwise_append]
  refine ⟨List.Pairwise.filter _ h, ?_, ?_⟩
  · rw [List.pairwise_cons]
    refine ⟨fun u hu => ?_, List.Pairwise.filter _ h⟩
    have := (List.mem_filter.1 hu).2
    rw [tlt_iff] at this
    rw [tlt_not]; omega
  · intro a ha b hb
    have h1 := (List.mem_filter.1 ha).2
    rw [Bool.not_eq_true'] at h1
    rcases List.mem_cons.1 hb with rfl | hb
    · exact h1
    · have h2 := (List.mem_filter.1 hb).2
      rw [tlt_iff] at h2
      rw [tlt_not] at h1 ⊢; omega
theorem addT_len (ts : List Tm) (t : Tm) : (addT ts t).length = ts.length + 1 := by
  rw [(addT_perm ts t).length_eq]; rfl
/-- How many timers a node has. -/
def tAt (ts : List Tm) (node : Int) : Nat := ts.countP fun u => u.1 == node
theorem tAt_perm {l m : List Tm} (h : l.Perm m) (node : Int) : tAt l node = tAt m node := h.countP_eq _
theorem tAt_cons (t : Tm) (ts : List Tm) (node : Int) : tAt (t :: ts) node = tAt ts node + (if t.1 = node then 1 else 0) := by
  unfold tAt
  rw [List.countP_cons]
  by_cases e : t.1 = node <;> simp [e]
theorem tAt_addT (ts : List Tm) (t : Tm) (node : Int) : tAt (addT ts t) node = tAt ts node + (if t.1 = node then 1 else 0) := by
  rw [tAt_perm (addT_perm ts t), tAt_cons]
def addN (t : Tm) : Nat → List Tm → List Tm
  | 0, ts => ts
  | n + 1, ts => addT (addN t n ts) t
theorem addN_sort {ts : List Tm} (h : TSort ts) (t : Tm) : ∀ n, TSort (addN t n ts)
  | 0 => h
  | n + 1 => addT_sort (addN_sort h t n) t
theorem addN_perm (t : Tm) (ts : List Tm) : ∀ n, (addN t n ts).Perm (List.replicate n t ++ ts)
  | 0 => List.Perm.refl _
  | n + 1 => (addT_perm _ t).trans (List.Perm.cons _ (addN_perm t ts n))
theorem addN_len (t : Tm) (ts : List Tm) (n : Nat) : (addN t n ts).length = n + ts.length := by
  rw [(addN_perm t ts n).length_eq]; simp
theorem tAt_addN (t : Tm) (ts : List Tm) (node : Int) : ∀ n, tAt (addN t n ts) node = tAt ts node + (if t.1 = node then n else 0)
  | 0 => by simp [addN]
  | n + 1 => by
    rw [addN, tAt_addT, tAt_addN t ts node n]
    by_cases e : t.1 = node <;> simp [e]; omega
/-- How many tokens wait at a node with one flow into it. -/
def waitAt (fs : List Flw) (ms : List Int) (node : Int) : Int := ms.getD ((flOf fs false node).headD 0).toNat 0
def valAt (ns : List (Int × Int)) (k : Nat) : Int := (ns.getD k (0, 0)).2
theorem valAt_is {ns : List (Int × Int)} {k : Nat} {x y : Int} (h : ns[k]? = some (x, y)) : valAt ns k = y := by
  rw [valAt, List.getD_eq_getElem?_getD, h]; rfl
/-- How many timers are missing at a node. -/
def lackT (fs : List Flw) (ms : List Int) (ts : List Tm) (k : Nat) : Nat := (waitAt fs ms (k : Int) - tAt ts (k : Int)).toNat
/-- The timers with those that are missing at the nodes below k. -/
def withUp (ns : List (Int × Int)) (fs : List Flw) (ms : List Int) (clock : Int) (ts : List Tm) : Nat → List Tm
  | 0 => ts
  | k + 1 => if kindAt ns k = 3 then addN ((k : Int), clock + valAt ns k) (lackT fs ms ts k) (withUp ns fs ms clock ts k) else withUp ns fs ms clock ts k
section
variable {ns : List (Int × Int)} {fs : List Flw} {ms : List Int} {clock : Int} {ts : List Tm}
theorem withUp_sort (h : TSort ts) : ∀ k, TSort (withUp ns fs ms clock ts k)
  | 0 => h
  | k + 1 => by
    rw [withUp]
    split
    · exact addN_sort (withUp_sort h k) _ _
    · exact withUp_sort h k
theorem tAt_withUp : ∀ (k j : Nat), tAt (withUp ns fs ms clock ts k) (j : Int) = tAt ts (j : Int) + (if j < k ∧ kindAt ns j = 3 then lackT fs ms ts j else 0)
  | 0, j => by simp [withUp]
  | k + 1, j => by
    rw [withUp]
    have ih := tAt_withUp k j
    by_cases h3 : kindAt ns k = 3
    · rw [if_pos h3, tAt_addN, ih]
      by_cases e : k = j
      · subst e
        simp [h3]
      · have e1 : ¬ ((k : Int) = (j : Int)) := by omega
        simp only [e1, if_false, Nat.add_zero]
        have : (j < k + 1 ∧ kindAt ns j = 3) ↔ (j < k ∧ kindAt ns j = 3) := by omega
        simp only [this]
    · rw [if_neg h3, ih]
      have : (j < k + 1 ∧ kindAt ns j = 3) ↔ (j < k ∧ kindAt ns j = 3) := by
        by_cases e : j = k
        · subst e; simp [h3]
        · omega
      simp only [this]
theorem withUp_len (hm : ∀ z ∈ ms, z ≤ 3) : ∀ k, (withUp ns fs ms clock ts k).length ≤ ts.length + 3 * k
  | 0 => by simp [withUp]
  | k + 1 => by
    rw [withUp]
    have ih := withUp_len hm k
    split
    · rw [addN_len]
      have : waitAt fs ms (k : Int) ≤ 3 := by
        unfold waitAt
        rw [List.getD_eq_getElem?_getD]
        cases h : ms[((flOf fs false (k : Int)).headD 0).toNat]? with
        | none => simp
        | some z => exact hm z (List.mem_of_getElem? h)
      unfold lackT
      omega
    · omega
end
/-- A node goes on by itself. -/
def autoB (k : Int) : Bool := decide (k = 1) || decide (5 ≤ k)
def tmOk (ns : List (Int × Int)) (clock : Int) (t : Tm) : Bool := inR t.1 0 ((ns.length : Int) - 1) && (kindAt ns t.1.toNat == 3) && inR t.2 (clock + 1) 10099
def tmAt (ns : List (Int × Int)) (clock : Int) (ts : List Tm) (i : Nat) : Bool := tmOk ns clock (ts.getD i (0, 0)) && (i == 0 || !tlt (ts.getD i (0, 0)) (ts.getD (i - 1) (0, 0)))
def tmsOk (ns : List (Int × Int)) (clock : Int) (ts : List Tm) : Bool := (List.range ts.length).all (tmAt ns clock ts)
def autoAt (ns : List (Int × Int)) (fs : List Flw) (ms : List Int) (k : Nat) : Bool := autoB (kindAt ns k) && readyB (kindAt ns k) ms (flOf fs false (k : Int))
def lackAt (ns : List (Int × Int)) (fs : List Flw) (ms : List Int) (ts : List Tm) (k : Nat) : Bool := kindAt ns k == 3 && !((tAt ts (k : Int) : Int) == waitAt fs ms (k : Int))
def nodeOk (ns : List (Int × Int)) (fs : List Flw) (ms : List Int) (ts : List Tm) (k : Nat) : Bool := !(lackAt ns fs ms ts k || autoAt ns fs ms k)
/-- An instance of a valid process is valid. -/
def vInst (ns : List (Int × Int)) (fs : List Flw) (ms vs : List Int) (clock : Int) (ts : List Tm) : Bool :=
  vMarks fs ms && vVals vs && inR clock 0 9999 && tmsOk ns clock ts && (List.range ns.length).all (nodeOk ns fs ms ts)
theorem all_up {f : Nat → Bool} {k n : Nat} (h : (List.range k).all f = true) (hk : k < n) (hf : f k = false) : (List.range n).all f = false := by
  rw [Bool.eq_false_iff]; intro ha
  rw [List.all_eq_true.1 ha k (List.mem_range.2 hk)] at hf; cases hf
theorem all_snoc {f : Nat → Bool} {k : Nat} (h : (List.range k).all f = true) (hf : f k = true) : (List.range (k + 1)).all f = true := by
  rw [List.range_succ, List.all_append, h]; simp [hf]
/-- The first node that goes on by itself. -/
def firstAuto (ns : List (Int × Int)) (fs : List Flw) (ms : List Int) : Option Nat := (List.range ns.length).find? (autoAt ns fs ms)
theorem find_hit {f : Nat → Bool} : ∀ {k n : Nat}, (∀ j, j < k → f j = false) → k < n → f k = true → (List.range n).find? f = some k := by
  intro k n h hk hf
  rw [List.find?_eq_some_iff_getElem]
  refine ⟨hf, k, by simpa using hk, by simp, fun j hj => by simp [h j hj]⟩
theorem find_none {f : Nat → Bool} {n : Nat} (h : ∀ j, j < n → f j = false) : (List.range n).find? f = none := by
  rw [List.find?_eq_none]
  intro j hj
  rw [h j (List.mem_range.1 hj)]; simp
theorem find_got {f : Nat → Bool} {n k : Nat} (h : (List.range n).find? f = some k) : k < n ∧ f k = true ∧ ∀ j, j < k → f j = false := by
  rw [List.find?_eq_some_iff_getElem] at h
  obtain ⟨h1, i, hi, he, hj⟩ := h
  rw [List.getElem_range] at he
  subst he
  refine ⟨by simpa using hi, h1, fun j hj' => ?_⟩
  have := hj j hj'
  simpa using this
theorem find_lost {f : Nat → Bool} {n : Nat} (h : (List.range n).find? f = none) : ∀ j, j < n → f j = false := by
  rw [List.find?_eq_none] at h
  intro j hj
  have := h j (List.mem_range.2 hj)
  simpa using this
/-- Nothing goes on by itself any more, after at most so many steps. -/
def settleM (ns : List (Int × Int)) (fs : List Flw) (vs : List Int) : Nat → List Int → Option (List Int)
  | 0, ms => match firstAuto ns fs ms with | none => some ms | some _ => none
  | n + 1, ms => match firstAuto ns fs ms with | none => some ms | some k => (fireOf ns fs ms (k : Int) vs).bind (settleM ns fs vs n)
theorem settleM_stop {ns : List (Int × Int)} {fs : List Flw} {vs ms : List Int} (n : Nat) (h : firstAuto ns fs ms = none) : settleM ns fs vs n ms = some ms := by
  cases n <;> rw [settleM, h]
theorem settleM_end {ns : List (Int × Int)} {fs : List Flw} {vs ms : List Int} {k : Nat} (h : firstAuto ns fs ms = some k) : settleM ns fs vs 0 ms = none := by
  rw [settleM, h]
theorem settleM_step {ns : List (Int × Int)} {fs : List Flw} {vs ms ms' : List Int} {n k : Nat} (h : firstAuto ns fs ms = some k) (hf : fireOf ns fs ms (k : Int) vs = some ms') : settleM ns fs vs (n + 1) ms = settleM ns fs vs n ms' := by
  rw [settleM, h]
  show (fireOf ns fs ms (k : Int) vs).bind _ = _
  rw [hf]; rfl
theorem settleM_fail {ns : List (Int × Int)} {fs : List Flw} {vs ms : List Int} {n k : Nat} (h : firstAuto ns fs ms = some k) (hf : fireOf ns fs ms (k : Int) vs = none) : settleM ns fs vs n ms = none := by
  cases n <;> rw [settleM, h]
  show (fireOf ns fs ms (k : Int) vs).bind _ = _
  rw [hf]; rfl
theorem fireOf_marks {ns : List (Int × Int)} {fs : List Flw} {ms vs ms' : List Int} {node : Int} (h : fireOf ns fs ms node vs = some ms') : vMarks fs ms' = true := by
  unfold fireOf at h
  split at h
  case isFalse => cases h
  case isTrue hc =>
    injection h with h
    subst h
    simp only [Bool.and_eq_true, canFire] at hc
    have hm := hc.1.1.1.2
    simp only [vMarks, Bool.and_eq_true, decide_eq_true_eq] at hm ⊢
    exact ⟨by rw [behind_len]; exact hm.1, hc.2.2⟩
theorem settleM_marks {ns : List (Int × Int)} {fs : List Flw} {vs : List Int} : ∀ (n : Nat) {ms ms' : List Int}, vMarks fs ms = true → settleM ns fs vs n ms = some ms' → vMarks fs ms' = true ∧ firstAuto ns fs ms' = none
  | 0, ms, ms', hm, h => by
    cases hf : firstAuto ns fs ms with
    | none => rw [settleM_stop 0 hf] at h; injection h with h; subst h; exact ⟨hm, hf⟩
    | some k => rw [settleM_end hf] at h; cases h
  | n + 1, ms, ms', hm, h => by
    cases hf : firstAuto ns fs ms with
    | none => rw [settleM_stop _ hf] at h; injection h with h; subst h; exact ⟨hm, hf⟩
    | some k =>
      cases hr : fireOf ns fs ms (k : Int) vs with
      | none => rw [settleM_fail hf hr] at h; cases h
      | some m2 =>
        rw [settleM_step hf hr] at h
        exact settleM_marks n (fireOf_marks hr) h
/-- An instance: tokens, values, time, timers. -/
structure Ins where
  ms : List Int
  vs : List Int
  cl : Int
  ts : List Tm
def settleOf (ns : List (Int × Int)) (fs : List Flw) (ms vs : List Int) (clock : Int) (ts : List Tm) : Option Ins :=
  (settleM ns fs vs 30 ms).map fun m => ⟨m, vs, clock, withUp ns fs m clock ts ns.length⟩
def goOnOf (ns : List (Int × Int)) (fs : List Flw) (ms : List Int) (node : Int) (vs : List Int) (clock : Int) (ts : List Tm) : Option Ins :=
  (fireOf ns fs ms node vs).bind fun m => settleOf ns fs m vs clock ts
theorem vInst_no {ns : List (Int × Int)} {fs : List Flw} {ms vs : List Int} {clock : Int} {ts : List Tm} (h : vMarks fs ms = false ∨ vVals vs = false ∨ inR clock 0 9999 = false ∨ tmsOk ns clock ts = false ∨ (List.range ns.length).all (nodeOk ns fs ms ts) = false) : vInst ns fs ms vs clock ts = false := by
  unfold vInst
  rcases h with h | h | h | h | h <;> simp [h]
theorem vInst_yes {ns : List (Int × Int)} {fs : List Flw} {ms vs : List Int} {clock : Int} {ts : List Tm} (h1 : vMarks fs ms = true) (h2 : vVals vs = true) (h3 : inR clock 0 9999 = true) (h4 : tmsOk ns clock ts = true) (h5 : (List.range ns.length).all (nodeOk ns fs ms ts) = true) : vInst ns fs ms vs clock ts = true := by
  unfold vInst
  rw [h1, h2, h3, h4, h5]; rfl
theorem vInst_parts {ns : List (Int × Int)} {fs : List Flw} {ms vs : List Int} {clock : Int} {ts : List Tm} (h : vInst ns fs ms vs clock ts = true) : vMarks fs ms = true ∧ vVals vs = true ∧ inR clock 0 9999 = true ∧ tmsOk ns clock ts = true ∧ (List.range ns.length).all (nodeOk ns fs ms ts) = true := by
  simp only [vInst, Bool.and_eq_true] at h
  exact ⟨h.1.1.1.1, h.1.1.1.2, h.1.1.2, h.1.2, h.2⟩
/- The program's side. -/
def tmI (ns : List (Int × Int)) (fs : List Flw) (ms : List Int) (clock : Int) (t : Tm) : Bool :=
  (inR t.1 0 ((ns.length : Int) - 1) && readyB (kindAt ns t.1.toNat) ms (flOf fs false t.1)) && (kindAt ns t.1.toNat == 3) && decide (clock < t.2) && decide (t.2 ≤ 10099)
def tSortB (ts : List Tm) : Bool := (List.range ts.length).all fun i => i == 0 || !tlt (ts.getD i (0, 0)) (ts.getD (i - 1) (0, 0))
def hasT (ns : List (Int × Int)) (fs : List Flw) (ms : List Int) (clock : Int) (ts : List Tm) : Bool :=
  ts.all (tmI ns fs ms clock) && (List.range ns.length).all (fun k => !lackAt ns fs ms ts k) && tSortB ts
theorem tSortB_iff {ts : List Tm} : tSortB ts = true ↔ TSort ts := by
  unfold tSortB TSort
  rw [List.all_eq_true, List.pairwise_iff_getElem]
  have get : ∀ (i : Nat) (hi : i < ts.length), ts.getD i (0, 0) = ts[i] := fun i hi => by
    rw [List.getD_eq_getElem?_getD, List.getElem?_eq_getElem hi]; rfl
  constructor
  · intro h
    have key : ∀ (d i : Nat) (hj : i + d < ts.length), tlt ts[i + d] (ts[i]'(by omega)) = false := by
      intro d
      induction d with
      | zero => intro i hj; rw [tlt_not]; simp
      | succ d ih =>
        intro i hj
        have h1 := ih i (by omega)
        have h2 := h (i + d + 1) (List.mem_range.2 (by omega))
        rw [get _ (by omega), show i + d + 1 - 1 = i + d by omega, get _ (by omega)] at h2
        have h3 : tlt ts[i + d + 1] (ts[i + d]'(by omega)) = false := by simpa using h2
        exact tlt_trans h1 h3
    intro i j hi hj hij
    have := key (j - i) i (by omega)
    simpa only [show i + (j - i) = j by omega] using this
  · intro h i hi
    have hi' := List.mem_range.1 hi
    by_cases h0 : i = 0
    · simp [h0]
    · rw [get i hi', get (i - 1) (by omega)]
      have := h (i - 1) i (by omega) hi' (by omega)
      simp [this]
theorem wait_ready {ns : List (Int × Int)} {fs : List Flw} {ms : List Int} (hV : vProc ns fs = true) (hM : vMarks fs ms = true) {k : Nat} (hk : k < ns.length) (h3 : kindAt ns k = 2 ∨ kindAt ns k = 3 ∨ kindAt ns k = 4) : readyB (kindAt ns k) ms (flOf fs false (k : Int)) = decide (0 < waitAt fs ms (k : Int)) := by
  obtain ⟨x, y, e⟩ : ∃ x y, ns[k]? = some (x, y) := ⟨(ns[k]).1, (ns[k]).2, by rw [List.getElem?_eq_getElem hk]⟩
  have hx := kindAt_is e
  rw [hx] at h3 ⊢
  have hn := (vProc_node hV e).2
  have hl : (flOf fs false (k : Int)).length = 1 := by
    rcases h3 with h | h | h <;> subst h <;> simp [vKind] at hn <;> omega
  obtain ⟨q, hq⟩ := List.length_eq_one_iff.1 hl
  unfold waitAt readyB
  rw [hq]
  have : ¬ x = 8 := by rcases h3 with h | h | h <;> omega
  rw [if_neg this]
  simp [pos]
theorem nodeOk_iff {ns : List (Int × Int)} {fs : List Flw} {ms : List Int} {ts : List Tm} : (List.range ns.length).all (nodeOk ns fs ms ts) = ((List.range ns.length).all (fun k => !lackAt ns fs ms ts k) && (firstAuto ns fs ms).isNone) := by
  rw [Bool.eq_iff_iff, Bool.and_eq_true, Option.isNone_iff_eq_none]
  constructor
  · intro h
    rw [List.all_eq_true] at h
    refine ⟨List.all_eq_true.2 fun k hk => ?_, find_none fun k hk => ?_⟩
    · have := h k hk
      simp only [nodeOk, Bool.not_eq_true', Bool.or_eq_false_iff] at this
      simp [this.1]
    · have := h k (List.mem_range.2 hk)
      simp only [nodeOk, Bool.not_eq_true', Bool.or_eq_false_iff] at this
      exact this.2
  · rintro ⟨h1, h2⟩
    rw [List.all_eq_true] at h1 ⊢
    intro k hk
    have a := h1 k hk
    have b := find_lost h2 k (List.mem_range.1 hk)
    simp only [Bool.not_eq_true'] at a
    simp [nodeOk, a, b]
theorem vInst_is {ns : List (Int × Int)} {fs : List Flw} {ms vs : List Int} {clock : Int} {ts : List Tm} (hV : vProc ns fs = true) : vInst ns fs ms vs clock ts = (vMarks fs ms && vVals vs && inR clock 0 9999 && (firstAuto ns fs ms).isNone && hasT ns fs ms clock ts) := by
  unfold vInst
  rw [nodeOk_iff]
  cases hM : vMarks fs ms with
  | false => simp
  | true =>
  cases vVals vs with
  | false => simp
  | true =>
  cases hc : inR clock 0 9999 with
  | false => simp
  | true =>
  cases (firstAuto ns fs ms).isNone with
  | false => simp
  | true =>
  simp only [Bool.true_and, Bool.and_true]
  unfold hasT
  cases hL : (List.range ns.length).all (fun k => !lackAt ns fs ms ts k) with
  | false => simp
  | true =>
  simp only [Bool.and_true]
  rw [Bool.eq_iff_iff, Bool.and_eq_true]
  have get : ∀ (i : Nat) (hi : i < ts.length), ts.getD i (0, 0) = ts[i] := fun i hi => by
    rw [List.getD_eq_getElem?_getD, List.getElem?_eq_getElem hi]; rfl
  unfold tmsOk tSortB
  constructor
  · intro h
    rw [List.all_eq_true] at h
    refine ⟨List.all_eq_true.2 fun t ht => ?_, List.all_eq_true.2 fun i hi => ?_⟩
    · obtain ⟨i, hi, rfl⟩ := List.getElem_of_mem ht
      have h1 := h i (List.mem_range.2 hi)
      unfold tmAt at h1
      rw [get i hi, Bool.and_eq_true] at h1
      have h2 := h1.1
      simp only [tmOk, Bool.and_eq_true, beq_iff_eq, inR_iff] at h2
      obtain ⟨⟨h4, h5⟩, h6⟩ := h2
      obtain ⟨n, hn⟩ : ∃ n : Nat, (ts[i]).1 = (n : Int) := ⟨(ts[i]).1.toNat, by omega⟩
      have hnk : n < ns.length := by omega
      rw [hn, Int.toNat_natCast] at h5
      have hr := wait_ready hV hM hnk (.inr (.inl h5))
      have hl := List.all_eq_true.1 hL n (List.mem_range.2 hnk)
      simp only [lackAt, h5, beq_self_eq_true, Bool.true_and, Bool.not_not, beq_iff_eq] at hl
      have hpos : 0 < tAt ts (n : Int) := by
        unfold tAt
        exact List.countP_pos_iff.2 ⟨ts[i], ht, by simp [hn]⟩
      have hw : 0 < waitAt fs ms (n : Int) := by omega
      rw [decide_eq_true hw] at hr
      simp only [tmI, Bool.and_eq_true, inR_iff, beq_iff_eq, decide_eq_true_eq, hn, Int.toNat_natCast]
      exact ⟨⟨⟨⟨by omega, hr⟩, h5⟩, by omega⟩, by omega⟩
    · have h1 := h i hi
      unfold tmAt at h1
      rw [Bool.and_eq_true] at h1
      exact h1.2
  · rintro ⟨h1, h2⟩
    rw [List.all_eq_true] at h1 h2 ⊢
    intro i hi
    have hi' := List.mem_range.1 hi
    unfold tmAt
    rw [Bool.and_eq_true]
    refine ⟨?_, h2 i hi⟩
    rw [get i hi']
    have h3 := h1 _ (List.getElem_mem hi')
    simp only [tmI, Bool.and_eq_true, inR_iff, beq_iff_eq, decide_eq_true_eq] at h3
    simp only [tmOk, Bool.and_eq_true, beq_iff_eq, inR_iff]
    obtain ⟨⟨⟨⟨a, b⟩, c⟩, d⟩, e⟩ := h3
    exact ⟨⟨by omega, c⟩, by omega, by omega⟩
theorem len_split (p : Tm → Bool) : ∀ ts : List Tm, ts.length = ts.countP p + (ts.filter fun u => !p u).length
  | [] => rfl
  | t :: ts => by
    have := len_split p ts
    cases h : p t <;> simp [List.countP_cons, List.filter_cons, h] <;> omega
theorem sum_tAt : ∀ (n : Nat) {ts : List Tm}, (∀ t ∈ ts, 0 ≤ t.1 ∧ t.1 < (n : Int)) → (∀ k : Nat, k < n → tAt ts (k : Int) ≤ 3) → ts.length ≤ 3 * n
  | 0, ts, h, _ => by
    cases ts with
    | nil => simp
    | cons t ts => have := h t (List.mem_cons_self ..); omega
  | n + 1, ts, h, h3 => by
    have h1 := sum_tAt n (ts := ts.filter fun u => !(u.1 == (n : Int))) (fun t ht => by
      have := List.mem_filter.1 ht
      have a := h t this.1
      have b : ¬ t.1 = (n : Int) := by simpa using this.2
      omega) (fun k hk => by
      refine Nat.le_trans ?_ (h3 k (by omega))
      unfold tAt
      exact List.Sublist.countP_le List.filter_sublist)
    have h2 : ts.length = tAt ts (n : Int) + (ts.filter fun u => !(u.1 == (n : Int))).length := len_split (fun u : Tm => u.1 == (n : Int)) ts
    have := h3 n (by omega)
    omega
theorem waitAt_bd {fs : List Flw} {ms : List Int} (h : ∀ z ∈ ms, 0 ≤ z ∧ z ≤ 3) (node : Int) : 0 ≤ waitAt fs ms node ∧ waitAt fs ms node ≤ 3 := by
  unfold waitAt
  rw [List.getD_eq_getElem?_getD]
  cases e : ms[((flOf fs false node).headD 0).toNat]? with
  | none => simp
  | some z => exact h z (List.mem_of_getElem? e)
theorem marks_in {fs : List Flw} {ms : List Int} (h : vMarks fs ms = true) : ∀ z ∈ ms, 0 ≤ z ∧ z ≤ 3 := fun z hz => by
  simp only [vMarks, Bool.and_eq_true] at h
  exact inR_iff.1 (List.all_eq_true.1 h.2 z hz)
/-- What is known of the timers of a valid instance. -/
theorem vInst_ts {ns : List (Int × Int)} {fs : List Flw} {ms vs : List Int} {clock : Int} {ts : List Tm} (hV : vProc ns fs = true) (h : vInst ns fs ms vs clock ts = true) : TSort ts ∧ ts.length ≤ 30 ∧ (∀ t ∈ ts, 0 ≤ t.1 ∧ t.1 < (ns.length : Int) ∧ kindAt ns t.1.toNat = 3 ∧ clock < t.2 ∧ t.2 ≤ 10099) ∧ (∀ k : Nat, k < ns.length → kindAt ns k = 3 → (tAt ts (k : Int) : Int) = waitAt fs ms (k : Int)) := by
  have hM := (vInst_parts h).1
  rw [vInst_is hV] at h
  simp only [Bool.and_eq_true, hasT] at h
  obtain ⟨_, ⟨h1, h2⟩, h3⟩ := h
  rw [List.all_eq_true] at h1 h2
  have a : ∀ t ∈ ts, 0 ≤ t.1 ∧ t.1 < (ns.length : Int) ∧ kindAt ns t.1.toNat = 3 ∧ clock < t.2 ∧ t.2 ≤ 10099 := fun t ht => by
    have := h1 t ht
    simp only [tmI, Bool.and_eq_true, inR_iff, beq_iff_eq, decide_eq_true_eq] at this
    obtain ⟨⟨⟨⟨a, b⟩, c⟩, d⟩, e⟩ := this
    exact ⟨by omega, by omega, c, d, e⟩
  have b : ∀ k : Nat, k < ns.length → kindAt ns k = 3 → (tAt ts (k : Int) : Int) = waitAt fs ms (k : Int) := fun k hk h3 => by
    have := h2 k (List.mem_range.2 hk)
    simpa [lackAt, h3] using this
  refine ⟨tSortB_iff.1 h3, ?_, a, b⟩
  have := sum_tAt ns.length (ts := ts) (fun t ht => ⟨(a t ht).1, (a t ht).2.1⟩) (fun k hk => by
    by_cases h3 : kindAt ns k = 3
    · have e := b k hk h3
      have := (waitAt_bd (fs := fs) (marks_in hM) (k : Int)).2
      omega
    · have : tAt ts (k : Int) = 0 := by
        unfold tAt
        rw [List.countP_eq_zero]
        intro t ht hn
        have e : t.1 = (k : Int) := by simpa using hn
        have := (a t ht).2.2.1
        rw [e, Int.toNat_natCast] at this
        exact h3 this
      omega)
  have := (vProc_len hV).2.1
  omega
end Go.Proofs.YtknphikoikdcjaaGreat


/- Heaps of timers, in plain mathematics: a swap, going up, going down. No program. -/
namespace Go.Proofs.YtknphikoikdcjaaGreat
open Go.RowKit

def tmv (l : List Tm) (i : Nat) : Tm := l.getD i (0, 0)
theorem tmv_lt {l : List Tm} {i : Nat} (h : i < l.length) : tmv l i = l[i] := by
  rw [tmv, List.getD_eq_getElem?_getD, List.getElem?_eq_getElem h]; rfl
theorem tmv_is {l : List Tm} {i : Nat} {t : Tm} (h : l[i]? = some t) : tmv l i = t := by
  rw [tmv, List.getD_eq_getElem?_getD, h]; rfl
theorem tmv_set {l : List Tm} {i : Nat} (h : i < l.length) (t : Tm) (k : Nat) : tmv (l.set i t) k = if k = i then t else tmv l k := by
  unfold tmv
  rw [List.getD_eq_getElem?_getD, List.getElem?_set]
  by_cases e : i = k
  · subst e; simp [h]
  · rw [if_neg e, if_neg (fun h => e h.symm), List.getD_eq_getElem?_getD]
/-- Two elements have changed places. -/
def swapL (l : List Tm) (i j : Nat) : List Tm := (l.set i (tmv l j)).set j (tmv l i)
theorem swapL_len (l : List Tm) (i j : Nat) : (swapL l i j).length = l.length := by simp [swapL]
theorem swapL_at {l : List Tm} {i j : Nat} (hi : i < l.length) (hj : j < l.length) (k : Nat) : tmv (swapL l i j) k = if k = j then tmv l i else if k = i then tmv l j else tmv l k := by
  unfold swapL
  rw [tmv_set (by simpa using hj), tmv_set hi]
theorem swapL_perm {l : List Tm} {i j : Nat} (hi : i < l.length) (hj : j < l.length) : (swapL l i j).Perm l := by
  rw [List.perm_iff_count]
  intro a
  unfold swapL
  rw [List.count_set (by simpa using hj), List.count_set hi, List.getElem_set, tmv_lt hi, tmv_lt hj]
  have h1 : (if (l[i] == a) = true then 1 else 0) ≤ l.count a := by
    split
    · rename_i h; rw [beq_iff_eq] at h; subst h; exact List.count_pos_iff.2 (List.getElem_mem hi)
    · omega
  by_cases e : i = j
  · subst e
    simp only [if_true]
    omega
  · rw [if_neg e]
    have h2 : (if (l[j] == a) = true then 1 else 0) ≤ l.count a - (if (l[i] == a) = true then 1 else 0) + (if (l[j] == a) = true then 1 else 0) := by omega
    omega
/-- The first n are a heap. -/
def HeapN (l : List Tm) (n : Nat) : Prop := ∀ k, 0 < k → k < n → tlt (tmv l k) (tmv l ((k - 1) / 2)) = false
theorem HeapN.min {l : List Tm} {n : Nat} (h : HeapN l n) : ∀ k, k < n → tlt (tmv l k) (tmv l 0) = false := by
  intro k
  induction k using Nat.strongRecOn with
  | _ k ih =>
    intro hk
    by_cases h0 : k = 0
    · subst h0; rw [tlt_not]; simp
    · exact tlt_trans (ih ((k - 1) / 2) (by omega) (by omega)) (h k (by omega) hk)
theorem TSort.heap {l : List Tm} (h : TSort l) : HeapN l l.length := by
  intro k h0 hk
  rw [tmv_lt hk, tmv_lt (show (k - 1) / 2 < l.length by omega)]
  exact List.pairwise_iff_getElem.1 h _ _ (by omega) hk (by omega)
/-- The first of a heap is the first in order. -/
theorem heap_first {l m : List Tm} (h : HeapN l l.length) (hs : TSort m) (hp : l.Perm m) (h0 : 0 < l.length) : tmv l 0 = tmv m 0 := by
  have hl := hp.length_eq
  have h0' : 0 < m.length := by omega
  apply tlt_anti
  · have : tmv l 0 ∈ m := hp.mem_iff.1 (by rw [tmv_lt h0]; exact List.getElem_mem _)
    obtain ⟨j, hj, e⟩ := List.getElem_of_mem this
    rw [← e, ← tmv_lt hj]
    exact hs.heap.min j hj
  · have : tmv m 0 ∈ l := hp.mem_iff.2 (by rw [tmv_lt h0']; exact List.getElem_mem _)
    obtain ⟨j, hj, e⟩ := List.getElem_of_mem this
    rw [← e, ← tmv_lt hj]
    exact h.min j hj
/-- A heap but for the one at j, which may go up. -/
def UpInv (l : List Tm) (j : Nat) : Prop := j < l.length ∧ (∀ i, 0 < i → i < l.length → i ≠ j → tlt (tmv l i) (tmv l ((i - 1) / 2)) = false) ∧ (∀ i, 0 < i → i < l.length → (i - 1) / 2 = j → 0 < j → tlt (tmv l i) (tmv l ((j - 1) / 2)) = false)
theorem UpInv.start {l : List Tm} (h : HeapN l l.length) (t : Tm) : UpInv (l ++ [t]) l.length := by
  have old : ∀ i, i < l.length → tmv (l ++ [t]) i = tmv l i := fun i hi => by
    unfold tmv; rw [List.getD_eq_getElem?_getD, List.getElem?_append_left hi, List.getD_eq_getElem?_getD]
  refine ⟨by simp, fun i h0 hi hn => ?_, fun i h0 hi hp hj => ?_⟩
  · rw [List.length_append, List.length_singleton] at hi
    rw [old i (by omega), old _ (by omega)]
    exact h i h0 (by omega)
  · rw [List.length_append, List.length_singleton] at hi; omega
theorem UpInv.swap {l : List Tm} {j : Nat} (h : UpInv l j) (hj : 0 < j) (hlt : tlt (tmv l j) (tmv l ((j - 1) / 2)) = true) : UpInv (swapL l ((j - 1) / 2) j) ((j - 1) / 2) := by
  obtain ⟨h1, h2, h3⟩ := h
  have hp : (j - 1) / 2 < l.length := by omega
  have at' := swapL_at hp h1
  rw [tlt_iff] at hlt
  refine ⟨by rw [swapL_len]; exact hp, fun i h0 hi hn => ?_, fun i h0 hi hpi hpp => ?_⟩
  · rw [swapL_len] at hi
    rw [at', at']
    by_cases e1 : i = j
    · subst e1
      simp only [if_true]
      rw [if_neg (by omega), tlt_not]; omega
    · rw [if_neg e1, if_neg hn]
      by_cases e2 : (i - 1) / 2 = j
      · rw [if_pos e2]; exact h3 i h0 hi e2 hj
      · rw [if_neg e2]
        have h4 := h2 i h0 hi e1
        by_cases e3 : (i - 1) / 2 = (j - 1) / 2
        · rw [if_pos e3]
          rw [e3, tlt_not] at h4
          rw [tlt_not]; omega
        · rw [if_neg e3]; exact h4
  · rw [swapL_len] at hi
    rw [at', at']
    rw [if_neg (show ¬ ((j - 1) / 2 - 1) / 2 = j by omega), if_neg (show ¬ ((j - 1) / 2 - 1) / 2 = (j - 1) / 2 by omega)]
    have h5 := h2 ((j - 1) / 2) hpp hp (by omega)
    by_cases e1 : i = j
    · rw [if_pos e1]; exact h5
    · rw [if_neg e1, if_neg (by omega)]
      have h4 := h2 i h0 hi e1
      rw [hpi] at h4
      exact tlt_trans h5 h4
theorem UpInv.done {l : List Tm} {j : Nat} (h : UpInv l j) (he : j = 0 ∨ tlt (tmv l j) (tmv l ((j - 1) / 2)) = false) : HeapN l l.length := by
  intro i h0 hi
  by_cases e : i = j
  · subst e
    rcases he with he | he
    · omega
    · exact he
  · exact h.2.1 i h0 hi e
/-- The first n are a heap but for the one at i, which may go down. -/
def DownInv (l : List Tm) (i n : Nat) : Prop := n ≤ l.length ∧ (∀ k, 0 < k → k < n → (k - 1) / 2 ≠ i → tlt (tmv l k) (tmv l ((k - 1) / 2)) = false) ∧ (∀ k, 0 < k → k < n → (k - 1) / 2 = i → 0 < i → tlt (tmv l k) (tmv l ((i - 1) / 2)) = false)
theorem DownInv.start {l : List Tm} {n : Nat} (h : HeapN l l.length) (hn : l.length = n + 1) : DownInv (swapL l 0 n) 0 n := by
  have at' := swapL_at (l := l) (i := 0) (j := n) (by omega) (by omega)
  refine ⟨by rw [swapL_len]; omega, fun k h0 hk hp => ?_, fun k h0 hk hp hi => by omega⟩
  rw [at', at', if_neg (by omega), if_neg (by omega), if_neg (by omega), if_neg hp]
  exact h k h0 (by omega)
theorem DownInv.swap {l : List Tm} {i j n : Nat} (h : DownInv l i n) (hji : (j - 1) / 2 = i) (h0j : 0 < j) (hj : j < n) (hlt : tlt (tmv l j) (tmv l i) = true) (hs : ∀ s, 0 < s → s < n → (s - 1) / 2 = i → tlt (tmv l s) (tmv l j) = false) : DownInv (swapL l i j) j n := by
  obtain ⟨h1, h2, h3⟩ := h
  have at' := swapL_at (l := l) (i := i) (j := j) (by omega) (by omega)
  rw [tlt_iff] at hlt
  refine ⟨by rw [swapL_len]; exact h1, fun k h0 hk hp => ?_, fun k h0 hk hp hj0 => ?_⟩
  · rw [at', at', if_neg hp]
    by_cases e1 : (k - 1) / 2 = i
    · rw [if_pos e1]
      by_cases e2 : k = j
      · rw [if_pos e2, tlt_not]; omega
      · rw [if_neg e2, if_neg (by omega)]
        exact hs k h0 hk e1
    · rw [if_neg e1]
      have e2 : ¬ k = j := fun e => e1 (by rw [e]; exact hji)
      rw [if_neg e2]
      by_cases e3 : k = i
      · subst e3
        rw [if_pos rfl]
        exact h3 j h0j hj hji h0
      · rw [if_neg e3]
        exact h2 k h0 hk e1
  · rw [at', at', if_neg (by omega), if_neg (by omega), hji, if_neg (by omega), if_pos rfl]
    have := h2 k h0 hk (by omega)
    rw [hp] at this
    exact this
theorem DownInv.done {l : List Tm} {i n : Nat} (h : DownInv l i n) (he : ∀ k, 0 < k → k < n → (k - 1) / 2 = i → tlt (tmv l k) (tmv l i) = false) : HeapN l n := by
  intro k h0 hk
  by_cases e : (k - 1) / 2 = i
  · rw [e]; exact he k h0 hk e
  · exact h.2.1 k h0 hk e
theorem HeapN.take {l : List Tm} {n : Nat} (h : HeapN l n) (hn : n ≤ l.length) : HeapN (l.take n) (l.take n).length := by
  intro k h0 hk
  rw [List.length_take] at hk
  have old : ∀ i, i < n → tmv (l.take n) i = tmv l i := fun i hi => by
    unfold tmv; rw [List.getD_eq_getElem?_getD, List.getElem?_take, if_pos hi, List.getD_eq_getElem?_getD]
  rw [old k (by omega), old _ (by omega)]
  exact h k h0 (by omega)
theorem take_last {l : List Tm} {n : Nat} (hn : l.length = n + 1) : l = l.take n ++ [tmv l n] := by
  have h1 : l[n]? = some (tmv l n) := by rw [tmv_lt (by omega)]; exact List.getElem?_eq_getElem (by omega)
  have h2 := take_snoc h1
  rw [List.take_of_length_le (by omega)] at h2
  exact h2
theorem pop_perm {l m : List Tm} {n : Nat} (hn : l.length = n + 1) (hp : m.Perm l) (hl : tmv m n = tmv l 0) : (tmv l 0 :: m.take n).Perm l := by
  have hm : m.length = n + 1 := by rw [hp.length_eq]; exact hn
  have h1 : m.Perm (tmv m n :: m.take n) := by
    have e := take_last hm
    exact (List.Perm.of_eq e).trans (List.perm_append_singleton _ _)
  rw [← hl]
  exact h1.symm.trans hp
end Go.Proofs.YtknphikoikdcjaaGreat


/- Until a time in plain mathematics. No program. -/
namespace Go.Proofs.YtknphikoikdcjaaGreat
open Go.RowKit

theorem addT_permL {ts us : List Tm} (h : ts.Perm us) (t : Tm) : (addT ts t).Perm (addT us t) := (addT_perm ts t).trans ((h.cons t).trans (addT_perm us t).symm)
theorem addN_permL {ts us : List Tm} (h : ts.Perm us) (t : Tm) : ∀ n, (addN t n ts).Perm (addN t n us)
  | 0 => h
  | n + 1 => addT_permL (addN_permL h t n) t
theorem lackT_perm {fs : List Flw} {ms : List Int} {ts us : List Tm} (h : ts.Perm us) (k : Nat) : lackT fs ms ts k = lackT fs ms us k := by
  unfold lackT
  rw [tAt_perm h]
theorem withUp_perm {ns : List (Int × Int)} {fs : List Flw} {ms : List Int} {cl : Int} {ts us : List Tm} (h : ts.Perm us) : ∀ k, (withUp ns fs ms cl ts k).Perm (withUp ns fs ms cl us k)
  | 0 => h
  | k + 1 => by
    rw [withUp, withUp, lackT_perm h]
    split
    · exact addN_permL (withUp_perm h k) _ _
    · exact withUp_perm h k
theorem push_perm {us vs ts : List Tm} {t : Tm} {i : Nat} (h : us.Perm (vs ++ [t])) (hv : vs.Perm (addN t i ts)) : us.Perm (addN t (i + 1) ts) := by
  refine h.trans ?_
  refine List.Perm.trans ?_ (addT_perm _ t).symm
  exact List.perm_append_comm.trans (hv.cons t)
/-- All timers up to a time, one after the other. -/
def untilM (ns : List (Int × Int)) (fs : List Flw) (to : Int) : Nat → Ins → Option Ins
  | n, ⟨ms, vs, _, []⟩ => some ⟨ms, vs, to, []⟩
  | 0, ⟨ms, vs, _, t :: ts⟩ => if t.2 ≤ to then none else some ⟨ms, vs, to, t :: ts⟩
  | n + 1, ⟨ms, vs, _, t :: ts⟩ => if t.2 ≤ to then (goOnOf ns fs ms t.1 vs t.2 ts).bind (untilM ns fs to n) else some ⟨ms, vs, to, t :: ts⟩
section
variable {ns : List (Int × Int)} {fs : List Flw} {to : Int}
theorem untilM_stop (n : Nat) {ms vs : List Int} {cl : Int} {ts : List Tm} (h : ∀ t, ts.head? = some t → to < t.2) : untilM ns fs to n ⟨ms, vs, cl, ts⟩ = some ⟨ms, vs, to, ts⟩ := by
  cases ts with
  | nil => cases n <;> rfl
  | cons t ts =>
    have := h t rfl
    cases n <;> (rw [untilM]; rw [if_neg (by omega)])
theorem untilM_end {ms vs : List Int} {cl : Int} {t : Tm} {ts : List Tm} (h : t.2 ≤ to) : untilM ns fs to 0 ⟨ms, vs, cl, t :: ts⟩ = none := by
  rw [untilM, if_pos h]
theorem untilM_step {n : Nat} {ms vs : List Int} {cl : Int} {t : Tm} {ts : List Tm} {x : Ins} (h : t.2 ≤ to) (hg : goOnOf ns fs ms t.1 vs t.2 ts = some x) : untilM ns fs to (n + 1) ⟨ms, vs, cl, t :: ts⟩ = untilM ns fs to n x := by
  rw [untilM, if_pos h, hg]; rfl
theorem untilM_fail {n : Nat} {ms vs : List Int} {cl : Int} {t : Tm} {ts : List Tm} (h : t.2 ≤ to) (hg : goOnOf ns fs ms t.1 vs t.2 ts = none) : untilM ns fs to n ⟨ms, vs, cl, t :: ts⟩ = none := by
  cases n with
  | zero => exact untilM_end h
  | succ n => rw [untilM, if_pos h, hg]; rfl
end
/-- What AdvanceClock answers. -/
def advanceOf (ns : List (Int × Int)) (fs : List Flw) (ms vs : List Int) (cl : Int) (ts : List Tm) (to : Int) : Option Ins :=
  if vProc ns fs && vInst ns fs ms vs cl ts && inR to cl 9999 then untilM ns fs to 30 ⟨ms, vs, cl, ts⟩ else none
end Go.Proofs.YtknphikoikdcjaaGreat

