/- A node goes on, in plain mathematics. No program. -/
import Derived.Test.YtknphikoikdcjaaTokCountA
import Derived.Test.YtknphikoikdcjaaBase
set_option linter.unusedSimpArgs false
set_option linter.unusedVariables false
namespace Go.Proofs.Ytknphikoikdcjaa
open Go.RowKit

/-- d more on each of some flows. -/
def bump (d : Int) (ms : List Int) : List Int → List Int
  | [] => ms
  | q :: is => bump d (ms.set q.toNat (ms.getD q.toNat 0 + d)) is
theorem bump_snoc (d : Int) : ∀ (is : List Int) (ms : List Int) (q : Int), bump d ms (is ++ [q]) = (bump d ms is).set q.toNat ((bump d ms is).getD q.toNat 0 + d)
  | [], _, _ => rfl
  | a :: is, ms, q => by rw [List.cons_append, bump, bump, bump_snoc d is]
theorem bump_take {d : Int} {is ms : List Int} {k : Nat} {q : Int} (h : is[k]? = some q) : bump d ms (is.take (k + 1)) = (bump d ms (is.take k)).set q.toNat ((bump d ms (is.take k)).getD q.toNat 0 + d) := by
  rw [take_snoc h, bump_snoc]
theorem bump_len (d : Int) : ∀ (is ms : List Int), (bump d ms is).length = ms.length
  | [], _ => rfl
  | q :: is, ms => by rw [bump, bump_len d is]; simp
theorem mem_getD {ms : List Int} {k : Nat} (h : k < ms.length) : ms.getD k 0 ∈ ms := by
  rw [List.getD_eq_getElem?_getD, List.getElem?_eq_getElem h]; exact List.getElem_mem h
theorem bump_in {d lo hi : Int} (hd : -1 ≤ d) (hd1 : d ≤ 1) : ∀ (is ms : List Int), lo ≤ 0 → 0 ≤ hi → (∀ z ∈ ms, lo ≤ z ∧ z ≤ hi) → ∀ z ∈ bump d ms is, lo - is.length ≤ z ∧ z ≤ hi + is.length
  | [], ms, _, _, h => by intro z hz; have := h z hz; simp; omega
  | q :: is, ms, hl, hh, h => by
    intro z hz
    rw [bump] at hz
    have h1 : ∀ z ∈ ms.set q.toNat (ms.getD q.toNat 0 + d), lo - 1 ≤ z ∧ z ≤ hi + 1 := by
      intro y hy
      rcases List.mem_or_eq_of_mem_set hy with h2 | rfl
      · have := h y h2; omega
      · by_cases hq : q.toNat < ms.length
        · have := h _ (mem_getD hq); omega
        · have e : ms.getD q.toNat 0 = 0 := by rw [List.getD_eq_getElem?_getD, List.getElem?_eq_none (by omega)]; rfl
          rw [e]; omega
    have h2 := bump_in hd hd1 is _ (by omega) (by omega) h1 z hz
    simp only [List.length_cons]
    omega
/-- A flow that none of them is keeps its number. -/
theorem bump_other {d : Int} : ∀ (is ms : List Int) (k : Nat), (∀ q ∈ is, q.toNat ≠ k) → (bump d ms is).getD k 0 = ms.getD k 0
  | [], _, _, _ => rfl
  | q :: is, ms, k, h => by
    rw [bump, bump_other is _ k (fun z hz => h z (by simp [hz]))]
    rw [List.getD_eq_getElem?_getD, List.getElem?_set_ne (h q (by simp)), ← List.getD_eq_getElem?_getD]
theorem set_nonneg {ms : List Int} {k : Nat} {v : Int} (h : ∀ z ∈ ms, 0 ≤ z) (hv : 0 ≤ v) : ∀ z ∈ ms.set k v, 0 ≤ z := by
  intro z hz
  rcases List.mem_or_eq_of_mem_set hz with h2 | rfl
  · exact h z h2
  · exact hv
theorem bump_down_nonneg : ∀ (is ms : List Int), (∀ z ∈ ms, 0 ≤ z) → (∀ q ∈ is, 0 < ms.getD q.toNat 0) → (is.map Int.toNat).Nodup → ∀ z ∈ bump (-1) ms is, 0 ≤ z
  | [], ms, h, _, _ => h
  | q :: is, ms, h, hp, hn => by
    rw [bump]
    rw [List.map_cons, List.nodup_cons] at hn
    refine bump_down_nonneg is _ (set_nonneg h (by have := hp q (by simp); omega)) (fun a ha => ?_) hn.2
    have hne : q.toNat ≠ a.toNat := fun e => hn.1 (by rw [e]; exact List.mem_map_of_mem ha)
    rw [List.getD_eq_getElem?_getD, List.getElem?_set_ne hne, ← List.getD_eq_getElem?_getD]
    exact hp a (by simp [ha])
theorem bump_up_nonneg : ∀ (is ms : List Int), (∀ z ∈ ms, 0 ≤ z) → ∀ z ∈ bump 1 ms is, 0 ≤ z
  | [], ms, h => h
  | q :: is, ms, h => by
    rw [bump]
    refine bump_up_nonneg is _ (set_nonneg h ?_)
    by_cases hq : q.toNat < ms.length
    · have := h _ (mem_getD hq); omega
    · have e : ms.getD q.toNat 0 = 0 := by rw [List.getD_eq_getElem?_getD, List.getElem?_eq_none (by omega)]; rfl
      rw [e]; omega
theorem having_sub (ms ids : List Int) : (havingOf ms ids).Sublist ids := List.filter_sublist
theorem takes_sub (x : Int) (ms ids : List Int) : (takesOf x ms ids).Sublist (havingOf ms ids) := by
  unfold takesOf
  split
  · split
    · exact List.nil_sublist _
    · exact List.Sublist.refl _
  · exact List.take_sublist _ _
theorem takes_le (x : Int) (ms ids : List Int) : (takesOf x ms ids).length ≤ ids.length := Nat.le_trans (takes_sub x ms ids).length_le (having_le ms ids)
/-- What the reference takes: of a join all that there are, of others the first. -/
def takenOf (x : Int) (ms ids : List Int) : List Int := if x = 8 then havingOf ms ids else (havingOf ms ids).take 1
theorem taken_takes {x : Int} {ms ids : List Int} (h : readyB x ms ids = true) : takenOf x ms ids = takesOf x ms ids := by
  unfold takenOf takesOf
  by_cases hx : x = 8
  · rw [if_pos hx, if_pos hx, if_neg]
    unfold readyB at h
    rw [if_pos hx, Bool.and_eq_true] at h
    rw [having_all.2 h.2]; omega
  · rw [if_neg hx, if_neg hx]
/-- Where a node of the kind puts tokens. -/
def putsOf (x : Int) (fs : List Flw) (vs : List Int) (node : Int) : List Int := if x = 5 then [chooseR fs vs (flOf fs true node) (-1)] else flOf fs true node
/-- The tokens behind a node of the kind. -/
def behindOf (x : Int) (fs : List Flw) (ms vs : List Int) (node : Int) : List Int := bump 1 (bump (-1) ms (takesOf x ms (flOf fs false node))) (putsOf x fs vs node)
/-- The node can go on. -/
def canFire (x : Int) (fs : List Flw) (ms vs : List Int) (node : Int) : Bool :=
  readyB x ms (flOf fs false node) && !(x == 5 && decide (chooseR fs vs (flOf fs true node) (-1) < 0)) && (behindOf x fs ms vs node).all (fun m => inR m 0 3)
/-- What stands in the map, when one number is set. -/
theorem markAt_set {ms : List Int} {i : Nat} {v : Int} (h : i < ms.length) (z : Int) : (if z = (i : Int) then some (Value.int .i64 v) else markAt ms z) = markAt (ms.set i v) z := by
  unfold markAt
  by_cases hz : 0 ≤ z
  · obtain ⟨j, rfl⟩ := Int.eq_ofNat_of_zero_le hz
    rw [if_pos hz, if_pos hz, Int.toNat_natCast]
    by_cases hj : j = i
    · subst hj
      rw [if_pos rfl, List.getElem?_set_self h]; rfl
    · rw [if_neg (by omega), List.getElem?_set_ne (fun e => hj e.symm)]
  · rw [if_neg hz, if_neg hz, if_neg (by omega)]
end Go.Proofs.Ytknphikoikdcjaa
