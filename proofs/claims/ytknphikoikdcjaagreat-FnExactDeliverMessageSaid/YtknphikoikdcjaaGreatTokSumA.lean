/- Merged: TokSumI, TokMostI. -/
import Derived.Test.YtknphikoikdcjaaGreatTokCountA
import Derived.Maps.RangeWalk
import Derived.Lib.MinMax
/- impl.sum, impl.TokenCount: a sum over a map, in whatever order. -/
set_option linter.unusedSimpArgs false
set_option linter.unusedVariables false
namespace Go.Proofs.YtknphikoikdcjaaGreat
open Go.RowKit Go.Maps

/-- The sum of those numbers, from place k on, whose key is no longer to come. -/
def dsum (left : Lit → Bool) : Nat → List Int → Int
  | _, [] => 0
  | k, m :: ms => (if left (.int .i64 (k : Int)) then 0 else m) + dsum left (k + 1) ms
theorem dsum_start {left : Lit → Bool} : ∀ (ms : List Int) (k : Nat), (∀ i, i < ms.length → left (.int .i64 ((k + i : Nat) : Int)) = true ∨ ms.getD i 0 = 0) → dsum left k ms = 0
  | [], _, _ => rfl
  | m :: ms, k, h => by
    have h0 := h 0 (by simp)
    rw [Nat.add_zero] at h0
    rw [dsum, dsum_start ms (k + 1) (fun i hi => by have := h (i + 1) (by simpa using hi); rw [show k + (i + 1) = k + 1 + i by omega] at this; simpa using this)]
    rcases h0 with h0 | h0
    · rw [h0]; rfl
    · have h0 : m = 0 := by simpa using h0
      subst h0
      split <;> rfl
theorem dsum_end {left : Lit → Bool} (h : ∀ kl, left kl = false) : ∀ (ms : List Int) (k : Nat), dsum left k ms = ms.sum
  | [], _ => rfl
  | m :: ms, k => by rw [dsum, h, dsum_end h ms (k + 1), List.sum_cons]; rfl
theorem same_int (x y : Int) : (Lit.int .i64 x).sameKey (.int .i64 y) = decide (x = y) := by
  by_cases e : x = y
  · subst e
    rw [decide_eq_true rfl]; simp [Lit.sameKey]
  · rw [decide_eq_false e]; simp [Lit.sameKey, e]
theorem dsum_other {left : Lit → Bool} (x : Int) : ∀ (ms : List Int) (k : Nat), x < (k : Int) → dsum (fun z => left z && !z.sameKey (.int .i64 x)) k ms = dsum left k ms
  | [], _, _ => rfl
  | m :: ms, k, h => by
    rw [dsum, dsum, dsum_other x ms (k + 1) (by omega)]
    simp only [same_int]
    rw [decide_eq_false (by omega : ¬ (k : Int) = x)]
    simp
theorem dsum_step {left : Lit → Bool} : ∀ (ms : List Int) (k i : Nat) (c : Int), ms[i]? = some c → left (.int .i64 ((k + i : Nat) : Int)) = true → dsum (fun z => left z && !z.sameKey (.int .i64 ((k + i : Nat) : Int))) k ms = dsum left k ms + c
  | [], _, _, _, h, _ => by simp at h
  | m :: ms, k, 0, c, h, hl => by
    simp at h
    subst h
    rw [Nat.add_zero] at *
    rw [dsum, dsum, dsum_other _ ms (k + 1) (by omega), hl]
    simp only [same_int]
    simp
    omega
  | m :: ms, k, i + 1, c, h, hl => by
    have h1 := dsum_step ms (k + 1) i c (by simpa using h) (by rwa [show k + 1 + i = k + (i + 1) by omega])
    rw [show k + 1 + i = k + (i + 1) by omega] at h1
    rw [dsum, dsum, h1]
    simp only [same_int]
    rw [decide_eq_false (by omega : ¬ (k : Int) = ((k + (i + 1) : Nat) : Int))]
    simp
    omega
theorem dsum_bd {left : Lit → Bool} : ∀ (ms : List Int) (k : Nat), (∀ z ∈ ms, 0 ≤ z ∧ z ≤ 3) → 0 ≤ dsum left k ms ∧ dsum left k ms ≤ 3 * (ms.length : Int)
  | [], _, _ => by simp [dsum]
  | m :: ms, k, h => by
    have h1 := dsum_bd (left := left) ms (k + 1) (fun z hz => h z (by simp [hz]))
    have h2 := h m (by simp)
    rw [dsum]
    simp only [List.length_cons]
    split <;> omega
theorem markAt_some {ms : List Int} {x : Int} {v : Value} (h : markAt ms x = some v) : ∃ (i : Nat) (c : Int), x = (i : Int) ∧ ms[i]? = some c ∧ v = .int .i64 c := by
  unfold markAt at h
  split at h
  · rename_i hx
    obtain ⟨i, rfl⟩ := Int.eq_ofNat_of_zero_le hx
    rw [Int.toNat_natCast] at h
    cases hc : ms[i]? with
    | none => rw [hc] at h; simp at h
    | some c => rw [hc] at h; simp at h; exact ⟨i, c, rfl, hc, h.symm⟩
  · cases h
theorem markAt_mem {ms : List Int} {i : Nat} (h : i < ms.length) : markAt ms (i : Int) = some (.int .i64 ms[i]) := by
  unfold markAt
  rw [if_pos (by omega), Int.toNat_natCast, List.getElem?_eq_getElem h]
  rfl
/-- What TokenCount answers. -/
def countOf (ns : List (Int × Int)) (fs : List Flw) (ms : List Int) : Int := if vProc ns fs && vMarks fs ms then ms.sum else -1

end Go.Proofs.YtknphikoikdcjaaGreat


/- impl.most: the greatest number of a map, in whatever order. -/
namespace Go.Proofs.YtknphikoikdcjaaGreat
open Go.RowKit Go.Maps

/-- The greatest of nought and those numbers, from place k on, whose key is no longer to come. -/
def dmax (left : Lit → Bool) : Nat → List Int → Int
  | _, [] => 0
  | k, m :: ms => max (if left (.int .i64 (k : Int)) then 0 else m) (dmax left (k + 1) ms)
/-- The greatest of nought and some numbers. -/
def maxOf : List Int → Int
  | [] => 0
  | m :: ms => max m (maxOf ms)
theorem dmax_pos {left : Lit → Bool} : ∀ (ms : List Int) (k : Nat), 0 ≤ dmax left k ms
  | [], _ => Int.le_refl 0
  | m :: ms, k => by have := dmax_pos (left := left) ms (k + 1); rw [dmax]; omega
theorem dmax_start {left : Lit → Bool} : ∀ (ms : List Int) (k : Nat), (∀ i, i < ms.length → left (.int .i64 ((k + i : Nat) : Int)) = true ∨ ms.getD i 0 = 0) → dmax left k ms = 0
  | [], _, _ => rfl
  | m :: ms, k, h => by
    have h0 := h 0 (by simp)
    rw [Nat.add_zero] at h0
    rw [dmax, dmax_start ms (k + 1) (fun i hi => by have := h (i + 1) (by simpa using hi); rw [show k + (i + 1) = k + 1 + i by omega] at this; simpa using this)]
    rcases h0 with h0 | h0
    · rw [h0]; rfl
    · have h0 : m = 0 := by simpa using h0
      subst h0
      split <;> rfl
theorem dmax_end {left : Lit → Bool} (h : ∀ kl, left kl = false) : ∀ (ms : List Int) (k : Nat), dmax left k ms = maxOf ms
  | [], _ => rfl
  | m :: ms, k => by rw [dmax, h, dmax_end h ms (k + 1), maxOf]; rfl
theorem dmax_other {left : Lit → Bool} (x : Int) : ∀ (ms : List Int) (k : Nat), x < (k : Int) → dmax (fun z => left z && !z.sameKey (.int .i64 x)) k ms = dmax left k ms
  | [], _, _ => rfl
  | m :: ms, k, h => by
    rw [dmax, dmax, dmax_other x ms (k + 1) (by omega)]
    simp only [same_int]
    rw [decide_eq_false (by omega : ¬ (k : Int) = x)]
    simp
theorem dmax_step {left : Lit → Bool} : ∀ (ms : List Int) (k i : Nat) (c : Int), ms[i]? = some c → left (.int .i64 ((k + i : Nat) : Int)) = true → dmax (fun z => left z && !z.sameKey (.int .i64 ((k + i : Nat) : Int))) k ms = max (dmax left k ms) c
  | [], _, _, _, h, _ => by simp at h
  | m :: ms, k, 0, c, h, hl => by
    simp at h
    subst h
    rw [Nat.add_zero] at *
    have hp := dmax_pos (left := left) ms (k + 1)
    rw [dmax, dmax, dmax_other _ ms (k + 1) (by omega), hl]
    simp only [same_int]
    simp
    omega
  | m :: ms, k, i + 1, c, h, hl => by
    have h1 := dmax_step ms (k + 1) i c (by simpa using h) (by rwa [show k + 1 + i = k + (i + 1) by omega])
    rw [show k + 1 + i = k + (i + 1) by omega] at h1
    rw [dmax, dmax, h1]
    simp only [same_int]
    rw [decide_eq_false (by omega : ¬ (k : Int) = ((k + (i + 1) : Nat) : Int))]
    simp <;> omega
theorem maxOf_le {b : Int} (hb : 0 ≤ b) : ∀ {ms : List Int}, maxOf ms ≤ b ↔ ∀ z ∈ ms, z ≤ b
  | [] => by simp [maxOf, hb]
  | m :: ms => by
    rw [maxOf, Int.max_le, maxOf_le hb]; simp

set_option maxRecDepth 100000 in
set_option maxHeartbeats 800000 in
theorem mostI_any (mb m : Nat) (ms : List Int) (w : World) (hm : MkM Tryz.prog 3 w mb m (markAt ms)) :
    Calls Tryz.prog 129 #[.map (some mb)] w fun e w' => e = .returned (.int .i64 (maxOf ms)) ∧ Below w.heap.size w w' := by
  obtain ⟨g, ⟨D, hown, hD⟩, hG⟩ := hm
  have hbl := hown.lt
  have hst : ∀ i, i < ms.length → Maps.has D (.int .i64 (i : Int)) = true ∨ ms.getD i 0 = 0 := by
    intro i hi
    cases hh : Maps.has D (.int .i64 (i : Int)) with
    | true => exact .inl rfl
    | false =>
      have h1 := atKey_of_not_has hh .nil
      rw [hD] at h1
      rcases hG (i : Int) with e | ⟨_, e⟩
      · rw [e, markAt_mem hi] at h1
        simp [asHeld] at h1
      · rw [markAt_mem hi] at e
        right
        rw [List.getD_eq_getElem?_getD, List.getElem?_eq_getElem hi]
        simpa using e
  go_enter Tryz.func129, Tryz.ntmps129
  go_wp2_with (first
    | (at_range; refine wpList_range_own _ rfl _ 111 rfl 3 3 keyedInt Tryz.underlying111 heldR mb m D rfl hown ?_; intro w0 hrg0 hg0 hs0)
    | go_in)
  go_frame
  have hb0 : Below w.heap.size w w0 := (Below.refl _ _).grown hg0 (Nat.le_refl _) (by simp)
  go_loopw [3] (fun sv wr => ∃ (left : Lit → Bool) (cnt : Nat), sv = .int .i64 (dmax left 0 ms) ∧ wr.ranges Tryz.prog 3 heldR mb w.heap.size m D left cnt ∧ Below w.heap.size w wr ∧ w.heap.size < wr.heap.size)
    (fun _ wr => wr.rangeLeft mb w.heap.size)
  case atStart => exact ⟨_, _, by rw [dmax_start ms 0 (fun i hi => by rw [Nat.zero_add]; exact hst i hi)], hrg0, hb0, by omega⟩
  case round =>
    clear hrg0 hg0 hs0 hb0
    obtain ⟨left, cnt, rfl, hrg, hb, hsz⟩ := hrel
    have HB := Lib.hid hb
    go_wp2_with (first
      | (at_next; refine wpList_next_ranges _ rfl _ rfl 3 keyedInt heldR (Value.int .i64) id (fun key kl hkey => by obtain ⟨x, rfl, _⟩ := Maps.keyOf_int_inv Tryz.underlying3 hkey; exact ⟨x, rfl⟩) (fun v y hv => ⟨v, rfl⟩) mb w.heap.size m D left cnt rfl hrg ?_ ?_)
      | go_in)
    · intro hc0 hl0
      rw [dmax_end hl0]
      go_wp2
      go_ret
      exact ⟨rfl, HB.out⟩
    · intro x c kl y ps w1 cnt1 hkey hlx hR hat hrg1 hlt hg1 hs1 hen
      obtain ⟨x', ex, rfl, hwx⟩ := Maps.keyOf_int_inv Tryz.underlying3 hkey
      cases ex
      have hc : y = .held c := by simp [heldR] at hR; rw [← hR.1]
      have h1 := hat .nil
      rw [hD, hc] at h1
      obtain ⟨i, q, rfl, hi, rfl⟩ := markAt_some (marks_hit hG (asHeld_inj (a := g x) (b := some c) h1))
      have hst1 := dmax_step (left := left) ms 0 i q hi (by rw [Nat.zero_add]; exact hlx)
      rw [Nat.zero_add] at hst1
      have HH := Lib.hid hst1
      have HR1 := Lib.hid hrg1
      have HR0 := Lib.hid hrg
      have HB1 := Lib.hid (HB.out.grown hg1 HB.out.size (fun j hj => by cases hj; exact Nat.le_refl _))
      clear hst1 hR hc h1 hkey hlx hat hi hrg1 hrg hwx hb
      generalize dmax left 0 ms = S at *
      go_wp2
      go_roundw
      case rel => exact ⟨_, cnt1, by rw [HH.out], HR1.out, HB1.out, by omega⟩
      case measure => rw [HR1.out.left_eq, HR0.out.left_eq]; exact hlt
end Go.Proofs.YtknphikoikdcjaaGreat

