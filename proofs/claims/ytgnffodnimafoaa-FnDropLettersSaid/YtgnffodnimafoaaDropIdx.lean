/- The letters that are old: the predicate, and slices.IndexFunc with it. -/
import Derived.Test.YtgnffodnimafoaaDropS
set_option linter.unusedSimpArgs false
set_option linter.unusedVariables false
namespace Go.Proofs.Ytgnffodnimafoaa
open Go.RowKit

/-- How many letters stand ahead of the first old one. -/
def firstOld (ls : List Tri) (z : Int) : Nat := (ls.takeWhile fun l => decide (z ≤ l.2.2)).length
theorem firstOld_le (ls : List Tri) (z : Int) : firstOld ls z ≤ ls.length := by
  unfold firstOld
  induction ls with
  | nil => simp
  | cons l ls ih => rw [List.takeWhile_cons]; split <;> simp <;> omega
theorem firstOld_at {ls : List Tri} {z : Int} {k : Nat} (hall : ∀ (j : Nat) (t : Tri), j < k → ls[j]? = some t → z ≤ t.2.2) {t : Tri} (hg : ls[k]? = some t) (ht : ¬ z ≤ t.2.2) : firstOld ls z = k := by
  induction ls generalizing k with
  | nil => simp at hg
  | cons l ls ih =>
    cases k with
    | zero =>
      obtain rfl : l = t := by simpa using hg
      simp [firstOld, List.takeWhile_cons, ht]
    | succ k =>
      have h0 : z ≤ l.2.2 := hall 0 l (by omega) (by simp)
      have := ih (k := k) (fun j t hj h => hall (j + 1) t (by omega) (by simpa using h)) (by simpa using hg)
      simp [firstOld, List.takeWhile_cons, h0] at this ⊢
      exact this
theorem firstOld_none {ls : List Tri} {z : Int} (hall : ∀ (j : Nat) (t : Tri), ls[j]? = some t → z ≤ t.2.2) : firstOld ls z = ls.length := by
  induction ls with
  | nil => rfl
  | cons l ls ih =>
    have h0 : z ≤ l.2.2 := hall 0 l (by simp)
    have := ih fun j t h => hall (j + 1) t (by simpa using h)
    simp [firstOld, List.takeWhile_cons, h0] at this ⊢
    exact this
def idxOldOf (ls : List Tri) (z : Int) : Int := if firstOld ls z = ls.length then -1 else (firstOld ls z : Int)
set_option maxHeartbeats 400000 in
theorem isOld_any (x y u z : Int) (p : Nat) (w : World) (hp : w.cell? ⟨p, 0, none⟩ = some (.int .i64 z)) (hlt : p < w.heap.size) :
    Calls Try.prog 32 #[.agg #[.int .i64 x, .int .i64 y, .int .i64 u], .pointer (some ⟨p, 0, none⟩)] w fun e w' => e = .returned (.bool (decide (u < z))) ∧ Below w.heap.size w w' := by
  have hb := up_alloc (Below.refl _ w) (.cells #[.int .i64 x, .int .i64 y, .int .i64 u] 33)
  have hk : (w.alloc (.cells #[.int .i64 x, .int .i64 y, .int .i64 u] 33)).cell? ⟨p, 0, none⟩ = some (.int .i64 z) := (hb.cell (p := ⟨p, 0, none⟩) hlt).trans hp
  go_enter Try.func32, Try.ntmps32
  go_wp2
  go_ret
  exact ⟨rfl, hb⟩
theorem call_isOld (args : Array Value) (w : World) : (callFunc 32 args).run Try.prog w = .ok (.enter 32 args) w := by kernel_rfl
set_option maxRecDepth 100000 in
set_option maxHeartbeats 800000 in
theorem indexOld_any (lo hi n c : Nat) (A : Option Addr) (fs : List Tri) (z : Int) (p : Nat) (w : World) (hr : Rd w lo hi 3 A n (tvs fs)) (hB : hi ≤ w.heap.size) (hn : n ≤ 1048576) (hp : w.cell? ⟨p, 0, none⟩ = some (.int .i64 z)) (hlt : p < w.heap.size) :
    Calls Try.prog 50 #[.slice A n c, .func (.func 32) #[] #[.pointer (some ⟨p, 0, none⟩)]] w fun e w' => e = .returned (.int .i64 (idxOldOf fs z)) ∧ Below w.heap.size w w' := by
  have HL := Lib.hid hr.len3
  have eg := call_isOld
  go_enter Try.func50, Try.ntmps50
  go_wp2
  go_loopw [8] (fun iv wr => ∃ (k : Nat), k ≤ n ∧ iv = .int .i64 k ∧ Hid (∀ j t, j < k → fs[j]? = some t → z ≤ t.2.2) ∧ Below w.heap.size w wr)
     (fun iv _ => n - (intOf iv).toNat)
  case atStart => exact ⟨0, by omega, rfl, fun j t hj => absurd hj (by omega), Below.refl _ _⟩
  case round =>
    obtain ⟨k, hk, rfl, hA, hb⟩ := hrel
    by_cases hkn : k < n
    · obtain ⟨b, off, x, y, u, rfl, hbB, _, hg, hc0, hc1, hc2⟩ := (hr.keep hb hB).trip hkn
      have hk1 : (k : Int) < (n : Int) := by omega
      have hk0 : (0 : Int) ≤ (k : Int) := by omega
      have HG := Lib.hid hg
      have HB := Lib.hid hb
      have HC := Lib.hid (isOld_any x y u z p wr ((hb.cell (p := ⟨p, 0, none⟩) hlt).trans hp) (Nat.lt_of_lt_of_le hlt hb.size))
      clear hg hb
      go_wp2_with (fail)
      (with_reducible refine HC.out.mono ?_)
      clear HC
      rintro e w1 ⟨rfl, hb1⟩
      have HB1 := Lib.hid (up HB.out hb1)
      clear hb1
      by_cases hu : u < z
      · have HX := Lib.hid (show idxOldOf fs z = (k : Int) by
          have h := firstOld_at hA.out HG.out (by simpa using hu)
          rw [idxOldOf, h, if_neg (by rw [HL.out]; omega)])
        have hd : decide (u < z) = true := by simpa using hu
        rw [hd]
        clear hu hd
        go_wp2
        go_ret
        exact ⟨by rw [HX.out]; rfl, HB1.out⟩
      · have hd : decide (u < z) = false := by simpa using hu
        have HA := Lib.hid (show ∀ j t, j < k + 1 → fs[j]? = some t → z ≤ t.2.2 from fun j t hj h => by
          rcases Nat.lt_succ_iff_lt_or_eq.1 hj with h1 | rfl
          · exact hA.out j t h1 h
          · rw [HG.out] at h
            injection h with h
            subst h
            simpa using hu)
        rw [hd]
        clear hu hd
        go_wp2
        go_roundw
        case rel => exact ⟨k + 1, by omega, by go_num, HA, HB1.out⟩
        case measure => simp [intOf]; omega
    · obtain rfl : k = n := by omega
      have HX := Lib.hid (show idxOldOf fs z = -1 by
        rw [idxOldOf, if_pos (firstOld_none fun j t h => hA.out j t (by have := (List.getElem?_eq_some_iff.1 h).1; rw [HL.out] at this; exact this) h)])
      have HB := Lib.hid hb
      clear hb
      go_wp2
      go_ret
      exact ⟨by rw [HX.out]; rfl, HB.out⟩
end Go.Proofs.Ytgnffodnimafoaa
