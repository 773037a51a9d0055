/- The law FnUsedVariablesOrder, walked: it returns true. -/
import Derived.Test.YtakpjhiodmgccaaDraw4
import Derived.Test.YtakpjhiodmgccaaCondUsedS
import Derived.Test.YtakpjhiodmgccaaCondUsedI
import Derived.Test.YtakpjhiodmgccaaLawLists
namespace Go.Proofs.Ytakpjhiodmgccaa
open Go.RowKit

theorem Rd.zero {w : World} {lo size n : Nat} {A : Option Addr} {xs : List Value} (h : Rd w lo w.heap.size size A n xs) : Rd w 0 w.heap.size size A n xs := h.wide (Nat.zero_le _) (Nat.le_refl _)

set_option maxRecDepth 100000 in
set_option maxHeartbeats 1600000 in
theorem lawUsedOrder_any (n c : Nat) (A : Option Addr) (xs : List Int) (w : World) (hr : Rd w 0 w.heap.size 1 A n (bvs xs)) (hby : Bytes xs) (hc : n ≤ c) (hc2 : c ≤ 9223372036854775807) :
    Calls Try.prog 6 #[.slice A n c] w fun e w' => e = .returned (.bool true) ∧ Below w.heap.size w w' := by
  by_cases hbig : (1048576 : Int) < n
  · go_enter Try.func6, Try.ntmps6
    go_wp2
    go_ret
    exact ⟨rfl, Below.refl _ _⟩
  go_enter Try.func6, Try.ntmps6
  go_wp2_with (fail)
  (with_reducible refine (drawUsed_any n c A xs w hr hby (by omega) hc hc2).mono ?_)
  clear hbig
  rintro e w1 ⟨A1, n1, c1, ps, rfl, hn1, _, _, hr1, hb1⟩
  have HL := Lib.hid hr1.len2
  go_wp2_with (fail)
  (with_reducible refine (usedI_any _ _ n1 c1 A1 ps w1 hr1 (Nat.le_refl _) (by omega)).mono ?_)
  rintro e w2 ⟨A2, c2, rfl, _, hr2, _, hb2⟩
  have hul := used_le ps
  go_wp2_with (fail)
  (with_reducible refine (usedS_any _ _ n1 c1 A1 ps w2 (hr1.keep hb2 (Nat.le_refl _)) hb2.size (by omega)).mono ?_)
  rintro e w3 ⟨A3, c3, rfl, _, hr3, _, hb3⟩
  go_wp2_with (fail)
  (with_reducible refine (equalInts_any _ _ _ c2 _ _ _ c3 A2 A3 (usedOf ps) (usedOf ps) w3 (hr2.keep hb3 (Nat.le_refl _)) hb3.size (by omega) hr3 (Nat.le_refl _) (by omega)).mono ?_)
  rintro e w4 ⟨rfl, hb4⟩
  rw [beq_self_eq_true]
  have hr1' := hr1.keep (up (up hb2 hb3) hb4) (Nat.le_refl _)
  have hr2' := hr2.keep (up hb3 hb4) (Nat.le_refl _)
  have hsz1 := (up (up hb2 hb3) hb4).size
  have hsz2 := (up hb3 hb4).size
  have hb04 := up (up (up hb1 hb2) hb3) hb4
  clear hb1 hb2 hb3 hb4 hr1 hr2 hr3
  go_wp2
  go_loop [5, 6] (fun sv iv => ∃ (k : Nat) (b : Bool), k ≤ n1 ∧ iv = .int .i64 k ∧ sv = .bool b ∧ Hid (anyVar ps = (b || anyVar (ps.drop k))))
     (fun _ iv => n1 - (intOf iv).toNat)
  case atStart => exact ⟨0, false, by omega, rfl, rfl, by simp [Hid]⟩
  case round =>
    obtain ⟨k, b, hk, rfl, rfl, hS⟩ := hrel
    by_cases hkn : k < n1
    · obtain ⟨bk, off, x, y, rfl, hbB, _, hg, hc0, hc1⟩ := hr1'.pair hkn
      have HS := Lib.hid (anyVar_step hg hS.out); clear hg
      cases b
      · go_wp2
        go_round
        case rel => exact ⟨k + 1, x == 1, by omega, by go_num, by simp, by have h := HS.out; rw [Hid]; simpa using h⟩
        case measure => simp [intOf]; omega
      · go_wp2
        go_round
        case rel => exact ⟨k + 1, true, by omega, by go_num, by simp, by have h := HS.out; rw [Hid]; simpa using h⟩
        case measure => simp [intOf]; omega
    · obtain rfl : k = n1 := by omega
      have HB : Hid (anyVar ps = b) := by
        rw [Hid, hS.out, List.drop_of_length_le (by rw [HL.out]; omega)]; simp [anyVar]
      clear hS
      go_wp2
      go_loopw [7] (fun iv wr => ∃ (j : Nat), j ≤ (usedOf ps).length ∧ iv = .int .i64 j ∧ Below w.heap.size w wr ∧ Below w4.heap.size w4 wr)
         (fun iv _ => (usedOf ps).length - (intOf iv).toNat)
      case atStart => exact ⟨0, by omega, rfl, hb04, Below.refl _ _⟩
      case round =>
        obtain ⟨j, hj, rfl, hbl, hb4⟩ := hrel
        have hsz4 := hb4.size
        by_cases hjn : j < (usedOf ps).length
        · obtain ⟨b2, off2, x, hA, hb2lt, _, hg, hc0⟩ := (hr2'.keep hb4 hsz2).one hjn
          subst hA
          have hx := used_mem (List.mem_of_getElem? hg)
          have hx0 : decide (x < 0) = false := decide_eq_false (by omega)
          have hx4 : decide (4 ≤ x) = false := decide_eq_false (by omega)
          rcases Nat.eq_zero_or_pos j with rfl | hjp
          · have hjn' : (0 : Int) < ((usedOf ps).length : Int) := by omega
            simp only [Nat.add_zero] at hc0
            clear hg
            go_wp2
            go_quiet (fail)
            go_wp2
            go_roundw
            case rel => exact ⟨0 + 1, by omega, by first | rfl | go_num, up_drewN hbl _, up_drewN hb4 _⟩
            case measure => (simp [intOf]) <;> omega
          · obtain ⟨i, rfl⟩ : ∃ i, j = i + 1 := ⟨j - 1, by omega⟩
            obtain ⟨b3, off3, y, hA, _, _, hg', hc0'⟩ := (hr2'.keep hb4 hsz2).one (k := i) (by omega)
            injection hA with hA; injection hA with hA1 hA2; subst hA1; subst hA2
            have hxy : decide (x ≤ y) = false := decide_eq_false (by have := used_up hg' hg; omega)
            have hi1 : (i : Int) + 1 < ((usedOf ps).length : Int) := by omega
            have hi2 : (i : Int) < ((usedOf ps).length : Int) := by omega
            have hi3 : decide (0 < (i : Int) + 1) = true := decide_eq_true (by omega)
            have hi4 : (0 : Int) ≤ (i : Int) := by omega
            clear hg hg'
            go_wp2
            go_quiet (fail)
            go_wp2
            go_roundw
            case rel => exact ⟨i + 1 + 1, by omega, by go_num, up_drewN hbl _, up_drewN hb4 _⟩
            case measure => simp [intOf]; omega
        · obtain rfl : j = (usedOf ps).length := by omega
          have hr1'' := hr1'.keep hb4 hsz1
          by_cases hV : vCond ps = true
          · have hU := used_some hV
            rw [HB.out] at hU
            by_cases hpos : 0 < (usedOf ps).length
            · have hU' : b = true := by rw [hU]; simpa using hpos
              subst hU'
              have hp' : decide ((0 : Int) < ((usedOf ps).length : Int)) = true := decide_eq_true (by omega)
              clear hU
              go_wp2_with (fail)
              (with_reducible refine (ValidConditionI_any _ _ _ c1 A1 ps _ hr1'' (Nat.le_trans hsz1 hsz4) (by omega)).mono ?_)
              rintro e w6 ⟨rfl, hb6⟩
              rw [hV]
              go_wp2
              go_ret
              exact ⟨rfl, up hbl hb6⟩
            · have hU' : b = false := by rw [hU]; simpa using hpos
              subst hU'
              have hp' : decide ((0 : Int) < ((usedOf ps).length : Int)) = false := decide_eq_false (by omega)
              clear hU
              go_wp2_with (fail)
              (with_reducible refine (ValidConditionI_any _ _ _ c1 A1 ps _ hr1'' (Nat.le_trans hsz1 hsz4) (by omega)).mono ?_)
              rintro e w6 ⟨rfl, hb6⟩
              rw [hV]
              go_wp2
              go_ret
              exact ⟨rfl, up hbl hb6⟩
          · have hV' : vCond ps = false := by simpa using hV
            go_wp2_with (fail)
            (with_reducible refine (ValidConditionI_any _ _ _ c1 A1 ps _ hr1'' (Nat.le_trans hsz1 hsz4) (by omega)).mono ?_)
            rintro e w6 ⟨rfl, hb6⟩
            rw [hV']
            go_wp2
            go_ret
            exact ⟨rfl, up hbl hb6⟩
end Go.Proofs.Ytakpjhiodmgccaa
