/- Comparing slices of structs. (Written by gen/eqlist.py.) -/
import Derived.Test.YtfpiejcfhdnjiaaTripMem
import Derived.Test.YtfpiejcfhdnjiaaQuadMem
import Derived.BigQuiet
set_option linter.unusedSimpArgs false
set_option linter.unusedVariables false
namespace Go.Proofs.Ytfpiejcfhdnjiaa
open Go.RowKit

set_option maxHeartbeats 1600000 in
theorem equalLog_any (lo hi n c lo' hi' n' c' : Nat) (A A' : Option Addr) (xs ys : List (Int × Int)) (w : World) (hr : Rd w lo hi 2 A n (pvs xs)) (hB : hi ≤ w.heap.size) (hn : n ≤ 1048576) (hr' : Rd w lo' hi' 2 A' n' (pvs ys)) (hB' : hi' ≤ w.heap.size) (hn' : n' ≤ 1048576) :
    Calls Try.prog 52 #[.slice A n c, .slice A' n' c'] w fun e w' => e = .returned (.bool (xs == ys)) ∧ Below w.heap.size w w' := by
  have HL := Lib.hid hr.len2
  have HL' := Lib.hid hr'.len2
  by_cases hnn : n = n'
  · subst hnn
    go_enter Try.func52, Try.ntmps52
    go_wp2
    go_loopw [5] (fun iv wr => ∃ (k : Nat), k ≤ n ∧ iv = .int .i64 k ∧ Hid ((xs == ys) = (xs.drop k == ys.drop k)) ∧ Below w.heap.size w wr)
       (fun iv _ => n - (intOf iv).toNat)
    case atStart => exact ⟨0, by omega, rfl, rfl, Below.refl _ _⟩
    case round =>
      obtain ⟨k, hk, rfl, hS, hbl⟩ := hrel
      by_cases hlt : k < n
      · have hsz := hbl.size
        obtain ⟨b, off, x, y, rfl, hbB, _, hg, hc0, hc1⟩ := (hr.keep hbl hB).pair hlt
        obtain ⟨b', off', x', y', rfl, hbB', _, hg', hc0', hc1'⟩ := (hr'.keep hbl hB').pair hlt
        have Hg := Lib.hid hg; clear hg
        have Hg' := Lib.hid hg'; clear hg'
        have hkn : (k : Int) < (n : Int) := by omega
        have hk0 : (0 : Int) ≤ (k : Int) := by omega
        by_cases he0 : x = x'
        case neg =>
          have He := Lib.hid he0
          go_wp2
          go_quiet (fail)
          go_wp2
          go_ret
          refine ⟨ret_bool ?_, up_drewN hbl _⟩
          rw [hS.out, drop_cons2 Hg.out, drop_cons2 Hg'.out]
          symm
          rw [beq_eq_false_iff_ne]
          intro h
          simp only [List.cons.injEq, Prod.mk.injEq] at h
          exact He.out h.1.1
        subst he0
        by_cases he1 : y = y'
        case neg =>
          have He := Lib.hid he1
          go_wp2
          go_quiet (fail)
          go_wp2
          go_ret
          refine ⟨ret_bool ?_, up_drewN hbl _⟩
          rw [hS.out, drop_cons2 Hg.out, drop_cons2 Hg'.out]
          symm
          rw [beq_eq_false_iff_ne]
          intro h
          simp only [List.cons.injEq, Prod.mk.injEq] at h
          exact He.out h.1.2
        subst he1
        go_wp2
        go_quiet (fail)
        go_wp2
        go_roundw
        case rel =>
          refine ⟨k + 1, by omega, by go_num, ?_, up_drewN hbl _⟩
          rw [Hid, hS.out, drop_cons2 Hg.out, drop_cons2 Hg'.out]
          simp
        case measure => simp [intOf]; omega
      · obtain rfl : k = n := by omega
        have HX := Lib.hid (show (xs == ys) = true by rw [hS.out, List.drop_of_length_le (by rw [HL.out]; omega), List.drop_of_length_le (by rw [HL'.out]; omega)]; rfl)
        go_wp2
        go_ret
        exact ⟨ret_bool HX.out.symm, hbl⟩
  · have HX := Lib.hid (show (xs == ys) = false by rw [beq_eq_false_iff_ne]; intro h; subst h; exact hnn (HL.out.symm.trans HL'.out))
    have hn2 : ((n : Int) != (n' : Int)) = true := by rw [bne_iff_ne]; omega
    have hn3 : ((n : Int) == (n' : Int)) = false := by rw [beq_eq_false_iff_ne]; omega
    go_enter Try.func52, Try.ntmps52
    go_wp2
    go_ret
    exact ⟨ret_bool HX.out.symm, Below.refl _ _⟩
end Go.Proofs.Ytfpiejcfhdnjiaa
