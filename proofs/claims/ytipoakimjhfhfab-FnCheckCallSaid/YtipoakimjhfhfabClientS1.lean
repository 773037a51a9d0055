/- spec.validClients, spec.clientAt. (Written by gen/workspec.py.) -/
import Derived.Test.YtipoakimjhfhfabWorkMath
import Derived.Test.YtipoakimjhfhfabCondS
import Derived.BigQuiet
import Derived.Deep.RegionHeld3
set_option linter.unusedSimpArgs false
set_option linter.unusedVariables false
namespace Go.Proofs.Ytipoakimjhfhfab
open Go.RowKit

set_option maxRecDepth 100000 in
set_option maxHeartbeats 1600000 in
theorem validClientsS_any (lo hi n c : Nat) (A : Option Addr) (ps : List Qd) (w : World) (hr : Rd w lo hi 4 A n (qvs ps)) (hB : hi ≤ w.heap.size) (hn : n ≤ 1048576) :
    Calls Try.prog 60 #[.slice A n c] w fun e w' => e = .returned (.bool (vCls ps)) ∧ Below w.heap.size w w' := by
  have HL := Lib.hid hr.len4
  go_enter Try.func60, Try.ntmps60
  go_wp2
  go_loopw [3] (fun iv wr => ∃ (k : Nat), k ≤ n ∧ iv = .int .i64 k ∧ Hid (good Prod.fst okCl ps = goodFrom Prod.fst okCl (ahead Prod.fst ps k) (ps.drop k)) ∧ Hid (Below w.heap.size w wr))
     (fun iv _ => n - (intOf iv).toNat)
  case atStart => exact ⟨0, by omega, rfl, rfl, Below.refl _ _⟩
  case round =>
    obtain ⟨k, hk, rfl, hS, HB⟩ := hrel
    have hsz := HB.out.size
    by_cases hlt : k < n
    · obtain ⟨b, off, x, y, z, t, hA, hbB, _, hg, hc0, hc1, hc2, hc3⟩ := (hr.keep HB.out hB).quad hlt
      subst hA
      have hkn : (k : Int) < (n : Int) := by omega
      have hk0 : (0 : Int) ≤ (k : Int) := by omega
      have hbw : b < wr.heap.size := by omega
      have HG := Lib.hid hg
      clear hg
      have HE := Lib.hid (Blk.new wr 45 #[.int .i64 x, .int .i64 y, .int .i64 z, .int .i64 t])
      have HB1 := Lib.hid (up_alloc HB.out (.cells #[.int .i64 x, .int .i64 y, .int .i64 z, .int .i64 t] 45))
      have HR1 := Lib.hid (hr.keep HB1.out hB)
      have e0 := HE.out.cell 0
      have e1 := HE.out.cell 1
      have e2 := HE.out.cell 3
      cases h0 : inR x 0 9 with
      | false =>
        have HX := Lib.hid (show vCls ps = false by rw [vCls, hS.out, good_bad HG.out (.inl (by simp [okCl, h0]))])
        go_wp2
        go_quiet ((go_at_call 47; exact Calls.quiet_of_same ((inRange_any _ _ _ _).mono fun _ _ h => ⟨h.1, h.2.symm⟩)))
        go_wp2
        go_ret
        exact ⟨ret_bool HX.out.symm, up_drewN HB1.out _⟩
      | true =>
      cases h1 : inR y 0 999 with
      | false =>
        have HX := Lib.hid (show vCls ps = false by rw [vCls, hS.out, good_bad HG.out (.inl (by simp [okCl, h0, h1]))])
        go_wp2
        go_quiet ((go_at_call 47; exact Calls.quiet_of_same ((inRange_any _ _ _ _).mono fun _ _ h => ⟨h.1, h.2.symm⟩)))
        go_wp2
        go_ret
        exact ⟨ret_bool HX.out.symm, up_drewN HB1.out _⟩
      | true =>
      cases h2 : inR t 0 9999 with
      | false =>
        have HX := Lib.hid (show vCls ps = false by rw [vCls, hS.out, good_bad HG.out (.inl (by simp [okCl, h0, h1, h2]))])
        go_wp2
        go_quiet ((go_at_call 47; exact Calls.quiet_of_same ((inRange_any _ _ _ _).mono fun _ _ h => ⟨h.1, h.2.symm⟩)))
        go_wp2
        go_ret
        exact ⟨ret_bool HX.out.symm, up_drewN HB1.out _⟩
      | true =>
      have HV := Lib.hid (show okCl (x, y, z, t) = true by simp [okCl, h0, h1, h2])
      rcases Nat.eq_zero_or_pos k with hz | hz
      · have HS := Lib.hid (hS.out.trans (good_step HG.out HV.out (fun y h => by subst hz; cases h)))
        have hgt : decide (0 < k) = false := decide_eq_false (by omega)
        clear hz
        go_wp2
        go_quiet ((go_at_call 47; exact Calls.quiet_of_same ((inRange_any _ _ _ _).mono fun _ _ h => ⟨h.1, h.2.symm⟩)))
        go_wp2
        go_roundw
        case rel => exact ⟨k + 1, by omega, by go_num, HS, up_drewN HB1.out _⟩
        case measure => simp [intOf]; omega
      · obtain ⟨j, rfl⟩ : ∃ j, k = j + 1 := ⟨k - 1, by omega⟩
        obtain ⟨b', off', x', y', z', t', hA', _, _, hg', p0, p1, p2, p3⟩ := HR1.out.quad (k := j) (by omega)
        injection hA' with hA'; injection hA' with h1' h2'
        subst h1'; subst h2'
        have HG' := Lib.hid (ahead_get (f := Prod.fst) hg')
        clear hg'
        have hj1 : ((j + 1 : Nat) : Int) - 1 = (j : Int) := by omega
        have hgt : decide ((0 : Int) < ((j + 1 : Nat) : Int)) = true := decide_eq_true (by omega)
        by_cases hle : x ≤ x'
        · have HX := Lib.hid (show vCls ps = false by rw [vCls, hS.out, good_bad HG.out (.inr ⟨x', HG'.out, hle⟩)])
          have hlx : decide (x ≤ x') = true := decide_eq_true hle
          go_wp2
          go_quiet ((go_at_call 47; exact Calls.quiet_of_same ((inRange_any _ _ _ _).mono fun _ _ h => ⟨h.1, h.2.symm⟩)))
          go_wp2
          go_ret
          exact ⟨ret_bool HX.out.symm, up_drewN HB1.out _⟩
        · have HS := Lib.hid (hS.out.trans (good_step HG.out HV.out (fun y h => by rw [HG'.out] at h; injection h with h; subst h; show x' < x; omega)))
          have hlx : decide (x ≤ x') = false := decide_eq_false hle
          go_wp2
          go_quiet ((go_at_call 47; exact Calls.quiet_of_same ((inRange_any _ _ _ _).mono fun _ _ h => ⟨h.1, h.2.symm⟩)))
          go_wp2
          go_roundw
          case rel => exact ⟨j + 1 + 1, by omega, by go_num, HS, up_drewN HB1.out _⟩
          case measure => simp [intOf]; omega
    · obtain rfl : k = n := by omega
      have HX := Lib.hid (show good Prod.fst okCl ps = true by rw [hS.out, List.drop_of_length_le (by rw [HL.out]; omega)]; rfl)
      go_wp2
      go_ret
      exact ⟨ret_bool HX.out.symm, HB.out⟩
set_option maxHeartbeats 800000 in
theorem clientAtS_any (lo hi n c : Nat) (A : Option Addr) (ps : List Qd) (m : Int) (w : World) (hr : Rd w lo hi 4 A n (qvs ps)) (hn : n ≤ 1048576) :
    Calls Try.prog 64 #[.slice A n c, .int .i64 m] w (AtPost Prod.fst ps m w) := by
  have HL := Lib.hid hr.len4
  go_enter Try.func64, Try.ntmps64
  go_wp2
  go_loop [5] (fun iv => ∃ (k : Nat), k ≤ n ∧ iv = .int .i64 k ∧ Hid (atNum Prod.fst ps m = atNum Prod.fst (ps.drop k) m))
     (fun iv => n - (intOf iv).toNat)
  case atStart => exact ⟨0, by omega, rfl, rfl⟩
  case round =>
    obtain ⟨k, hk, rfl, hS⟩ := hrel
    by_cases hlt : k < n
    · obtain ⟨b, off, x, y, z, t, rfl, _, _, hg, hc0, hc1, hc2, hc3⟩ := hr.quad hlt
      have HG := Lib.hid hg
      clear hg
      by_cases he : x = m
      · subst he
        have HX := Lib.hid (show atNum Prod.fst ps x = some (x, y, z, t) by rw [hS.out, atNum, drop_cons2 HG.out]; simp)
        go_wp2
        go_ret
        exact ⟨(k : Int), rfl, .inr ⟨k, (x, y, z, t), rfl, HG.out, HX.out, rfl⟩, rfl⟩
      · have he1 : (x == m) = false := by simpa using he
        have HS := Lib.hid (hS.out.trans (show atNum Prod.fst (ps.drop k) m = atNum Prod.fst (ps.drop (k + 1)) m by rw [atNum, drop_cons2 HG.out]; simp [atNum, he]))
        clear he
        go_wp2
        go_round
        case rel => exact ⟨k + 1, by omega, by go_num, HS⟩
        case measure => simp [intOf]; omega
    · obtain rfl : k = n := by omega
      have HX := Lib.hid (show atNum Prod.fst ps m = none by rw [hS.out, List.drop_of_length_le (by rw [HL.out]; omega)]; rfl)
      go_wp2
      go_ret
      exact ⟨-1, rfl, .inl ⟨rfl, HX.out⟩, rfl⟩
end Go.Proofs.Ytipoakimjhfhfab
