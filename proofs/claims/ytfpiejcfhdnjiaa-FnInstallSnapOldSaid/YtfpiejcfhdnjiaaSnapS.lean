/- The reference's snapshots: validSnap, ValidSnap, stateAfter, StateOf. -/
import Derived.Test.YtfpiejcfhdnjiaaSnapMath
import Derived.Test.YtfpiejcfhdnjiaaAskS
import Derived.Test.YtfpiejcfhdnjiaaLogQ
set_option linter.unusedSimpArgs false
set_option linter.unusedVariables false
namespace Go.Proofs.Ytfpiejcfhdnjiaa
open Go.RowKit

set_option maxRecDepth 100000 in
set_option maxHeartbeats 1600000 in
theorem validSnapS_any (N T S : Int) (lo hi n c : Nat) (A : Option Addr) (ls : List En) (w : World) (hr : Rd w lo hi 2 A n (pvs ls)) (hB : hi ≤ w.heap.size) (hn : n ≤ 1048576) :
    Calls Try.prog 53 #[.agg #[.int .i64 N, .int .i64 T, .int .i64 S, .slice A n c]] w fun e w' => e = .returned (.bool (vSnap N T S ls)) ∧ Below w.heap.size w w' := by
  have hb0 := up_alloc (Below.refl _ w) (.cells #[.int .i64 N, .int .i64 T, .int .i64 S, .slice A n c] 32)
  have HL := Lib.hid hr.len2
  have HR := Lib.hid (hr.keep hb0 hB)
  have HE := Lib.hid (Blk.new w 32 #[.int .i64 N, .int .i64 T, .int .i64 S, .slice A n c])
  have HB0 := Lib.hid hb0
  have hz0 : (w.alloc (.cells #[.int .i64 N, .int .i64 T, .int .i64 S, .slice A n c] 32)).heap.size = w.heap.size + 1 := by simp
  clear hr hb0
  have HV := Lib.hid (show vSnap N T S ls = (inR N 0 999 && inR T 0 9 && inR S 0 10006 && vLog ls && headOk T ls) from rfl)
  have e0 : (w.alloc (.cells #[.int .i64 N, .int .i64 T, .int .i64 S, .slice A n c] 32)).cell? ⟨w.heap.size, 0, none⟩ = some (.int .i64 N) := HE.out.cell 0
  have e1 : (w.alloc (.cells #[.int .i64 N, .int .i64 T, .int .i64 S, .slice A n c] 32)).cell? ⟨w.heap.size, 1, none⟩ = some (.int .i64 T) := HE.out.cell 1
  have e2 : (w.alloc (.cells #[.int .i64 N, .int .i64 T, .int .i64 S, .slice A n c] 32)).cell? ⟨w.heap.size, 2, none⟩ = some (.int .i64 S) := HE.out.cell 2
  have e3 : (w.alloc (.cells #[.int .i64 N, .int .i64 T, .int .i64 S, .slice A n c] 32)).cell? ⟨w.heap.size, 3, none⟩ = some (.slice A n c) := HE.out.cell 3
  have HQ := Lib.hid (show ∀ m, Calls Try.prog 44 #[.slice A n c] ((w.alloc (.cells #[.int .i64 N, .int .i64 T, .int .i64 S, .slice A n c] 32)).drewN m) fun e w' => e = .returned (.bool (vLog ls)) ∧ ∃ q, w' = ((w.alloc (.cells #[.int .i64 N, .int .i64 T, .int .i64 S, .slice A n c] 32)).drewN m).drewN q from fun m => validLogS_q lo hi n c A ls _ (HR.out.keep (up_drewN (Below.refl _ _) m) (by omega)) (by show hi ≤ _; simp; omega) hn)
  generalize vSnap N T S ls = u at *
  have HI1 := Lib.hid (show ∀ wx : World, Calls Try.prog 45 #[.int .i64 N, .int .i64 0, .int .i64 999] wx fun e w' => e = .returned (.bool (inR N 0 999)) ∧ w' = wx from fun wx => (inRange_any _ _ _ _).mono fun _ _ h => ⟨h.1, h.2.symm⟩)
  cases h1 : inR N 0 999 with
  | false =>
    have HX := Lib.hid (show u = false by rw [HV.out, h1]; simp)
    rw [h1] at HI1
    go_enter Try.func53, Try.ntmps53
    go_wp2
    generalize w.alloc (.cells #[.int .i64 N, .int .i64 T, .int .i64 S, .slice A n c] 32) = w0 at *
    go_quiet ((first | (go_at_call 45; with_reducible exact Calls.quiet_of_same (HI1.out _))))
    go_wp2
    go_ret
    exact ⟨ret_bool HX.out.symm, up_drewN HB0.out _⟩
  | true =>
  rw [h1] at HI1
  have HI2 := Lib.hid (show ∀ wx : World, Calls Try.prog 45 #[.int .i64 T, .int .i64 0, .int .i64 9] wx fun e w' => e = .returned (.bool (inR T 0 9)) ∧ w' = wx from fun wx => (inRange_any _ _ _ _).mono fun _ _ h => ⟨h.1, h.2.symm⟩)
  cases h2 : inR T 0 9 with
  | false =>
    have HX := Lib.hid (show u = false by rw [HV.out, h2]; simp)
    rw [h2] at HI2
    go_enter Try.func53, Try.ntmps53
    go_wp2
    generalize w.alloc (.cells #[.int .i64 N, .int .i64 T, .int .i64 S, .slice A n c] 32) = w0 at *
    go_quiet ((first | (go_at_call 45; with_reducible exact Calls.quiet_of_same (HI1.out _)) | (go_at_call 45; with_reducible exact Calls.quiet_of_same (HI2.out _))))
    go_wp2
    go_ret
    exact ⟨ret_bool HX.out.symm, up_drewN HB0.out _⟩
  | true =>
  rw [h2] at HI2
  have HI3 := Lib.hid (show ∀ wx : World, Calls Try.prog 45 #[.int .i64 S, .int .i64 0, .int .i64 10006] wx fun e w' => e = .returned (.bool (inR S 0 10006)) ∧ w' = wx from fun wx => (inRange_any _ _ _ _).mono fun _ _ h => ⟨h.1, h.2.symm⟩)
  cases h3 : inR S 0 10006 with
  | false =>
    have HX := Lib.hid (show u = false by rw [HV.out, h3]; simp)
    rw [h3] at HI3
    go_enter Try.func53, Try.ntmps53
    go_wp2
    generalize w.alloc (.cells #[.int .i64 N, .int .i64 T, .int .i64 S, .slice A n c] 32) = w0 at *
    go_quiet ((first | (go_at_call 45; with_reducible exact Calls.quiet_of_same (HI1.out _)) | (go_at_call 45; with_reducible exact Calls.quiet_of_same (HI2.out _)) | (go_at_call 45; with_reducible exact Calls.quiet_of_same (HI3.out _))))
    go_wp2
    go_ret
    exact ⟨ret_bool HX.out.symm, up_drewN HB0.out _⟩
  | true =>
  rw [h3] at HI3
  cases h4 : vLog ls with
  | false =>
    have HX := Lib.hid (show u = false by rw [HV.out, h4]; simp)
    rw [h4] at HQ
    go_enter Try.func53, Try.ntmps53
    go_wp2
    generalize w.alloc (.cells #[.int .i64 N, .int .i64 T, .int .i64 S, .slice A n c] 32) = w0 at *
    go_quiet ((first | (go_at_call 45; with_reducible exact Calls.quiet_of_same (HI1.out _)) | (go_at_call 45; with_reducible exact Calls.quiet_of_same (HI2.out _)) | (go_at_call 45; with_reducible exact Calls.quiet_of_same (HI3.out _)) | (go_at_call 44; with_reducible exact Calls.quiet_of (HQ.out _))))
    go_wp2
    go_ret
    exact ⟨ret_bool HX.out.symm, up_drewN HB0.out _⟩
  | true =>
  rw [h4] at HQ
  have HY := Lib.hid (show u = headOk T ls by rw [HV.out, h1, h2, h3, h4]; rfl)
  clear h1 h2 h3 h4
  by_cases hz0' : n = 0
  · subst hz0'
    have HZ := Lib.hid (show u = true by rw [HY.out, List.eq_nil_of_length_eq_zero HL.out]; rfl)
    go_enter Try.func53, Try.ntmps53
    go_wp2
    generalize w.alloc (.cells #[.int .i64 N, .int .i64 T, .int .i64 S, .slice A 0 c] 32) = w0 at *
    go_quiet ((first | (go_at_call 45; with_reducible exact Calls.quiet_of_same (HI1.out _)) | (go_at_call 45; with_reducible exact Calls.quiet_of_same (HI2.out _)) | (go_at_call 45; with_reducible exact Calls.quiet_of_same (HI3.out _)) | (go_at_call 44; with_reducible exact Calls.quiet_of (HQ.out _))))
    go_wp2
    go_ret
    exact ⟨ret_bool HZ.out.symm, up_drewN HB0.out _⟩
  · have hz : 0 < n := by omega
    obtain ⟨b, off, x, y, hA, hbB, _, hg, hc0, hc1⟩ := HR.out.pair hz
    subst hA
    simp only [Nat.zero_mul, Nat.add_zero] at hc0 hc1
    have hn0 : ((n : Int) == 0) = false := by rw [beq_eq_false_iff_ne]; omega
    have hn1 : (0 : Int) < (n : Int) := by omega
    have HZ := Lib.hid (show u = decide (T ≤ x) by
      rw [HY.out, Bool.eq_iff_iff, headOk_iff, decide_eq_true_eq]
      exact ⟨fun h => h _ hg, fun h p hp => by rw [hg] at hp; injection hp with hp; subst hp; exact h⟩)
    clear hg
    cases h5 : decide (T ≤ x) with
    | false =>
      have HW := Lib.hid (HZ.out.trans h5)
      go_enter Try.func53, Try.ntmps53
      go_wp2
      generalize w.alloc (.cells #[.int .i64 N, .int .i64 T, .int .i64 S, .slice (some ⟨b, off, none⟩) n c] 32) = w0 at *
      go_quiet ((first | (go_at_call 45; with_reducible exact Calls.quiet_of_same (HI1.out _)) | (go_at_call 45; with_reducible exact Calls.quiet_of_same (HI2.out _)) | (go_at_call 45; with_reducible exact Calls.quiet_of_same (HI3.out _)) | (go_at_call 44; with_reducible exact Calls.quiet_of (HQ.out _))))
      go_wp2
      go_ret
      exact ⟨ret_bool HW.out.symm, up_drewN HB0.out _⟩
    | true =>
      have HW := Lib.hid (HZ.out.trans h5)
      go_enter Try.func53, Try.ntmps53
      go_wp2
      generalize w.alloc (.cells #[.int .i64 N, .int .i64 T, .int .i64 S, .slice (some ⟨b, off, none⟩) n c] 32) = w0 at *
      go_quiet ((first | (go_at_call 45; with_reducible exact Calls.quiet_of_same (HI1.out _)) | (go_at_call 45; with_reducible exact Calls.quiet_of_same (HI2.out _)) | (go_at_call 45; with_reducible exact Calls.quiet_of_same (HI3.out _)) | (go_at_call 44; with_reducible exact Calls.quiet_of (HQ.out _))))
      go_wp2
      go_ret
      exact ⟨ret_bool HW.out.symm, up_drewN HB0.out _⟩
set_option maxHeartbeats 800000 in
theorem stateAfterS_any (z : Int) (lo hi n c : Nat) (A : Option Addr) (ls : List En) (w : World) (hr : Rd w lo hi 2 A n (pvs ls)) (hn : n ≤ 1048576) (hz : 0 ≤ z ∧ z ≤ 10006) (hok : ∀ p ∈ ls, 0 ≤ p.2 ∧ p.2 ≤ 99) :
    Calls Try.prog 72 #[.int .i64 z, .slice A n c] w fun e w' => e = .returned (.int .i64 (stAfter z ls)) ∧ w = w' := by
  have HL := Lib.hid hr.len2
  have HR := Lib.hid hr
  have HZ := Lib.hid hz
  have HO := Lib.hid hok
  obtain ⟨z0, z1⟩ := hz
  clear hr hok
  go_enter Try.func72, Try.ntmps72
  go_wp2
  go_loop [0, 5] (fun sv iv => ∃ (k : Nat) (s : Int), k ≤ n ∧ iv = .int .i64 k ∧ sv = .int .i64 s ∧ 0 ≤ s ∧ s ≤ 10006 ∧ Hid (s = stAfter z (ls.take k)))
     (fun _ iv => n - (intOf iv).toNat)
  case atStart => exact ⟨0, z, by omega, rfl, rfl, z0, z1, rfl⟩
  case round =>
    clear z0 z1
    obtain ⟨k, s, hk, rfl, rfl, s0, s1, hS⟩ := hrel
    by_cases hlt : k < n
    · obtain ⟨b, off, x, y, hA, hbB, _, hg, hc0, hc1⟩ := HR.out.pair hlt
      subst hA
      have hkn : (k : Int) < (n : Int) := by omega
      have hk0 : (0 : Int) ≤ (k : Int) := by omega
      obtain ⟨y0, y1⟩ := HO.out (x, y) (List.mem_of_getElem? hg)
      dsimp only at y0 y1
      have HT := Lib.hid (show (31 * s + y) % 10007 = stAfter z (ls.take (k + 1)) by rw [take_snoc hg, stAfter_snoc, ← hS.out])
      clear hg
      have hw1 : IntKind.i64.wrap (31 * s) = 31 * s := IntWalk.i64_in _ (by omega)
      have hw2 : IntKind.i64.wrap (31 * s + y) = 31 * s + y := IntWalk.i64_in _ (by omega)
      have htm : (31 * s + y).tmod 10007 = (31 * s + y) % 10007 := Int.tmod_eq_emod_of_nonneg (by omega)
      obtain ⟨t, ht⟩ : ∃ t, (31 * s + y) % 10007 = t := ⟨_, rfl⟩
      have t0 : 0 ≤ t := by omega
      have t1 : t ≤ 10006 := by omega
      rw [ht] at HT htm
      clear ht
      go_wp2
      try rw [htm]
      go_round
      case rel => exact ⟨k + 1, t, by omega, by go_num, by first | rfl | (rw [htm]) | go_num, t0, t1, HT⟩
      case measure => simp [intOf]; omega
    · obtain rfl : k = n := by omega
      have HT := Lib.hid (show stAfter z ls = s by rw [hS.out, List.take_of_length_le (by rw [HL.out]; exact Nat.le_refl _)])
      go_wp2
      go_ret
      exact ⟨by rw [HT.out]; rfl, rfl⟩
end Go.Proofs.Ytfpiejcfhdnjiaa
