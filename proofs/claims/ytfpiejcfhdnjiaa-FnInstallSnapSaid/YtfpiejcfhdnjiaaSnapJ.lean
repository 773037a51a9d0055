/- The program's snapshots: Snap.restBehind, StateOf. -/
import Derived.Test.YtfpiejcfhdnjiaaSnapI
set_option linter.unusedSimpArgs false
set_option linter.unusedVariables false
namespace Go.Proofs.Ytfpiejcfhdnjiaa
open Go.RowKit

set_option maxRecDepth 100000 in
set_option maxHeartbeats 1600000 in
theorem restBehind_any (N T S : Int) (lo hi n c : Nat) (A : Option Addr) (ls : List En) (N' T' : Int) (w : World) (hr : Rd w lo hi 2 A n (pvs ls)) (hB : hi ≤ w.heap.size) (hn : n ≤ 16) (hcap : n ≤ c) (hN : 0 ≤ N ∧ N ≤ 999) (hN' : N' ≤ 999) (hlt : N < N') :
    Calls Try.prog 51 #[.agg #[.int .i64 N, .int .i64 T, .int .i64 S, .slice A n c], .int .i64 N', .int .i64 T'] w fun e w' => ∃ A9 n9 c9, e = .returned (.slice A9 n9 c9) ∧ (restB N ls N' T').length = n9 ∧ w'.ownsRow w.heap.size 29 2 (.slice A9 n9 c9) n9 (pvs (restB N ls N' T')) ∧ Below w.heap.size w w' := by
  have hb0 := up_alloc (Below.refl _ w) (.cells #[.int .i64 N, .int .i64 T, .int .i64 S, .slice A n c] 32)
  have HL := Lib.hid hr.len2
  have HR := Lib.hid (hr.keep hb0 hB)
  have HB0 := Lib.hid hb0
  have hz0 : (w.alloc (.cells #[.int .i64 N, .int .i64 T, .int .i64 S, .slice A n c] 32)).heap.size = w.heap.size + 1 := by simp
  obtain ⟨N0, N1⟩ := hN
  clear hr hb0
  obtain ⟨j, hj⟩ : ∃ j : Nat, N' - N = ((j + 1 : Nat) : Int) := ⟨(N' - N - 1).toNat, by omega⟩
  have hjw : IntKind.i64.wrap (N' - N) = ((j + 1 : Nat) : Int) := by rw [IntWalk.i64_in _ (by omega)]; exact hj
  have hjt : (N' - N).toNat = j + 1 := by omega
  have HX := Lib.hid (show restB N ls N' T' = if j + 1 ≤ n ∧ termOf ls (j + 1) = T' then ls.drop (j + 1) else [] by rw [restB, hjt, HL.out])
  have hj1 : IntKind.i64.wrap (((j + 1 : Nat) : Int) - 1) = (j : Int) := by rw [IntWalk.i64_in _ (by omega)]; omega
  clear hj hjt
  by_cases hbig : n < j + 1
  · have d1 : decide ((n : Int) < ((j + 1 : Nat) : Int)) = true := decide_eq_true (by omega)
    have HY := Lib.hid (show restB N ls N' T' = [] by rw [HX.out, if_neg (fun h => by omega)])
    go_enter Try.func51, Try.ntmps51
    go_wp2
    go_ret
    exact ⟨none, 0, 0, rfl, by rw [HY.out]; rfl, by rw [HY.out]; exact World.ownsRow_nil _ _ _ _, HB0.out⟩
  have d1 : decide ((n : Int) < ((j + 1 : Nat) : Int)) = false := decide_eq_false (by omega)
  obtain ⟨b, off, x, y, hA, hbB, _, hg, hc0, hc1⟩ := HR.out.pair (k := j) (by omega)
  subst hA
  have HT := Lib.hid (termOf_get hg)
  clear hg
  have hj0 : (0 : Int) ≤ (j : Int) := by omega
  have hjn : (j : Int) < (n : Int) := by omega
  by_cases hx : x = T'
  · subst hx
    have d2 : (x != x) = false := by simp
    have HY := Lib.hid (show restB N ls N' x = ls.drop (j + 1) by rw [HX.out, if_pos ⟨by omega, by rw [HT.out]⟩])
    obtain ⟨AT, hAT, hRT⟩ := HR.out.behind2 (show j + 1 ≤ n by omega) hcap
    have HRT := Lib.hid hRT
    clear hRT
    have p1 : ((j + 1 : Nat) : Int) ≤ (n : Int) := by omega
    have p2 : (0 : Int) ≤ ((j + 1 : Nat) : Int) := by omega
    have p5 : ((j + 1 : Nat) : Int) ≤ (c : Int) := by omega
    have p4 : (n : Int) ≤ (c : Int) := by omega
    have p6 : (((j + 1 : Nat) : Int)).toNat = j + 1 := by omega
    have p8 : j + 1 ≤ c := by omega
    go_enter Try.func51, Try.ntmps51
    go_wp2_with (fail)

    (with_reducible refine (cloneEntry_any lo hi (n - (j + 1)) (c - (j + 1)) (some AT) (ls.drop (j + 1)) _ HRT.out (by omega) (by omega)).mono ?_)
    rintro e w2 ⟨A9, c9, rfl, ho, hb2⟩
    have HO := Lib.hid (own_base ho (show w.heap.size ≤ _ by omega))
    have HB2 := Lib.hid (up HB0.out hb2)
    clear ho hb2
    go_wp2
    go_ret
    exact ⟨A9, n - (j + 1), c9, rfl, by rw [HY.out, List.length_drop, HL.out], by rw [HY.out]; exact HO.out, HB2.out⟩
  · have d2 : (x != T') = true := by simpa using hx
    have HY := Lib.hid (show restB N ls N' T' = [] by rw [HX.out, if_neg (fun h => hx (by rw [← h.2, HT.out]))])
    clear hx
    go_enter Try.func51, Try.ntmps51
    go_wp2
    go_ret
    exact ⟨none, 0, 0, rfl, by rw [HY.out]; rfl, by rw [HY.out]; exact World.ownsRow_nil _ _ _ _, HB0.out⟩
end Go.Proofs.Ytfpiejcfhdnjiaa
