/- The program's snapshots: Snap.restBehind, StateOf. -/
import Derived.Test.YthoccppfedmcjaaSnapI
set_option linter.unusedSimpArgs false
set_option linter.unusedVariables false
namespace Go.Proofs.Ythoccppfedmcjaa
open Go.RowKit

set_option maxRecDepth 100000 in
set_option maxHeartbeats 1600000 in
theorem restBehind_any (N T S : Int) (lo hi n c : Nat) (A : Option Addr) (ls : List En) (N' T' : Int) (w : World) (hr : Rd w lo hi 2 A n (pvs ls)) (hB : hi ≤ w.heap.size) (hn : n ≤ 16) (hcap : n ≤ c) (hN : 0 ≤ N ∧ N ≤ 999) (hN' : N' ≤ 999) (hlt : N < N') :
    Calls Try.prog 37 #[.agg #[.int .i64 N, .int .i64 T, .int .i64 S, .slice A n c], .int .i64 N', .int .i64 T'] w fun e w' => ∃ A9 n9 c9, e = .returned (.slice A9 n9 c9) ∧ (restB N ls N' T').length = n9 ∧ w'.ownsRow w.heap.size 31 2 (.slice A9 n9 c9) n9 (pvs (restB N ls N' T')) ∧ Below w.heap.size w w' := by
  have hb0 := up_alloc (Below.refl _ w) (.cells #[.int .i64 N, .int .i64 T, .int .i64 S, .slice A n c] 25)
  have HL := Lib.hid hr.len2
  have HR := Lib.hid (hr.keep hb0 hB)
  have HB0 := Lib.hid hb0
  have hz0 : (w.alloc (.cells #[.int .i64 N, .int .i64 T, .int .i64 S, .slice A n c] 25)).heap.size = w.heap.size + 1 := by simp
  obtain ⟨N0, N1⟩ := hN
  clear hr hb0
  obtain ⟨j, hj⟩ : ∃ j : Nat, N' - N = ((j + 1 : Nat) : Int) := ⟨(N' - N - 1).toNat, by omega⟩
  have hjw : IntKind.i64.wrap (N' - N) = ((j + 1 : Nat) : Int) := by rw [IntWalk.i64_in _ (by omega)]; exact hj
  have hjt : (N' - N).toNat = j + 1 := by omega
  have HX := Lib.hid (show restB N ls N' T' = if j + 1 ≤ n ∧ termOf ls (j + 1) = T' then ls.drop (j + 1) else [] by rw [restB, hjt, HL.out])
  have hj1 : IntKind.i64.wrap (((j + 1 : Nat) : Int) - 1) = (j : Int) := by rw [IntWalk.i64_in _ (by omega)]; omega
  clear hj hjt
  by_cases hbig : n < j + 1
  · have d1 : decide ((n : Int) < ((j + 1 : Nat) : Int)) = true := decide_eq_true (by omega)
    have HY := Lib.hid (show restB N ls N' T' = [] by rw [HX.out, if_neg (fun h => by omega)])
    go_enter Try.func37, Try.ntmps37
    go_wp2
    go_ret
    exact ⟨none, 0, 0, rfl, by rw [HY.out]; rfl, by rw [HY.out]; exact World.ownsRow_nil _ _ _ _, HB0.out⟩
  have d1 : decide ((n : Int) < ((j + 1 : Nat) : Int)) = false := decide_eq_false (by omega)
  obtain ⟨b, off, x, y, hA, hbB, _, hg, hc0, hc1⟩ := HR.out.pair (k := j) (by omega)
  subst hA
  have HT := Lib.hid (termOf_get hg)
  clear hg
  have hj0 : (0 : Int) ≤ (j : Int) := by omega
  have hjn : (j : Int) < (n : Int) := by omega
  by_cases hx : x = T'
  · subst hx
    have d2 : (x != x) = false := by simp
    have HY := Lib.hid (show restB N ls N' x = ls.drop (j + 1) by rw [HX.out, if_pos ⟨by omega, by rw [HT.out]⟩])
    obtain ⟨AT, hAT, hRT⟩ := HR.out.behind2 (show j + 1 ≤ n by omega) hcap
    have HRT := Lib.hid hRT
    clear hRT
    have p1 : ((j + 1 : Nat) : Int) ≤ (n : Int) := by omega
    have p2 : (0 : Int) ≤ ((j + 1 : Nat) : Int) := by omega
    have p5 : ((j + 1 : Nat) : Int) ≤ (c : Int) := by omega
    have p4 : (n : Int) ≤ (c : Int) := by omega
    have p6 : (((j + 1 : Nat) : Int)).toNat = j + 1 := by omega
    have p8 : j + 1 ≤ c := by omega
    go_enter Try.func37, Try.ntmps37
    go_wp2_with (fail)

    (with_reducible refine (cloneEntry_any lo hi (n - (j + 1)) (c - (j + 1)) (some AT) (ls.drop (j + 1)) _ HRT.out (by omega) (by omega)).mono ?_)
    rintro e w2 ⟨A9, c9, rfl, ho, hb2⟩
    have HO := Lib.hid (own_base ho (show w.heap.size ≤ _ by omega))
    have HB2 := Lib.hid (up HB0.out hb2)
    clear ho hb2
    go_wp2
    go_ret
    exact ⟨A9, n - (j + 1), c9, rfl, by rw [HY.out, List.length_drop, HL.out], by rw [HY.out]; exact HO.out, HB2.out⟩
  · have d2 : (x != T') = true := by simpa using hx
    have HY := Lib.hid (show restB N ls N' T' = [] by rw [HX.out, if_neg (fun h => hx (by rw [← h.2, HT.out]))])
    clear hx
    go_enter Try.func37, Try.ntmps37
    go_wp2
    go_ret
    exact ⟨none, 0, 0, rfl, by rw [HY.out]; rfl, by rw [HY.out]; exact World.ownsRow_nil _ _ _ _, HB0.out⟩
theorem fieldSn2 (a b c : Int) (A : Option Addr) (n m : Nat) (w : World) : (Instr.field 25 (.agg #[.int .i64 a, .int .i64 b, .int .i64 c, .slice A n m]) 2).run Try.prog w = .ok (.int .i64 c) w := by kernel_rfl
set_option maxRecDepth 100000 in
set_option maxHeartbeats 1600000 in
theorem StateOfI_any (N T S : Int) (lo hi n c : Nat) (A : Option Addr) (ls : List En) (w : World) (hr : Rd w lo hi 2 A n (pvs ls)) (hB : hi ≤ w.heap.size) (hn : n ≤ 1048576) (hcap : n ≤ c) :
    Calls Try.prog 16 #[.agg #[.int .i64 N, .int .i64 T, .int .i64 S, .slice A n c]] w fun e w' => e = .returned (.int .i64 (stateOf N T S ls)) ∧ Below w.heap.size w w' := by
  have hb0 := up_alloc (Below.refl _ w) (.cells #[.int .i64 N, .int .i64 T, .int .i64 S, .slice A n c] 25)
  have HL := Lib.hid hr.len2
  have HR := Lib.hid (hr.keep hb0 hB)
  have HE := Lib.hid (Blk.new w 25 #[.int .i64 N, .int .i64 T, .int .i64 S, .slice A n c])
  have HB0 := Lib.hid hb0
  have hz0 : (w.alloc (.cells #[.int .i64 N, .int .i64 T, .int .i64 S, .slice A n c] 25)).heap.size = w.heap.size + 1 := by simp
  clear hr hb0
  go_enter Try.func16, Try.ntmps16
  go_wp2_with (fail)
  generalize w.alloc (.cells #[.int .i64 N, .int .i64 T, .int .i64 S, .slice A n c] 25) = w0 at *
  (with_reducible refine (ValidSnapI_any N T S lo hi n c A ls _ HR.out (by omega) hn hcap).mono ?_)
  rintro e w1 ⟨rfl, hb1⟩
  have HB1 := Lib.hid (up HB0.out hb1)
  have HE1 := Lib.hid (HE.out.below hb1 HE.out.lt)
  have HR1 := Lib.hid (HR.out.keep hb1 (by omega))
  have hz1 := hb1.size
  clear hb1 HE HR
  cases hv : vSnap N T S ls with
  | false =>
    have HX := Lib.hid (show stateOf N T S ls = -1 by simp [stateOf, hv])
    clear hv
    go_wp2
    go_ret
    exact ⟨by rw [HX.out]; rfl, HB1.out⟩
  | true =>
    have HX := Lib.hid (show stateOf N T S ls = stAfter S ls by simp [stateOf, hv])
    have hv1 := vSnap_iff.1 hv
    have HW := Lib.hid (show ∀ wx, Below w1.heap.size w1 wx → ∀ g, wx.heap.size = g → ∀ wy, wy = wx.alloc (.cells #[.slice A n c] 23) → Calls Try.prog 29 #[.agg #[.int .i64 N, .int .i64 T, .int .i64 S, .slice A n c], .func (.func 44) #[] #[.pointer (some ⟨g, 0, none⟩)]] wy fun e w' => e = .returned (.agg #[.int .i64 (N + n), .int .i64 (lastT T ls), .int .i64 (stAfter S ls), .slice none 0 0]) ∧ Below w1.heap.size w1 w' from by
      rintro wx hb g rfl wy rfl
      have hb2 := up_alloc hb (.cells #[.slice A n c] 23)
      refine (with_any N T S A n c wx.heap.size A n c ls _ hv1.1 hv1.2.2.1 (fun p hp => (vLog_ok hv1.2.2.2.1 hp).2) (by rw [← HL.out]; exact vLog_len hv1.2.2.2.1) (by simp) ((Blk.new wx 23 #[.slice A n c]).cell 0) ((HR1.out.keep hb2 (by omega)).wide (Nat.zero_le _) (by have := hb2.size; omega))).mono fun e w' ⟨h1, h2⟩ => ⟨h1, up hb2 h2⟩)
    have HV := Lib.hid (show ∀ wx, Calls Try.prog 30 #[.slice A n c] wx fun e w' => e = .returned (.func (.func 44) #[] #[.pointer (some ⟨wx.heap.size, 0, none⟩)]) ∧ w' = wx.alloc (.cells #[.slice A n c] 23) from fun wx => ValuesE_any A n c wx)
    have HS := Lib.hid (show ∀ wx, Below w1.heap.size w1 wx → wx.cell? ⟨w.heap.size, 0, none⟩ = some (.int .i64 N) ∧ wx.cell? ⟨w.heap.size, 1, none⟩ = some (.int .i64 T) ∧ wx.cell? ⟨w.heap.size, 2, none⟩ = some (.int .i64 S) ∧ wx.cell? ⟨w.heap.size, 3, none⟩ = some (.slice A n c) from fun wx hb => ⟨(hb.cell (by show w.heap.size < _; omega)).trans (HE1.out.cell 0), (hb.cell (by show w.heap.size < _; omega)).trans (HE1.out.cell 1), (hb.cell (by show w.heap.size < _; omega)).trans (HE1.out.cell 2), (hb.cell (by show w.heap.size < _; omega)).trans (HE1.out.cell 3)⟩)
    clear hv hv1
    generalize stAfter S ls = q at *
    generalize lastT T ls = t at *
    have hfl := fieldSn2 (N + n) t q none 0 0
    obtain ⟨e0, e1, e2, e3⟩ := HS.out _ (Below.refl _ _)
    go_wp2_with (fail)
    go_region_held3 (fun wx => wx.cell? ⟨w.heap.size, 0, none⟩ = some (.int .i64 N) ∧ wx.cell? ⟨w.heap.size, 1, none⟩ = some (.int .i64 T) ∧ wx.cell? ⟨w.heap.size, 2, none⟩ = some (.int .i64 S) ∧ wx.cell? ⟨w.heap.size, 3, none⟩ = some (.slice A n c))
      (first | exact HS.out _ (Below.refl _ _) | exact HS.out _ (up_drew (Below.refl _ _)) | exact HS.out _ HB5.out | exact HS.out _ HB6.out)
      ((first
        | (go_at_call 30; (with_reducible refine (HV.out _).mono ?_); rintro e w6 ⟨rfl, hw6⟩; have HB5 := Lib.hid (show Below w1.heap.size w1 w6 by subst hw6; exact up_alloc (up_drew (Below.refl _ _)) _); have HW6 := Lib.hid hw6; clear hw6)
        | (go_at_call 29; (with_reducible refine (HW.out _ (up_drew (Below.refl _ _)) _ (World.size_drew _) _ HW6.out).mono ?_); rintro e w7 ⟨rfl, hb7⟩; have HB6 := Lib.hid hb7; clear hb7)
        | fail "no arm"))
    all_goals

      go_wp2
      go_ret
      exact ⟨by rw [HX.out]; rfl, up HB1.out HB6.out⟩
end Go.Proofs.Ythoccppfedmcjaa
