/- The law FnFlowsIn, walked: it returns true. -/
import Derived.Test.YthlcbdjjegageaaLawProc
import Derived.Test.YthlcbdjjegageaaDrawP12
namespace Go.Proofs.Ythlcbdjjegageaa
open Go.RowKit

set_option maxRecDepth 100000 in
set_option maxHeartbeats 3200000 in
theorem lawFlowsIn_any (n c : Nat) (A : Option Addr) (xs : List Int) (w : World) (hr : Rd w 0 w.heap.size 1 A n (bvs xs)) (hby : Bytes xs) (hc : n ≤ c) (hc2 : c ≤ 9223372036854775807) :
    Calls Try.prog 5 #[.slice A n c] w fun e w' => e = .returned (.bool true) ∧ Below w.heap.size w w' := by
  by_cases hbig : (1048576 : Int) < n
  · go_enter Try.func5, Try.ntmps5
    go_wp2
    go_ret
    exact ⟨rfl, Below.refl _ _⟩
  go_enter Try.func5, Try.ntmps5
  go_wp2_with (fail)
  (with_reducible refine (drawFlowsIn_any n c A xs w hr hby (by omega) hc hc2).mono ?_)
  clear hbig
  rintro e w1 ⟨An, nn, cn, Af, lf, cf, ns, fs, node, rfl, hz0, hz1, hP0, hb1⟩
  have hP := hP0.wide (Nat.zero_le _) (Nat.le_refl _)
  have HC1 := Lib.hid (Pc.new hP)
  have HB1 := Lib.hid (up_alloc hb1 (.cells #[.slice An nn cn, .slice Af lf cf] 26))
  have hn21 := hP.n21
  have hf21 := hP.f21
  have h64 : in64 node := by unfold in64; omega
  clear hP hP0 hb1
  go_wp2_with (fail)
  (with_reducible refine (HC1.out.inI node h64).mono ?_)
  rintro e w2 ⟨A2, c2, rfl, _, hr2, _, hb2⟩
  have HC2 := Lib.hid (HC1.out.below hb2)
  have HB2 := Lib.hid (up HB1.out hb2)
  have k0 := HC2.out.k0
  have k1 := HC2.out.k1
  have HR2 := Lib.hid (hr2.wide (Nat.zero_le _) (Nat.le_refl _))
  have HLEN : Hid ((flowsAt ns fs false node).length ≤ 21) := by
    have := HC2.out.flen
    rw [Hid, flowsAt]
    split
    · have := flUp_le fs false node fs.length
      rw [flOf]; omega
    · simp
  clear hb2 HC1 HB1 hr2
  go_wp2_with (fail)
  (with_reducible refine (HC2.out.inS node).mono ?_)
  rintro e w3 ⟨A3, c3, rfl, _, hr3, _, hb3⟩
  have HC3 := Lib.hid (HC2.out.below hb3)
  have HB3 := Lib.hid (up HB2.out hb3)
  have HE := Lib.hid (equalInts_any _ _ _ c2 _ _ _ c3 A2 A3 (flowsAt ns fs false node) (flowsAt ns fs false node) w3 (HR2.out.keep hb3 (Nat.le_refl _)) hb3.size (Nat.le_trans HLEN.out (by omega)) hr3 (Nat.le_refl _) (Nat.le_trans HLEN.out (by omega)))
  have HS3 := Lib.hid hb3.size
  have HR3 := Lib.hid (HR2.out.keep hb3 (Nat.le_refl _))
  clear hb3 HC2 HB2 HR2 hr3 k0 k1
  go_wp2_with (fail)
  (with_reducible refine HE.out.mono ?_)
  rintro e w4 ⟨rfl, hb4⟩
  rw [beq_self_eq_true]
  have HL4 := Lib.hid (show Lw w w4 w1.heap.size An nn cn Af lf cf ns fs 0 w2.heap.size A2 (flowsAt ns fs false node).length (flowsAt ns fs false node) from ⟨HC3.out.below hb4, HR3.out.keep hb4 HS3.out, Nat.le_trans HS3.out hb4.size, up HB3.out hb4⟩)
  have k0 := HL4.out.pc.k0
  have k1 := HL4.out.pc.k1
  clear hb4 HC3 HB3 HR3 HS3 HE
  generalize hV : vProc ns fs = V
  have HV := Lib.hid hV
  clear hV
  go_wp2_with (fail)
  (with_reducible refine (HL4.out.pc.validI).mono ?_)
  rintro e w5 ⟨rfl, hb5⟩
  rw [HV.out]
  have HL5 := Lib.hid (HL4.out.below hb5)
  have k0 := HL5.out.pc.k0
  have k1 := HL5.out.pc.k1
  clear hb5 HL4
  cases V with
  | false =>
    go_wp2_with (fail)
    (with_reducible refine (HL5.out.pc.inS node).mono ?_)
    rintro e w6 ⟨A6, c6, rfl, _, hr6, _, hb6⟩
    have HL6 := Lib.hid (HL5.out.below hb6)
    have HE := Lib.hid (equalInts_any _ _ _ c2 _ _ _ c6 A2 A6 (flowsAt ns fs false node) (flowsAt ns fs false node) w6 HL6.out.out HL6.out.hh (Nat.le_trans HLEN.out (by omega)) hr6 (Nat.le_refl _) (Nat.le_trans HLEN.out (by omega)))
    clear hb6 hr6 HL5 k0 k1
    go_wp2_with (fail)
    (with_reducible refine HE.out.mono ?_)
    rintro e w7 ⟨rfl, hb7⟩
    rw [beq_self_eq_true]
    have HB7 := Lib.hid (up HL6.out.bel hb7)
    clear hb7 HL6 HE
    go_wp2
    go_ret
    exact ⟨rfl, HB7.out⟩
  | true =>
    have hl21 := HLEN.out
    have HNL := Lib.hid HL5.out.pc.nlen
    have HFL := Lib.hid HL5.out.pc.flen
    have HFA := Lib.hid (flowsAt_yes (out := false) (node := node) HV.out)
    clear k0 k1
    go_wp2
    go_loopw [6, 7] (fun sv iv wr => ∃ (k : Nat), k ≤ nn ∧ iv = .int .i64 k ∧ sv = .int .i64 (flSum fs false k) ∧ flSum fs false k ≤ 441 ∧ Hid (Lw w wr w1.heap.size An nn cn Af lf cf ns fs 0 w2.heap.size A2 (flowsAt ns fs false node).length (flowsAt ns fs false node)))
       (fun _ iv _ => nn - (intOf iv).toNat)
    case atStart => exact ⟨0, by omega, rfl, rfl, by simp [flSum], HL5⟩
    case round =>
      clear HL5
      obtain ⟨k, hk, rfl, rfl, hs4, HL⟩ := hrel
      have k0 := HL.out.pc.k0
      have k1 := HL.out.pc.k1
      by_cases hlt : k < nn
      · have hkn : (k : Int) < (nn : Int) := by omega
        have hk64 : in64 (k : Int) := by unfold in64; omega
        have HS : Hid (flSum fs false (k + 1) = flSum fs false k + (flowsAt ns fs false (k : Int)).length ∧ flSum fs false (k + 1) ≤ 441) := by
          refine ⟨by rw [flowsAt_yes HV.out]; rfl, ?_⟩
          have h1 := flSum_le fs false (k + 1)
          rw [HFL.out] at h1
          have h2 : (k + 1) * lf ≤ 21 * 21 := Nat.mul_le_mul (by omega) hf21
          omega
        go_wp2_with (fail)
        (with_reducible refine (HL.out.pc.inI (k : Int) hk64).mono ?_)
        rintro e w6 ⟨A6, c6, rfl, _, _, _, hb6⟩
        have HL6 := Lib.hid (HL.out.below hb6)
        obtain ⟨hs1, hs2⟩ := HS.out
        have hs3 : (flowsAt ns fs false (k : Int)).length ≤ 441 := by omega
        have HS1 := Lib.hid hs1
        clear hb6 hs1
        generalize hm : (flowsAt ns fs false (k : Int)).length = m at *
        clear hm
        go_wp2
        go_roundw
        case rel => exact ⟨k + 1, by omega, by go_num, by rw [HS1.out]; go_num, hs2, HL6⟩
        case measure => simp [intOf]; omega
      · obtain rfl : k = nn := by omega
        have HSUM : Hid (flSum fs false k = lf) := by
          rw [Hid, ← HFL.out, ← HNL.out]
          exact flSum_all (vProc_inside HV.out)
        go_wp2
        go_loopw [8] (fun iv ws => ∃ (j : Nat), j ≤ (flowsAt ns fs false node).length ∧ iv = .int .i64 j ∧ Hid (Lw w ws w1.heap.size An k cn Af lf cf ns fs 0 w2.heap.size A2 (flowsAt ns fs false node).length (flowsAt ns fs false node)))
           (fun iv _ => (flowsAt ns fs false node).length - (intOf iv).toNat)
        case atStart => exact ⟨0, by omega, rfl, HL⟩
        case round =>
          clear HL k0 k1
          obtain ⟨j, hj, rfl, HL⟩ := hrel
          have k0 := HL.out.pc.k0
          have k1 := HL.out.pc.k1
          by_cases hlt : j < (flowsAt ns fs false node).length
          · obtain ⟨b, off, z, rfl, _, _, hg, hc0⟩ := HL.out.out.one hlt
            have hm := List.mem_of_getElem? hg
            rw [HFA.out] at hm
            obtain ⟨q, f, rfl, hf, he⟩ := flOf_mem.1 hm
            have hql : q < lf := by have := (List.getElem?_eq_some_iff.1 hf).1; have := HFL.out; omega
            obtain ⟨bf, off2, x, y, ps, _, _, _, rfl, _, _, hgf, hf0, hf1, _, _, _⟩ := HL.out.pc.prs.flows.at hql
            have hxy : y = node := by rw [hf] at hgf; injection hgf with hgf; rw [hgf] at he; simpa [endOf] using he
            have hj1 : (j : Int) < ((flowsAt ns fs false node).length : Int) := by omega
            have hj0 : (0 : Int) ≤ (j : Int) := by omega
            have hq1 : decide ((lf : Int) ≤ (q : Int)) = false := decide_eq_false (by omega)
            have hq1' : decide (lf ≤ q) = false := decide_eq_false (by omega)
            have hq2 : decide ((q : Int) < 0) = false := decide_eq_false (by omega)
            have hq3 : (q : Int) < (lf : Int) := by omega
            have hq4 : (0 : Int) ≤ (q : Int) := by omega
            subst hxy
            have hxx : (y != y) = false := by simp
            by_cases hj2 : j = 0
            · subst hj2
              simp only [Nat.add_zero] at hc0
              clear hg hm hf he hgf
              go_wp2
              go_quiet (fail)
              go_wp2
              go_roundw
              case rel => exact ⟨0 + 1, by omega, by go_num, Lib.hid (HL.out.below (up_drewN (Below.refl _ _) _))⟩
              case measure => simp [intOf]; omega
            · obtain ⟨i, rfl⟩ : ∃ i, j = i + 1 := ⟨j - 1, by omega⟩
              obtain ⟨b', off', z', hAe, _, _, hg', hc0'⟩ := HL.out.out.one (show i < _ by omega)
              injection hAe with hAe; injection hAe with hA1 hA2; subst hA1; subst hA2
              have hlt2 : z' < (q : Int) := by
                have hsrt := flOf_sorted fs false y
                rw [← HFA.out] at hsrt
                obtain ⟨l1, e1⟩ := List.getElem?_eq_some_iff.1 hg'
                obtain ⟨l2, e2⟩ := List.getElem?_eq_some_iff.1 hg
                have := (List.pairwise_iff_getElem.1 hsrt) i (i + 1) l1 l2 (by omega)
                rw [e1, e2] at this
                exact this
              have hlt3 : decide ((q : Int) ≤ z') = false := decide_eq_false (by omega)
              have hi1 : (i : Int) < ((flowsAt ns fs false y).length : Int) := by omega
              have hw1 : IntKind.i64.wrap (((i + 1 : Nat) : Int) - 1) = (i : Int) := by rw [IntWalk.i64_in _ (by omega)]; omega
              have hi2 : decide (((i + 1 : Nat) : Int) > 0) = true := decide_eq_true (by omega)
              have hi2' : decide ((0 : Int) < (i : Int) + 1) = true := decide_eq_true (by omega)
              have hi3 : ((i + 1 : Nat) : Int).toNat = i + 1 := by omega
              have hi4 : ((i : Nat) : Int).toNat = i := by omega
              clear hg hm hf he hgf hg'
              go_wp2
              go_quiet (fail)
              go_wp2
              go_roundw
              case rel => exact ⟨i + 1 + 1, by omega, by go_num, Lib.hid (HL.out.below (up_drewN (Below.refl _ _) _))⟩
              case measure => simp [intOf]; omega
          · obtain rfl : j = (flowsAt ns fs false node).length := by omega
            have hfin : ((flSum fs false k : Int) == (lf : Int)) = true := by simp [HSUM.out]
            go_wp2
            go_ret
            exact ⟨rfl, HL.out.bel⟩
end Go.Proofs.Ythlcbdjjegageaa
