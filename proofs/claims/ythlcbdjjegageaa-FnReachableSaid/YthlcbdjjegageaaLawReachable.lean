/- The law FnReachable, walked: it returns true. -/
import Derived.Test.YthlcbdjjegageaaLawProc
import Derived.Deep.RegionLaw
namespace Go.Proofs.Ythlcbdjjegageaa
open Go.RowKit

set_option maxRecDepth 100000 in
set_option maxHeartbeats 3200000 in
theorem lawReachable_any (n c : Nat) (A : Option Addr) (xs : List Int) (w : World) (hr : Rd w 0 w.heap.size 1 A n (bvs xs)) (hby : Bytes xs) (hc : n ≤ c) (hc2 : c ≤ 9223372036854775807) :
    Calls Try.prog 6 #[.slice A n c] w fun e w' => e = .returned (.bool true) ∧ Below w.heap.size w w' := by
  by_cases hbig : (1048576 : Int) < n
  · go_enter Try.func6, Try.ntmps6
    go_wp2
    go_ret
    exact ⟨rfl, Below.refl _ _⟩
  go_enter Try.func6, Try.ntmps6
  go_wp2_with (fail)
  (with_reducible refine (drawReachable_any n c A xs w hr hby (by omega) hc hc2).mono ?_)
  clear hbig
  rintro e w1 ⟨An, nn, cn, Af, lf, cf, ns, fs, rfl, hP, hb1⟩
  have HC1 := Lib.hid (Pc.new hP)
  have HB1 := Lib.hid (up_alloc hb1 (.cells #[.slice An nn cn, .slice Af lf cf] 26))
  have hn21 := hP.n21
  have hf21 := hP.f21
  clear hP hb1
  go_wp2_with (fail)
  (with_reducible refine (HC1.out.reachI).mono ?_)
  rintro e w2 ⟨A2, c2, rfl, _, hr2, _, hb2⟩
  have HC2 := Lib.hid (HC1.out.below hb2)
  have HB2 := Lib.hid (up HB1.out hb2)
  have k0 := HC2.out.k0
  have k1 := HC2.out.k1
  have HR2 := Lib.hid (hr2.wide (Nat.zero_le _) (Nat.le_refl _))
  have HLEN : Hid ((reachOf ns fs).length ≤ 21) := by
    have := HC2.out.nlen
    rw [Hid, reachOf]
    split
    · have := List.length_filter_le (fun (i : Nat) => rchB fs (startAt ns 0) (i : Int)) (List.range ns.length)
      simp at this ⊢; omega
    · simp
  clear hb2 HC1 HB1 hr2
  go_wp2_with (fail)
  (with_reducible refine (HC2.out.reachS).mono ?_)
  rintro e w3 ⟨A3, c3, rfl, _, hr3, _, hb3⟩
  have HC3 := Lib.hid (HC2.out.below hb3)
  have HB3 := Lib.hid (up HB2.out hb3)
  have HE := Lib.hid (equalInts_any _ _ _ c2 _ _ _ c3 A2 A3 (reachOf ns fs) (reachOf ns fs) w3 (HR2.out.keep hb3 (Nat.le_refl _)) hb3.size (Nat.le_trans HLEN.out (by omega)) hr3 (Nat.le_refl _) (Nat.le_trans HLEN.out (by omega)))
  have HS3 := Lib.hid hb3.size
  have HR3 := Lib.hid (HR2.out.keep hb3 (Nat.le_refl _))
  clear hb3 HC2 HB2 HR2 hr3 k0 k1
  go_wp2_with (fail)
  (with_reducible refine HE.out.mono ?_)
  rintro e w4 ⟨rfl, hb4⟩
  rw [beq_self_eq_true]
  have HL4 := Lib.hid (show Lw w w4 w1.heap.size An nn cn Af lf cf ns fs 0 w2.heap.size A2 (reachOf ns fs).length (reachOf ns fs) from ⟨HC3.out.below hb4, HR3.out.keep hb4 HS3.out, Nat.le_trans HS3.out hb4.size, up HB3.out hb4⟩)
  have k0 := HL4.out.pc.k0
  have k1 := HL4.out.pc.k1
  clear hb4 HC3 HB3 HR3 HS3 HE
  by_cases h0 : (reachOf ns fs).length = 0
  · have h0' : (((reachOf ns fs).length : Int) == 0) = true := by simp [h0]
    clear h0
    go_wp2_with (fail)
    (with_reducible refine (HL4.out.pc.reachS).mono ?_)
    rintro e w5 ⟨A5, c5, rfl, _, hr5, _, hb5⟩
    have HL5 := Lib.hid (HL4.out.below hb5)
    have HE := Lib.hid (equalInts_any _ _ _ c2 _ _ _ c5 A2 A5 (reachOf ns fs) (reachOf ns fs) w5 HL5.out.out HL5.out.hh (Nat.le_trans HLEN.out (by omega)) hr5 (Nat.le_refl _) (Nat.le_trans HLEN.out (by omega)))
    clear hb5 hr5 HL4 k0 k1
    go_wp2_with (fail)
    (with_reducible refine HE.out.mono ?_)
    rintro e w6 ⟨rfl, hb6⟩
    rw [beq_self_eq_true]
    have HB6 := Lib.hid (up HL5.out.bel hb6)
    clear hb6 HL5 HE
    go_wp2
    go_ret
    exact ⟨rfl, HB6.out⟩
  have HV := Lib.hid (reach_valid h0)
  have h0' : (((reachOf ns fs).length : Int) == 0) = false := by simpa using h0
  have hl21 := HLEN.out
  clear h0
  have HNL := Lib.hid HL4.out.pc.nlen
  have HIN := Lib.hid (show ∀ (w' : World) (m : Int), Lw w w' w1.heap.size An nn cn Af lf cf ns fs 0 w2.heap.size A2 (reachOf ns fs).length (reachOf ns fs) → _ from fun w' m h => Lw.isIn h c2 (Nat.le_trans HLEN.out (by omega)) m)
  have HST := Lib.hid (show ∀ (k : Nat) (x y : Int) (ps : List (Int × Int)), fs[k]? = some (x, y, ps) → inL (reachOf ns fs) x = true → inL (reachOf ns fs) y = true from fun k x y ps h1 h2 => reach_step HV.out h1 h2)
  have HSR := Lib.hid (show ∀ (i : Nat) (y : Int), ns[i]? = some (0, y) → inL (reachOf ns fs) (i : Int) = true from fun i y h1 => reach_start HV.out h1)
  generalize reachOf ns fs = R at *
  clear k0 k1
  go_wp2
  go_loopw [5] (fun iv wr => ∃ (k : Nat), k ≤ lf ∧ iv = .int .i64 k ∧ Hid (Lw w wr w1.heap.size An nn cn Af lf cf ns fs 0 w2.heap.size A2 R.length R))
     (fun iv _ => lf - (intOf iv).toNat)
  case atStart => exact ⟨0, by omega, rfl, HL4⟩
  case round =>
    clear HL4
    obtain ⟨k, hk, rfl, HL⟩ := hrel
    have k0 := HL.out.pc.k0
    have k1 := HL.out.pc.k1
    by_cases hlt : k < lf
    · obtain ⟨b, off, x, y, ps, _, _, _, rfl, _, _, hg, hc0, hc1, _, _, _⟩ := HL.out.pc.prs.flows.at hlt
      have hk1 : (k : Int) < (lf : Int) := by omega
      have hk0 : (0 : Int) ≤ (k : Int) := by omega
      have HXY := Lib.hid (HST.out k x y ps hg)
      clear hg
      have HI := Lib.hid (HIN.out wr x HL.out)
      go_wp2_with (fail)
      (with_reducible refine HI.out.mono ?_)
      rintro e w5 ⟨rfl, rfl⟩
      clear HI
      cases hxv : inL R x with
      | false =>
        clear hxv
        go_wp2
        go_roundw
        case rel => exact ⟨k + 1, by omega, by go_num, HL⟩
        case measure => simp [intOf]; omega
      | true =>
        have HY := Lib.hid (HXY.out hxv)
        clear hxv
        have HI := Lib.hid (HIN.out _ y HL.out)
        go_wp2_with (fail)
        (with_reducible refine HI.out.mono ?_)
        rintro e w5 ⟨rfl, rfl⟩
        rw [HY.out]
        clear HI
        go_wp2
        go_roundw
        case rel => exact ⟨k + 1, by omega, by go_num, HL⟩
        case measure => simp [intOf]; omega
    · obtain rfl : k = lf := by omega
      go_wp2
      go_loopw [6] (fun iv ws => ∃ (j : Nat), j ≤ nn ∧ iv = .int .i64 j ∧ Hid (Lw w ws w1.heap.size An nn cn Af k cf ns fs 0 w2.heap.size A2 R.length R))
         (fun iv _ => nn - (intOf iv).toNat)
      case atStart => exact ⟨0, by omega, rfl, HL⟩
      case round =>
        clear HL k0 k1
        obtain ⟨j, hj, rfl, HL⟩ := hrel
        have k0 := HL.out.pc.k0
        have k1 := HL.out.pc.k1
        by_cases hlt : j < nn
        · obtain ⟨b, off, x, y, rfl, _, _, hg, hc0, hc1⟩ := HL.out.pc.prs.nodes.pair hlt
          have hj1 : (j : Int) < (nn : Int) := by omega
          have hj0 : (0 : Int) ≤ (j : Int) := by omega
          by_cases hx : x = 0
          · subst hx
            have HY := Lib.hid (HSR.out j y hg)
            have HI := Lib.hid (HIN.out _ (j : Int) HL.out)
            clear hg
            go_wp2_with (fail)
            (with_reducible refine HI.out.mono ?_)
            rintro e w5 ⟨rfl, rfl⟩
            rw [HY.out]
            clear HI
            go_wp2
            go_roundw
            case rel => exact ⟨j + 1, by omega, by go_num, HL⟩
            case measure => simp [intOf]; omega
          · have hx' : (x == 0) = false := by simpa using hx
            clear hg hx
            go_wp2
            go_roundw
            case rel => exact ⟨j + 1, by omega, by go_num, HL⟩
            case measure => simp [intOf]; omega
        · obtain rfl : j = nn := by omega
          go_wp2
          go_ret
          exact ⟨rfl, HL.out.bel⟩
end Go.Proofs.Ythlcbdjjegageaa
