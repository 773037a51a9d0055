/- The law FnFlowsOutIn, walked: it returns true. -/
import Derived.Test.YthlcbdjjegageaaLawProc
import Derived.Test.YthlcbdjjegageaaDrawP12
import Derived.Deep.RegionHeld3
namespace Go.Proofs.Ythlcbdjjegageaa
open Go.RowKit

theorem isEnd {ns : List (Int × Int)} {fs : List Flw} (h : vProc ns fs = true) {i : Nat} {f : Flw} (hi : fs[i]? = some f) (d : Bool) (k : Int) : inL (flowsAt ns fs d k) (i : Int) = (endOf d f == k) := by
  rw [flowsAt_yes h, Bool.eq_iff_iff, inL, List.contains_iff_mem, flOf_mem, beq_iff_eq]
  constructor
  · rintro ⟨q, g, e, hg, he⟩
    have : q = i := by omega
    subst this
    rw [hi] at hg
    injection hg with hg
    rw [hg]; exact he
  · intro he
    exact ⟨i, f, rfl, hi, he⟩

set_option maxRecDepth 100000 in
set_option maxHeartbeats 3200000 in
theorem lawFlowsOutIn_any (n c : Nat) (A : Option Addr) (xs : List Int) (w : World) (hr : Rd w 0 w.heap.size 1 A n (bvs xs)) (hby : Bytes xs) (hc : n ≤ c) (hc2 : c ≤ 9223372036854775807) :
    Calls Try.prog 8 #[.slice A n c] w fun e w' => e = .returned (.bool true) ∧ Below w.heap.size w w' := by
  by_cases hbig : (1048576 : Int) < n
  · go_enter Try.func8, Try.ntmps8
    go_wp2
    go_ret
    exact ⟨rfl, Below.refl _ _⟩
  go_enter Try.func8, Try.ntmps8
  go_wp2_with (fail)
  (with_reducible refine (drawFlowsOut_any n c A xs w hr hby (by omega) hc hc2).mono ?_)
  clear hbig
  rintro e w1 ⟨An, nn, cn, Af, lf, cf, ns, fs, node, rfl, hz0, hz1, hP0, hb1⟩
  have hP := hP0.wide (Nat.zero_le _) (Nat.le_refl _)
  have HC1 := Lib.hid (Pc.new hP)
  have HB1 := Lib.hid (up_alloc hb1 (.cells #[.slice An nn cn, .slice Af lf cf] 26))
  have hn21 := hP.n21
  have hf21 := hP.f21
  have h64 : in64 node := by unfold in64; omega
  clear hP hP0 hb1
  go_wp2_with (fail)
  (with_reducible refine (HC1.out.outI node h64).mono ?_)
  rintro e w2 ⟨A2, c2, rfl, _, hr2, _, hb2⟩
  have HC2 := Lib.hid (HC1.out.below hb2)
  have HB2 := Lib.hid (up HB1.out hb2)
  have k0 := HC2.out.k0
  have k1 := HC2.out.k1
  have HR2 := Lib.hid (hr2.wide (Nat.zero_le _) (Nat.le_refl _))
  have HLEN : Hid ((flowsAt ns fs true node).length ≤ 21) := by
    have := HC2.out.flen
    rw [Hid, flowsAt]
    split
    · have := flUp_le fs true node fs.length
      rw [flOf]; omega
    · simp
  clear hb2 HC1 HB1 hr2
  go_wp2_with (fail)
  (with_reducible refine (HC2.out.outS node).mono ?_)
  rintro e w3 ⟨A3, c3, rfl, _, hr3, _, hb3⟩
  have HC3 := Lib.hid (HC2.out.below hb3)
  have HB3 := Lib.hid (up HB2.out hb3)
  have HE := Lib.hid (equalInts_any _ _ _ c2 _ _ _ c3 A2 A3 (flowsAt ns fs true node) (flowsAt ns fs true node) w3 (HR2.out.keep hb3 (Nat.le_refl _)) hb3.size (Nat.le_trans HLEN.out (by omega)) hr3 (Nat.le_refl _) (Nat.le_trans HLEN.out (by omega)))
  have HS3 := Lib.hid hb3.size
  have HR3 := Lib.hid (HR2.out.keep hb3 (Nat.le_refl _))
  clear hb3 HC2 HB2 HR2 hr3 k0 k1
  go_wp2_with (fail)
  (with_reducible refine HE.out.mono ?_)
  rintro e w4 ⟨rfl, hb4⟩
  rw [beq_self_eq_true]
  have HL4 := Lib.hid (show Lw w w4 w1.heap.size An nn cn Af lf cf ns fs 0 w2.heap.size A2 (flowsAt ns fs true node).length (flowsAt ns fs true node) from ⟨HC3.out.below hb4, HR3.out.keep hb4 HS3.out, Nat.le_trans HS3.out hb4.size, up HB3.out hb4⟩)
  have k0 := HL4.out.pc.k0
  have k1 := HL4.out.pc.k1
  clear hb4 HC3 HB3 HR3 HS3 HE
  generalize hV : vProc ns fs = V
  have HV := Lib.hid hV
  clear hV
  go_wp2_with (fail)
  (with_reducible refine (HL4.out.pc.validI).mono ?_)
  rintro e w5 ⟨rfl, hb5⟩
  rw [HV.out]
  have HL5 := Lib.hid (HL4.out.below hb5)
  have k0 := HL5.out.pc.k0
  have k1 := HL5.out.pc.k1
  clear hb5 HL4
  cases V with
  | false =>
    go_wp2_with (fail)
    (with_reducible refine (HL5.out.pc.outS node).mono ?_)
    rintro e w6 ⟨A6, c6, rfl, _, hr6, _, hb6⟩
    have HL6 := Lib.hid (HL5.out.below hb6)
    have HE := Lib.hid (equalInts_any _ _ _ c2 _ _ _ c6 A2 A6 (flowsAt ns fs true node) (flowsAt ns fs true node) w6 HL6.out.out HL6.out.hh (Nat.le_trans HLEN.out (by omega)) hr6 (Nat.le_refl _) (Nat.le_trans HLEN.out (by omega)))
    clear hb6 hr6 HL5 k0 k1
    go_wp2_with (fail)
    (with_reducible refine HE.out.mono ?_)
    rintro e w7 ⟨rfl, hb7⟩
    rw [beq_self_eq_true]
    have HB7 := Lib.hid (up HL6.out.bel hb7)
    clear hb7 HL6 HE
    go_wp2
    go_ret
    exact ⟨rfl, HB7.out⟩
  | true =>
    have hl21 := HLEN.out
    have HNL := Lib.hid HL5.out.pc.nlen
    have HFL := Lib.hid HL5.out.pc.flen
    have hl21' := hl21
    have HAL := Lib.hid (show ∀ (d : Bool) (k : Int), (flowsAt ns fs d k).length ≤ 1048576 from fun d k => by
      rw [flowsAt_yes HV.out]
      have := flUp_le fs d k fs.length
      have := HFL.out
      rw [flOf]; omega)
    have HL5' := Lib.hid (show Pc w5 w1.heap.size An nn cn Af lf cf ns fs ∧ Below w.heap.size w w5 from ⟨HL5.out.pc, HL5.out.bel⟩)
    clear k0 k1 HL5
    go_wp2
    go_loopw [6] (fun iv wr => ∃ (i : Nat), i ≤ lf ∧ iv = .int .i64 i ∧ Hid (Pc wr w1.heap.size An nn cn Af lf cf ns fs ∧ Below w.heap.size w wr))
       (fun iv _ => lf - (intOf iv).toNat)
    case atStart => exact ⟨0, by omega, rfl, HL5'⟩
    case round =>
      clear HL5'
      obtain ⟨i, hi, rfl, HL⟩ := hrel
      have k0 := HL.out.1.k0
      have k1 := HL.out.1.k1
      by_cases hlt : i < lf
      · obtain ⟨bf, off, x, y, ps, _, _, _, rfl, hbg, _, hg, _, _, _, _, _⟩ := HL.out.1.prs.flows.at hlt
        have HG := Lib.hid hg
        have hi1 : (i : Int) < (lf : Int) := by omega
        have hi0 : (0 : Int) ≤ (i : Int) := by omega
        clear hg
        go_wp2
        go_loopw [7] (fun kv ws => ∃ (k : Nat), k ≤ nn ∧ kv = .int .i64 k ∧ Hid (Pc ws w1.heap.size An nn cn (some ⟨bf, off, none⟩) lf cf ns fs ∧ Below w.heap.size w ws))
           (fun kv _ => nn - (intOf kv).toNat)
        case atStart => exact ⟨0, by omega, rfl, HL⟩
        case round =>
          clear HL k0 k1
          obtain ⟨k, hk, rfl, HL⟩ := hrel
          have HP := Lib.hid HL.out.1
          have HB := Lib.hid HL.out.2
          have k0 := HP.out.k0
          have k1 := HP.out.k1
          clear HL
          by_cases hltk : k < nn
          · obtain ⟨bf2, off2, x2, y2, ps2, _, _, _, hAe, _, _, hg, hc0, hc1, _, _, _⟩ := HP.out.prs.flows.at hlt
            injection hAe with hAe; injection hAe with hA1 hA2; subst hA1; subst hA2
            have HO := Lib.hid (isEnd HV.out hg true (k : Int))
            have HI := Lib.hid (isEnd HV.out hg false (k : Int))
            simp only [endOf, if_true, Bool.false_eq_true, if_false] at HO HI
            clear hg
            have hk1 : (k : Int) < (nn : Int) := by omega
            have hk64 : in64 (k : Int) := by unfold in64; omega
            have hgl := HP.out.lt
            have HC := Lib.hid (HP.out.drew.outI (k : Int) hk64)
            have hx0 : ((x2 == (k : Int)) != (x2 == (k : Int))) = false := by simp
            have hy0 : ((y2 == (k : Int)) != (y2 == (k : Int))) = false := by simp
            go_wp2
            go_region_held3 (fun w' => w'.cell? ⟨w1.heap.size, 0, none⟩ = some (.slice An nn cn) ∧ w'.cell? ⟨w1.heap.size, 1, none⟩ = some (.slice (some ⟨bf, off, none⟩) lf cf) ∧ w'.cell? ⟨bf, off + i * 3, none⟩ = some (.int .i64 x2) ∧ w'.cell? ⟨bf, off + i * 3 + 1, none⟩ = some (.int .i64 y2))
              (first
                | exact ⟨k0, k1, hc0, hc1⟩
                | exact ⟨hk5.1, hk5.2.1, hk5.2.2.1, hk5.2.2.2⟩
                | exact ⟨hk6.1, hk6.2.1, hk6.2.2.1, hk6.2.2.2⟩)
              (first
                | (go_at_call 18; (with_reducible refine HC.out.mono ?_); rintro e w6 ⟨A6, c6, rfl, _, hr6, _, hb6⟩; have hk5 := And.intro ((hb6.cell (p := ⟨w1.heap.size, 0, none⟩) hgl).trans k0) (And.intro ((hb6.cell (p := ⟨w1.heap.size, 1, none⟩) hgl).trans k1) (And.intro ((hb6.cell (p := ⟨bf, off + i * 3, none⟩) (Nat.lt_trans hbg hgl)).trans hc0) ((hb6.cell (p := ⟨bf, off + i * 3 + 1, none⟩) (Nat.lt_trans hbg hgl)).trans hc1))); have HP5 := Lib.hid (HP.out.drew.below hb6); have hgl5 := HP5.out.lt; have HB5 := Lib.hid (up (up_drew HB.out) hb6); have HN5 := Lib.hid (isIn_any _ _ _ c6 A6 (flowsAt ns fs true (k : Int)) (i : Int) w6 hr6 (HAL.out true _)); clear hb6 hr6)
                | (go_at_call 29; (with_reducible refine HN5.out.mono ?_); rintro e w8 ⟨rfl, rfl⟩; rw [HO.out])
                | (go_at_call 19; (with_reducible refine (HP5.out.inI (k : Int) hk64).mono ?_); rintro e w7 ⟨A7, c7, rfl, _, hr7, _, hb7⟩; have hk6 := And.intro ((hb7.cell (p := ⟨w1.heap.size, 0, none⟩) hgl5).trans hk5.1) (And.intro ((hb7.cell (p := ⟨w1.heap.size, 1, none⟩) hgl5).trans hk5.2.1) (And.intro ((hb7.cell (p := ⟨bf, off + i * 3, none⟩) (Nat.lt_trans hbg hgl5)).trans hk5.2.2.1) ((hb7.cell (p := ⟨bf, off + i * 3 + 1, none⟩) (Nat.lt_trans hbg hgl5)).trans hk5.2.2.2))); have HP7 := Lib.hid (HP5.out.below hb7); have HB7 := Lib.hid (up HB5.out hb7); have HN7 := Lib.hid (isIn_any _ _ _ c7 A7 (flowsAt ns fs false (k : Int)) (i : Int) w7 hr7 (HAL.out false _)); clear hb7 hr7)
                | (go_at_call 29; (with_reducible refine HN7.out.mono ?_); rintro e w8 ⟨rfl, rfl⟩; rw [HI.out]))
            all_goals
              go_wp2
              go_roundw
              case rel => exact ⟨k + 1, by omega, by go_num, ⟨HP7.out, HB7.out⟩⟩
              case measure => simp [intOf]; omega
          · obtain rfl : k = nn := by omega
            go_wp2
            go_roundw
            case rel => exact ⟨i + 1, by omega, by go_num, ⟨HP.out, HB.out⟩⟩
            case measure => simp [intOf]; omega
      · obtain rfl : i = lf := by omega
        go_wp2
        go_ret
        exact ⟨rfl, HL.out.2⟩
end Go.Proofs.Ythlcbdjjegageaa
