/- The law FnValidProcessFlows, walked: it returns true. -/
import Derived.Test.YthlcbdjjegageaaLawProc
import Derived.Deep.RegionHeld3
namespace Go.Proofs.Ythlcbdjjegageaa
open Go.RowKit

theorem kindOut_is {ns : List (Int × Int)} {fs : List Flw} (h : vProc ns fs = true) {i : Nat} {x y : Int} (hi : ns[i]? = some (x, y)) : ((((flowsAt ns fs true (i : Int)).length : Nat) : Int) == 0) = (x == 1) := by
  have h1 := (vProc_node h hi).2
  have h2 := vKind_out h1 (by omega)
  rw [flowsAt_yes h, Bool.eq_iff_iff, beq_iff_eq, beq_iff_eq]
  exact h2
theorem kindIn_is {ns : List (Int × Int)} {fs : List Flw} (h : vProc ns fs = true) {i : Nat} {x y : Int} (hi : ns[i]? = some (x, y)) : ((((flowsAt ns fs false (i : Int)).length : Nat) : Int) == 0) = (x == 0) := by
  have h1 := (vProc_node h hi).2
  have h2 := vKind_in h1 (by omega)
  rw [flowsAt_yes h, Bool.eq_iff_iff, beq_iff_eq, beq_iff_eq]
  exact h2

set_option maxRecDepth 100000 in
set_option maxHeartbeats 3200000 in
theorem lawValidProcessFlows_any (n c : Nat) (A : Option Addr) (xs : List Int) (w : World) (hr : Rd w 0 w.heap.size 1 A n (bvs xs)) (hby : Bytes xs) (hc : n ≤ c) (hc2 : c ≤ 9223372036854775807) :
    Calls Try.prog 3 #[.slice A n c] w fun e w' => e = .returned (.bool true) ∧ Below w.heap.size w w' := by
  by_cases hbig : (1048576 : Int) < n
  · go_enter Try.func3, Try.ntmps3
    go_wp2
    go_ret
    exact ⟨rfl, Below.refl _ _⟩
  go_enter Try.func3, Try.ntmps3
  go_wp2_with (fail)
  (with_reducible refine (drawValidProcess_any n c A xs w hr hby (by omega) hc hc2).mono ?_)
  clear hbig
  rintro e w1 ⟨An, nn, cn, Af, lf, cf, ns, fs, rfl, hP, hb1⟩
  have HC1 := Lib.hid (Pc.new hP)
  have HB1 := Lib.hid (up_alloc hb1 (.cells #[.slice An nn cn, .slice Af lf cf] 26))
  have hn21 := hP.n21
  have hf21 := hP.f21
  clear hP hb1
  generalize hV : vProc ns fs = V
  have HV := Lib.hid hV
  clear hV
  go_wp2_with (fail)
  (with_reducible refine (HC1.out.validI).mono ?_)
  rintro e w2 ⟨rfl, hb2⟩
  rw [HV.out]
  have HC2 := Lib.hid (HC1.out.below hb2)
  have HB2 := Lib.hid (up HB1.out hb2)
  have k0 := HC2.out.k0
  have k1 := HC2.out.k1
  clear hb2 HC1 HB1
  cases V with
  | false =>
    go_wp2_with (fail)
    (with_reducible refine (HC2.out.validS).mono ?_)
    rintro e w3 ⟨rfl, hb3⟩
    rw [HV.out]
    have HC3 := Lib.hid (HC2.out.below hb3)
    have HB3 := Lib.hid (up HB2.out hb3)
    clear k0 k1
    have k0 := HC3.out.k0
    have k1 := HC3.out.k1
    clear hb3 HC2 HB2
    go_wp2_with (fail)
    (with_reducible refine (HC3.out.validS).mono ?_)
    rintro e w4 ⟨rfl, hb4⟩
    rw [HV.out]
    have HB4 := Lib.hid (up HB3.out hb4)
    clear hb4 HC3 HB3 k0 k1
    go_wp2
    go_ret
    exact ⟨rfl, HB4.out⟩
  | true =>
    go_wp2_with (fail)
    (with_reducible refine (HC2.out.validS).mono ?_)
    rintro e w3 ⟨rfl, hb3⟩
    rw [HV.out]
    have HC3 := Lib.hid (HC2.out.below hb3)
    have HB3 := Lib.hid (up HB2.out hb3)
    clear k0 k1 hb3 HC2 HB2
    go_wp2
    go_loopw [5] (fun iv wr => ∃ (i : Nat), i ≤ nn ∧ iv = .int .i64 i ∧ Hid (Pc wr w1.heap.size An nn cn Af lf cf ns fs ∧ Below w.heap.size w wr))
       (fun iv _ => nn - (intOf iv).toNat)
    case atStart => exact ⟨0, by omega, rfl, ⟨HC3.out, HB3.out⟩⟩
    case round =>
      clear HC3 HB3
      obtain ⟨i, hi, rfl, HL⟩ := hrel
      have HP := Lib.hid HL.out.1
      have HB := Lib.hid HL.out.2
      have k0 := HP.out.k0
      have k1 := HP.out.k1
      clear HL
      by_cases hlt : i < nn
      · obtain ⟨b, off, x, y, rfl, hbg, _, hg, hc0, hc1⟩ := HP.out.prs.nodes.pair hlt
        have HO := Lib.hid (kindOut_is HV.out hg)
        have HI := Lib.hid (kindIn_is HV.out hg)
        have hi1 : (i : Int) < (nn : Int) := by omega
        have hi0 : (0 : Int) ≤ (i : Int) := by omega
        have hi64 : in64 (i : Int) := by unfold in64; omega
        have hgl := HP.out.lt
        clear hg hc1
        have HC := Lib.hid (HP.out.drew.outI (i : Int) hi64)
        rcases (show x = 0 ∨ x = 1 ∨ (x ≠ 0 ∧ x ≠ 1) by omega) with rfl | rfl | ⟨hx0, hx1⟩
        · have x0 : ((0 : Int) == 0) = true := rfl
          have x1 : ((0 : Int) == 1) = false := rfl
          rw [x1] at HO
          rw [x0] at HI
          go_wp2
          go_region_held3 (fun w' => w'.cell? ⟨w1.heap.size, 0, none⟩ = some (.slice (some ⟨b, off, none⟩) nn cn) ∧ w'.cell? ⟨w1.heap.size, 1, none⟩ = some (.slice Af lf cf) ∧ w'.cell? ⟨b, off + i * 2, none⟩ = some (.int .i64 0))
            (first
              | exact ⟨k0, k1, hc0⟩
              | exact ⟨hk5.1, hk5.2.1, hk5.2.2⟩
              | exact ⟨hk6.1, hk6.2.1, hk6.2.2⟩)
            (first
              | (go_at_call 18; refine HC.out.mono ?_; rintro e w5 ⟨A5, c5, rfl, _, _, _, hb5⟩; have ho5 := HO.out; generalize (flowsAt ns fs true (i : Int)).length = m5 at *; have hk5 := And.intro ((hb5.cell (p := ⟨w1.heap.size, 0, none⟩) hgl).trans k0) (And.intro ((hb5.cell (p := ⟨w1.heap.size, 1, none⟩) hgl).trans k1) ((hb5.cell (p := ⟨b, off + i * 2, none⟩) (Nat.lt_trans hbg hgl)).trans hc0)); have HP5 := Lib.hid (HP.out.drew.below hb5); have hgl5 := HP5.out.lt; have HB5 := Lib.hid (up (up_drew HB.out) hb5); clear hb5)
              | (go_at_call 19; refine (HP5.out.inI (i : Int) hi64).mono ?_; rintro e w6 ⟨A6, c6, rfl, _, _, _, hb6⟩; have ho6 := HI.out; generalize (flowsAt ns fs false (i : Int)).length = m6 at *; have hk6 := And.intro ((hb6.cell (p := ⟨w1.heap.size, 0, none⟩) hgl5).trans hk5.1) (And.intro ((hb6.cell (p := ⟨w1.heap.size, 1, none⟩) hgl5).trans hk5.2.1) ((hb6.cell (p := ⟨b, off + i * 2, none⟩) (Nat.lt_trans hbg hgl5)).trans hk5.2.2)); have HP6 := Lib.hid (HP5.out.below hb6); have HB6 := Lib.hid (up HB5.out hb6); clear hb6))
          all_goals
            go_wp2
            go_roundw
            case rel => exact ⟨i + 1, by omega, by go_num, ⟨HP6.out, HB6.out⟩⟩
            case measure => simp [intOf]; omega
        · have x0 : ((1 : Int) == 0) = false := rfl
          have x1 : ((1 : Int) == 1) = true := rfl
          rw [x1] at HO
          rw [x0] at HI
          go_wp2
          go_region_held3 (fun w' => w'.cell? ⟨w1.heap.size, 0, none⟩ = some (.slice (some ⟨b, off, none⟩) nn cn) ∧ w'.cell? ⟨w1.heap.size, 1, none⟩ = some (.slice Af lf cf) ∧ w'.cell? ⟨b, off + i * 2, none⟩ = some (.int .i64 1))
            (first
              | exact ⟨k0, k1, hc0⟩
              | exact ⟨hk5.1, hk5.2.1, hk5.2.2⟩
              | exact ⟨hk6.1, hk6.2.1, hk6.2.2⟩)
            (first
              | (go_at_call 18; refine HC.out.mono ?_; rintro e w5 ⟨A5, c5, rfl, _, _, _, hb5⟩; have ho5 := HO.out; generalize (flowsAt ns fs true (i : Int)).length = m5 at *; have hk5 := And.intro ((hb5.cell (p := ⟨w1.heap.size, 0, none⟩) hgl).trans k0) (And.intro ((hb5.cell (p := ⟨w1.heap.size, 1, none⟩) hgl).trans k1) ((hb5.cell (p := ⟨b, off + i * 2, none⟩) (Nat.lt_trans hbg hgl)).trans hc0)); have HP5 := Lib.hid (HP.out.drew.below hb5); have hgl5 := HP5.out.lt; have HB5 := Lib.hid (up (up_drew HB.out) hb5); clear hb5)
              | (go_at_call 19; refine (HP5.out.inI (i : Int) hi64).mono ?_; rintro e w6 ⟨A6, c6, rfl, _, _, _, hb6⟩; have ho6 := HI.out; generalize (flowsAt ns fs false (i : Int)).length = m6 at *; have hk6 := And.intro ((hb6.cell (p := ⟨w1.heap.size, 0, none⟩) hgl5).trans hk5.1) (And.intro ((hb6.cell (p := ⟨w1.heap.size, 1, none⟩) hgl5).trans hk5.2.1) ((hb6.cell (p := ⟨b, off + i * 2, none⟩) (Nat.lt_trans hbg hgl5)).trans hk5.2.2)); have HP6 := Lib.hid (HP5.out.below hb6); have HB6 := Lib.hid (up HB5.out hb6); clear hb6))
          all_goals
            go_wp2
            go_roundw
            case rel => exact ⟨i + 1, by omega, by go_num, ⟨HP6.out, HB6.out⟩⟩
            case measure => simp [intOf]; omega
        · have x0 : (x == 0) = false := by simpa using hx0
          have x1 : (x == 1) = false := by simpa using hx1
          clear hx0 hx1
          rw [x1] at HO
          rw [x0] at HI
          go_wp2
          go_region_held3 (fun w' => w'.cell? ⟨w1.heap.size, 0, none⟩ = some (.slice (some ⟨b, off, none⟩) nn cn) ∧ w'.cell? ⟨w1.heap.size, 1, none⟩ = some (.slice Af lf cf) ∧ w'.cell? ⟨b, off + i * 2, none⟩ = some (.int .i64 x))
            (first
              | exact ⟨k0, k1, hc0⟩
              | exact ⟨hk5.1, hk5.2.1, hk5.2.2⟩
              | exact ⟨hk6.1, hk6.2.1, hk6.2.2⟩)
            (first
              | (go_at_call 18; refine HC.out.mono ?_; rintro e w5 ⟨A5, c5, rfl, _, _, _, hb5⟩; have ho5 := HO.out; generalize (flowsAt ns fs true (i : Int)).length = m5 at *; have hk5 := And.intro ((hb5.cell (p := ⟨w1.heap.size, 0, none⟩) hgl).trans k0) (And.intro ((hb5.cell (p := ⟨w1.heap.size, 1, none⟩) hgl).trans k1) ((hb5.cell (p := ⟨b, off + i * 2, none⟩) (Nat.lt_trans hbg hgl)).trans hc0)); have HP5 := Lib.hid (HP.out.drew.below hb5); have hgl5 := HP5.out.lt; have HB5 := Lib.hid (up (up_drew HB.out) hb5); clear hb5)
              | (go_at_call 19; refine (HP5.out.inI (i : Int) hi64).mono ?_; rintro e w6 ⟨A6, c6, rfl, _, _, _, hb6⟩; have ho6 := HI.out; generalize (flowsAt ns fs false (i : Int)).length = m6 at *; have hk6 := And.intro ((hb6.cell (p := ⟨w1.heap.size, 0, none⟩) hgl5).trans hk5.1) (And.intro ((hb6.cell (p := ⟨w1.heap.size, 1, none⟩) hgl5).trans hk5.2.1) ((hb6.cell (p := ⟨b, off + i * 2, none⟩) (Nat.lt_trans hbg hgl5)).trans hk5.2.2)); have HP6 := Lib.hid (HP5.out.below hb6); have HB6 := Lib.hid (up HB5.out hb6); clear hb6))
          all_goals
            go_wp2
            go_roundw
            case rel => exact ⟨i + 1, by omega, by go_num, ⟨HP6.out, HB6.out⟩⟩
            case measure => simp [intOf]; omega
      · obtain rfl : i = nn := by omega
        go_wp2_with (fail)
        (with_reducible refine (line_any _).mono ?_)
        rintro e w4 ⟨LA, lc, LF, lc2, rfl, hL, hb4⟩
        have HB4 := Lib.hid (up HB.out hb4)
        clear hb4 HB HP k0 k1
        go_wp2_with (fail)
        (with_reducible refine (hL.validI (Nat.le_refl _)).mono ?_)
        rintro e w5 ⟨rfl, hb5⟩
        rw [line_valid]
        have HB5 := Lib.hid (up HB4.out hb5)
        clear hb5 HB4 hL
        go_wp2
        go_ret
        exact ⟨rfl, HB5.out⟩
end Go.Proofs.Ythlcbdjjegageaa
