/- Merged: DrawP7, DrawP8. -/
import Derived.Test.YtmhbfdcikdhehaaDrawPC
import Derived.Deep.RegionLaw
/- The drawing of processes: one that can go back. -/
set_option linter.unusedSimpArgs false
set_option linter.unusedVariables false
namespace Go.Proofs.Ytmhbfdcikdhehaa
open Go.RowKit

set_option maxRecDepth 100000 in
set_option maxHeartbeats 6400000 in
theorem loop_any (Bad : Nat → Prop) (r : Nat) (A : Option Addr) (n c : Nat) (xs : List Int) (p : Int) (w : World)
    (hR : Rdr w r A n c xs p) (hp : p ≤ 800000) (hrb : Bad r) (hbad : ∀ b, Bad b → b < w.heap.size) :
    Calls Try.prog 88 #[.pointer (some ⟨r, 0, none⟩)] w (Drawn Bad r A n c xs p 500 w) := by
  have hp0 := hR.2.2.2.2
  have HF := Lib.hid (first_any Bad r A n c xs p 0 0 w hR hrb hbad)
  clear hR hbad
  go_enter Try.func88, Try.ntmps88
  go_wp2_with (fail)
  (with_reducible refine HF.out.mono ?_)
  rintro e w1 ⟨An1, cn1, Af1, cf1, ns1, fs1, rfl, hlt, hA⟩
  have HA1 := Lib.hid hA
  clear hA HF
  go_wp2_with (fail)
  (with_reducible refine (HA1.out.add _ _ (by omega)).mono ?_)
  rintro e w4 ⟨v4, k4, rfl, An4, cn4, Af4, cf4, ns4, fs4, p4, rfl, hp4, hO, hN, hP, e1, e2⟩
  have k0 := hO.k0
  have k1 := hO.k1
  have f0 := hO.f0
  have f1 := hO.f1
  have HA4 := Lib.hid hN
  clear HA1 hN hO hP e1 e2
  go_wp2_with (fail)
  clear k0 k1 f0 f1
  (with_reducible refine (HA4.out.link _ _ (by omega)).mono ?_)
  rintro e w5 ⟨v5, rfl, An5, cn5, Af5, cf5, ns5, fs5, p5, rfl, hp5, hO, hN, hP, e1, e2⟩
  have k0 := hO.k0
  have k1 := hO.k1
  have f0 := hO.f0
  have f1 := hO.f1
  have HA5 := Lib.hid hN
  clear HA4 hN hO hP e1 e2
  go_wp2_with (fail)
  clear k0 k1 f0 f1
  (with_reducible refine (pick_any r A n c xs p5 4 _ HA5.out.rdr (by omega) (by omega)).mono ?_)
  rintro e w6 ⟨v, rfl, _, _, _, hR1, hG1⟩
  have HA6 := Lib.hid (HA5.out.moved hG1 hR1)
  clear HA5 hG1 hR1
  have k0 := HA6.out.k0
  have k1 := HA6.out.k1
  have f0 := HA6.out.f0
  have f1 := HA6.out.f1
  by_cases g1 : v > 0
  · have g2 : decide (v > 0) = true := by simpa using g1
    go_wp2_with (fail)
    clear k0 k1 f0 f1
    (with_reducible refine (HA6.out.step _ 0 0 0 _ _ [] (by omega) (by omega) (by omega) (nothing _ _) (fun b _ => .inr (by omega)) (by omega) (by omega)).mono ?_)
    rintro e w7 ⟨v7, k7, rfl, An7, cn7, Af7, cf7, ns7, fs7, p7, rfl, hp7, hO, hN, hP, e1, e2⟩
    have k0 := hO.k0
    have k1 := hO.k1
    have f0 := hO.f0
    have f1 := hO.f1
    have HA7 := Lib.hid hN
    clear HA6 hN hO hP e1 e2
    go_wp2_with (fail)
    clear k0 k1 f0 f1
    (with_reducible refine (HA7.out.add _ _ (by omega)).mono ?_)
    rintro e w8 ⟨v8, k8, rfl, An8, cn8, Af8, cf8, ns8, fs8, p8, rfl, hp8, hO, hN, hP, e1, e2⟩
    have k0 := hO.k0
    have k1 := hO.k1
    have f0 := hO.f0
    have f1 := hO.f1
    have HA8 := Lib.hid hN
    clear HA7 hN hO hP e1 e2
    go_wp2_with (fail)
    clear k0 k1 f0 f1
    (with_reducible refine (HA8.out.link _ _ (by omega)).mono ?_)
    rintro e w9 ⟨v9, rfl, An9, cn9, Af9, cf9, ns9, fs9, p9, rfl, hp9, hO, hN, hP, e1, e2⟩
    have k0 := hO.k0
    have k1 := hO.k1
    have f0 := hO.f0
    have f1 := hO.f1
    have HA9 := Lib.hid hN
    clear HA8 hN hO hP e1 e2
    have HA9d := Lib.hid (HA9.out.drew)
    have HC9 := Lib.hid (randomCondition_any r A n c xs _ _ HA9d.out.rdr (by omega))
    go_wp2
    go_region_law (first
      | (go_simp; go_at_call 90; (with_reducible refine HC9.out.mono ?_); rintro e x10 ⟨Aw10, nw10, cw10, ps10, pp10, rfl, _, _, _, hnw10, hrow10, hRr10, hpp10, hGr10⟩; have HB10 := Lib.hid (HA9d.out.moved hGr10 hRr10); have j0 := HB10.out.k0; have j1 := HB10.out.k1; have HW10 := Lib.hid (Rd.of_own hrow10); clear hrow10 hRr10 hGr10)
      | (go_simp; go_at_call 60; (with_reducible refine (HB10.out.linkW _ _ _ _ _ _ _ _ (by omega) HW10.out (fun b hb => .inl (HA9d.out.bad b hb)) (Nat.le_refl _) (by omega) (HA9d.out.off _)).mono ?_); rintro e w10 ⟨v10, rfl, An10, cn10, Af10, cf10, ns10, fs10, p10, rfl, hp10, hO, hN, hP, e1, e2⟩; have i0 := hO.k0; have i1 := hO.k1; have f0 := hO.f0; have f1 := hO.f1; have HA10 := Lib.hid hN; clear hN hO hP e1 e2))
    all_goals
      clear HA9 HA9d HC9 HW10 HB10 k0 k1 j0 j1
      go_wp2_with (fail)
      clear i0 i1 f0 f1
      (with_reducible refine (HA10.out.add _ _ (by omega)).mono ?_)
      rintro e w11 ⟨v11, k11, rfl, An11, cn11, Af11, cf11, ns11, fs11, p11, rfl, hp11, hO, hN, hP, e1, e2⟩
      have k0 := hO.k0
      have k1 := hO.k1
      have f0 := hO.f0
      have f1 := hO.f1
      have HA11 := Lib.hid hN
      clear HA10 hN hO hP e1 e2
      go_wp2_with (fail)
      clear k0 k1 f0 f1
      (with_reducible refine (pick_any r A n c xs p11 5 _ HA11.out.rdr (by omega) (by omega)).mono ?_)
      rintro e w12 ⟨u, rfl, _, _, _, hR1, hG1⟩
      have HA12 := Lib.hid (HA11.out.moved hG1 hR1)
      clear HA11 hG1 hR1
      have k0 := HA12.out.k0
      have k1 := HA12.out.k1
      by_cases g2 : u = 0
      · subst g2
        have HA12d := Lib.hid (HA12.out.drew)
        have HC12 := Lib.hid (randomCondition_any r A n c xs _ _ HA12d.out.rdr (by omega))
        go_wp2
        go_region_law (first
          | (go_simp; go_at_call 90; (with_reducible refine HC12.out.mono ?_); rintro e x13 ⟨Aw13, nw13, cw13, ps13, pp13, rfl, _, _, _, hnw13, hrow13, hRr13, hpp13, hGr13⟩; have HB13 := Lib.hid (HA12d.out.moved hGr13 hRr13); have j0 := HB13.out.k0; have j1 := HB13.out.k1; have HW13 := Lib.hid (Rd.of_own hrow13); clear hrow13 hRr13 hGr13)
          | (go_simp; go_at_call 60; (with_reducible refine (HB13.out.linkW _ _ _ _ _ _ _ _ (by omega) HW13.out (fun b hb => .inl (HA12d.out.bad b hb)) (Nat.le_refl _) (by omega) (HA12d.out.off _)).mono ?_); rintro e w13 ⟨v13, rfl, An13, cn13, Af13, cf13, ns13, fs13, p13, rfl, hp13, hO, hN, hP, e1, e2⟩; have r0 := hO.r0; have r1 := hO.r1; have q0 := hO.q0; have q1 := hO.q1; obtain ⟨b0, b1, HD⟩ := hO.done hP (fun b (hb : Bad b) => Or.inl hb); have E1 := Lib.hid e1; have E2 := Lib.hid e2; have HA13 := Lib.hid hN; clear hN hO hP e1 e2))
        all_goals
          go_wp2
          refine bodyPost_ret (v := .agg #[.slice An13 5 cn13, .slice Af13 5 cf13]) (by simp [results, Try.results88, go_sem, b0, b1]) rfl ?_
          obtain ⟨hd1, hd2, hd3⟩ := HD.out
          exact ⟨An13, 5, cn13, Af13, 5, cf13, ns13, fs13, p13, rfl, E1.out, E2.out, by omega, by omega, by omega, by omega, hd1, hd2, by omega, hd3⟩
      · have g2' : (u == 0) = false := by simpa using g2
        clear g2
        go_wp2_with (fail)
        (with_reducible refine (HA12.out.link _ _ (by omega)).mono ?_)
        rintro e w13 ⟨v13, rfl, An13, cn13, Af13, cf13, ns13, fs13, p13, rfl, hp13, hO, hN, hP, e1, e2⟩
        clear k0 k1 hN
        have r0 := hO.r0
        have r1 := hO.r1
        have q0 := hO.q0
        have q1 := hO.q1
        obtain ⟨b0, b1, HD⟩ := hO.done hP (fun b (hb : Bad b) => Or.inl hb)
        have E1 := Lib.hid e1
        have E2 := Lib.hid e2
        clear hO hP e1 e2 HA12
        go_wp2
        refine bodyPost_ret (v := .agg #[.slice An13 5 cn13, .slice Af13 5 cf13]) (by simp [results, Try.results88, go_sem, b0, b1]) rfl ?_
        obtain ⟨hd1, hd2, hd3⟩ := HD.out
        exact ⟨An13, 5, cn13, Af13, 5, cf13, ns13, fs13, p13, rfl, E1.out, E2.out, by omega, by omega, by omega, by omega, hd1, hd2, by omega, hd3⟩
  · have g2 : decide (v > 0) = false := by simpa using g1
    go_wp2_with (fail)
    clear k0 k1 f0 f1
    (with_reducible refine (HA6.out.add _ _ (by omega)).mono ?_)
    rintro e w8 ⟨v8, k8, rfl, An8, cn8, Af8, cf8, ns8, fs8, p8, rfl, hp8, hO, hN, hP, e1, e2⟩
    have k0 := hO.k0
    have k1 := hO.k1
    have f0 := hO.f0
    have f1 := hO.f1
    have HA8 := Lib.hid hN
    clear HA6 hN hO hP e1 e2
    go_wp2_with (fail)
    clear k0 k1 f0 f1
    (with_reducible refine (HA8.out.link _ _ (by omega)).mono ?_)
    rintro e w9 ⟨v9, rfl, An9, cn9, Af9, cf9, ns9, fs9, p9, rfl, hp9, hO, hN, hP, e1, e2⟩
    have k0 := hO.k0
    have k1 := hO.k1
    have f0 := hO.f0
    have f1 := hO.f1
    have HA9 := Lib.hid hN
    clear HA8 hN hO hP e1 e2
    have HA9d := Lib.hid (HA9.out.drew)
    have HC9 := Lib.hid (randomCondition_any r A n c xs _ _ HA9d.out.rdr (by omega))
    go_wp2
    go_region_law (first
      | (go_simp; go_at_call 90; (with_reducible refine HC9.out.mono ?_); rintro e x10 ⟨Aw10, nw10, cw10, ps10, pp10, rfl, _, _, _, hnw10, hrow10, hRr10, hpp10, hGr10⟩; have HB10 := Lib.hid (HA9d.out.moved hGr10 hRr10); have j0 := HB10.out.k0; have j1 := HB10.out.k1; have HW10 := Lib.hid (Rd.of_own hrow10); clear hrow10 hRr10 hGr10)
      | (go_simp; go_at_call 60; (with_reducible refine (HB10.out.linkW _ _ _ _ _ _ _ _ (by omega) HW10.out (fun b hb => .inl (HA9d.out.bad b hb)) (Nat.le_refl _) (by omega) (HA9d.out.off _)).mono ?_); rintro e w10 ⟨v10, rfl, An10, cn10, Af10, cf10, ns10, fs10, p10, rfl, hp10, hO, hN, hP, e1, e2⟩; have i0 := hO.k0; have i1 := hO.k1; have f0 := hO.f0; have f1 := hO.f1; have HA10 := Lib.hid hN; clear hN hO hP e1 e2))
    all_goals
      clear HA9 HA9d HC9 HW10 HB10 k0 k1 j0 j1
      go_wp2_with (fail)
      clear i0 i1 f0 f1
      (with_reducible refine (HA10.out.add _ _ (by omega)).mono ?_)
      rintro e w11 ⟨v11, k11, rfl, An11, cn11, Af11, cf11, ns11, fs11, p11, rfl, hp11, hO, hN, hP, e1, e2⟩
      have k0 := hO.k0
      have k1 := hO.k1
      have f0 := hO.f0
      have f1 := hO.f1
      have HA11 := Lib.hid hN
      clear HA10 hN hO hP e1 e2
      go_wp2_with (fail)
      clear k0 k1 f0 f1
      (with_reducible refine (pick_any r A n c xs p11 5 _ HA11.out.rdr (by omega) (by omega)).mono ?_)
      rintro e w12 ⟨u, rfl, _, _, _, hR1, hG1⟩
      have HA12 := Lib.hid (HA11.out.moved hG1 hR1)
      clear HA11 hG1 hR1
      have k0 := HA12.out.k0
      have k1 := HA12.out.k1
      by_cases g2 : u = 0
      · subst g2
        have HA12d := Lib.hid (HA12.out.drew)
        have HC12 := Lib.hid (randomCondition_any r A n c xs _ _ HA12d.out.rdr (by omega))
        go_wp2
        go_region_law (first
          | (go_simp; go_at_call 90; (with_reducible refine HC12.out.mono ?_); rintro e x13 ⟨Aw13, nw13, cw13, ps13, pp13, rfl, _, _, _, hnw13, hrow13, hRr13, hpp13, hGr13⟩; have HB13 := Lib.hid (HA12d.out.moved hGr13 hRr13); have j0 := HB13.out.k0; have j1 := HB13.out.k1; have HW13 := Lib.hid (Rd.of_own hrow13); clear hrow13 hRr13 hGr13)
          | (go_simp; go_at_call 60; (with_reducible refine (HB13.out.linkW _ _ _ _ _ _ _ _ (by omega) HW13.out (fun b hb => .inl (HA12d.out.bad b hb)) (Nat.le_refl _) (by omega) (HA12d.out.off _)).mono ?_); rintro e w13 ⟨v13, rfl, An13, cn13, Af13, cf13, ns13, fs13, p13, rfl, hp13, hO, hN, hP, e1, e2⟩; have r0 := hO.r0; have r1 := hO.r1; have q0 := hO.q0; have q1 := hO.q1; obtain ⟨b0, b1, HD⟩ := hO.done hP (fun b (hb : Bad b) => Or.inl hb); have E1 := Lib.hid e1; have E2 := Lib.hid e2; have HA13 := Lib.hid hN; clear hN hO hP e1 e2))
        all_goals
          go_wp2
          refine bodyPost_ret (v := .agg #[.slice An13 4 cn13, .slice Af13 4 cf13]) (by simp [results, Try.results88, go_sem, b0, b1]) rfl ?_
          obtain ⟨hd1, hd2, hd3⟩ := HD.out
          exact ⟨An13, 4, cn13, Af13, 4, cf13, ns13, fs13, p13, rfl, E1.out, E2.out, by omega, by omega, by omega, by omega, hd1, hd2, by omega, hd3⟩
      · have g2' : (u == 0) = false := by simpa using g2
        clear g2
        go_wp2_with (fail)
        (with_reducible refine (HA12.out.link _ _ (by omega)).mono ?_)
        rintro e w13 ⟨v13, rfl, An13, cn13, Af13, cf13, ns13, fs13, p13, rfl, hp13, hO, hN, hP, e1, e2⟩
        clear k0 k1 hN
        have r0 := hO.r0
        have r1 := hO.r1
        have q0 := hO.q0
        have q1 := hO.q1
        obtain ⟨b0, b1, HD⟩ := hO.done hP (fun b (hb : Bad b) => Or.inl hb)
        have E1 := Lib.hid e1
        have E2 := Lib.hid e2
        clear hO hP e1 e2 HA12
        go_wp2
        refine bodyPost_ret (v := .agg #[.slice An13 4 cn13, .slice Af13 4 cf13]) (by simp [results, Try.results88, go_sem, b0, b1]) rfl ?_
        obtain ⟨hd1, hd2, hd3⟩ := HD.out
        exact ⟨An13, 4, cn13, Af13, 4, cf13, ns13, fs13, p13, rfl, E1.out, E2.out, by omega, by omega, by omega, by omega, hd1, hd2, by omega, hd3⟩
end Go.Proofs.Ytmhbfdcikdhehaa


/- The drawing of processes: one with several ends. -/
namespace Go.Proofs.Ytmhbfdcikdhehaa
open Go.RowKit

set_option maxRecDepth 100000 in
set_option maxHeartbeats 6400000 in
theorem ends_any (Bad : Nat → Prop) (r : Nat) (A : Option Addr) (n c : Nat) (xs : List Int) (p : Int) (w : World)
    (hR : Rdr w r A n c xs p) (hp : p ≤ 800000) (hrb : Bad r) (hbad : ∀ b, Bad b → b < w.heap.size) :
    Calls Try.prog 89 #[.pointer (some ⟨r, 0, none⟩)] w (Drawn Bad r A n c xs p 600 w) := by
  have hp0 := hR.2.2.2.2
  have hrw := hR.lt
  have HF := Lib.hid (first_any Bad r A n c xs p 0 0 w hR hrb hbad)
  clear hR hbad
  go_enter Try.func89, Try.ntmps89
  go_wp2_with (fail)
  (with_reducible refine HF.out.mono ?_)
  rintro e w1 ⟨An1, cn1, Af1, cf1, ns1, fs1, rfl, hlt, hA⟩
  have HA1 := Lib.hid hA
  clear hA HF
  have hbl : Blk (((w1.alloc (.cells #[.slice An1 1 cn1, .slice Af1 0 cf1] 26)).alloc (.cells #[.int .i64 5, .int .i64 6] 3)).drew) (w1.heap.size + 1) 3 #[.int .i64 5, .int .i64 6] := by
    have := Blk.new (w1.alloc (.cells #[.slice An1 1 cn1, .slice Af1 0 cf1] 26)) 3 #[.int .i64 5, .int .i64 6]
    have e : (w1.alloc (.cells #[.slice An1 1 cn1, .slice Af1 0 cf1] 26)).heap.size = w1.heap.size + 1 := by simp
    rw [e] at this
    exact this.drew
  have HA2 := Lib.hid ((HA1.out.below (up_alloc (Below.refl _ _) (.cells #[.int .i64 5, .int .i64 6] 3))).drew)
  have hsd : (((w1.alloc (.cells #[.slice An1 1 cn1, .slice Af1 0 cf1] 26)).alloc (.cells #[.int .i64 5, .int .i64 6] 3)).drew).heap.size = w1.heap.size + 1 + 1 := by simp [World.drew]
  have HC2 := Lib.hid (one_any r A n c xs p (w1.heap.size + 1) (w1.heap.size + 1 + 1) 2 2 _ [5, 6] _ HA2.out.rdr (by omega) (Rd.of_blk hbl rfl) (by rw [hsd]; exact Nat.le_refl _) (by omega) (by omega) (.inl (by omega)))
  clear hbl hsd
  go_wp2_with (fail)
  go_region_law (first
    | (go_simp; go_at_call 62; (with_reducible refine HC2.out.mono ?_); rintro e w2 ⟨kd, rfl, _, hR2, hG2⟩; have HB2 := Lib.hid (HA2.out.moved hG2 hR2); have j0 := HB2.out.k0; have j1 := HB2.out.k1; clear hR2 hG2)
    | (go_simp; go_at_call 61; (with_reducible refine (HB2.out.addK _ _ (by omega)).mono ?_); rintro e w4 ⟨v4, rfl, An4, cn4, Af4, cf4, ns4, fs4, p4, rfl, hp4, hO, hN, hP, e1, e2⟩; have k0 := hO.k0; have k1 := hO.k1; have f0 := hO.f0; have f1 := hO.f1; have HA4 := Lib.hid hN; clear hN hO hP e1 e2))
  all_goals
    clear HA1 HA2 HB2 HC2
    go_wp2_with (fail)
    clear k0 k1 f0 f1
    (with_reducible refine (HA4.out.link _ _ (by omega)).mono ?_)
    rintro e w5 ⟨v5, rfl, An5, cn5, Af5, cf5, ns5, fs5, p5, rfl, hp5, hO, hN, hP, e1, e2⟩
    have k0 := hO.k0
    have k1 := hO.k1
    have f0 := hO.f0
    have f1 := hO.f1
    have HA5 := Lib.hid hN
    clear HA4 hN hO hP e1 e2
    go_wp2_with (fail)
    clear k0 k1 f0 f1
    (with_reducible refine (pick_any r A n c xs p5 2 _ HA5.out.rdr (by omega) (by omega)).mono ?_)
    rintro e w6 ⟨v, rfl, v0, v1, _, hR1, hG1⟩
    have v1' := v1 (by omega)
    obtain ⟨v, rfl⟩ := Int.eq_ofNat_of_zero_le v0
    have HA6 := Lib.hid (HA5.out.moved hG1 hR1)
    clear HA5 hG1 hR1 v1
    go_wp2
    go_loopw [6] (fun nv wr => ∃ (m : Nat) (An : Option Addr) (ln cn : Nat) (Af : Option Addr) (lf cf : Nat) (ns : List (Int × Int)) (fs : List Flw) (pp : Int), nv = .int .i64 m ∧ m ≤ 3 ∧
        Hid (At (fun b => Bad b ∨ b = w.heap.size ∨ b = w1.heap.size) r A n c xs w1.heap.size w.heap.size w wr An ln cn Af lf cf ns fs pp) ∧ 2 ≤ ln ∧ ln + 2 * m ≤ 8 ∧ 1 ≤ lf ∧ lf + 2 * m ≤ 7 ∧ pp + 150 * (m : Int) ≤ p + 500)
      (fun nv _ => (intOf nv).toNat)
    case atStart => exact ⟨2 + v, An5, 2, cn5, Af5, 1, cf5, ns5, fs5, p5 + 1, by go_num, by omega, HA6, by omega, by omega, by omega, by omega, by omega⟩
    case round =>
      clear HA6
      obtain ⟨m, An, ln, cn, Af, lf, cf, ns, fs, pp, rfl, hm3, HA, hl2, hlm, hf1, hfm, hpp⟩ := hrel
      have hpp0 := HA.out.rdr.2.2.2.2
      cases m with
      | zero =>
        have k0 := HA.out.k0
        have k1 := HA.out.k1
        have r0 := HA.out.r0
        have r1 := HA.out.r1
        have q0 := HA.out.q0
        have q1 := HA.out.q1
        obtain ⟨b0, b1, HD⟩ := HA.out.done HA.out.prc (fun b (hb : Bad b) => Or.inl hb)
        go_wp2
        refine bodyPost_ret (v := .agg #[.slice An ln cn, .slice Af lf cf]) (by simp [results, Try.results89, go_sem, b0, b1]) rfl ?_
        obtain ⟨hd1, hd2, hd3⟩ := HD.out
        exact ⟨An, ln, cn, Af, lf, cf, ns, fs, pp, rfl, HA.out.en, HA.out.ef, by omega, by omega, by omega, by omega, hd1, hd2, by omega, hd3⟩
      | succ m =>
        have HAa := Lib.hid (HA.out.below (up_alloc (Below.refl _ _) (.cells #[] 136)))
        clear HA
        obtain ⟨bk, off, x, y, rfl, hbB, _, hg, hc0, hc1⟩ := (HAa.out.prc.reads HAa.out.en.symm HAa.out.ef.symm).1.pair (k := 1) (by omega)
        have k0 := HAa.out.k0
        have k1 := HAa.out.k1
        clear hg hc1
        have hln1 : 1 < ln := by omega
        simp only [Nat.one_mul] at hc0
        by_cases hx : x = 5
        · subst hx
          go_wp2_with (fail)
          clear k0 k1
          (with_reducible refine (pick_any r A n c xs pp 3 _ HAa.out.rdr (by omega) (by omega)).mono ?_)
          rintro e w7 ⟨u, rfl, u0, _, _, hR7, hG7⟩
          have HA7 := Lib.hid (HAa.out.moved hG7 hR7)
          clear HAa hR7 hG7 hc0 hbB
          have k0 := HA7.out.k0
          have k1 := HA7.out.k1
          by_cases hu : u > 0
          · have hu' : decide (u > 0) = true := by simpa using hu
            go_wp2_with (fail)
            clear k0 k1
            (with_reducible refine (randomCondition_any r A n c xs (pp + 1) _ HA7.out.rdr (by omega)).mono ?_)
            rintro e w8 ⟨Aw, nw, cw, ps, p8, rfl, _, _, _, hnw, hrow, hR8, hp8, hG8⟩
            have HA8 := Lib.hid (HA7.out.moved hG8 hR8)
            have HW := Lib.hid (Rd.of_own hrow)
            have HL := Lib.hid (show ∀ b, (fun b => Bad b ∨ b = w.heap.size ∨ b = w1.heap.size) b → b < w7.heap.size ∨ w8.heap.size ≤ b from fun b hb => .inl (HA7.out.bad b hb))
            clear HA7 hrow hR8 hG8 hu'
            have k0 := HA8.out.k0
            have k1 := HA8.out.k1
            go_wp2_with (fail)
            clear k0 k1
            (with_reducible refine (pick_any r A n c xs p8 2 _ HA8.out.rdr (by omega) (by omega)).mono ?_)
            rintro e w9 ⟨z, rfl, _, _, _, hR9, hG9⟩
            have HA9 := Lib.hid (HA8.out.moved hG9 hR9)
            have HW9 := Lib.hid (rd_low HW.out (low_but (Bad := fun b => Bad b ∨ b = w.heap.size ∨ b = w1.heap.size) hG9 HA9.out.rb) HL.out (Nat.le_refl _))
            have HU9 := Lib.hid hG9.size
            clear HW
            clear HA8 hG9 hR9
            have k0 := HA9.out.k0
            have k1 := HA9.out.k1
            have f0 := HA9.out.f0
            have f1 := HA9.out.f1
            by_cases g9 : z = 0
            · subst g9
              go_wp2_with (fail)
              clear k0 k1 f0 f1
              (with_reducible refine (HA9.out.step _ w7.heap.size w8.heap.size nw _ _ ps (by omega) (by omega) (by omega) HW9.out HL.out HU9.out (by omega)).mono ?_)
              rintro e w10 ⟨v10, k10, rfl, An10, cn10, Af10, cf10, ns10, fs10, p10, rfl, hp10, hO, hN, hP, e1, e2⟩
              have k0 := hO.k0
              have k1 := hO.k1
              have f0 := hO.f0
              have f1 := hO.f1
              have HA10 := Lib.hid hN
              clear HA9 hN hO hP e1 e2
              go_wp2_with (fail)
              clear k0 k1 f0 f1
              (with_reducible refine (HA10.out.addV _ _ (by omega)).mono ?_)
              rintro e w11 ⟨An11, cn11, ns11, rfl, hA11, hP11, e11, hn11, hb11⟩
              have HA12 := Lib.hid (hA11.below (up_alloc (Below.refl _ _) (.cells #[.slice An11 ((ln + 1) + 1) cn11, .slice Af10 (lf + 1) cf10] 26)))
              have HP12 := Lib.hid (hP11.below (up_alloc (Below.refl _ _) (.cells #[.slice An11 ((ln + 1) + 1) cn11, .slice Af10 (lf + 1) cf10] 26)))
              have E11 := Lib.hid e11
              have HN11 := Lib.hid hn11
              have HB11 := Lib.hid (hb11.trans ((up_alloc (Below.refl _ _) (.cells #[.slice An11 ((ln + 1) + 1) cn11, .slice Af10 (lf + 1) cf10] 26)).mono hb11.size))
              clear hA11 hP11 e11 hn11 hb11
              go_wp2_with (fail)
              (with_reducible refine (HA12.out.linkV HP12.out E11.out HA10.out.ef _ _ 0 0 0 _ _ [] (by omega) (nothing _ _) (fun b _ => .inr (by omega)) (by omega) (by omega) (off_zero _)).mono ?_)
              rintro e w13 ⟨v13, rfl, An13, cn13, Af13, cf13, ns13, fs13, p13, rfl, hp13, hO, hN, hP, e1, e2⟩
              have k0 := hO.k0
              have k1 := hO.k1
              have f0 := hO.f0
              have f1 := hO.f1
              have HA13 := Lib.hid hN
              clear HA10 HA12 HP12 hN hO hP e1 e2
              go_wp2
              go_roundw
              case rel => exact ⟨m, An13, (ln + 1) + 1, cn13, Af13, (lf + 1) + 1, cf13, ns13, fs13, p13, by go_num, by omega, HA13, by omega, by omega, by omega, by omega, by omega⟩
              case measure => simp [intOf]; try omega
            · have g9' : (z == 0) = false := by simpa using g9
              clear g9
              go_wp2_with (fail)
              clear k0 k1 f0 f1
              (with_reducible refine (HA9.out.addV _ _ (by omega)).mono ?_)
              rintro e w11 ⟨An11, cn11, ns11, rfl, hA11, hP11, e11, hn11, hb11⟩
              have HA12 := Lib.hid (hA11.below (up_alloc (Below.refl _ _) (.cells #[.slice An11 (ln + 1) cn11, .slice Af lf cf] 26)))
              have HP12 := Lib.hid (hP11.below (up_alloc (Below.refl _ _) (.cells #[.slice An11 (ln + 1) cn11, .slice Af lf cf] 26)))
              have E11 := Lib.hid e11
              have HN11 := Lib.hid hn11
              have HB11 := Lib.hid (hb11.trans ((up_alloc (Below.refl _ _) (.cells #[.slice An11 (ln + 1) cn11, .slice Af lf cf] 26)).mono hb11.size))
              clear hA11 hP11 e11 hn11 hb11
              go_wp2_with (fail)
              (with_reducible refine (HA12.out.linkV HP12.out E11.out HA9.out.ef _ _ w7.heap.size w8.heap.size nw _ _ ps (by omega) (HW9.out.keep HB11.out HU9.out) HL.out (Nat.le_trans HU9.out HB11.out.size) (by omega) (off_new HN11.out HU9.out)).mono ?_)
              rintro e w13 ⟨v13, rfl, An13, cn13, Af13, cf13, ns13, fs13, p13, rfl, hp13, hO, hN, hP, e1, e2⟩
              have k0 := hO.k0
              have k1 := hO.k1
              have f0 := hO.f0
              have f1 := hO.f1
              have HA13 := Lib.hid hN
              clear HA9 HA12 HP12 hN hO hP e1 e2
              go_wp2
              go_roundw
              case rel => exact ⟨m, An13, ln + 1, cn13, Af13, lf + 1, cf13, ns13, fs13, p13, by go_num, by omega, HA13, by omega, by omega, by omega, by omega, by omega⟩
              case measure => simp [intOf]; try omega
          · have hu' : decide (u > 0) = false := by simpa using hu
            go_wp2_with (fail)
            clear k0 k1
            (with_reducible refine (pick_any r A n c xs (pp + 1) 2 _ HA7.out.rdr (by omega) (by omega)).mono ?_)
            rintro e w9 ⟨z, rfl, _, _, _, hR9, hG9⟩
            have HA9 := Lib.hid (HA7.out.moved hG9 hR9)
            clear HA7 hG9 hR9
            have k0 := HA9.out.k0
            have k1 := HA9.out.k1
            have f0 := HA9.out.f0
            have f1 := HA9.out.f1
            by_cases g9 : z = 0
            · subst g9
              go_wp2_with (fail)
              clear k0 k1 f0 f1
              (with_reducible refine (HA9.out.step _ 0 0 0 _ _ [] (by omega) (by omega) (by omega) (nothing _ _) (fun b _ => .inr (by omega)) (by omega) (by omega)).mono ?_)
              rintro e w10 ⟨v10, k10, rfl, An10, cn10, Af10, cf10, ns10, fs10, p10, rfl, hp10, hO, hN, hP, e1, e2⟩
              have k0 := hO.k0
              have k1 := hO.k1
              have f0 := hO.f0
              have f1 := hO.f1
              have HA10 := Lib.hid hN
              clear HA9 hN hO hP e1 e2
              go_wp2_with (fail)
              clear k0 k1 f0 f1
              (with_reducible refine (HA10.out.addV _ _ (by omega)).mono ?_)
              rintro e w11 ⟨An11, cn11, ns11, rfl, hA11, hP11, e11, hn11, hb11⟩
              have HA12 := Lib.hid (hA11.below (up_alloc (Below.refl _ _) (.cells #[.slice An11 ((ln + 1) + 1) cn11, .slice Af10 (lf + 1) cf10] 26)))
              have HP12 := Lib.hid (hP11.below (up_alloc (Below.refl _ _) (.cells #[.slice An11 ((ln + 1) + 1) cn11, .slice Af10 (lf + 1) cf10] 26)))
              have E11 := Lib.hid e11
              have HN11 := Lib.hid hn11
              have HB11 := Lib.hid (hb11.trans ((up_alloc (Below.refl _ _) (.cells #[.slice An11 ((ln + 1) + 1) cn11, .slice Af10 (lf + 1) cf10] 26)).mono hb11.size))
              clear hA11 hP11 e11 hn11 hb11
              go_wp2_with (fail)
              (with_reducible refine (HA12.out.linkV HP12.out E11.out HA10.out.ef _ _ 0 0 0 _ _ [] (by omega) (nothing _ _) (fun b _ => .inr (by omega)) (by omega) (by omega) (off_zero _)).mono ?_)
              rintro e w13 ⟨v13, rfl, An13, cn13, Af13, cf13, ns13, fs13, p13, rfl, hp13, hO, hN, hP, e1, e2⟩
              have k0 := hO.k0
              have k1 := hO.k1
              have f0 := hO.f0
              have f1 := hO.f1
              have HA13 := Lib.hid hN
              clear HA10 HA12 HP12 hN hO hP e1 e2
              go_wp2
              go_roundw
              case rel => exact ⟨m, An13, (ln + 1) + 1, cn13, Af13, (lf + 1) + 1, cf13, ns13, fs13, p13, by go_num, by omega, HA13, by omega, by omega, by omega, by omega, by omega⟩
              case measure => simp [intOf]; try omega
            · have g9' : (z == 0) = false := by simpa using g9
              clear g9
              go_wp2_with (fail)
              clear k0 k1 f0 f1
              (with_reducible refine (HA9.out.addV _ _ (by omega)).mono ?_)
              rintro e w11 ⟨An11, cn11, ns11, rfl, hA11, hP11, e11, hn11, hb11⟩
              have HA12 := Lib.hid (hA11.below (up_alloc (Below.refl _ _) (.cells #[.slice An11 (ln + 1) cn11, .slice Af lf cf] 26)))
              have HP12 := Lib.hid (hP11.below (up_alloc (Below.refl _ _) (.cells #[.slice An11 (ln + 1) cn11, .slice Af lf cf] 26)))
              have E11 := Lib.hid e11
              have HN11 := Lib.hid hn11
              have HB11 := Lib.hid (hb11.trans ((up_alloc (Below.refl _ _) (.cells #[.slice An11 (ln + 1) cn11, .slice Af lf cf] 26)).mono hb11.size))
              clear hA11 hP11 e11 hn11 hb11
              go_wp2_with (fail)
              (with_reducible refine (HA12.out.linkV HP12.out E11.out HA9.out.ef _ _ 0 0 0 _ _ [] (by omega) (nothing _ _) (fun b _ => .inr (by omega)) (by omega) (by omega) (off_zero _)).mono ?_)
              rintro e w13 ⟨v13, rfl, An13, cn13, Af13, cf13, ns13, fs13, p13, rfl, hp13, hO, hN, hP, e1, e2⟩
              have k0 := hO.k0
              have k1 := hO.k1
              have f0 := hO.f0
              have f1 := hO.f1
              have HA13 := Lib.hid hN
              clear HA9 HA12 HP12 hN hO hP e1 e2
              go_wp2
              go_roundw
              case rel => exact ⟨m, An13, ln + 1, cn13, Af13, lf + 1, cf13, ns13, fs13, p13, by go_num, by omega, HA13, by omega, by omega, by omega, by omega, by omega⟩
              case measure => simp [intOf]; try omega
        · have hx' : (x == 5) = false := by simpa using hx
          clear hx
          go_wp2_with (fail)
          clear k0 k1
          (with_reducible refine (pick_any r A n c xs pp 2 _ HAa.out.rdr (by omega) (by omega)).mono ?_)
          rintro e w9 ⟨z, rfl, _, _, _, hR9, hG9⟩
          have HA9 := Lib.hid (HAa.out.moved hG9 hR9)
          clear HAa hG9 hR9
          have k0 := HA9.out.k0
          have k1 := HA9.out.k1
          have f0 := HA9.out.f0
          have f1 := HA9.out.f1
          by_cases g9 : z = 0
          · subst g9
            go_wp2_with (fail)
            clear k0 k1 f0 f1
            (with_reducible refine (HA9.out.step _ 0 0 0 _ _ [] (by omega) (by omega) (by omega) (nothing _ _) (fun b _ => .inr (by omega)) (by omega) (by omega)).mono ?_)
            rintro e w10 ⟨v10, k10, rfl, An10, cn10, Af10, cf10, ns10, fs10, p10, rfl, hp10, hO, hN, hP, e1, e2⟩
            have k0 := hO.k0
            have k1 := hO.k1
            have f0 := hO.f0
            have f1 := hO.f1
            have HA10 := Lib.hid hN
            clear HA9 hN hO hP e1 e2
            go_wp2_with (fail)
            clear k0 k1 f0 f1
            (with_reducible refine (HA10.out.addV _ _ (by omega)).mono ?_)
            rintro e w11 ⟨An11, cn11, ns11, rfl, hA11, hP11, e11, hn11, hb11⟩
            have HA12 := Lib.hid (hA11.below (up_alloc (Below.refl _ _) (.cells #[.slice An11 ((ln + 1) + 1) cn11, .slice Af10 (lf + 1) cf10] 26)))
            have HP12 := Lib.hid (hP11.below (up_alloc (Below.refl _ _) (.cells #[.slice An11 ((ln + 1) + 1) cn11, .slice Af10 (lf + 1) cf10] 26)))
            have E11 := Lib.hid e11
            have HN11 := Lib.hid hn11
            have HB11 := Lib.hid (hb11.trans ((up_alloc (Below.refl _ _) (.cells #[.slice An11 ((ln + 1) + 1) cn11, .slice Af10 (lf + 1) cf10] 26)).mono hb11.size))
            clear hA11 hP11 e11 hn11 hb11
            go_wp2_with (fail)
            (with_reducible refine (HA12.out.linkV HP12.out E11.out HA10.out.ef _ _ 0 0 0 _ _ [] (by omega) (nothing _ _) (fun b _ => .inr (by omega)) (by omega) (by omega) (off_zero _)).mono ?_)
            rintro e w13 ⟨v13, rfl, An13, cn13, Af13, cf13, ns13, fs13, p13, rfl, hp13, hO, hN, hP, e1, e2⟩
            have k0 := hO.k0
            have k1 := hO.k1
            have f0 := hO.f0
            have f1 := hO.f1
            have HA13 := Lib.hid hN
            clear HA10 HA12 HP12 hN hO hP e1 e2
            go_wp2
            go_roundw
            case rel => exact ⟨m, An13, (ln + 1) + 1, cn13, Af13, (lf + 1) + 1, cf13, ns13, fs13, p13, by go_num, by omega, HA13, by omega, by omega, by omega, by omega, by omega⟩
            case measure => simp [intOf]; try omega
          · have g9' : (z == 0) = false := by simpa using g9
            clear g9
            go_wp2_with (fail)
            clear k0 k1 f0 f1
            (with_reducible refine (HA9.out.addV _ _ (by omega)).mono ?_)
            rintro e w11 ⟨An11, cn11, ns11, rfl, hA11, hP11, e11, hn11, hb11⟩
            have HA12 := Lib.hid (hA11.below (up_alloc (Below.refl _ _) (.cells #[.slice An11 (ln + 1) cn11, .slice Af lf cf] 26)))
            have HP12 := Lib.hid (hP11.below (up_alloc (Below.refl _ _) (.cells #[.slice An11 (ln + 1) cn11, .slice Af lf cf] 26)))
            have E11 := Lib.hid e11
            have HN11 := Lib.hid hn11
            have HB11 := Lib.hid (hb11.trans ((up_alloc (Below.refl _ _) (.cells #[.slice An11 (ln + 1) cn11, .slice Af lf cf] 26)).mono hb11.size))
            clear hA11 hP11 e11 hn11 hb11
            go_wp2_with (fail)
            (with_reducible refine (HA12.out.linkV HP12.out E11.out HA9.out.ef _ _ 0 0 0 _ _ [] (by omega) (nothing _ _) (fun b _ => .inr (by omega)) (by omega) (by omega) (off_zero _)).mono ?_)
            rintro e w13 ⟨v13, rfl, An13, cn13, Af13, cf13, ns13, fs13, p13, rfl, hp13, hO, hN, hP, e1, e2⟩
            have k0 := hO.k0
            have k1 := hO.k1
            have f0 := hO.f0
            have f1 := hO.f1
            have HA13 := Lib.hid hN
            clear HA9 HA12 HP12 hN hO hP e1 e2
            go_wp2
            go_roundw
            case rel => exact ⟨m, An13, ln + 1, cn13, Af13, lf + 1, cf13, ns13, fs13, p13, by go_num, by omega, HA13, by omega, by omega, by omega, by omega, by omega⟩
            case measure => simp [intOf]; try omega
end Go.Proofs.Ytmhbfdcikdhehaa

