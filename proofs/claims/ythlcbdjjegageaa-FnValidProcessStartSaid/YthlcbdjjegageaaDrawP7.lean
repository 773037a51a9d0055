/- The drawing of processes: one that can go back. -/
import Derived.Test.YthlcbdjjegageaaDrawP6
import Derived.Deep.RegionLaw
namespace Go.Proofs.Ythlcbdjjegageaa
open Go.RowKit

set_option maxRecDepth 100000 in
set_option maxHeartbeats 6400000 in
theorem loop_any (Bad : Nat → Prop) (r : Nat) (A : Option Addr) (n c : Nat) (xs : List Int) (p : Int) (w : World)
    (hR : Rdr w r A n c xs p) (hp : p ≤ 800000) (hrb : Bad r) (hbad : ∀ b, Bad b → b < w.heap.size) :
    Calls Try.prog 108 #[.pointer (some ⟨r, 0, none⟩)] w (Drawn Bad r A n c xs p 500 w) := by
  have hp0 := hR.2.2.2.2
  have HF := Lib.hid (first_any Bad r A n c xs p 0 0 w hR hrb hbad)
  clear hR hbad
  go_enter Try.func108, Try.ntmps108
  go_wp2_with (fail)
  (with_reducible refine HF.out.mono ?_)
  rintro e w1 ⟨An1, cn1, Af1, cf1, ns1, fs1, rfl, hlt, hA⟩
  have HA1 := Lib.hid hA
  clear hA HF
  go_wp2_with (fail)
  (with_reducible refine (HA1.out.add _ _ (by omega)).mono ?_)
  rintro e w4 ⟨v4, k4, rfl, An4, cn4, Af4, cf4, ns4, fs4, p4, rfl, hp4, hO, hN, hP, e1, e2⟩
  have k0 := hO.k0
  have k1 := hO.k1
  have f0 := hO.f0
  have f1 := hO.f1
  have HA4 := Lib.hid hN
  clear HA1 hN hO hP e1 e2
  go_wp2_with (fail)
  clear k0 k1 f0 f1
  (with_reducible refine (HA4.out.link _ _ (by omega)).mono ?_)
  rintro e w5 ⟨v5, rfl, An5, cn5, Af5, cf5, ns5, fs5, p5, rfl, hp5, hO, hN, hP, e1, e2⟩
  have k0 := hO.k0
  have k1 := hO.k1
  have f0 := hO.f0
  have f1 := hO.f1
  have HA5 := Lib.hid hN
  clear HA4 hN hO hP e1 e2
  go_wp2_with (fail)
  clear k0 k1 f0 f1
  (with_reducible refine (pick_any r A n c xs p5 4 _ HA5.out.rdr (by omega) (by omega)).mono ?_)
  rintro e w6 ⟨v, rfl, _, _, _, hR1, hG1⟩
  have HA6 := Lib.hid (HA5.out.moved hG1 hR1)
  clear HA5 hG1 hR1
  have k0 := HA6.out.k0
  have k1 := HA6.out.k1
  have f0 := HA6.out.f0
  have f1 := HA6.out.f1
  by_cases g1 : v > 0
  · have g2 : decide (v > 0) = true := by simpa using g1
    go_wp2_with (fail)
    clear k0 k1 f0 f1
    (with_reducible refine (HA6.out.step _ 0 0 0 _ _ [] (by omega) (by omega) (by omega) (nothing _ _) (fun b _ => .inr (by omega)) (by omega) (by omega)).mono ?_)
    rintro e w7 ⟨v7, k7, rfl, An7, cn7, Af7, cf7, ns7, fs7, p7, rfl, hp7, hO, hN, hP, e1, e2⟩
    have k0 := hO.k0
    have k1 := hO.k1
    have f0 := hO.f0
    have f1 := hO.f1
    have HA7 := Lib.hid hN
    clear HA6 hN hO hP e1 e2
    go_wp2_with (fail)
    clear k0 k1 f0 f1
    (with_reducible refine (HA7.out.add _ _ (by omega)).mono ?_)
    rintro e w8 ⟨v8, k8, rfl, An8, cn8, Af8, cf8, ns8, fs8, p8, rfl, hp8, hO, hN, hP, e1, e2⟩
    have k0 := hO.k0
    have k1 := hO.k1
    have f0 := hO.f0
    have f1 := hO.f1
    have HA8 := Lib.hid hN
    clear HA7 hN hO hP e1 e2
    go_wp2_with (fail)
    clear k0 k1 f0 f1
    (with_reducible refine (HA8.out.link _ _ (by omega)).mono ?_)
    rintro e w9 ⟨v9, rfl, An9, cn9, Af9, cf9, ns9, fs9, p9, rfl, hp9, hO, hN, hP, e1, e2⟩
    have k0 := hO.k0
    have k1 := hO.k1
    have f0 := hO.f0
    have f1 := hO.f1
    have HA9 := Lib.hid hN
    clear HA8 hN hO hP e1 e2
    have HA9d := Lib.hid (HA9.out.drew)
    have HC9 := Lib.hid (randomCondition_any r A n c xs _ _ HA9d.out.rdr (by omega))
    go_wp2
    go_region_law (first
      | (go_simp; go_at_call 110; (with_reducible refine HC9.out.mono ?_); rintro e x10 ⟨Aw10, nw10, cw10, ps10, pp10, rfl, _, _, _, hnw10, hrow10, hRr10, hpp10, hGr10⟩; have HB10 := Lib.hid (HA9d.out.moved hGr10 hRr10); have j0 := HB10.out.k0; have j1 := HB10.out.k1; have HW10 := Lib.hid (Rd.of_own hrow10); clear hrow10 hRr10 hGr10)
      | (go_simp; go_at_call 87; (with_reducible refine (HB10.out.linkW _ _ _ _ _ _ _ _ (by omega) HW10.out (fun b hb => .inl (HA9d.out.bad b hb)) (Nat.le_refl _) (by omega) (HA9d.out.off _)).mono ?_); rintro e w10 ⟨v10, rfl, An10, cn10, Af10, cf10, ns10, fs10, p10, rfl, hp10, hO, hN, hP, e1, e2⟩; have i0 := hO.k0; have i1 := hO.k1; have f0 := hO.f0; have f1 := hO.f1; have HA10 := Lib.hid hN; clear hN hO hP e1 e2))
    all_goals
      clear HA9 HA9d HC9 HW10 HB10 k0 k1 j0 j1
      go_wp2_with (fail)
      clear i0 i1 f0 f1
      (with_reducible refine (HA10.out.add _ _ (by omega)).mono ?_)
      rintro e w11 ⟨v11, k11, rfl, An11, cn11, Af11, cf11, ns11, fs11, p11, rfl, hp11, hO, hN, hP, e1, e2⟩
      have k0 := hO.k0
      have k1 := hO.k1
      have f0 := hO.f0
      have f1 := hO.f1
      have HA11 := Lib.hid hN
      clear HA10 hN hO hP e1 e2
      go_wp2_with (fail)
      clear k0 k1 f0 f1
      (with_reducible refine (pick_any r A n c xs p11 5 _ HA11.out.rdr (by omega) (by omega)).mono ?_)
      rintro e w12 ⟨u, rfl, _, _, _, hR1, hG1⟩
      have HA12 := Lib.hid (HA11.out.moved hG1 hR1)
      clear HA11 hG1 hR1
      have k0 := HA12.out.k0
      have k1 := HA12.out.k1
      by_cases g2 : u = 0
      · subst g2
        have HA12d := Lib.hid (HA12.out.drew)
        have HC12 := Lib.hid (randomCondition_any r A n c xs _ _ HA12d.out.rdr (by omega))
        go_wp2
        go_region_law (first
          | (go_simp; go_at_call 110; (with_reducible refine HC12.out.mono ?_); rintro e x13 ⟨Aw13, nw13, cw13, ps13, pp13, rfl, _, _, _, hnw13, hrow13, hRr13, hpp13, hGr13⟩; have HB13 := Lib.hid (HA12d.out.moved hGr13 hRr13); have j0 := HB13.out.k0; have j1 := HB13.out.k1; have HW13 := Lib.hid (Rd.of_own hrow13); clear hrow13 hRr13 hGr13)
          | (go_simp; go_at_call 87; (with_reducible refine (HB13.out.linkW _ _ _ _ _ _ _ _ (by omega) HW13.out (fun b hb => .inl (HA12d.out.bad b hb)) (Nat.le_refl _) (by omega) (HA12d.out.off _)).mono ?_); rintro e w13 ⟨v13, rfl, An13, cn13, Af13, cf13, ns13, fs13, p13, rfl, hp13, hO, hN, hP, e1, e2⟩; have r0 := hO.r0; have r1 := hO.r1; have q0 := hO.q0; have q1 := hO.q1; obtain ⟨b0, b1, HD⟩ := hO.done hP (fun b (hb : Bad b) => Or.inl hb); have E1 := Lib.hid e1; have E2 := Lib.hid e2; have HA13 := Lib.hid hN; clear hN hO hP e1 e2))
        all_goals
          go_wp2
          refine bodyPost_ret (v := .agg #[.slice An13 5 cn13, .slice Af13 5 cf13]) (by simp [results, Try.results108, go_sem, b0, b1]) rfl ?_
          obtain ⟨hd1, hd2, hd3⟩ := HD.out
          exact ⟨An13, 5, cn13, Af13, 5, cf13, ns13, fs13, p13, rfl, E1.out, E2.out, by omega, by omega, by omega, by omega, hd1, hd2, by omega, hd3⟩
      · have g2' : (u == 0) = false := by simpa using g2
        clear g2
        go_wp2_with (fail)
        (with_reducible refine (HA12.out.link _ _ (by omega)).mono ?_)
        rintro e w13 ⟨v13, rfl, An13, cn13, Af13, cf13, ns13, fs13, p13, rfl, hp13, hO, hN, hP, e1, e2⟩
        clear k0 k1 hN
        have r0 := hO.r0
        have r1 := hO.r1
        have q0 := hO.q0
        have q1 := hO.q1
        obtain ⟨b0, b1, HD⟩ := hO.done hP (fun b (hb : Bad b) => Or.inl hb)
        have E1 := Lib.hid e1
        have E2 := Lib.hid e2
        clear hO hP e1 e2 HA12
        go_wp2
        refine bodyPost_ret (v := .agg #[.slice An13 5 cn13, .slice Af13 5 cf13]) (by simp [results, Try.results108, go_sem, b0, b1]) rfl ?_
        obtain ⟨hd1, hd2, hd3⟩ := HD.out
        exact ⟨An13, 5, cn13, Af13, 5, cf13, ns13, fs13, p13, rfl, E1.out, E2.out, by omega, by omega, by omega, by omega, hd1, hd2, by omega, hd3⟩
  · have g2 : decide (v > 0) = false := by simpa using g1
    go_wp2_with (fail)
    clear k0 k1 f0 f1
    (with_reducible refine (HA6.out.add _ _ (by omega)).mono ?_)
    rintro e w8 ⟨v8, k8, rfl, An8, cn8, Af8, cf8, ns8, fs8, p8, rfl, hp8, hO, hN, hP, e1, e2⟩
    have k0 := hO.k0
    have k1 := hO.k1
    have f0 := hO.f0
    have f1 := hO.f1
    have HA8 := Lib.hid hN
    clear HA6 hN hO hP e1 e2
    go_wp2_with (fail)
    clear k0 k1 f0 f1
    (with_reducible refine (HA8.out.link _ _ (by omega)).mono ?_)
    rintro e w9 ⟨v9, rfl, An9, cn9, Af9, cf9, ns9, fs9, p9, rfl, hp9, hO, hN, hP, e1, e2⟩
    have k0 := hO.k0
    have k1 := hO.k1
    have f0 := hO.f0
    have f1 := hO.f1
    have HA9 := Lib.hid hN
    clear HA8 hN hO hP e1 e2
    have HA9d := Lib.hid (HA9.out.drew)
    have HC9 := Lib.hid (randomCondition_any r A n c xs _ _ HA9d.out.rdr (by omega))
    go_wp2
    go_region_law (first
      | (go_simp; go_at_call 110; (with_reducible refine HC9.out.mono ?_); rintro e x10 ⟨Aw10, nw10, cw10, ps10, pp10, rfl, _, _, _, hnw10, hrow10, hRr10, hpp10, hGr10⟩; have HB10 := Lib.hid (HA9d.out.moved hGr10 hRr10); have j0 := HB10.out.k0; have j1 := HB10.out.k1; have HW10 := Lib.hid (Rd.of_own hrow10); clear hrow10 hRr10 hGr10)
      | (go_simp; go_at_call 87; (with_reducible refine (HB10.out.linkW _ _ _ _ _ _ _ _ (by omega) HW10.out (fun b hb => .inl (HA9d.out.bad b hb)) (Nat.le_refl _) (by omega) (HA9d.out.off _)).mono ?_); rintro e w10 ⟨v10, rfl, An10, cn10, Af10, cf10, ns10, fs10, p10, rfl, hp10, hO, hN, hP, e1, e2⟩; have i0 := hO.k0; have i1 := hO.k1; have f0 := hO.f0; have f1 := hO.f1; have HA10 := Lib.hid hN; clear hN hO hP e1 e2))
    all_goals
      clear HA9 HA9d HC9 HW10 HB10 k0 k1 j0 j1
      go_wp2_with (fail)
      clear i0 i1 f0 f1
      (with_reducible refine (HA10.out.add _ _ (by omega)).mono ?_)
      rintro e w11 ⟨v11, k11, rfl, An11, cn11, Af11, cf11, ns11, fs11, p11, rfl, hp11, hO, hN, hP, e1, e2⟩
      have k0 := hO.k0
      have k1 := hO.k1
      have f0 := hO.f0
      have f1 := hO.f1
      have HA11 := Lib.hid hN
      clear HA10 hN hO hP e1 e2
      go_wp2_with (fail)
      clear k0 k1 f0 f1
      (with_reducible refine (pick_any r A n c xs p11 5 _ HA11.out.rdr (by omega) (by omega)).mono ?_)
      rintro e w12 ⟨u, rfl, _, _, _, hR1, hG1⟩
      have HA12 := Lib.hid (HA11.out.moved hG1 hR1)
      clear HA11 hG1 hR1
      have k0 := HA12.out.k0
      have k1 := HA12.out.k1
      by_cases g2 : u = 0
      · subst g2
        have HA12d := Lib.hid (HA12.out.drew)
        have HC12 := Lib.hid (randomCondition_any r A n c xs _ _ HA12d.out.rdr (by omega))
        go_wp2
        go_region_law (first
          | (go_simp; go_at_call 110; (with_reducible refine HC12.out.mono ?_); rintro e x13 ⟨Aw13, nw13, cw13, ps13, pp13, rfl, _, _, _, hnw13, hrow13, hRr13, hpp13, hGr13⟩; have HB13 := Lib.hid (HA12d.out.moved hGr13 hRr13); have j0 := HB13.out.k0; have j1 := HB13.out.k1; have HW13 := Lib.hid (Rd.of_own hrow13); clear hrow13 hRr13 hGr13)
          | (go_simp; go_at_call 87; (with_reducible refine (HB13.out.linkW _ _ _ _ _ _ _ _ (by omega) HW13.out (fun b hb => .inl (HA12d.out.bad b hb)) (Nat.le_refl _) (by omega) (HA12d.out.off _)).mono ?_); rintro e w13 ⟨v13, rfl, An13, cn13, Af13, cf13, ns13, fs13, p13, rfl, hp13, hO, hN, hP, e1, e2⟩; have r0 := hO.r0; have r1 := hO.r1; have q0 := hO.q0; have q1 := hO.q1; obtain ⟨b0, b1, HD⟩ := hO.done hP (fun b (hb : Bad b) => Or.inl hb); have E1 := Lib.hid e1; have E2 := Lib.hid e2; have HA13 := Lib.hid hN; clear hN hO hP e1 e2))
        all_goals
          go_wp2
          refine bodyPost_ret (v := .agg #[.slice An13 4 cn13, .slice Af13 4 cf13]) (by simp [results, Try.results108, go_sem, b0, b1]) rfl ?_
          obtain ⟨hd1, hd2, hd3⟩ := HD.out
          exact ⟨An13, 4, cn13, Af13, 4, cf13, ns13, fs13, p13, rfl, E1.out, E2.out, by omega, by omega, by omega, by omega, hd1, hd2, by omega, hd3⟩
      · have g2' : (u == 0) = false := by simpa using g2
        clear g2
        go_wp2_with (fail)
        (with_reducible refine (HA12.out.link _ _ (by omega)).mono ?_)
        rintro e w13 ⟨v13, rfl, An13, cn13, Af13, cf13, ns13, fs13, p13, rfl, hp13, hO, hN, hP, e1, e2⟩
        clear k0 k1 hN
        have r0 := hO.r0
        have r1 := hO.r1
        have q0 := hO.q0
        have q1 := hO.q1
        obtain ⟨b0, b1, HD⟩ := hO.done hP (fun b (hb : Bad b) => Or.inl hb)
        have E1 := Lib.hid e1
        have E2 := Lib.hid e2
        clear hO hP e1 e2 HA12
        go_wp2
        refine bodyPost_ret (v := .agg #[.slice An13 4 cn13, .slice Af13 4 cf13]) (by simp [results, Try.results108, go_sem, b0, b1]) rfl ?_
        obtain ⟨hd1, hd2, hd3⟩ := HD.out
        exact ⟨An13, 4, cn13, Af13, 4, cf13, ns13, fs13, p13, rfl, E1.out, E2.out, by omega, by omega, by omega, by omega, hd1, hd2, by omega, hd3⟩
end Go.Proofs.Ythlcbdjjegageaa
