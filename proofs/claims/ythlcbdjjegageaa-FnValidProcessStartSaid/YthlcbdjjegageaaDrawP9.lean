/- The drawing of processes: a valid one. -/
import Derived.Test.YthlcbdjjegageaaDrawP7
import Derived.Test.YthlcbdjjegageaaDrawP8
namespace Go.Proofs.Ythlcbdjjegageaa
open Go.RowKit

set_option maxRecDepth 100000 in
set_option maxHeartbeats 6400000 in
theorem randomProcess_any (Bad : Nat → Prop) (r : Nat) (A : Option Addr) (n c : Nat) (xs : List Int) (p : Int) (w : World)
    (hR : Rdr w r A n c xs p) (hp : p ≤ 700000) (hrb : Bad r) (hbad : ∀ b, Bad b → b < w.heap.size) :
    Calls Try.prog 85 #[.pointer (some ⟨r, 0, none⟩)] w (Drawn Bad r A n c xs p 700 w) := by
  have hp0 := hR.2.2.2.2
  have hrw := hR.lt
  have HF := Lib.hid (first_any Bad r A n c xs p 0 0 w hR hrb hbad)
  clear hR hbad
  go_enter Try.func85, Try.ntmps85
  go_wp2_with (fail)
  (with_reducible refine HF.out.mono ?_)
  rintro e w1 ⟨An1, cn1, Af1, cf1, ns1, fs1, rfl, hlt, hA⟩
  have HA1 := Lib.hid hA
  clear hA HF
  go_wp2_with (fail)
  (with_reducible refine (pick_any r A n c xs p 6 _ HA1.out.rdr (by omega) (by omega)).mono ?_)
  rintro e w6 ⟨v, rfl, v0, v1, _, hR1, hG1⟩
  have v1' := v1 (by omega)
  have HA6 := Lib.hid (HA1.out.moved hG1 hR1)
  clear HA1 hG1 hR1 v1
  have k0 := HA6.out.k0
  have k1 := HA6.out.k1
  have f0 := HA6.out.f0
  have f1 := HA6.out.f1
  rcases (show v = 0 ∨ v = 1 ∨ v = 2 ∨ v = 3 ∨ v = 4 ∨ v = 5 by omega) with rfl | rfl | rfl | rfl | rfl | rfl
  · go_wp2_with (fail)
    clear k0 k1 f0 f1
    (with_reducible refine (pick_any r A n c xs (p + 1) 4 _ HA6.out.rdr (by omega) (by omega)).mono ?_)
    rintro e w7 ⟨u, rfl, u0, u1, _, hR1, hG1⟩
    have u1' := u1 (by omega)
    have HA7 := Lib.hid (HA6.out.moved hG1 hR1)
    clear HA6 hG1 hR1 u1
    have k0 := HA7.out.k0
    have k1 := HA7.out.k1
    have f0 := HA7.out.f0
    have f1 := HA7.out.f1
    obtain ⟨u, rfl⟩ := Int.eq_ofNat_of_zero_le u0
    clear k0 k1 f0 f1
    go_wp2
    go_loopw [4, 5] (fun av nv wr => ∃ (m : Nat) (a : Int) (An : Option Addr) (ln cn : Nat) (Af : Option Addr) (lf cf : Nat) (ns : List (Int × Int)) (fs : List Flw) (pp : Int), av = .int .i64 a ∧ nv = .int .i64 m ∧ m ≤ 4 ∧
        Hid (At (fun b => Bad b ∨ b = w.heap.size ∨ b = w1.heap.size) r A n c xs w1.heap.size w.heap.size w wr An ln cn Af lf cf ns fs pp) ∧ 1 ≤ ln ∧ ln + m ≤ 5 ∧ lf + m ≤ 4 ∧ pp + 3 * (m : Int) ≤ p + 20)
      (fun _ nv _ => (intOf nv).toNat)
    case atStart => exact ⟨1 + u, 0, An1, 1, cn1, Af1, 0, cf1, ns1, fs1, p + 1 + 1, rfl, by go_num, by omega, HA7, by omega, by omega, by omega, by omega⟩
    case round =>
      clear HA7
      obtain ⟨m, a, An, ln, cn, Af, lf, cf, ns, fs, pp, rfl, rfl, hm3, HA, hl1, hlm, hfm, hpp⟩ := hrel
      have hpp0 := HA.out.rdr.2.2.2.2
      have k0 := HA.out.k0
      have k1 := HA.out.k1
      have f0 := HA.out.f0
      have f1 := HA.out.f1
      cases m with
      | zero =>
        go_wp2_with (fail)
        clear k0 k1 f0 f1
        (with_reducible refine (HA.out.add _ _ (by omega)).mono ?_)
        rintro e w20 ⟨v20, k20, rfl, An20, cn20, Af20, cf20, ns20, fs20, p20, rfl, hp20, hO, hN, hP, e1, e2⟩
        have k0 := hO.k0
        have k1 := hO.k1
        have f0 := hO.f0
        have f1 := hO.f1
        have HA20 := Lib.hid hN
        clear HA hN hO hP e1 e2
        go_wp2_with (fail)
        clear k0 k1 f0 f1
        (with_reducible refine (HA20.out.link _ _ (by omega)).mono ?_)
        rintro e w21 ⟨v21, rfl, An21, cn21, Af21, cf21, ns21, fs21, p21, rfl, hp21, hO, hN, hP, e1, e2⟩
        clear HA20 hN
        have r0 := hO.r0
        have r1 := hO.r1
        have q0 := hO.q0
        have q1 := hO.q1
        obtain ⟨b0, b1, HD⟩ := hO.done hP (fun b (hb : Bad b) => Or.inl hb)
        have E1 := Lib.hid e1
        have E2 := Lib.hid e2
        clear hO hP e1 e2
        go_wp2
        refine bodyPost_ret (v := .agg #[.slice An21 (ln + 1) cn21, .slice Af21 (lf + 1) cf21]) (by simp [results, Try.results85, go_sem, b0, b1]) rfl ?_
        obtain ⟨hd1, hd2, hd3⟩ := HD.out
        exact ⟨An21, (ln + 1), cn21, Af21, (lf + 1), cf21, ns21, fs21, p21, rfl, E1.out, E2.out, by omega, by omega, by omega, by omega, hd1, hd2, by omega, hd3⟩
      | succ m =>
        go_wp2_with (fail)
        clear k0 k1 f0 f1
        (with_reducible refine (HA.out.step _ 0 0 0 _ _ [] (by omega) (by omega) (by omega) (nothing _ _) (fun b _ => .inr (by omega)) (by omega) (by omega)).mono ?_)
        rintro e w8 ⟨v8, k8, rfl, An8, cn8, Af8, cf8, ns8, fs8, p8, rfl, hp8, hO, hN, hP, e1, e2⟩
        have k0 := hO.k0
        have k1 := hO.k1
        have f0 := hO.f0
        have f1 := hO.f1
        have HA8 := Lib.hid hN
        clear HA hN hO hP e1 e2
        go_wp2
        go_roundw
        case rel => exact ⟨m, k8, An8, ln + 1, cn8, Af8, lf + 1, cf8, ns8, fs8, p8, rfl, by go_num, by omega, HA8, by omega, by omega, by omega, by omega⟩
        case measure => simp [intOf]; try omega
  · go_wp2_with (fail)
    clear k0 k1 f0 f1
    (with_reducible refine (HA6.out.block _ (by omega) (by omega) (by omega)).mono ?_)
    rintro e w7 ⟨v7, k7, rfl, An7, cn7, Af7, cf7, ns7, fs7, p7, rfl, hp7, hO, hN, hP, e1, e2⟩
    have k0 := hO.k0
    have k1 := hO.k1
    have f0 := hO.f0
    have f1 := hO.f1
    have HA7 := Lib.hid hN
    clear HA6 hN hO hP e1 e2
    go_wp2_with (fail)
    clear k0 k1 f0 f1
    (with_reducible refine (pick_any r A n c xs p7 2 _ HA7.out.rdr (by omega) (by omega)).mono ?_)
    rintro e w8 ⟨u, rfl, u0, u1, _, hR1, hG1⟩
    have u1' := u1 (by omega)
    have HA8 := Lib.hid (HA7.out.moved hG1 hR1)
    clear HA7 hG1 hR1 u1
    have k0 := HA8.out.k0
    have k1 := HA8.out.k1
    have f0 := HA8.out.f0
    have f1 := HA8.out.f1
    by_cases hu : u = 0
    · subst hu
      go_wp2_with (fail)
      clear k0 k1 f0 f1
      (with_reducible refine (HA8.out.step _ 0 0 0 _ _ [] (by omega) (by omega) (by omega) (nothing _ _) (fun b _ => .inr (by omega)) (by omega) (by omega)).mono ?_)
      rintro e w9 ⟨v9, k9, rfl, An9, cn9, Af9, cf9, ns9, fs9, p9, rfl, hp9, hO, hN, hP, e1, e2⟩
      have k0 := hO.k0
      have k1 := hO.k1
      have f0 := hO.f0
      have f1 := hO.f1
      have HA9 := Lib.hid hN
      clear HA8 hN hO hP e1 e2
      go_wp2_with (fail)
      clear k0 k1 f0 f1
      (with_reducible refine (HA9.out.add _ _ (by omega)).mono ?_)
      rintro e w20 ⟨v20, k20, rfl, An20, cn20, Af20, cf20, ns20, fs20, p20, rfl, hp20, hO, hN, hP, e1, e2⟩
      have k0 := hO.k0
      have k1 := hO.k1
      have f0 := hO.f0
      have f1 := hO.f1
      have HA20 := Lib.hid hN
      clear HA9 hN hO hP e1 e2
      go_wp2_with (fail)
      clear k0 k1 f0 f1
      (with_reducible refine (HA20.out.link _ _ (by omega)).mono ?_)
      rintro e w21 ⟨v21, rfl, An21, cn21, Af21, cf21, ns21, fs21, p21, rfl, hp21, hO, hN, hP, e1, e2⟩
      clear HA20 hN
      have r0 := hO.r0
      have r1 := hO.r1
      have q0 := hO.q0
      have q1 := hO.q1
      obtain ⟨b0, b1, HD⟩ := hO.done hP (fun b (hb : Bad b) => Or.inl hb)
      have E1 := Lib.hid e1
      have E2 := Lib.hid e2
      clear hO hP e1 e2
      go_wp2
      refine bodyPost_ret (v := .agg #[.slice An21 ((1 + 4 + 1) + 1) cn21, .slice Af21 ((0 + 5 + 1) + 1) cf21]) (by simp [results, Try.results85, go_sem, b0, b1]) rfl ?_
      obtain ⟨hd1, hd2, hd3⟩ := HD.out
      exact ⟨An21, ((1 + 4 + 1) + 1), cn21, Af21, ((0 + 5 + 1) + 1), cf21, ns21, fs21, p21, rfl, E1.out, E2.out, by omega, by omega, by omega, by omega, hd1, hd2, by omega, hd3⟩
    · have hu' : (u == 0) = false := by simpa using hu
      go_wp2_with (fail)
      clear k0 k1 f0 f1
      (with_reducible refine (HA8.out.add _ _ (by omega)).mono ?_)
      rintro e w20 ⟨v20, k20, rfl, An20, cn20, Af20, cf20, ns20, fs20, p20, rfl, hp20, hO, hN, hP, e1, e2⟩
      have k0 := hO.k0
      have k1 := hO.k1
      have f0 := hO.f0
      have f1 := hO.f1
      have HA20 := Lib.hid hN
      clear HA8 hN hO hP e1 e2
      go_wp2_with (fail)
      clear k0 k1 f0 f1
      (with_reducible refine (HA20.out.link _ _ (by omega)).mono ?_)
      rintro e w21 ⟨v21, rfl, An21, cn21, Af21, cf21, ns21, fs21, p21, rfl, hp21, hO, hN, hP, e1, e2⟩
      clear HA20 hN
      have r0 := hO.r0
      have r1 := hO.r1
      have q0 := hO.q0
      have q1 := hO.q1
      obtain ⟨b0, b1, HD⟩ := hO.done hP (fun b (hb : Bad b) => Or.inl hb)
      have E1 := Lib.hid e1
      have E2 := Lib.hid e2
      clear hO hP e1 e2
      go_wp2
      refine bodyPost_ret (v := .agg #[.slice An21 ((1 + 4) + 1) cn21, .slice Af21 ((0 + 5) + 1) cf21]) (by simp [results, Try.results85, go_sem, b0, b1]) rfl ?_
      obtain ⟨hd1, hd2, hd3⟩ := HD.out
      exact ⟨An21, ((1 + 4) + 1), cn21, Af21, ((0 + 5) + 1), cf21, ns21, fs21, p21, rfl, E1.out, E2.out, by omega, by omega, by omega, by omega, hd1, hd2, by omega, hd3⟩
  · go_wp2_with (fail)
    clear k0 k1 f0 f1
    (with_reducible refine (HA6.out.block _ (by omega) (by omega) (by omega)).mono ?_)
    rintro e w7 ⟨v7, k7, rfl, An7, cn7, Af7, cf7, ns7, fs7, p7, rfl, hp7, hO, hN, hP, e1, e2⟩
    have k0 := hO.k0
    have k1 := hO.k1
    have f0 := hO.f0
    have f1 := hO.f1
    have HA7 := Lib.hid hN
    clear HA6 hN hO hP e1 e2
    go_wp2_with (fail)
    clear k0 k1 f0 f1
    (with_reducible refine (pick_any r A n c xs p7 2 _ HA7.out.rdr (by omega) (by omega)).mono ?_)
    rintro e w8 ⟨u, rfl, u0, u1, _, hR1, hG1⟩
    have u1' := u1 (by omega)
    have HA8 := Lib.hid (HA7.out.moved hG1 hR1)
    clear HA7 hG1 hR1 u1
    have k0 := HA8.out.k0
    have k1 := HA8.out.k1
    have f0 := HA8.out.f0
    have f1 := HA8.out.f1
    by_cases hu : u = 0
    · subst hu
      go_wp2_with (fail)
      clear k0 k1 f0 f1
      (with_reducible refine (HA8.out.step _ 0 0 0 _ _ [] (by omega) (by omega) (by omega) (nothing _ _) (fun b _ => .inr (by omega)) (by omega) (by omega)).mono ?_)
      rintro e w9 ⟨v9, k9, rfl, An9, cn9, Af9, cf9, ns9, fs9, p9, rfl, hp9, hO, hN, hP, e1, e2⟩
      have k0 := hO.k0
      have k1 := hO.k1
      have f0 := hO.f0
      have f1 := hO.f1
      have HA9 := Lib.hid hN
      clear HA8 hN hO hP e1 e2
      go_wp2_with (fail)
      clear k0 k1 f0 f1
      (with_reducible refine (HA9.out.add _ _ (by omega)).mono ?_)
      rintro e w20 ⟨v20, k20, rfl, An20, cn20, Af20, cf20, ns20, fs20, p20, rfl, hp20, hO, hN, hP, e1, e2⟩
      have k0 := hO.k0
      have k1 := hO.k1
      have f0 := hO.f0
      have f1 := hO.f1
      have HA20 := Lib.hid hN
      clear HA9 hN hO hP e1 e2
      go_wp2_with (fail)
      clear k0 k1 f0 f1
      (with_reducible refine (HA20.out.link _ _ (by omega)).mono ?_)
      rintro e w21 ⟨v21, rfl, An21, cn21, Af21, cf21, ns21, fs21, p21, rfl, hp21, hO, hN, hP, e1, e2⟩
      clear HA20 hN
      have r0 := hO.r0
      have r1 := hO.r1
      have q0 := hO.q0
      have q1 := hO.q1
      obtain ⟨b0, b1, HD⟩ := hO.done hP (fun b (hb : Bad b) => Or.inl hb)
      have E1 := Lib.hid e1
      have E2 := Lib.hid e2
      clear hO hP e1 e2
      go_wp2
      refine bodyPost_ret (v := .agg #[.slice An21 ((1 + 4 + 1) + 1) cn21, .slice Af21 ((0 + 5 + 1) + 1) cf21]) (by simp [results, Try.results85, go_sem, b0, b1]) rfl ?_
      obtain ⟨hd1, hd2, hd3⟩ := HD.out
      exact ⟨An21, ((1 + 4 + 1) + 1), cn21, Af21, ((0 + 5 + 1) + 1), cf21, ns21, fs21, p21, rfl, E1.out, E2.out, by omega, by omega, by omega, by omega, hd1, hd2, by omega, hd3⟩
    · have hu' : (u == 0) = false := by simpa using hu
      go_wp2_with (fail)
      clear k0 k1 f0 f1
      (with_reducible refine (HA8.out.add _ _ (by omega)).mono ?_)
      rintro e w20 ⟨v20, k20, rfl, An20, cn20, Af20, cf20, ns20, fs20, p20, rfl, hp20, hO, hN, hP, e1, e2⟩
      have k0 := hO.k0
      have k1 := hO.k1
      have f0 := hO.f0
      have f1 := hO.f1
      have HA20 := Lib.hid hN
      clear HA8 hN hO hP e1 e2
      go_wp2_with (fail)
      clear k0 k1 f0 f1
      (with_reducible refine (HA20.out.link _ _ (by omega)).mono ?_)
      rintro e w21 ⟨v21, rfl, An21, cn21, Af21, cf21, ns21, fs21, p21, rfl, hp21, hO, hN, hP, e1, e2⟩
      clear HA20 hN
      have r0 := hO.r0
      have r1 := hO.r1
      have q0 := hO.q0
      have q1 := hO.q1
      obtain ⟨b0, b1, HD⟩ := hO.done hP (fun b (hb : Bad b) => Or.inl hb)
      have E1 := Lib.hid e1
      have E2 := Lib.hid e2
      clear hO hP e1 e2
      go_wp2
      refine bodyPost_ret (v := .agg #[.slice An21 ((1 + 4) + 1) cn21, .slice Af21 ((0 + 5) + 1) cf21]) (by simp [results, Try.results85, go_sem, b0, b1]) rfl ?_
      obtain ⟨hd1, hd2, hd3⟩ := HD.out
      exact ⟨An21, ((1 + 4) + 1), cn21, Af21, ((0 + 5) + 1), cf21, ns21, fs21, p21, rfl, E1.out, E2.out, by omega, by omega, by omega, by omega, hd1, hd2, by omega, hd3⟩
  · go_wp2_with (fail)
    clear k0 k1 f0 f1
    (with_reducible refine (HA6.out.step _ 0 0 0 _ _ [] (by omega) (by omega) (by omega) (nothing _ _) (fun b _ => .inr (by omega)) (by omega) (by omega)).mono ?_)
    rintro e w7 ⟨v7, k7, rfl, An7, cn7, Af7, cf7, ns7, fs7, p7, rfl, hp7, hO, hN, hP, e1, e2⟩
    have k0 := hO.k0
    have k1 := hO.k1
    have f0 := hO.f0
    have f1 := hO.f1
    have HA7 := Lib.hid hN
    clear HA6 hN hO hP e1 e2
    go_wp2_with (fail)
    clear k0 k1 f0 f1
    (with_reducible refine (HA7.out.block _ (by omega) (by omega) (by omega)).mono ?_)
    rintro e w8 ⟨v8, k8, rfl, An8, cn8, Af8, cf8, ns8, fs8, p8, rfl, hp8, hO, hN, hP, e1, e2⟩
    have k0 := hO.k0
    have k1 := hO.k1
    have f0 := hO.f0
    have f1 := hO.f1
    have HA8 := Lib.hid hN
    clear HA7 hN hO hP e1 e2
    go_wp2_with (fail)
    clear k0 k1 f0 f1
    (with_reducible refine (HA8.out.add _ _ (by omega)).mono ?_)
    rintro e w20 ⟨v20, k20, rfl, An20, cn20, Af20, cf20, ns20, fs20, p20, rfl, hp20, hO, hN, hP, e1, e2⟩
    have k0 := hO.k0
    have k1 := hO.k1
    have f0 := hO.f0
    have f1 := hO.f1
    have HA20 := Lib.hid hN
    clear HA8 hN hO hP e1 e2
    go_wp2_with (fail)
    clear k0 k1 f0 f1
    (with_reducible refine (HA20.out.link _ _ (by omega)).mono ?_)
    rintro e w21 ⟨v21, rfl, An21, cn21, Af21, cf21, ns21, fs21, p21, rfl, hp21, hO, hN, hP, e1, e2⟩
    clear HA20 hN
    have r0 := hO.r0
    have r1 := hO.r1
    have q0 := hO.q0
    have q1 := hO.q1
    obtain ⟨b0, b1, HD⟩ := hO.done hP (fun b (hb : Bad b) => Or.inl hb)
    have E1 := Lib.hid e1
    have E2 := Lib.hid e2
    clear hO hP e1 e2
    go_wp2
    refine bodyPost_ret (v := .agg #[.slice An21 ((1 + 1 + 4) + 1) cn21, .slice Af21 ((0 + 1 + 5) + 1) cf21]) (by simp [results, Try.results85, go_sem, b0, b1]) rfl ?_
    obtain ⟨hd1, hd2, hd3⟩ := HD.out
    exact ⟨An21, ((1 + 1 + 4) + 1), cn21, Af21, ((0 + 1 + 5) + 1), cf21, ns21, fs21, p21, rfl, E1.out, E2.out, by omega, by omega, by omega, by omega, hd1, hd2, by omega, hd3⟩
  · go_wp2_with (fail)
    clear k0 k1 f0 f1
    (with_reducible refine (loop_any _ r A n c xs (p + 1) _ HA6.out.rdr (by omega) HA6.out.rb HA6.out.bad).mono ?_)
    rintro e w7 ⟨An7, ln7, cn7, Af7, lf7, cf7, ns7, fs7, p7, rfl, e1, e2, hl1, hl2, hl3, hl4, hP, hR7, hp7, hG7⟩
    have hO := HA6.out.moved hG7 hR7
    clear HA6 hR7 hG7
    have r0 := hO.r0
    have r1 := hO.r1
    have q0 := hO.q0
    have q1 := hO.q1
    obtain ⟨b0, b1, HD⟩ := hO.done hP (fun b (hb : Bad b) => Or.inl hb)
    have E1 := Lib.hid e1
    have E2 := Lib.hid e2
    clear hO hP e1 e2
    go_wp2
    refine bodyPost_ret (v := .agg #[.slice An7 ln7 cn7, .slice Af7 lf7 cf7]) (by simp [results, Try.results85, go_sem, b0, b1]) rfl ?_
    obtain ⟨hd1, hd2, hd3⟩ := HD.out
    exact ⟨An7, ln7, cn7, Af7, lf7, cf7, ns7, fs7, p7, rfl, E1.out, E2.out, by omega, by omega, by omega, by omega, hd1, hd2, by omega, hd3⟩
  · go_wp2_with (fail)
    clear k0 k1 f0 f1
    (with_reducible refine (ends_any _ r A n c xs (p + 1) _ HA6.out.rdr (by omega) HA6.out.rb HA6.out.bad).mono ?_)
    rintro e w7 ⟨An7, ln7, cn7, Af7, lf7, cf7, ns7, fs7, p7, rfl, e1, e2, hl1, hl2, hl3, hl4, hP, hR7, hp7, hG7⟩
    have hO := HA6.out.moved hG7 hR7
    clear HA6 hR7 hG7
    have r0 := hO.r0
    have r1 := hO.r1
    have q0 := hO.q0
    have q1 := hO.q1
    obtain ⟨b0, b1, HD⟩ := hO.done hP (fun b (hb : Bad b) => Or.inl hb)
    have E1 := Lib.hid e1
    have E2 := Lib.hid e2
    clear hO hP e1 e2
    go_wp2
    refine bodyPost_ret (v := .agg #[.slice An7 ln7 cn7, .slice Af7 lf7 cf7]) (by simp [results, Try.results85, go_sem, b0, b1]) rfl ?_
    obtain ⟨hd1, hd2, hd3⟩ := HD.out
    exact ⟨An7, ln7, cn7, Af7, lf7, cf7, ns7, fs7, p7, rfl, E1.out, E2.out, by omega, by omega, by omega, by omega, hd1, hd2, by omega, hd3⟩
end Go.Proofs.Ythlcbdjjegageaa
