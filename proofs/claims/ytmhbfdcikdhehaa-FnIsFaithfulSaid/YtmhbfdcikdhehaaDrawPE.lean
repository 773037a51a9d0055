/- Merged: DrawP9, DrawP10. -/
import Derived.Test.YtmhbfdcikdhehaaDrawPD
/- The drawing of processes: a valid one. -/
set_option linter.unusedSimpArgs false
set_option linter.unusedVariables false
namespace Go.Proofs.Ytmhbfdcikdhehaa
open Go.RowKit

set_option maxRecDepth 100000 in
set_option maxHeartbeats 6400000 in
theorem randomProcess_any (Bad : Nat → Prop) (r : Nat) (A : Option Addr) (n c : Nat) (xs : List Int) (p : Int) (w : World)
    (hR : Rdr w r A n c xs p) (hp : p ≤ 700000) (hrb : Bad r) (hbad : ∀ b, Bad b → b < w.heap.size) :
    Calls Try.prog 58 #[.pointer (some ⟨r, 0, none⟩)] w (Drawn Bad r A n c xs p 700 w) := by
  have hp0 := hR.2.2.2.2
  have hrw := hR.lt
  have HF := Lib.hid (first_any Bad r A n c xs p 0 0 w hR hrb hbad)
  clear hR hbad
  go_enter Try.func58, Try.ntmps58
  go_wp2_with (fail)
  (with_reducible refine HF.out.mono ?_)
  rintro e w1 ⟨An1, cn1, Af1, cf1, ns1, fs1, rfl, hlt, hA⟩
  have HA1 := Lib.hid hA
  clear hA HF
  go_wp2_with (fail)
  (with_reducible refine (pick_any r A n c xs p 6 _ HA1.out.rdr (by omega) (by omega)).mono ?_)
  rintro e w6 ⟨v, rfl, v0, v1, _, hR1, hG1⟩
  have v1' := v1 (by omega)
  have HA6 := Lib.hid (HA1.out.moved hG1 hR1)
  clear HA1 hG1 hR1 v1
  have k0 := HA6.out.k0
  have k1 := HA6.out.k1
  have f0 := HA6.out.f0
  have f1 := HA6.out.f1
  rcases (show v = 0 ∨ v = 1 ∨ v = 2 ∨ v = 3 ∨ v = 4 ∨ v = 5 by omega) with rfl | rfl | rfl | rfl | rfl | rfl
  · go_wp2_with (fail)
    clear k0 k1 f0 f1
    (with_reducible refine (pick_any r A n c xs (p + 1) 4 _ HA6.out.rdr (by omega) (by omega)).mono ?_)
    rintro e w7 ⟨u, rfl, u0, u1, _, hR1, hG1⟩
    have u1' := u1 (by omega)
    have HA7 := Lib.hid (HA6.out.moved hG1 hR1)
    clear HA6 hG1 hR1 u1
    have k0 := HA7.out.k0
    have k1 := HA7.out.k1
    have f0 := HA7.out.f0
    have f1 := HA7.out.f1
    obtain ⟨u, rfl⟩ := Int.eq_ofNat_of_zero_le u0
    clear k0 k1 f0 f1
    go_wp2
    go_loopw [4, 5] (fun av nv wr => ∃ (m : Nat) (a : Int) (An : Option Addr) (ln cn : Nat) (Af : Option Addr) (lf cf : Nat) (ns : List (Int × Int)) (fs : List Flw) (pp : Int), av = .int .i64 a ∧ nv = .int .i64 m ∧ m ≤ 4 ∧
        Hid (At (fun b => Bad b ∨ b = w.heap.size ∨ b = w1.heap.size) r A n c xs w1.heap.size w.heap.size w wr An ln cn Af lf cf ns fs pp) ∧ 1 ≤ ln ∧ ln + m ≤ 5 ∧ lf + m ≤ 4 ∧ pp + 3 * (m : Int) ≤ p + 20)
      (fun _ nv _ => (intOf nv).toNat)
    case atStart => exact ⟨1 + u, 0, An1, 1, cn1, Af1, 0, cf1, ns1, fs1, p + 1 + 1, rfl, by go_num, by omega, HA7, by omega, by omega, by omega, by omega⟩
    case round =>
      clear HA7
      obtain ⟨m, a, An, ln, cn, Af, lf, cf, ns, fs, pp, rfl, rfl, hm3, HA, hl1, hlm, hfm, hpp⟩ := hrel
      have hpp0 := HA.out.rdr.2.2.2.2
      have k0 := HA.out.k0
      have k1 := HA.out.k1
      have f0 := HA.out.f0
      have f1 := HA.out.f1
      cases m with
      | zero =>
        go_wp2_with (fail)
        clear k0 k1 f0 f1
        (with_reducible refine (HA.out.add _ _ (by omega)).mono ?_)
        rintro e w20 ⟨v20, k20, rfl, An20, cn20, Af20, cf20, ns20, fs20, p20, rfl, hp20, hO, hN, hP, e1, e2⟩
        have k0 := hO.k0
        have k1 := hO.k1
        have f0 := hO.f0
        have f1 := hO.f1
        have HA20 := Lib.hid hN
        clear HA hN hO hP e1 e2
        go_wp2_with (fail)
        clear k0 k1 f0 f1
        (with_reducible refine (HA20.out.link _ _ (by omega)).mono ?_)
        rintro e w21 ⟨v21, rfl, An21, cn21, Af21, cf21, ns21, fs21, p21, rfl, hp21, hO, hN, hP, e1, e2⟩
        clear HA20 hN
        have r0 := hO.r0
        have r1 := hO.r1
        have q0 := hO.q0
        have q1 := hO.q1
        obtain ⟨b0, b1, HD⟩ := hO.done hP (fun b (hb : Bad b) => Or.inl hb)
        have E1 := Lib.hid e1
        have E2 := Lib.hid e2
        clear hO hP e1 e2
        go_wp2
        refine bodyPost_ret (v := .agg #[.slice An21 (ln + 1) cn21, .slice Af21 (lf + 1) cf21]) (by simp [results, Try.results58, go_sem, b0, b1]) rfl ?_
        obtain ⟨hd1, hd2, hd3⟩ := HD.out
        exact ⟨An21, (ln + 1), cn21, Af21, (lf + 1), cf21, ns21, fs21, p21, rfl, E1.out, E2.out, by omega, by omega, by omega, by omega, hd1, hd2, by omega, hd3⟩
      | succ m =>
        go_wp2_with (fail)
        clear k0 k1 f0 f1
        (with_reducible refine (HA.out.step _ 0 0 0 _ _ [] (by omega) (by omega) (by omega) (nothing _ _) (fun b _ => .inr (by omega)) (by omega) (by omega)).mono ?_)
        rintro e w8 ⟨v8, k8, rfl, An8, cn8, Af8, cf8, ns8, fs8, p8, rfl, hp8, hO, hN, hP, e1, e2⟩
        have k0 := hO.k0
        have k1 := hO.k1
        have f0 := hO.f0
        have f1 := hO.f1
        have HA8 := Lib.hid hN
        clear HA hN hO hP e1 e2
        go_wp2
        go_roundw
        case rel => exact ⟨m, k8, An8, ln + 1, cn8, Af8, lf + 1, cf8, ns8, fs8, p8, rfl, by go_num, by omega, HA8, by omega, by omega, by omega, by omega⟩
        case measure => simp [intOf]; try omega
  · go_wp2_with (fail)
    clear k0 k1 f0 f1
    (with_reducible refine (HA6.out.block _ (by omega) (by omega) (by omega)).mono ?_)
    rintro e w7 ⟨v7, k7, rfl, An7, cn7, Af7, cf7, ns7, fs7, p7, rfl, hp7, hO, hN, hP, e1, e2⟩
    have k0 := hO.k0
    have k1 := hO.k1
    have f0 := hO.f0
    have f1 := hO.f1
    have HA7 := Lib.hid hN
    clear HA6 hN hO hP e1 e2
    go_wp2_with (fail)
    clear k0 k1 f0 f1
    (with_reducible refine (pick_any r A n c xs p7 2 _ HA7.out.rdr (by omega) (by omega)).mono ?_)
    rintro e w8 ⟨u, rfl, u0, u1, _, hR1, hG1⟩
    have u1' := u1 (by omega)
    have HA8 := Lib.hid (HA7.out.moved hG1 hR1)
    clear HA7 hG1 hR1 u1
    have k0 := HA8.out.k0
    have k1 := HA8.out.k1
    have f0 := HA8.out.f0
    have f1 := HA8.out.f1
    by_cases hu : u = 0
    · subst hu
      go_wp2_with (fail)
      clear k0 k1 f0 f1
      (with_reducible refine (HA8.out.step _ 0 0 0 _ _ [] (by omega) (by omega) (by omega) (nothing _ _) (fun b _ => .inr (by omega)) (by omega) (by omega)).mono ?_)
      rintro e w9 ⟨v9, k9, rfl, An9, cn9, Af9, cf9, ns9, fs9, p9, rfl, hp9, hO, hN, hP, e1, e2⟩
      have k0 := hO.k0
      have k1 := hO.k1
      have f0 := hO.f0
      have f1 := hO.f1
      have HA9 := Lib.hid hN
      clear HA8 hN hO hP e1 e2
      go_wp2_with (fail)
      clear k0 k1 f0 f1
      (with_reducible refine (HA9.out.add _ _ (by omega)).mono ?_)
      rintro e w20 ⟨v20, k20, rfl, An20, cn20, Af20, cf20, ns20, fs20, p20, rfl, hp20, hO, hN, hP, e1, e2⟩
      have k0 := hO.k0
      have k1 := hO.k1
      have f0 := hO.f0
      have f1 := hO.f1
      have HA20 := Lib.hid hN
      clear HA9 hN hO hP e1 e2
      go_wp2_with (fail)
      clear k0 k1 f0 f1
      (with_reducible refine (HA20.out.link _ _ (by omega)).mono ?_)
      rintro e w21 ⟨v21, rfl, An21, cn21, Af21, cf21, ns21, fs21, p21, rfl, hp21, hO, hN, hP, e1, e2⟩
      clear HA20 hN
      have r0 := hO.r0
      have r1 := hO.r1
      have q0 := hO.q0
      have q1 := hO.q1
      obtain ⟨b0, b1, HD⟩ := hO.done hP (fun b (hb : Bad b) => Or.inl hb)
      have E1 := Lib.hid e1
      have E2 := Lib.hid e2
      clear hO hP e1 e2
      go_wp2
      refine bodyPost_ret (v := .agg #[.slice An21 ((1 + 4 + 1) + 1) cn21, .slice Af21 ((0 + 5 + 1) + 1) cf21]) (by simp [results, Try.results58, go_sem, b0, b1]) rfl ?_
      obtain ⟨hd1, hd2, hd3⟩ := HD.out
      exact ⟨An21, ((1 + 4 + 1) + 1), cn21, Af21, ((0 + 5 + 1) + 1), cf21, ns21, fs21, p21, rfl, E1.out, E2.out, by omega, by omega, by omega, by omega, hd1, hd2, by omega, hd3⟩
    · have hu' : (u == 0) = false := by simpa using hu
      go_wp2_with (fail)
      clear k0 k1 f0 f1
      (with_reducible refine (HA8.out.add _ _ (by omega)).mono ?_)
      rintro e w20 ⟨v20, k20, rfl, An20, cn20, Af20, cf20, ns20, fs20, p20, rfl, hp20, hO, hN, hP, e1, e2⟩
      have k0 := hO.k0
      have k1 := hO.k1
      have f0 := hO.f0
      have f1 := hO.f1
      have HA20 := Lib.hid hN
      clear HA8 hN hO hP e1 e2
      go_wp2_with (fail)
      clear k0 k1 f0 f1
      (with_reducible refine (HA20.out.link _ _ (by omega)).mono ?_)
      rintro e w21 ⟨v21, rfl, An21, cn21, Af21, cf21, ns21, fs21, p21, rfl, hp21, hO, hN, hP, e1, e2⟩
      clear HA20 hN
      have r0 := hO.r0
      have r1 := hO.r1
      have q0 := hO.q0
      have q1 := hO.q1
      obtain ⟨b0, b1, HD⟩ := hO.done hP (fun b (hb : Bad b) => Or.inl hb)
      have E1 := Lib.hid e1
      have E2 := Lib.hid e2
      clear hO hP e1 e2
      go_wp2
      refine bodyPost_ret (v := .agg #[.slice An21 ((1 + 4) + 1) cn21, .slice Af21 ((0 + 5) + 1) cf21]) (by simp [results, Try.results58, go_sem, b0, b1]) rfl ?_
      obtain ⟨hd1, hd2, hd3⟩ := HD.out
      exact ⟨An21, ((1 + 4) + 1), cn21, Af21, ((0 + 5) + 1), cf21, ns21, fs21, p21, rfl, E1.out, E2.out, by omega, by omega, by omega, by omega, hd1, hd2, by omega, hd3⟩
  · go_wp2_with (fail)
    clear k0 k1 f0 f1
    (with_reducible refine (HA6.out.block _ (by omega) (by omega) (by omega)).mono ?_)
    rintro e w7 ⟨v7, k7, rfl, An7, cn7, Af7, cf7, ns7, fs7, p7, rfl, hp7, hO, hN, hP, e1, e2⟩
    have k0 := hO.k0
    have k1 := hO.k1
    have f0 := hO.f0
    have f1 := hO.f1
    have HA7 := Lib.hid hN
    clear HA6 hN hO hP e1 e2
    go_wp2_with (fail)
    clear k0 k1 f0 f1
    (with_reducible refine (pick_any r A n c xs p7 2 _ HA7.out.rdr (by omega) (by omega)).mono ?_)
    rintro e w8 ⟨u, rfl, u0, u1, _, hR1, hG1⟩
    have u1' := u1 (by omega)
    have HA8 := Lib.hid (HA7.out.moved hG1 hR1)
    clear HA7 hG1 hR1 u1
    have k0 := HA8.out.k0
    have k1 := HA8.out.k1
    have f0 := HA8.out.f0
    have f1 := HA8.out.f1
    by_cases hu : u = 0
    · subst hu
      go_wp2_with (fail)
      clear k0 k1 f0 f1
      (with_reducible refine (HA8.out.step _ 0 0 0 _ _ [] (by omega) (by omega) (by omega) (nothing _ _) (fun b _ => .inr (by omega)) (by omega) (by omega)).mono ?_)
      rintro e w9 ⟨v9, k9, rfl, An9, cn9, Af9, cf9, ns9, fs9, p9, rfl, hp9, hO, hN, hP, e1, e2⟩
      have k0 := hO.k0
      have k1 := hO.k1
      have f0 := hO.f0
      have f1 := hO.f1
      have HA9 := Lib.hid hN
      clear HA8 hN hO hP e1 e2
      go_wp2_with (fail)
      clear k0 k1 f0 f1
      (with_reducible refine (HA9.out.add _ _ (by omega)).mono ?_)
      rintro e w20 ⟨v20, k20, rfl, An20, cn20, Af20, cf20, ns20, fs20, p20, rfl, hp20, hO, hN, hP, e1, e2⟩
      have k0 := hO.k0
      have k1 := hO.k1
      have f0 := hO.f0
      have f1 := hO.f1
      have HA20 := Lib.hid hN
      clear HA9 hN hO hP e1 e2
      go_wp2_with (fail)
      clear k0 k1 f0 f1
      (with_reducible refine (HA20.out.link _ _ (by omega)).mono ?_)
      rintro e w21 ⟨v21, rfl, An21, cn21, Af21, cf21, ns21, fs21, p21, rfl, hp21, hO, hN, hP, e1, e2⟩
      clear HA20 hN
      have r0 := hO.r0
      have r1 := hO.r1
      have q0 := hO.q0
      have q1 := hO.q1
      obtain ⟨b0, b1, HD⟩ := hO.done hP (fun b (hb : Bad b) => Or.inl hb)
      have E1 := Lib.hid e1
      have E2 := Lib.hid e2
      clear hO hP e1 e2
      go_wp2
      refine bodyPost_ret (v := .agg #[.slice An21 ((1 + 4 + 1) + 1) cn21, .slice Af21 ((0 + 5 + 1) + 1) cf21]) (by simp [results, Try.results58, go_sem, b0, b1]) rfl ?_
      obtain ⟨hd1, hd2, hd3⟩ := HD.out
      exact ⟨An21, ((1 + 4 + 1) + 1), cn21, Af21, ((0 + 5 + 1) + 1), cf21, ns21, fs21, p21, rfl, E1.out, E2.out, by omega, by omega, by omega, by omega, hd1, hd2, by omega, hd3⟩
    · have hu' : (u == 0) = false := by simpa using hu
      go_wp2_with (fail)
      clear k0 k1 f0 f1
      (with_reducible refine (HA8.out.add _ _ (by omega)).mono ?_)
      rintro e w20 ⟨v20, k20, rfl, An20, cn20, Af20, cf20, ns20, fs20, p20, rfl, hp20, hO, hN, hP, e1, e2⟩
      have k0 := hO.k0
      have k1 := hO.k1
      have f0 := hO.f0
      have f1 := hO.f1
      have HA20 := Lib.hid hN
      clear HA8 hN hO hP e1 e2
      go_wp2_with (fail)
      clear k0 k1 f0 f1
      (with_reducible refine (HA20.out.link _ _ (by omega)).mono ?_)
      rintro e w21 ⟨v21, rfl, An21, cn21, Af21, cf21, ns21, fs21, p21, rfl, hp21, hO, hN, hP, e1, e2⟩
      clear HA20 hN
      have r0 := hO.r0
      have r1 := hO.r1
      have q0 := hO.q0
      have q1 := hO.q1
      obtain ⟨b0, b1, HD⟩ := hO.done hP (fun b (hb : Bad b) => Or.inl hb)
      have E1 := Lib.hid e1
      have E2 := Lib.hid e2
      clear hO hP e1 e2
      go_wp2
      refine bodyPost_ret (v := .agg #[.slice An21 ((1 + 4) + 1) cn21, .slice Af21 ((0 + 5) + 1) cf21]) (by simp [results, Try.results58, go_sem, b0, b1]) rfl ?_
      obtain ⟨hd1, hd2, hd3⟩ := HD.out
      exact ⟨An21, ((1 + 4) + 1), cn21, Af21, ((0 + 5) + 1), cf21, ns21, fs21, p21, rfl, E1.out, E2.out, by omega, by omega, by omega, by omega, hd1, hd2, by omega, hd3⟩
  · go_wp2_with (fail)
    clear k0 k1 f0 f1
    (with_reducible refine (HA6.out.step _ 0 0 0 _ _ [] (by omega) (by omega) (by omega) (nothing _ _) (fun b _ => .inr (by omega)) (by omega) (by omega)).mono ?_)
    rintro e w7 ⟨v7, k7, rfl, An7, cn7, Af7, cf7, ns7, fs7, p7, rfl, hp7, hO, hN, hP, e1, e2⟩
    have k0 := hO.k0
    have k1 := hO.k1
    have f0 := hO.f0
    have f1 := hO.f1
    have HA7 := Lib.hid hN
    clear HA6 hN hO hP e1 e2
    go_wp2_with (fail)
    clear k0 k1 f0 f1
    (with_reducible refine (HA7.out.block _ (by omega) (by omega) (by omega)).mono ?_)
    rintro e w8 ⟨v8, k8, rfl, An8, cn8, Af8, cf8, ns8, fs8, p8, rfl, hp8, hO, hN, hP, e1, e2⟩
    have k0 := hO.k0
    have k1 := hO.k1
    have f0 := hO.f0
    have f1 := hO.f1
    have HA8 := Lib.hid hN
    clear HA7 hN hO hP e1 e2
    go_wp2_with (fail)
    clear k0 k1 f0 f1
    (with_reducible refine (HA8.out.add _ _ (by omega)).mono ?_)
    rintro e w20 ⟨v20, k20, rfl, An20, cn20, Af20, cf20, ns20, fs20, p20, rfl, hp20, hO, hN, hP, e1, e2⟩
    have k0 := hO.k0
    have k1 := hO.k1
    have f0 := hO.f0
    have f1 := hO.f1
    have HA20 := Lib.hid hN
    clear HA8 hN hO hP e1 e2
    go_wp2_with (fail)
    clear k0 k1 f0 f1
    (with_reducible refine (HA20.out.link _ _ (by omega)).mono ?_)
    rintro e w21 ⟨v21, rfl, An21, cn21, Af21, cf21, ns21, fs21, p21, rfl, hp21, hO, hN, hP, e1, e2⟩
    clear HA20 hN
    have r0 := hO.r0
    have r1 := hO.r1
    have q0 := hO.q0
    have q1 := hO.q1
    obtain ⟨b0, b1, HD⟩ := hO.done hP (fun b (hb : Bad b) => Or.inl hb)
    have E1 := Lib.hid e1
    have E2 := Lib.hid e2
    clear hO hP e1 e2
    go_wp2
    refine bodyPost_ret (v := .agg #[.slice An21 ((1 + 1 + 4) + 1) cn21, .slice Af21 ((0 + 1 + 5) + 1) cf21]) (by simp [results, Try.results58, go_sem, b0, b1]) rfl ?_
    obtain ⟨hd1, hd2, hd3⟩ := HD.out
    exact ⟨An21, ((1 + 1 + 4) + 1), cn21, Af21, ((0 + 1 + 5) + 1), cf21, ns21, fs21, p21, rfl, E1.out, E2.out, by omega, by omega, by omega, by omega, hd1, hd2, by omega, hd3⟩
  · go_wp2_with (fail)
    clear k0 k1 f0 f1
    (with_reducible refine (loop_any _ r A n c xs (p + 1) _ HA6.out.rdr (by omega) HA6.out.rb HA6.out.bad).mono ?_)
    rintro e w7 ⟨An7, ln7, cn7, Af7, lf7, cf7, ns7, fs7, p7, rfl, e1, e2, hl1, hl2, hl3, hl4, hP, hR7, hp7, hG7⟩
    have hO := HA6.out.moved hG7 hR7
    clear HA6 hR7 hG7
    have r0 := hO.r0
    have r1 := hO.r1
    have q0 := hO.q0
    have q1 := hO.q1
    obtain ⟨b0, b1, HD⟩ := hO.done hP (fun b (hb : Bad b) => Or.inl hb)
    have E1 := Lib.hid e1
    have E2 := Lib.hid e2
    clear hO hP e1 e2
    go_wp2
    refine bodyPost_ret (v := .agg #[.slice An7 ln7 cn7, .slice Af7 lf7 cf7]) (by simp [results, Try.results58, go_sem, b0, b1]) rfl ?_
    obtain ⟨hd1, hd2, hd3⟩ := HD.out
    exact ⟨An7, ln7, cn7, Af7, lf7, cf7, ns7, fs7, p7, rfl, E1.out, E2.out, by omega, by omega, by omega, by omega, hd1, hd2, by omega, hd3⟩
  · go_wp2_with (fail)
    clear k0 k1 f0 f1
    (with_reducible refine (ends_any _ r A n c xs (p + 1) _ HA6.out.rdr (by omega) HA6.out.rb HA6.out.bad).mono ?_)
    rintro e w7 ⟨An7, ln7, cn7, Af7, lf7, cf7, ns7, fs7, p7, rfl, e1, e2, hl1, hl2, hl3, hl4, hP, hR7, hp7, hG7⟩
    have hO := HA6.out.moved hG7 hR7
    clear HA6 hR7 hG7
    have r0 := hO.r0
    have r1 := hO.r1
    have q0 := hO.q0
    have q1 := hO.q1
    obtain ⟨b0, b1, HD⟩ := hO.done hP (fun b (hb : Bad b) => Or.inl hb)
    have E1 := Lib.hid e1
    have E2 := Lib.hid e2
    clear hO hP e1 e2
    go_wp2
    refine bodyPost_ret (v := .agg #[.slice An7 ln7 cn7, .slice Af7 lf7 cf7]) (by simp [results, Try.results58, go_sem, b0, b1]) rfl ?_
    obtain ⟨hd1, hd2, hd3⟩ := HD.out
    exact ⟨An7, ln7, cn7, Af7, lf7, cf7, ns7, fs7, p7, rfl, E1.out, E2.out, by omega, by omega, by omega, by omega, hd1, hd2, by omega, hd3⟩
end Go.Proofs.Ytmhbfdcikdhehaa


/- The drawing of processes: one that may be invalid. -/
namespace Go.Proofs.Ytmhbfdcikdhehaa
open Go.RowKit

theorem Prc.caps {Bad : Nat → Prop} {w : World} {An Af : Option Addr} {ln cn lf cf : Nat} {ns : List (Int × Int)} {fs : List Flw} (h : Prc w Bad (.slice An ln cn) (.slice Af lf cf) ns fs) : ln ≤ cn ∧ cn ≤ 9223372036854775807 ∧ lf ≤ cf ∧ cf ≤ 9223372036854775807 := by
  obtain ⟨An', cn', A', c', e, e', q1, q2, q3, q4⟩ := h.form
  injection e with _ e1 e2
  injection e' with _ e3 e4
  subst e1; subst e2; subst e3; subst e4
  exact ⟨q1, q3, q2, q4⟩
section
variable {Bad : Nat → Prop} {r : Nat} {A : Option Addr} {n c : Nat} {xs : List Int} {g q : Nat} {w w' : World} {An : Option Addr} {ln cn : Nat} {Af : Option Addr} {lf cf : Nat} {ns : List (Int × Int)} {fs : List Flw} {p : Int}
theorem At.last (h : At Bad r A n c xs g q w w' An ln cn Af lf cf ns fs p) (hB : ∀ b, b < w.heap.size → Bad b) (h1 : ln ≤ 21) (h2 : lf ≤ 21) {p0 K : Int} (hp : p ≤ p0 + K) :
    ((w'.setCell ⟨q, 0, none⟩ (.slice An ln cn)).setCell ⟨q, 1, none⟩ (.slice Af lf cf)).cell? ⟨q, 0, none⟩ = some (.slice An ln cn) ∧
    ((w'.setCell ⟨q, 0, none⟩ (.slice An ln cn)).setCell ⟨q, 1, none⟩ (.slice Af lf cf)).cell? ⟨q, 1, none⟩ = some (.slice Af lf cf) ∧
    Hid (DrawnP r A n c xs p0 K w (.returned (.agg #[.slice An ln cn, .slice Af lf cf])) ((w'.setCell ⟨q, 0, none⟩ (.slice An ln cn)).setCell ⟨q, 1, none⟩ (.slice Af lf cf))) := by
  obtain ⟨b0, b1, HD⟩ := h.done h.prc hB
  obtain ⟨d1, d2, d3⟩ := HD.out
  obtain ⟨c1, c2, c3, c4⟩ := h.prc.caps
  obtain ⟨s1, s2⟩ := d1.high h.en.symm h.ef.symm
  exact ⟨b0, b1, Lib.hid ⟨An, ln, cn, Af, lf, cf, ns, fs, p, rfl, h1, h2, c1, c2, c3, c4, s1, s2, d2, hp, d3⟩⟩
theorem Fls.none {w : World} {lo hi : Nat} {A A' : Option Addr} {fs : List Flw} (h : Fls w lo hi A 0 fs) : Fls w lo hi A' 0 fs := by
  obtain ⟨hl, hs, hl', hr, hc⟩ := h
  exact ⟨hl, hs, hl', ⟨hr.1, fun h => absurd h (by omega)⟩, hc⟩
/-- The first flow is cut off. -/
theorem At.lastTail {gf : Nat} (h : At Bad r A n c xs g q w w' An ln cn (some ⟨gf, 0, none⟩) (lf + 1) cf ns fs p) (hB : ∀ b, b < w.heap.size → Bad b) (h1 : ln ≤ 21) (h2 : lf ≤ 20) {p0 K : Int} (hp : p ≤ p0 + K) (A' : Option Addr) (c' : Nat) (hA : A' = some ⟨gf, 3, none⟩ ∨ lf = 0) (hc1 : lf ≤ c') (hc2 : c' ≤ 9223372036854775807) :
    (((w'.setCell ⟨g, 1, none⟩ (.slice A' lf c')).setCell ⟨q, 0, none⟩ (.slice An ln cn)).setCell ⟨q, 1, none⟩ (.slice A' lf c')).cell? ⟨q, 0, none⟩ = some (.slice An ln cn) ∧
    (((w'.setCell ⟨g, 1, none⟩ (.slice A' lf c')).setCell ⟨q, 0, none⟩ (.slice An ln cn)).setCell ⟨q, 1, none⟩ (.slice A' lf c')).cell? ⟨q, 1, none⟩ = some (.slice A' lf c') ∧
    Hid (DrawnP r A n c xs p0 K w (.returned (.agg #[.slice An ln cn, .slice A' lf c'])) (((w'.setCell ⟨g, 1, none⟩ (.slice A' lf c')).setCell ⟨q, 0, none⟩ (.slice An ln cn)).setCell ⟨q, 1, none⟩ (.slice A' lf c'))) := by
  have hl := Nat.lt_of_lt_of_le h.lt h.wg
  have hq : r < q := Nat.lt_of_lt_of_le h.lt h.wq
  have hZ := ((h.res.far (p := ⟨g, 1, none⟩) h.ne (.slice A' lf c')).put 0 (.slice An ln cn)).put 1 (.slice A' lf c')
  have b0 := hZ.cell 0
  have b1 := hZ.cell 1
  simp at b0 b1
  have hP := ((h.prc.set ⟨g, 1, none⟩ (.slice A' lf c') h.gb).set ⟨q, 0, none⟩ (.slice An ln cn) h.qb).set ⟨q, 1, none⟩ (.slice A' lf c') h.qb
  have hR := rdr_set (rdr_set (rdr_set h.rdr ⟨g, 1, none⟩ (.slice A' lf c') hl) ⟨q, 0, none⟩ (.slice An ln cn) hq) ⟨q, 1, none⟩ (.slice A' lf c') hq
  have hG := but_put (but_put (but_put h.but (p := ⟨g, 1, none⟩) (.inr h.wg) (.slice A' lf c')) (p := ⟨q, 0, none⟩) (.inr h.wq) (.slice An ln cn)) (p := ⟨q, 1, none⟩) (.inr h.wq) (.slice A' lf c')
  obtain ⟨c1, c2, c3, c4⟩ := h.prc.caps
  obtain ⟨s1, s2⟩ := (hP.less hB).high h.en.symm h.ef.symm
  have s3 := s2.tail
  refine ⟨b0, b1, Lib.hid ⟨An, ln, cn, A', lf, c', ns, fs.tail, p, rfl, h1, by omega, c1, c2, hc1, hc2, s1, ?_, hR, hp, hG⟩⟩
  rcases hA with rfl | rfl
  · simpa using s3
  · exact Fls.none s3
/-- Where the rows lie. -/
theorem At.nodeRow (h : At Bad r A n c xs g q w w' An ln cn Af lf cf ns fs p) (h1 : 1 ≤ ln) : ∃ gn, An = some ⟨gn, 0, none⟩ ∧ ¬ Bad gn := by
  have ho := h.prc.1
  rw [h.en] at ho
  obtain ⟨gn, rfl, _, _⟩ := own_long ho h1
  exact ⟨gn, rfl, h.prc.2.2.1 gn rfl⟩
theorem At.flowRow (h : At Bad r A n c xs g q w w' An ln cn Af lf cf ns fs p) (h1 : 1 ≤ lf) : ∃ gf, Af = some ⟨gf, 0, none⟩ ∧ ¬ Bad gf := by
  obtain ⟨_, _, _, b2, hs, h3, h4, h5⟩ := h.prc
  rw [h.ef] at h4
  obtain ⟨gf, rfl, _, _⟩ := own_long h4 h1
  exact ⟨gf, rfl, b2 gf rfl⟩
/-- The cells of a node, of a flow. -/
theorem At.nodeCell {gn : Nat} (h : At Bad r A n c xs g q w w' (some ⟨gn, 0, none⟩) ln cn Af lf cf ns fs p) {k : Nat} (hk : k < ln) : ∃ x y, ns[k]? = some (x, y) ∧ w'.cell? ⟨gn, k * 2 + 1, none⟩ = some (.int .i64 y) ∧ w'.frozen? ⟨gn, k * 2 + 1, none⟩ = false := by
  have ho := h.prc.1
  rw [h.en] at ho
  have hk' : k < ns.length := by rw [h.en]; exact hk
  have hg := pvs_get ns k hk'
  exact ⟨ns[k].1, ns[k].2, by simp [hk'], (ho.cellAt (k * 2 + 1) (by omega)).trans hg.2, ho.frozenAt _⟩
theorem At.flowCell {gf : Nat} (h : At Bad r A n c xs g q w w' An ln cn (some ⟨gf, 0, none⟩) lf cf ns fs p) {k : Nat} (hk : k < lf) : ∃ x y ps, fs[k]? = some (x, y, ps) ∧ w'.cell? ⟨gf, k * 3 + 1, none⟩ = some (.int .i64 y) ∧ w'.frozen? ⟨gf, k * 3 + 1, none⟩ = false ∧
    ∃ d : Hd, w'.cell? ⟨gf, k * 3 + 2, none⟩ = some (hdv d) ∧ w'.frozen? ⟨gf, k * 3 + 2, none⟩ = false := by
  obtain ⟨_, _, _, b2, hs, h3, h4, h5⟩ := h.prc
  rw [h.ef] at h4
  have hk' : k < fs.length := by rw [h.ef]; exact hk
  have e1 : fs[k]? = some fs[k] := List.getElem?_eq_getElem hk'
  have e2 : hs[k]? = some hs[k] := List.getElem?_eq_getElem (by omega)
  have hg := fvs_get fs hs k _ _ e1 e2
  exact ⟨fs[k].1, fs[k].2.1, fs[k].2.2, e1, (h4.cellAt (k * 3 + 1) (by omega)).trans hg.2.1, h4.frozenAt _, hs[k], (h4.cellAt (k * 3 + 2) (by omega)).trans hg.2.2, h4.frozenAt _⟩
end

set_option maxRecDepth 100000 in
set_option maxHeartbeats 6400000 in
theorem anyProcess_any (r : Nat) (A : Option Addr) (n c : Nat) (xs : List Int) (p : Int) (w : World)
    (hR : Rdr w r A n c xs p) (hp : p ≤ 500000) :
    Calls Try.prog 31 #[.pointer (some ⟨r, 0, none⟩)] w (DrawnP r A n c xs p 1000 w) := by
  have hp0 := hR.2.2.2.2
  have hrw := hR.lt
  have hb1 := up_alloc (Below.refl _ w) (.cells #[.slice none 0 0, .slice none 0 0] 26)
  have HQ := Lib.hid (Blk.new w 26 #[.slice none 0 0, .slice none 0 0])
  have HC := Lib.hid (randomProcess_any (fun b => b < w.heap.size + 1) r A n c xs p _ (hR.below hb1) (by omega) (by show r < w.heap.size + 1; omega) (fun b (hb : b < w.heap.size + 1) => by simpa using hb))
  clear hR
  go_enter Try.func31, Try.ntmps31
  go_wp2_with (fail)
  (with_reducible refine HC.out.mono ?_)
  rintro e w1 ⟨An, ln, cn, Af, lf, cf, ns, fs, p1, rfl, e1, e2, l1, l2, f1, f2, hP, hR1, hp1, hG1⟩
  have hs1 : w.heap.size + 1 ≤ w1.heap.size := by have := hG1.size; simpa using this
  have hrw1 : r < w1.heap.size := hR1.lt
  have hb2 := up_alloc (Below.refl _ w1) (.cells #[.slice An ln cn, .slice Af lf cf] 26)
  have HA1 : Hid (At (fun b => b < w.heap.size + 1 ∨ b = w1.heap.size) r A n c xs w1.heap.size w.heap.size w (w1.alloc (.cells #[.slice An ln cn, .slice Af lf cf] 26)) An ln cn Af lf cf ns fs p1) :=
    Lib.hid ⟨(hP.more (Bad' := fun b => b < w.heap.size + 1 ∨ b = w1.heap.size) (fun b hb => by rcases hb with hb | hb; exact .inl hb; exact .inr (by omega))).below hb2, hR1.below hb2, but_below (but_trans (but_below (but_refl r w) hb1) hG1) hb2, Blk.new w1 _ _,
      (HQ.out.but hG1 (by omega)).alloc _, hrw, fun b hb => by simp; rcases hb with hb | hb <;> omega, .inl (by omega), .inr rfl, .inl (by omega), by omega, Nat.le_refl _, by omega, e1, e2⟩
  have HB : ∀ b, b < w.heap.size → (fun b => b < w.heap.size + 1 ∨ b = w1.heap.size) b := fun b hb => .inl (by omega)
  clear hP hR1 hG1 hb1 hb2 HC HQ e1 e2
  go_wp2_with (fail)
  (with_reducible refine (pick_any r A n c xs p1 30 _ HA1.out.rdr (by omega) (by omega)).mono ?_)
  rintro e w2 ⟨v, rfl, v0, v1, _, hR2, hG2⟩
  have HA2 := Lib.hid (HA1.out.moved hG2 hR2)
  clear HA1 hG2 hR2 v1
  have hpp := HA2.out.rdr.2.2.2.2
  have k0 := HA2.out.k0
  have k1 := HA2.out.k1
  have f0 := HA2.out.f0
  have f1' := HA2.out.f1
  rcases (show v = 0 ∨ v = 1 ∨ v = 2 ∨ v = 3 ∨ v = 4 ∨ v = 5 ∨ 6 ≤ v by omega) with rfl | rfl | rfl | rfl | rfl | rfl | hv6
  · have HA2d := Lib.hid (HA2.out.drew)
    have HC2 := Lib.hid (pick_any r A n c xs (p1 + 1) 3 _ HA2d.out.rdr (by omega) (by omega))
    clear f0 f1'
    go_wp2
    go_region_law (first
      | (go_simp; go_at_call 59; (with_reducible refine HC2.out.mono ?_); rintro e w3 ⟨x, rfl, _, _, _, hR3, hG3⟩; have HA3 := Lib.hid (HA2d.out.moved hG3 hR3); have j0 := HA3.out.k0; have j1 := HA3.out.k1; clear hR3 hG3)
      | (go_simp; go_at_call 59; (with_reducible refine (pick_any r A n c xs (p1 + 1 + 1) 4 _ HA3.out.rdr (by omega) (by omega)).mono ?_); rintro e w4 ⟨y, rfl, _, _, _, hR4, hG4⟩; have HA4 := Lib.hid (HA3.out.moved hG4 hR4); have i0 := HA4.out.k0; have i1 := HA4.out.k1; clear hR4 hG4)
      | (go_simp; go_at_call 60; (with_reducible refine (HA4.out.link _ _ (by omega)).mono ?_); rintro e w5 ⟨v5, rfl, An5, cn5, Af5, cf5, ns5, fs5, p5, rfl, hp5, hO, hN, hP, e1, e2⟩; have m0 := hO.k0; have m1 := hO.k1; have f0 := hO.f0; have f1' := hO.f1; have HA5 := Lib.hid hN; clear hN hO hP e1 e2))
    all_goals
      clear k0 k1 j0 j1 i0 i1 HA2 HA2d HA3 HA4 HC2
      have r0 := HA5.out.r0
      have r1 := HA5.out.r1
      have q0 := HA5.out.q0
      have q1 := HA5.out.q1
      obtain ⟨b0, b1, HD⟩ := HA5.out.last HB (by omega) (by omega) (p0 := p) (K := 1000) (by omega)
      clear HA5
      go_wp2
      exact bodyPost_ret (v := .agg #[.slice An5 ln cn5, .slice Af5 (lf + 1) cf5]) (by simp [results, Try.results31, go_sem, b0, b1]) rfl HD.out
  · have hbl : Blk ((w2.alloc (.cells #[.int .i64 0, .int .i64 1, .int .i64 2, .int .i64 9, .int .i64 (-1)] 3)).drew) w2.heap.size 3 #[.int .i64 0, .int .i64 1, .int .i64 2, .int .i64 9, .int .i64 (-1)] := (Blk.new w2 _ _).drew
    have HA3 := Lib.hid ((HA2.out.below (up_alloc (Below.refl _ _) (.cells #[.int .i64 0, .int .i64 1, .int .i64 2, .int .i64 9, .int .i64 (-1)] 3))).drew)
    have a0 := (HA2.out.below (up_alloc (Below.refl _ _) (.cells #[.int .i64 0, .int .i64 1, .int .i64 2, .int .i64 9, .int .i64 (-1)] 3))).k0
    have a1 := (HA2.out.below (up_alloc (Below.refl _ _) (.cells #[.int .i64 0, .int .i64 1, .int .i64 2, .int .i64 9, .int .i64 (-1)] 3))).k1
    have hsd : ((w2.alloc (.cells #[.int .i64 0, .int .i64 1, .int .i64 2, .int .i64 9, .int .i64 (-1)] 3)).drew).heap.size = w2.heap.size + 1 := by simp [World.drew]
    have hr2 := HA2.out.rdr.lt
    have HC2 := Lib.hid (one_any r A n c xs (p1 + 1) w2.heap.size (w2.heap.size + 1) 5 5 _ [0, 1, 2, 9, -1] _ HA3.out.rdr (by omega) (Rd.of_blk hbl rfl) (by rw [hsd]; exact Nat.le_refl _) (by omega) (by omega) (.inl (by omega)))
    clear f0 f1' hbl hsd
    go_wp2_with (fail)
    go_region_law (first
      | (go_simp; go_at_call 62; (with_reducible refine HC2.out.mono ?_); rintro e w4 ⟨kd, rfl, _, hR4, hG4⟩; have HA4 := Lib.hid (HA3.out.moved hG4 hR4); have i0 := HA4.out.k0; have i1 := HA4.out.k1; clear hR4 hG4)
      | (go_simp; go_at_call 61; (with_reducible refine (HA4.out.add _ _ (by omega)).mono ?_); rintro e w5 ⟨v5, k5, rfl, An5, cn5, Af5, cf5, ns5, fs5, p5, rfl, hp5, hO, hN, hP, e1, e2⟩; have m0 := hO.k0; have m1 := hO.k1; have f0 := hO.f0; have f1' := hO.f1; have HA5 := Lib.hid hN; clear hN hO hP e1 e2))
    all_goals
      clear k0 k1 a0 a1 i0 i1 HA2 HA3 HA4 HC2
      have r0 := HA5.out.r0
      have r1 := HA5.out.r1
      have q0 := HA5.out.q0
      have q1 := HA5.out.q1
      obtain ⟨b0, b1, HD⟩ := HA5.out.last HB (by omega) (by omega) (p0 := p) (K := 1000) (by omega)
      clear HA5
      go_wp2
      exact bodyPost_ret (v := .agg #[.slice An5 (ln + 1) cn5, .slice Af5 lf cf5]) (by simp [results, Try.results31, go_sem, b0, b1]) rfl HD.out
  · obtain ⟨gn, rfl, hnb⟩ := HA2.out.nodeRow (by omega)
    have hne : gn ≠ w1.heap.size := fun e => hnb (.inr e)
    have hge : w.heap.size < gn := by rcases Nat.lt_or_ge w.heap.size gn with h | h; exact h; exact absurd (Or.inl (by omega)) hnb
    have hr2 := HA2.out.rdr.lt
    have HA2d := Lib.hid (HA2.out.drew)
    have HA3 := Lib.hid ((HA2.out.below (up_alloc (Below.refl _ _) (.cells #[.int .i64 1, .int .i64 0, .int .i64 101] 3))).drew)
    have HCa := Lib.hid (pick_any r A n c xs (p1 + 1) ln _ HA2d.out.rdr (by omega) (by omega))
    have HCb := Lib.hid (pick_any r A n c xs (p1 + 1) ln _ HA3.out.rdr (by omega) (by omega))
    have HBL := Lib.hid (Rd.of_blk (Blk.new w2 3 #[.int .i64 1, .int .i64 0, .int .i64 101]).drew (n := 3) (size := 1) rfl)
    clear f0 f1' k0 k1
    have k0 := HA2.out.k0
    go_wp2
    go_region_held3 (fun w' => w'.cell? ⟨w1.heap.size, 0, none⟩ = some (.slice (some ⟨gn, 0, none⟩) ln cn))
      (first
        | exact k0
        | exact j0
        | exact i0
        | (go_split_ands; go_keep)
        | (simp [World.cell?_setCell_other, hne, hne.symm]; exact i0))
      (first
        | (go_at_call 59; (with_reducible refine HCa.out.mono ?_); rintro e w3 ⟨kk, rfl, kk0, kk1, _, hR3, hG3⟩; have kk1' := kk1 (by omega); obtain ⟨kk, rfl⟩ := Int.eq_ofNat_of_zero_le kk0; have HX3 := Lib.hid (HA2d.out.moved hG3 hR3); have j0 := HX3.out.k0; have HX4 := Lib.hid (HX3.out.below (up_alloc (Below.refl _ _) (.cells #[.int .i64 1, .int .i64 0, .int .i64 101] 3)));
           have hr3 := HX3.out.rdr.lt; have HCX := Lib.hid (one_any r A n c xs (p1 + 1 + 1) w3.heap.size (w3.heap.size + 1) 3 3 _ [1, 0, 101] _ HX4.out.rdr (by omega) (Rd.of_blk (Blk.new w3 3 #[.int .i64 1, .int .i64 0, .int .i64 101]) rfl) (by simp) (by omega) (by omega) (.inl (by omega))); clear hR3 hG3 kk1)
        | (go_at_call 59; (with_reducible refine HCb.out.mono ?_); rintro e w3 ⟨kk, rfl, kk0, kk1, _, hR3, hG3⟩; have kk1' := kk1 (by omega); obtain ⟨kk, rfl⟩ := Int.eq_ofNat_of_zero_le kk0; have HX4 := Lib.hid (HA3.out.moved hG3 hR3); have j0 := HX4.out.k0;
           have hr3 := HX4.out.rdr.lt; have hs3 := hG3.size; have HCX := Lib.hid (one_any r A n c xs (p1 + 1 + 1) w2.heap.size (w2.heap.size + 1) 3 3 _ [1, 0, 101] _ HX4.out.rdr (by omega) (HBL.out.far hG3 (by simp [World.drew]) (by rintro g e; cases e; exact .inl (by show r < w2.heap.size; omega))) (by simpa [World.drew] using hs3) (by omega) (by omega) (.inl (by omega))); clear hR3 hG3 kk1)
        | (go_at_call 62; (with_reducible refine HCX.out.mono ?_); rintro e w4 ⟨kd, rfl, _, hR4, hG4⟩; have HA4 := Lib.hid (HX4.out.moved hG4 hR4); have i0 := HA4.out.k0; clear hR4 hG4; obtain ⟨x0, y0, HG, d0, d1⟩ := HA4.out.nodeCell (k := kk) (by omega); have HG := Lib.hid HG))
    all_goals
      have HA5 := Lib.hid (HA4.out.store (HA4.out.prc.setNode HA4.out.en.symm HG.out kd) (by rw [List.length_set]; exact HA4.out.en) HA4.out.ef hnb (by show w.heap.size ≤ gn; omega))
      clear HA2 HA2d HA3 HCa HCb HBL HX4 HCX HA4 k0 j0 i0
      have k0 := HA5.out.k0
      have k1 := HA5.out.k1
      have r0 := HA5.out.r0
      have r1 := HA5.out.r1
      have q0 := HA5.out.q0
      have q1 := HA5.out.q1
      obtain ⟨b0, b1, HD⟩ := HA5.out.last HB (by omega) (by omega) (p0 := p) (K := 1000) (by omega)
      clear HA5
      go_wp2
      exact bodyPost_ret (v := .agg #[.slice (some ⟨gn, 0, none⟩) ln cn, .slice Af lf cf]) (by simp [results, Try.results31, go_sem, b0, b1]) rfl HD.out
  · obtain ⟨gf, rfl, hnb⟩ := HA2.out.flowRow (by omega)
    obtain ⟨lf, rfl⟩ : ∃ m, lf = m + 1 := ⟨lf - 1, by omega⟩
    have r0 := HA2.out.r0
    have r1 := HA2.out.r1
    have q0 := HA2.out.q0
    have q1 := HA2.out.q1
    obtain ⟨_, _, hcf1, hcf2⟩ := HA2.out.prc.caps
    by_cases hc1 : cf = 1
    · subst hc1
      obtain rfl : lf = 0 := by omega
      obtain ⟨b0, b1, HD⟩ := HA2.out.lastTail HB (by omega) (by omega) (p0 := p) (K := 1000) (by omega) (some ⟨gf, 0, none⟩) 0 (.inr rfl) (by omega) (by omega)
      clear HA2
      go_wp2
      exact bodyPost_ret (v := .agg #[.slice An ln cn, .slice (some ⟨gf, 0, none⟩) 0 0]) (by simp [results, Try.results31, go_sem, b0, b1]) rfl HD.out
    · obtain ⟨b0, b1, HD⟩ := HA2.out.lastTail HB (by omega) (by omega) (p0 := p) (K := 1000) (by omega) (some ⟨gf, 3, none⟩) (cf - 1) (.inl rfl) (by omega) (by omega)
      have hcz : ¬ cf - 1 = 0 := by omega
      clear HA2
      go_wp2
      exact bodyPost_ret (v := .agg #[.slice An ln cn, .slice (some ⟨gf, 3, none⟩) lf (cf - 1)]) (by simp [results, Try.results31, go_sem, b0, b1]) rfl HD.out
  · obtain ⟨gf, rfl, hnb⟩ := HA2.out.flowRow (by omega)
    have hne : gf ≠ w1.heap.size := fun e => hnb (.inr e)
    have hge : w.heap.size < gf := by rcases Nat.lt_or_ge w.heap.size gf with h | h; exact h; exact absurd (Or.inl (by omega)) hnb
    have HA2d := Lib.hid (HA2.out.drew)
    have HCa := Lib.hid (anyCondition_any r A n c xs (p1 + 1) _ HA2d.out.rdr (by omega))
    clear f0 f1' k0 k1
    have k0 := HA2.out.k1
    have hlf : 0 < lf := by omega
    go_wp2
    go_region_held3 (fun w' => w'.cell? ⟨w1.heap.size, 1, none⟩ = some (.slice (some ⟨gf, 0, none⟩) lf cf))
      (first
        | exact k0
        | exact j0
        | (go_split_ands; go_keep)
        | (simp [World.cell?_setCell_other, hne, hne.symm]; exact j0))
      (first
        | (go_at_call 63; (with_reducible refine HCa.out.mono ?_); rintro e w3 ⟨Aw, nw, cw, ps, p3, rfl, hw1, hw2, hw3, hW, hR3, hp3, hG3⟩; have HA3 := Lib.hid (HA2d.out.moved hG3 hR3); have j0 := HA3.out.k1; have HW := Lib.hid hW; have HS := Lib.hid hG3.size; clear hR3 hG3 hW; obtain ⟨x0, y0, ps0, HG, _, _, d0, c0, c1⟩ := HA3.out.flowCell (k := 0) (by omega); have HG := Lib.hid HG; simp only [Nat.zero_mul, Nat.zero_add] at c0 c1))
    all_goals
      obtain ⟨f, fs', rfl⟩ : ∃ f fs', fs = f :: fs' := by
        cases fs with
        | nil => have := HA3.out.ef; simp at this; omega
        | cons f fs' => exact ⟨f, fs', rfl⟩
      have hwh : Wh w3 (fun b => b < w.heap.size + 1 ∨ b = w1.heap.size) (.slice An ln cn) (.slice (some ⟨gf, 0, none⟩) lf cf) (Aw, nw, cw) ps := by
        refine ⟨_, _, Nat.le_refl _, fun b hb => .inl (HA2d.out.bad b hb), HW.out, hw1, HA2d.out.off _, fun k hk => .inl ?_⟩
        obtain ⟨_, _, _, _, hs, h3, h4, h5⟩ := HA2d.out.prc
        exact (h4.lt k hk).2
      have HA5 := Lib.hid (HA3.out.store (a := ⟨gf, 2, none⟩) (v := .slice Aw nw cw) (HA3.out.prc.setWhen HA3.out.ef.symm hwh) HA3.out.en (by simpa using HA3.out.ef) hnb (by show w.heap.size ≤ gf; omega))
      clear HA2 HA2d HCa HA3 HW HS HG k0 j0 hwh
      have k0 := HA5.out.k0
      have k1 := HA5.out.k1
      have r0 := HA5.out.r0
      have r1 := HA5.out.r1
      have q0 := HA5.out.q0
      have q1 := HA5.out.q1
      obtain ⟨b0, b1, HD⟩ := HA5.out.last HB (by omega) (by omega) (p0 := p) (K := 1000) (by omega)
      clear HA5
      go_wp2
      exact bodyPost_ret (v := .agg #[.slice An ln cn, .slice (some ⟨gf, 0, none⟩) lf cf]) (by simp [results, Try.results31, go_sem, b0, b1]) rfl HD.out
  · obtain ⟨gf, rfl, hnb⟩ := HA2.out.flowRow (by omega)
    have hne : gf ≠ w1.heap.size := fun e => hnb (.inr e)
    have hge : w.heap.size < gf := by rcases Nat.lt_or_ge w.heap.size gf with h | h; exact h; exact absurd (Or.inl (by omega)) hnb
    have hr2 := HA2.out.rdr.lt
    have HA2d := Lib.hid (HA2.out.drew)
    have HA3 := Lib.hid ((HA2.out.below (up_alloc (Below.refl _ _) (.cells #[.int .i64 (-1), .int .i64 10, .int .i64 1] 3))).drew)
    have HCa := Lib.hid (pick_any r A n c xs (p1 + 1) lf _ HA2d.out.rdr (by omega) (by omega))
    have HCb := Lib.hid (pick_any r A n c xs (p1 + 1) lf _ HA3.out.rdr (by omega) (by omega))
    have HBL := Lib.hid (Rd.of_blk (Blk.new w2 3 #[.int .i64 (-1), .int .i64 10, .int .i64 1]).drew (n := 3) (size := 1) rfl)
    clear f0 f1' k0 k1
    have k0 := HA2.out.k1
    go_wp2
    go_region_held3 (fun w' => w'.cell? ⟨w1.heap.size, 1, none⟩ = some (.slice (some ⟨gf, 0, none⟩) lf cf))
      (first
        | exact k0
        | exact j0
        | exact i0
        | (go_split_ands; go_keep)
        | (simp [World.cell?_setCell_other, hne, hne.symm]; exact i0))
      (first
        | (go_at_call 59; (with_reducible refine HCa.out.mono ?_); rintro e w3 ⟨kk, rfl, kk0, kk1, _, hR3, hG3⟩; have kk1' := kk1 (by omega); obtain ⟨kk, rfl⟩ := Int.eq_ofNat_of_zero_le kk0; have HX3 := Lib.hid (HA2d.out.moved hG3 hR3); have j0 := HX3.out.k1; have HX4 := Lib.hid (HX3.out.below (up_alloc (Below.refl _ _) (.cells #[.int .i64 (-1), .int .i64 10, .int .i64 1] 3)));
           have hr3 := HX3.out.rdr.lt; have HCX := Lib.hid (one_any r A n c xs (p1 + 1 + 1) w3.heap.size (w3.heap.size + 1) 3 3 _ [-1, 10, 1] _ HX4.out.rdr (by omega) (Rd.of_blk (Blk.new w3 3 #[.int .i64 (-1), .int .i64 10, .int .i64 1]) rfl) (by simp) (by omega) (by omega) (.inl (by omega))); clear hR3 hG3 kk1)
        | (go_at_call 59; (with_reducible refine HCb.out.mono ?_); rintro e w3 ⟨kk, rfl, kk0, kk1, _, hR3, hG3⟩; have kk1' := kk1 (by omega); obtain ⟨kk, rfl⟩ := Int.eq_ofNat_of_zero_le kk0; have HX4 := Lib.hid (HA3.out.moved hG3 hR3); have j0 := HX4.out.k1;
           have hr3 := HX4.out.rdr.lt; have hs3 := hG3.size; have HCX := Lib.hid (one_any r A n c xs (p1 + 1 + 1) w2.heap.size (w2.heap.size + 1) 3 3 _ [-1, 10, 1] _ HX4.out.rdr (by omega) (HBL.out.far hG3 (by simp [World.drew]) (by rintro g e; cases e; exact .inl (by show r < w2.heap.size; omega))) (by simpa [World.drew] using hs3) (by omega) (by omega) (.inl (by omega))); clear hR3 hG3 kk1)
        | (go_at_call 62; (with_reducible refine HCX.out.mono ?_); rintro e w4 ⟨kd, rfl, _, hR4, hG4⟩; have HA4 := Lib.hid (HX4.out.moved hG4 hR4); have i0 := HA4.out.k1; clear hR4 hG4; obtain ⟨x0, y0, ps0, HG, d0, d1, _, _, _⟩ := HA4.out.flowCell (k := kk) (by omega); have HG := Lib.hid HG))
    all_goals
      have HA5 := Lib.hid (HA4.out.store (HA4.out.prc.setTo HA4.out.ef.symm HG.out kd) HA4.out.en (by rw [List.length_set]; exact HA4.out.ef) hnb (by show w.heap.size ≤ gf; omega))
      clear HA2 HA2d HA3 HCa HCb HBL HX4 HCX HA4 k0 j0 i0
      have k0 := HA5.out.k0
      have k1 := HA5.out.k1
      have r0 := HA5.out.r0
      have r1 := HA5.out.r1
      have q0 := HA5.out.q0
      have q1 := HA5.out.q1
      obtain ⟨b0, b1, HD⟩ := HA5.out.last HB (by omega) (by omega) (p0 := p) (K := 1000) (by omega)
      clear HA5
      go_wp2
      exact bodyPost_ret (v := .agg #[.slice An ln cn, .slice (some ⟨gf, 0, none⟩) lf cf]) (by simp [results, Try.results31, go_sem, b0, b1]) rfl HD.out
  · have g0 : (v == 0) = false := by simp; omega
    have g1 : (v == 1) = false := by simp; omega
    have g2 : (v == 2) = false := by simp; omega
    have g3 : (v == 3) = false := by simp; omega
    have g4 : (v == 4) = false := by simp; omega
    have g5 : (v == 5) = false := by simp; omega
    clear hv6 v0
    have k0 := HA2.out.k0
    have k1 := HA2.out.k1
    have r0 := HA2.out.r0
    have r1 := HA2.out.r1
    have q0 := HA2.out.q0
    have q1 := HA2.out.q1
    obtain ⟨b0, b1, HD⟩ := HA2.out.last HB (by omega) (by omega) (p0 := p) (K := 1000) (by omega)
    clear HA2
    go_wp2
    exact bodyPost_ret (v := .agg #[.slice An ln cn, .slice Af lf cf]) (by simp [results, Try.results31, go_sem, b0, b1]) rfl HD.out
end Go.Proofs.Ytmhbfdcikdhehaa

