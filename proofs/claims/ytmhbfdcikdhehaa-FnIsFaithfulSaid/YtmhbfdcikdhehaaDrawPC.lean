/- Merged: DrawP5, DrawP6. -/
import Derived.Test.YtmhbfdcikdhehaaDrawPB
/- The drawing of processes: a block. -/
set_option linter.unusedSimpArgs false
set_option linter.unusedVariables false
namespace Go.Proofs.Ytmhbfdcikdhehaa
open Go.RowKit

set_option maxRecDepth 100000 in
set_option maxHeartbeats 6400000 in
theorem addBlock_any (Bad : Nat → Prop) (r : Nat) (A : Option Addr) (n c : Nat) (xs : List Int) (p : Int) (nn cn nf cf : Nat) (An Af : Option Addr) (ns : List (Int × Int)) (fs : List Flw) (fr : Int) (w : World)
    (hR : Rdr w r A n c xs p) (hp : p ≤ 800000) (hrb : Bad r) (hbad : ∀ b, Bad b → b < w.heap.size) (hP : Prc w Bad (.slice An nn cn) (.slice Af nf cf) ns fs) (hnn : nn = ns.length) (hnf : nf = fs.length) (h100 : nn ≤ 90) (h200 : nf ≤ 90) :
    Calls Try.prog 87 #[.pointer (some ⟨r, 0, none⟩), .agg #[.slice An nn cn, .slice Af nf cf], .int .i64 fr] w (Stepped Bad r A n c xs p 200 ns fs 4 5 w) := by
  subst hnn; subst hnf
  have hp0 := hR.2.2.2.2
  have HA0 : Hid (At (Mine Bad w.heap.size 2) r A n c xs w.heap.size (w.heap.size + 1) w ((w.alloc (.cells #[.slice An ns.length cn, .slice Af fs.length cf] 26)).alloc (.cells #[.slice none 0 0, .slice none 0 0] 26)) An ns.length cn Af fs.length cf ns fs p) := by
    have hb1 := up_alloc (up_alloc (Below.refl _ w) (.cells #[.slice An ns.length cn, .slice Af fs.length cf] 26)) (.cells #[.slice none 0 0, .slice none 0 0] 26)
    have hbb : ∀ b, Mine Bad w.heap.size 2 b → b < ((w.alloc (.cells #[.slice An ns.length cn, .slice Af fs.length cf] 26)).alloc (.cells #[.slice none 0 0, .slice none 0 0] 26)).heap.size := fun b hb => by
      simp
      rcases hb with hb | hb
      · have := hbad b hb; omega
      · omega
    refine Lib.hid ⟨(hP.mine 2).below hb1, hR.below hb1, but_below (but_refl r w) hb1, (Blk.new w 26 #[.slice An ns.length cn, .slice Af fs.length cf]).alloc (.cells #[.slice none 0 0, .slice none 0 0] 26), ?_, hR.lt, hbb, .inl hrb, .inr ⟨by omega, by omega⟩, .inr ⟨by omega, by omega⟩, by omega, by omega, by omega, rfl, rfl⟩
    simpa using Blk.new (w.alloc (.cells #[.slice An ns.length cn, .slice Af fs.length cf] 26)) 26 #[.slice none 0 0, .slice none 0 0]
  clear hP hR hbad
  go_enter Try.func87, Try.ntmps87
  go_wp2_with (fail)
  (with_reducible refine (pick_any r A n c xs p 2 _ HA0.out.rdr (by omega) (by omega)).mono ?_)
  rintro e w1 ⟨v, rfl, _, _, _, hR1, hG1⟩
  have HA1 := Lib.hid (HA0.out.moved hG1 hR1)
  clear HA0 hG1 hR1
  by_cases g1 : v = 0
  · subst g1
    go_wp2_with (fail)
    (with_reducible refine (pick_any r A n c xs (p + 1) 12 _ HA1.out.rdr (by omega) (by omega)).mono ?_)
    rintro e w2 ⟨v2, rfl, _, _, _, hR2, hG2⟩
    have HA2 := Lib.hid (HA1.out.moved hG2 hR2)
    clear HA1 hG2 hR2
    by_cases g2 : v2 = 0
    · subst g2
      go_wp2_with (fail)
      have hA := up_alloc (Below.refl _ w2) (.cells #[.int .i64 8, .int .i64 7] 3)
      have hb := Blk.new w2 3 #[.int .i64 8, .int .i64 7]
      have hrl := HA2.out.lt
      have hs2 := HA2.out.but.size
      (with_reducible refine (one_any r A n c xs (p + 1 + 1) w2.heap.size (w2.heap.size + 1) 2 2 _ [8, 7] _ (HA2.out.below hA).rdr (by omega) (Rd.of_blk hb rfl) (by simp) (by omega) (by omega) (.inl (by omega))).mono ?_)
      rintro e w3 ⟨kb, rfl, _, hR3, hG3⟩
      have HA3 := Lib.hid ((HA2.out.below hA).moved hG3 hR3)
      have HP3 : p + 1 + 1 + 1 ≤ p + 3 := by omega
      clear HA2 hA hb hG3 hR3 hrl hs2
      have k0 := HA3.out.here.cell 0
      have k1 := HA3.out.here.cell 1
      simp at k0 k1
      go_wp2_with (fail)
      clear k0 k1
      (with_reducible refine (HA3.out.add _ _ (by omega)).mono ?_)
      rintro e w4 ⟨v4, k4, rfl, An4, cn4, Af4, cf4, ns4, fs4, p4, rfl, hp4, hO, hN, hP, e1, e2⟩
      have k0 := hO.here.cell 0
      have k1 := hO.here.cell 1
      have f0 := hO.here.soft 0
      have f1 := hO.here.soft 1
      simp at k0 k1
      have HA4 := Lib.hid hN
      clear HA3 hN
      clear hO hP e1 e2
      go_wp2_with (fail)
      clear k0 k1 f0 f1
      (with_reducible refine (HA4.out.link _ _ (by omega)).mono ?_)
      rintro e w5 ⟨v5, rfl, An5, cn5, Af5, cf5, ns5, fs5, p5, rfl, hp5, hO, hN, hP, e1, e2⟩
      have k0 := hO.here.cell 0
      have k1 := hO.here.cell 1
      have f0 := hO.here.soft 0
      have f1 := hO.here.soft 1
      simp at k0 k1
      have HA5 := Lib.hid hN
      clear HA4 hN
      clear hO hP e1 e2
      go_wp2_with (fail)
      clear k0 k1 f0 f1
      have HA6 := Lib.hid (HA5.out.below (up_alloc (Below.refl _ _) (.cells #[] 136)))
      clear HA5
      (with_reducible refine (randomCondition_any r A n c xs p5 _ HA6.out.rdr (by omega)).mono ?_)
      rintro e w7 ⟨Aw, nw, cw, ps, p7, rfl, _, _, _, hnw, hrow, hR7, hp7, hG7⟩
      have HA7 := Lib.hid (HA6.out.moved hG7 hR7)
      have HW7 := Lib.hid (Rd.of_own hrow)
      have HBD := Lib.hid HA6.out.bad
      clear HA6 hrow hR7 hG7
      have k0 := HA7.out.here.cell 0
      have k1 := HA7.out.here.cell 1
      simp at k0 k1
      have hlM : ∀ b, Mine Bad w.heap.size 2 b → b < _ ∨ w7.heap.size ≤ b := fun b hb => .inl (HBD.out b hb)
      go_wp2_with (fail)
      clear k0 k1
      (with_reducible refine (HA7.out.step _ _ _ nw _ _ ps (by omega) (by omega) (by omega) HW7.out hlM (Nat.le_refl _) (by omega)).mono ?_)
      rintro e w8 ⟨v8, k8, rfl, An8, cn8, Af8, cf8, ns8, fs8, p8, rfl, hp8, hO, hN, hP, e1, e2⟩
      have k0 := hO.here.cell 0
      have k1 := hO.here.cell 1
      have f0 := hO.here.soft 0
      have f1 := hO.here.soft 1
      simp at k0 k1
      have HA8 := Lib.hid hN
      clear HA7 hN
      clear hO hP e1 e2 HW7 HBD hlM
      go_wp2_with (fail)
      clear k0 k1 f0 f1
      (with_reducible refine (HA8.out.step _ 0 0 0 _ _ [] (by omega) (by omega) (by omega) (nothing _ _) (fun b _ => .inr (by omega)) (by omega) (by omega)).mono ?_)
      rintro e w9 ⟨v9, k9, rfl, An9, cn9, Af9, cf9, ns9, fs9, p9, rfl, hp9, hO, hN, hP, e1, e2⟩
      have k0 := hO.here.cell 0
      have k1 := hO.here.cell 1
      have f0 := hO.here.soft 0
      have f1 := hO.here.soft 1
      simp at k0 k1
      have HA9 := Lib.hid hN
      clear HA8 hN
      clear hO hP e1 e2
      go_wp2_with (fail)
      clear k0 k1 f0 f1
      (with_reducible refine (HA9.out.add _ _ (by omega)).mono ?_)
      rintro e w10 ⟨v10, k10, rfl, An10, cn10, Af10, cf10, ns10, fs10, p10, rfl, hp10, hO, hN, hP, e1, e2⟩
      have k0 := hO.here.cell 0
      have k1 := hO.here.cell 1
      have f0 := hO.here.soft 0
      have f1 := hO.here.soft 1
      simp at k0 k1
      have HA10 := Lib.hid hN
      clear HA9 hN
      clear hO hP e1 e2
      go_wp2_with (fail)
      clear k0 k1 f0 f1
      (with_reducible refine (HA10.out.link _ _ (by omega)).mono ?_)
      rintro e w11 ⟨v11, rfl, An11, cn11, Af11, cf11, ns11, fs11, p11, rfl, hp11, hO, hN, hP, e1, e2⟩
      have k0 := hO.here.cell 0
      have k1 := hO.here.cell 1
      have f0 := hO.here.soft 0
      have f1 := hO.here.soft 1
      simp at k0 k1
      have HA11 := Lib.hid hN
      clear HA10 hN
      clear hO hP e1 e2
      go_wp2_with (fail)
      clear k0 k1 f0 f1
      (with_reducible refine (HA11.out.link _ _ (by omega)).mono ?_)
      rintro e w12 ⟨v12, rfl, An12, cn12, Af12, cf12, ns12, fs12, p12, rfl, hp12, hO, hN, hP, e1, e2⟩
      have k0 := hO.here.cell 0
      have k1 := hO.here.cell 1
      have f0 := hO.here.soft 0
      have f1 := hO.here.soft 1
      simp at k0 k1
      have HA12 := Lib.hid hN
      clear HA11 hN
      clear k0 k1 f0 f1 HA12
      have hsz := hO.but.size
      have hrl := hO.lt
      have m1 : Mine Bad w.heap.size 2 (w.heap.size + 1) := .inr ⟨by omega, by omega⟩
      have r0 := hO.res.cell 0
      have r1 := hO.res.cell 1
      have q0 := hO.res.soft 0
      have q1 := hO.res.soft 1
      simp at r0 r1
      have hZ := (hO.res.put 0 (.slice An12 (ns.length + 1 + 1 + 1 + 1) cn12)).put 1 (.slice Af12 (fs.length + 1 + 1 + 1 + 1 + 1) cf12)
      have b0 := hZ.cell 0
      have b1 := hZ.cell 1
      simp at b0 b1
      have HPF := Lib.hid (((hP.set ⟨w.heap.size + 1, 0, none⟩ (.slice An12 (ns.length + 1 + 1 + 1 + 1) cn12) m1).set ⟨w.heap.size + 1, 1, none⟩ (.slice Af12 (fs.length + 1 + 1 + 1 + 1 + 1) cf12) m1).less (fun b hb => .inl hb : ∀ b, Bad b → Mine Bad w.heap.size 2 b))
      have HRF := Lib.hid (rdr_set (rdr_set hO.rdr ⟨w.heap.size + 1, 0, none⟩ (.slice An12 (ns.length + 1 + 1 + 1 + 1) cn12) (by show r < w.heap.size + 1; omega)) ⟨w.heap.size + 1, 1, none⟩ (.slice Af12 (fs.length + 1 + 1 + 1 + 1 + 1) cf12) (by show r < w.heap.size + 1; omega))
      have HBF := Lib.hid (but_put (but_put hO.but (p := ⟨w.heap.size + 1, 0, none⟩) (.inr (by show w.heap.size ≤ w.heap.size + 1; omega)) (.slice An12 (ns.length + 1 + 1 + 1 + 1) cn12)) (p := ⟨w.heap.size + 1, 1, none⟩) (.inr (by show w.heap.size ≤ w.heap.size + 1; omega)) (.slice Af12 (fs.length + 1 + 1 + 1 + 1 + 1) cf12))
      have E1 := Lib.hid e1
      have E2 := Lib.hid e2
      clear hZ hO hP e1 e2
      go_wp2
      refine bodyPost_ret (v := .tuple #[.agg #[.slice An12 (ns.length + 1 + 1 + 1 + 1) cn12, .slice Af12 (fs.length + 1 + 1 + 1 + 1 + 1) cf12], .int .i64 k10]) (by simp [results, Try.results87, go_sem, b0, b1]) rfl ?_
      refine ⟨An12, cn12, Af12, cf12, ns12, fs12, k10, p12, by rw [E1.out, E2.out], E1.out, E2.out, by rw [E1.out, E2.out]; exact HPF.out, HRF.out, by omega, HBF.out⟩
    · have g2' : (v2 == 0) = false := by simpa using g2
      generalize hw3 : w2 = w3 at *
      have HA3 := HA2
      have HP3 : p + 1 + 1 ≤ p + 3 := by omega
      clear HA2 hw3 g2
      have k0 := HA3.out.here.cell 0
      have k1 := HA3.out.here.cell 1
      simp at k0 k1
      go_wp2_with (fail)
      clear k0 k1
      (with_reducible refine (HA3.out.add _ _ (by omega)).mono ?_)
      rintro e w4 ⟨v4, k4, rfl, An4, cn4, Af4, cf4, ns4, fs4, p4, rfl, hp4, hO, hN, hP, e1, e2⟩
      have k0 := hO.here.cell 0
      have k1 := hO.here.cell 1
      have f0 := hO.here.soft 0
      have f1 := hO.here.soft 1
      simp at k0 k1
      have HA4 := Lib.hid hN
      clear HA3 hN
      clear hO hP e1 e2
      go_wp2_with (fail)
      clear k0 k1 f0 f1
      (with_reducible refine (HA4.out.link _ _ (by omega)).mono ?_)
      rintro e w5 ⟨v5, rfl, An5, cn5, Af5, cf5, ns5, fs5, p5, rfl, hp5, hO, hN, hP, e1, e2⟩
      have k0 := hO.here.cell 0
      have k1 := hO.here.cell 1
      have f0 := hO.here.soft 0
      have f1 := hO.here.soft 1
      simp at k0 k1
      have HA5 := Lib.hid hN
      clear HA4 hN
      clear hO hP e1 e2
      go_wp2_with (fail)
      clear k0 k1 f0 f1
      have HA6 := Lib.hid (HA5.out.below (up_alloc (Below.refl _ _) (.cells #[] 136)))
      clear HA5
      (with_reducible refine (randomCondition_any r A n c xs p5 _ HA6.out.rdr (by omega)).mono ?_)
      rintro e w7 ⟨Aw, nw, cw, ps, p7, rfl, _, _, _, hnw, hrow, hR7, hp7, hG7⟩
      have HA7 := Lib.hid (HA6.out.moved hG7 hR7)
      have HW7 := Lib.hid (Rd.of_own hrow)
      have HBD := Lib.hid HA6.out.bad
      clear HA6 hrow hR7 hG7
      have k0 := HA7.out.here.cell 0
      have k1 := HA7.out.here.cell 1
      simp at k0 k1
      have hlM : ∀ b, Mine Bad w.heap.size 2 b → b < _ ∨ w7.heap.size ≤ b := fun b hb => .inl (HBD.out b hb)
      go_wp2_with (fail)
      clear k0 k1
      (with_reducible refine (HA7.out.step _ _ _ nw _ _ ps (by omega) (by omega) (by omega) HW7.out hlM (Nat.le_refl _) (by omega)).mono ?_)
      rintro e w8 ⟨v8, k8, rfl, An8, cn8, Af8, cf8, ns8, fs8, p8, rfl, hp8, hO, hN, hP, e1, e2⟩
      have k0 := hO.here.cell 0
      have k1 := hO.here.cell 1
      have f0 := hO.here.soft 0
      have f1 := hO.here.soft 1
      simp at k0 k1
      have HA8 := Lib.hid hN
      clear HA7 hN
      clear hO hP e1 e2 HW7 HBD hlM
      go_wp2_with (fail)
      clear k0 k1 f0 f1
      (with_reducible refine (HA8.out.step _ 0 0 0 _ _ [] (by omega) (by omega) (by omega) (nothing _ _) (fun b _ => .inr (by omega)) (by omega) (by omega)).mono ?_)
      rintro e w9 ⟨v9, k9, rfl, An9, cn9, Af9, cf9, ns9, fs9, p9, rfl, hp9, hO, hN, hP, e1, e2⟩
      have k0 := hO.here.cell 0
      have k1 := hO.here.cell 1
      have f0 := hO.here.soft 0
      have f1 := hO.here.soft 1
      simp at k0 k1
      have HA9 := Lib.hid hN
      clear HA8 hN
      clear hO hP e1 e2
      go_wp2_with (fail)
      clear k0 k1 f0 f1
      (with_reducible refine (HA9.out.add _ _ (by omega)).mono ?_)
      rintro e w10 ⟨v10, k10, rfl, An10, cn10, Af10, cf10, ns10, fs10, p10, rfl, hp10, hO, hN, hP, e1, e2⟩
      have k0 := hO.here.cell 0
      have k1 := hO.here.cell 1
      have f0 := hO.here.soft 0
      have f1 := hO.here.soft 1
      simp at k0 k1
      have HA10 := Lib.hid hN
      clear HA9 hN
      clear hO hP e1 e2
      go_wp2_with (fail)
      clear k0 k1 f0 f1
      (with_reducible refine (HA10.out.link _ _ (by omega)).mono ?_)
      rintro e w11 ⟨v11, rfl, An11, cn11, Af11, cf11, ns11, fs11, p11, rfl, hp11, hO, hN, hP, e1, e2⟩
      have k0 := hO.here.cell 0
      have k1 := hO.here.cell 1
      have f0 := hO.here.soft 0
      have f1 := hO.here.soft 1
      simp at k0 k1
      have HA11 := Lib.hid hN
      clear HA10 hN
      clear hO hP e1 e2
      go_wp2_with (fail)
      clear k0 k1 f0 f1
      (with_reducible refine (HA11.out.link _ _ (by omega)).mono ?_)
      rintro e w12 ⟨v12, rfl, An12, cn12, Af12, cf12, ns12, fs12, p12, rfl, hp12, hO, hN, hP, e1, e2⟩
      have k0 := hO.here.cell 0
      have k1 := hO.here.cell 1
      have f0 := hO.here.soft 0
      have f1 := hO.here.soft 1
      simp at k0 k1
      have HA12 := Lib.hid hN
      clear HA11 hN
      clear k0 k1 f0 f1 HA12
      have hsz := hO.but.size
      have hrl := hO.lt
      have m1 : Mine Bad w.heap.size 2 (w.heap.size + 1) := .inr ⟨by omega, by omega⟩
      have r0 := hO.res.cell 0
      have r1 := hO.res.cell 1
      have q0 := hO.res.soft 0
      have q1 := hO.res.soft 1
      simp at r0 r1
      have hZ := (hO.res.put 0 (.slice An12 (ns.length + 1 + 1 + 1 + 1) cn12)).put 1 (.slice Af12 (fs.length + 1 + 1 + 1 + 1 + 1) cf12)
      have b0 := hZ.cell 0
      have b1 := hZ.cell 1
      simp at b0 b1
      have HPF := Lib.hid (((hP.set ⟨w.heap.size + 1, 0, none⟩ (.slice An12 (ns.length + 1 + 1 + 1 + 1) cn12) m1).set ⟨w.heap.size + 1, 1, none⟩ (.slice Af12 (fs.length + 1 + 1 + 1 + 1 + 1) cf12) m1).less (fun b hb => .inl hb : ∀ b, Bad b → Mine Bad w.heap.size 2 b))
      have HRF := Lib.hid (rdr_set (rdr_set hO.rdr ⟨w.heap.size + 1, 0, none⟩ (.slice An12 (ns.length + 1 + 1 + 1 + 1) cn12) (by show r < w.heap.size + 1; omega)) ⟨w.heap.size + 1, 1, none⟩ (.slice Af12 (fs.length + 1 + 1 + 1 + 1 + 1) cf12) (by show r < w.heap.size + 1; omega))
      have HBF := Lib.hid (but_put (but_put hO.but (p := ⟨w.heap.size + 1, 0, none⟩) (.inr (by show w.heap.size ≤ w.heap.size + 1; omega)) (.slice An12 (ns.length + 1 + 1 + 1 + 1) cn12)) (p := ⟨w.heap.size + 1, 1, none⟩) (.inr (by show w.heap.size ≤ w.heap.size + 1; omega)) (.slice Af12 (fs.length + 1 + 1 + 1 + 1 + 1) cf12))
      have E1 := Lib.hid e1
      have E2 := Lib.hid e2
      clear hZ hO hP e1 e2
      go_wp2
      refine bodyPost_ret (v := .tuple #[.agg #[.slice An12 (ns.length + 1 + 1 + 1 + 1) cn12, .slice Af12 (fs.length + 1 + 1 + 1 + 1 + 1) cf12], .int .i64 k10]) (by simp [results, Try.results87, go_sem, b0, b1]) rfl ?_
      refine ⟨An12, cn12, Af12, cf12, ns12, fs12, k10, p12, by rw [E1.out, E2.out], E1.out, E2.out, by rw [E1.out, E2.out]; exact HPF.out, HRF.out, by omega, HBF.out⟩
  · have g1' : (v == 0) = false := by simpa using g1
    clear g1
    go_wp2_with (fail)
    (with_reducible refine (pick_any r A n c xs (p + 1) 12 _ HA1.out.rdr (by omega) (by omega)).mono ?_)
    rintro e w2 ⟨v2, rfl, _, _, _, hR2, hG2⟩
    have HA2 := Lib.hid (HA1.out.moved hG2 hR2)
    clear HA1 hG2 hR2
    by_cases g2 : v2 = 0
    · subst g2
      go_wp2_with (fail)
      have hA := up_alloc (Below.refl _ w2) (.cells #[.int .i64 8, .int .i64 7] 3)
      have hb := Blk.new w2 3 #[.int .i64 8, .int .i64 7]
      have hrl := HA2.out.lt
      have hs2 := HA2.out.but.size
      (with_reducible refine (one_any r A n c xs (p + 1 + 1) w2.heap.size (w2.heap.size + 1) 2 2 _ [8, 7] _ (HA2.out.below hA).rdr (by omega) (Rd.of_blk hb rfl) (by simp) (by omega) (by omega) (.inl (by omega))).mono ?_)
      rintro e w3 ⟨kb, rfl, _, hR3, hG3⟩
      have HA3 := Lib.hid ((HA2.out.below hA).moved hG3 hR3)
      have HP3 : p + 1 + 1 + 1 ≤ p + 3 := by omega
      clear HA2 hA hb hG3 hR3 hrl hs2
      have k0 := HA3.out.here.cell 0
      have k1 := HA3.out.here.cell 1
      simp at k0 k1
      go_wp2_with (fail)
      clear k0 k1
      (with_reducible refine (HA3.out.add _ _ (by omega)).mono ?_)
      rintro e w4 ⟨v4, k4, rfl, An4, cn4, Af4, cf4, ns4, fs4, p4, rfl, hp4, hO, hN, hP, e1, e2⟩
      have k0 := hO.here.cell 0
      have k1 := hO.here.cell 1
      have f0 := hO.here.soft 0
      have f1 := hO.here.soft 1
      simp at k0 k1
      have HA4 := Lib.hid hN
      clear HA3 hN
      clear hO hP e1 e2
      go_wp2_with (fail)
      clear k0 k1 f0 f1
      (with_reducible refine (HA4.out.link _ _ (by omega)).mono ?_)
      rintro e w5 ⟨v5, rfl, An5, cn5, Af5, cf5, ns5, fs5, p5, rfl, hp5, hO, hN, hP, e1, e2⟩
      have k0 := hO.here.cell 0
      have k1 := hO.here.cell 1
      have f0 := hO.here.soft 0
      have f1 := hO.here.soft 1
      simp at k0 k1
      have HA5 := Lib.hid hN
      clear HA4 hN
      clear hO hP e1 e2
      have HA7 := Lib.hid (HA5.out.below (up_alloc (Below.refl _ _) (.cells #[] 136)))
      have hp7 : p5 ≤ p5 := Int.le_refl _
      clear HA5
      have b0 : (((w5.setCell ⟨w.heap.size, 0, none⟩ (.slice An5 (ns.length + 1) cn5)).setCell ⟨w.heap.size, 1, none⟩ (.slice Af5 (fs.length + 1) cf5)).alloc (.cells #[] 136)).cell? ⟨w.heap.size, 0, none⟩ = some (.slice An5 (ns.length + 1) cn5) := HA7.out.here.cell 0
      have b1 : (((w5.setCell ⟨w.heap.size, 0, none⟩ (.slice An5 (ns.length + 1) cn5)).setCell ⟨w.heap.size, 1, none⟩ (.slice Af5 (fs.length + 1) cf5)).alloc (.cells #[] 136)).cell? ⟨w.heap.size, 1, none⟩ = some (.slice Af5 (fs.length + 1) cf5) := HA7.out.here.cell 1
      go_wp2_with (fail)
      clear k0 k1 f0 f1 b0 b1
      (with_reducible refine (HA7.out.step _ 0 0 0 _ _ [] (by omega) (by omega) (by omega) (nothing _ _) (fun b _ => .inr (by omega)) (by omega) (by omega)).mono ?_)
      rintro e w8 ⟨v8, k8, rfl, An8, cn8, Af8, cf8, ns8, fs8, p8, rfl, hp8, hO, hN, hP, e1, e2⟩
      have k0 := hO.here.cell 0
      have k1 := hO.here.cell 1
      have f0 := hO.here.soft 0
      have f1 := hO.here.soft 1
      simp at k0 k1
      have HA8 := Lib.hid hN
      clear HA7 hN
      clear hO hP e1 e2
      go_wp2_with (fail)
      clear k0 k1 f0 f1
      (with_reducible refine (HA8.out.step _ 0 0 0 _ _ [] (by omega) (by omega) (by omega) (nothing _ _) (fun b _ => .inr (by omega)) (by omega) (by omega)).mono ?_)
      rintro e w9 ⟨v9, k9, rfl, An9, cn9, Af9, cf9, ns9, fs9, p9, rfl, hp9, hO, hN, hP, e1, e2⟩
      have k0 := hO.here.cell 0
      have k1 := hO.here.cell 1
      have f0 := hO.here.soft 0
      have f1 := hO.here.soft 1
      simp at k0 k1
      have HA9 := Lib.hid hN
      clear HA8 hN
      clear hO hP e1 e2
      go_wp2_with (fail)
      clear k0 k1 f0 f1
      (with_reducible refine (HA9.out.add _ _ (by omega)).mono ?_)
      rintro e w10 ⟨v10, k10, rfl, An10, cn10, Af10, cf10, ns10, fs10, p10, rfl, hp10, hO, hN, hP, e1, e2⟩
      have k0 := hO.here.cell 0
      have k1 := hO.here.cell 1
      have f0 := hO.here.soft 0
      have f1 := hO.here.soft 1
      simp at k0 k1
      have HA10 := Lib.hid hN
      clear HA9 hN
      clear hO hP e1 e2
      go_wp2_with (fail)
      clear k0 k1 f0 f1
      (with_reducible refine (HA10.out.link _ _ (by omega)).mono ?_)
      rintro e w11 ⟨v11, rfl, An11, cn11, Af11, cf11, ns11, fs11, p11, rfl, hp11, hO, hN, hP, e1, e2⟩
      have k0 := hO.here.cell 0
      have k1 := hO.here.cell 1
      have f0 := hO.here.soft 0
      have f1 := hO.here.soft 1
      simp at k0 k1
      have HA11 := Lib.hid hN
      clear HA10 hN
      clear hO hP e1 e2
      go_wp2_with (fail)
      clear k0 k1 f0 f1
      (with_reducible refine (HA11.out.link _ _ (by omega)).mono ?_)
      rintro e w12 ⟨v12, rfl, An12, cn12, Af12, cf12, ns12, fs12, p12, rfl, hp12, hO, hN, hP, e1, e2⟩
      have k0 := hO.here.cell 0
      have k1 := hO.here.cell 1
      have f0 := hO.here.soft 0
      have f1 := hO.here.soft 1
      simp at k0 k1
      have HA12 := Lib.hid hN
      clear HA11 hN
      clear k0 k1 f0 f1 HA12
      have hsz := hO.but.size
      have hrl := hO.lt
      have m1 : Mine Bad w.heap.size 2 (w.heap.size + 1) := .inr ⟨by omega, by omega⟩
      have r0 := hO.res.cell 0
      have r1 := hO.res.cell 1
      have q0 := hO.res.soft 0
      have q1 := hO.res.soft 1
      simp at r0 r1
      have hZ := (hO.res.put 0 (.slice An12 (ns.length + 1 + 1 + 1 + 1) cn12)).put 1 (.slice Af12 (fs.length + 1 + 1 + 1 + 1 + 1) cf12)
      have b0 := hZ.cell 0
      have b1 := hZ.cell 1
      simp at b0 b1
      have HPF := Lib.hid (((hP.set ⟨w.heap.size + 1, 0, none⟩ (.slice An12 (ns.length + 1 + 1 + 1 + 1) cn12) m1).set ⟨w.heap.size + 1, 1, none⟩ (.slice Af12 (fs.length + 1 + 1 + 1 + 1 + 1) cf12) m1).less (fun b hb => .inl hb : ∀ b, Bad b → Mine Bad w.heap.size 2 b))
      have HRF := Lib.hid (rdr_set (rdr_set hO.rdr ⟨w.heap.size + 1, 0, none⟩ (.slice An12 (ns.length + 1 + 1 + 1 + 1) cn12) (by show r < w.heap.size + 1; omega)) ⟨w.heap.size + 1, 1, none⟩ (.slice Af12 (fs.length + 1 + 1 + 1 + 1 + 1) cf12) (by show r < w.heap.size + 1; omega))
      have HBF := Lib.hid (but_put (but_put hO.but (p := ⟨w.heap.size + 1, 0, none⟩) (.inr (by show w.heap.size ≤ w.heap.size + 1; omega)) (.slice An12 (ns.length + 1 + 1 + 1 + 1) cn12)) (p := ⟨w.heap.size + 1, 1, none⟩) (.inr (by show w.heap.size ≤ w.heap.size + 1; omega)) (.slice Af12 (fs.length + 1 + 1 + 1 + 1 + 1) cf12))
      have E1 := Lib.hid e1
      have E2 := Lib.hid e2
      clear hZ hO hP e1 e2
      go_wp2
      refine bodyPost_ret (v := .tuple #[.agg #[.slice An12 (ns.length + 1 + 1 + 1 + 1) cn12, .slice Af12 (fs.length + 1 + 1 + 1 + 1 + 1) cf12], .int .i64 k10]) (by simp [results, Try.results87, go_sem, b0, b1]) rfl ?_
      refine ⟨An12, cn12, Af12, cf12, ns12, fs12, k10, p12, by rw [E1.out, E2.out], E1.out, E2.out, by rw [E1.out, E2.out]; exact HPF.out, HRF.out, by omega, HBF.out⟩
    · have g2' : (v2 == 0) = false := by simpa using g2
      generalize hw3 : w2 = w3 at *
      have HA3 := HA2
      have HP3 : p + 1 + 1 ≤ p + 3 := by omega
      clear HA2 hw3 g2
      have k0 := HA3.out.here.cell 0
      have k1 := HA3.out.here.cell 1
      simp at k0 k1
      go_wp2_with (fail)
      clear k0 k1
      (with_reducible refine (HA3.out.add _ _ (by omega)).mono ?_)
      rintro e w4 ⟨v4, k4, rfl, An4, cn4, Af4, cf4, ns4, fs4, p4, rfl, hp4, hO, hN, hP, e1, e2⟩
      have k0 := hO.here.cell 0
      have k1 := hO.here.cell 1
      have f0 := hO.here.soft 0
      have f1 := hO.here.soft 1
      simp at k0 k1
      have HA4 := Lib.hid hN
      clear HA3 hN
      clear hO hP e1 e2
      go_wp2_with (fail)
      clear k0 k1 f0 f1
      (with_reducible refine (HA4.out.link _ _ (by omega)).mono ?_)
      rintro e w5 ⟨v5, rfl, An5, cn5, Af5, cf5, ns5, fs5, p5, rfl, hp5, hO, hN, hP, e1, e2⟩
      have k0 := hO.here.cell 0
      have k1 := hO.here.cell 1
      have f0 := hO.here.soft 0
      have f1 := hO.here.soft 1
      simp at k0 k1
      have HA5 := Lib.hid hN
      clear HA4 hN
      clear hO hP e1 e2
      have HA7 := Lib.hid (HA5.out.below (up_alloc (Below.refl _ _) (.cells #[] 136)))
      have hp7 : p5 ≤ p5 := Int.le_refl _
      clear HA5
      have b0 : (((w5.setCell ⟨w.heap.size, 0, none⟩ (.slice An5 (ns.length + 1) cn5)).setCell ⟨w.heap.size, 1, none⟩ (.slice Af5 (fs.length + 1) cf5)).alloc (.cells #[] 136)).cell? ⟨w.heap.size, 0, none⟩ = some (.slice An5 (ns.length + 1) cn5) := HA7.out.here.cell 0
      have b1 : (((w5.setCell ⟨w.heap.size, 0, none⟩ (.slice An5 (ns.length + 1) cn5)).setCell ⟨w.heap.size, 1, none⟩ (.slice Af5 (fs.length + 1) cf5)).alloc (.cells #[] 136)).cell? ⟨w.heap.size, 1, none⟩ = some (.slice Af5 (fs.length + 1) cf5) := HA7.out.here.cell 1
      go_wp2_with (fail)
      clear k0 k1 f0 f1 b0 b1
      (with_reducible refine (HA7.out.step _ 0 0 0 _ _ [] (by omega) (by omega) (by omega) (nothing _ _) (fun b _ => .inr (by omega)) (by omega) (by omega)).mono ?_)
      rintro e w8 ⟨v8, k8, rfl, An8, cn8, Af8, cf8, ns8, fs8, p8, rfl, hp8, hO, hN, hP, e1, e2⟩
      have k0 := hO.here.cell 0
      have k1 := hO.here.cell 1
      have f0 := hO.here.soft 0
      have f1 := hO.here.soft 1
      simp at k0 k1
      have HA8 := Lib.hid hN
      clear HA7 hN
      clear hO hP e1 e2
      go_wp2_with (fail)
      clear k0 k1 f0 f1
      (with_reducible refine (HA8.out.step _ 0 0 0 _ _ [] (by omega) (by omega) (by omega) (nothing _ _) (fun b _ => .inr (by omega)) (by omega) (by omega)).mono ?_)
      rintro e w9 ⟨v9, k9, rfl, An9, cn9, Af9, cf9, ns9, fs9, p9, rfl, hp9, hO, hN, hP, e1, e2⟩
      have k0 := hO.here.cell 0
      have k1 := hO.here.cell 1
      have f0 := hO.here.soft 0
      have f1 := hO.here.soft 1
      simp at k0 k1
      have HA9 := Lib.hid hN
      clear HA8 hN
      clear hO hP e1 e2
      go_wp2_with (fail)
      clear k0 k1 f0 f1
      (with_reducible refine (HA9.out.add _ _ (by omega)).mono ?_)
      rintro e w10 ⟨v10, k10, rfl, An10, cn10, Af10, cf10, ns10, fs10, p10, rfl, hp10, hO, hN, hP, e1, e2⟩
      have k0 := hO.here.cell 0
      have k1 := hO.here.cell 1
      have f0 := hO.here.soft 0
      have f1 := hO.here.soft 1
      simp at k0 k1
      have HA10 := Lib.hid hN
      clear HA9 hN
      clear hO hP e1 e2
      go_wp2_with (fail)
      clear k0 k1 f0 f1
      (with_reducible refine (HA10.out.link _ _ (by omega)).mono ?_)
      rintro e w11 ⟨v11, rfl, An11, cn11, Af11, cf11, ns11, fs11, p11, rfl, hp11, hO, hN, hP, e1, e2⟩
      have k0 := hO.here.cell 0
      have k1 := hO.here.cell 1
      have f0 := hO.here.soft 0
      have f1 := hO.here.soft 1
      simp at k0 k1
      have HA11 := Lib.hid hN
      clear HA10 hN
      clear hO hP e1 e2
      go_wp2_with (fail)
      clear k0 k1 f0 f1
      (with_reducible refine (HA11.out.link _ _ (by omega)).mono ?_)
      rintro e w12 ⟨v12, rfl, An12, cn12, Af12, cf12, ns12, fs12, p12, rfl, hp12, hO, hN, hP, e1, e2⟩
      have k0 := hO.here.cell 0
      have k1 := hO.here.cell 1
      have f0 := hO.here.soft 0
      have f1 := hO.here.soft 1
      simp at k0 k1
      have HA12 := Lib.hid hN
      clear HA11 hN
      clear k0 k1 f0 f1 HA12
      have hsz := hO.but.size
      have hrl := hO.lt
      have m1 : Mine Bad w.heap.size 2 (w.heap.size + 1) := .inr ⟨by omega, by omega⟩
      have r0 := hO.res.cell 0
      have r1 := hO.res.cell 1
      have q0 := hO.res.soft 0
      have q1 := hO.res.soft 1
      simp at r0 r1
      have hZ := (hO.res.put 0 (.slice An12 (ns.length + 1 + 1 + 1 + 1) cn12)).put 1 (.slice Af12 (fs.length + 1 + 1 + 1 + 1 + 1) cf12)
      have b0 := hZ.cell 0
      have b1 := hZ.cell 1
      simp at b0 b1
      have HPF := Lib.hid (((hP.set ⟨w.heap.size + 1, 0, none⟩ (.slice An12 (ns.length + 1 + 1 + 1 + 1) cn12) m1).set ⟨w.heap.size + 1, 1, none⟩ (.slice Af12 (fs.length + 1 + 1 + 1 + 1 + 1) cf12) m1).less (fun b hb => .inl hb : ∀ b, Bad b → Mine Bad w.heap.size 2 b))
      have HRF := Lib.hid (rdr_set (rdr_set hO.rdr ⟨w.heap.size + 1, 0, none⟩ (.slice An12 (ns.length + 1 + 1 + 1 + 1) cn12) (by show r < w.heap.size + 1; omega)) ⟨w.heap.size + 1, 1, none⟩ (.slice Af12 (fs.length + 1 + 1 + 1 + 1 + 1) cf12) (by show r < w.heap.size + 1; omega))
      have HBF := Lib.hid (but_put (but_put hO.but (p := ⟨w.heap.size + 1, 0, none⟩) (.inr (by show w.heap.size ≤ w.heap.size + 1; omega)) (.slice An12 (ns.length + 1 + 1 + 1 + 1) cn12)) (p := ⟨w.heap.size + 1, 1, none⟩) (.inr (by show w.heap.size ≤ w.heap.size + 1; omega)) (.slice Af12 (fs.length + 1 + 1 + 1 + 1 + 1) cf12))
      have E1 := Lib.hid e1
      have E2 := Lib.hid e2
      clear hZ hO hP e1 e2
      go_wp2
      refine bodyPost_ret (v := .tuple #[.agg #[.slice An12 (ns.length + 1 + 1 + 1 + 1) cn12, .slice Af12 (fs.length + 1 + 1 + 1 + 1 + 1) cf12], .int .i64 k10]) (by simp [results, Try.results87, go_sem, b0, b1]) rfl ?_
      refine ⟨An12, cn12, Af12, cf12, ns12, fs12, k10, p12, by rw [E1.out, E2.out], E1.out, E2.out, by rw [E1.out, E2.out]; exact HPF.out, HRF.out, by omega, HBF.out⟩
end Go.Proofs.Ytmhbfdcikdhehaa


/- The drawing of processes: what is stored into a process; how a function ends that builds one. -/
namespace Go.Proofs.Ytmhbfdcikdhehaa
open Go.RowKit

theorem off_zero (v : Value) : Off v 0 0 := fun g _ => .inr (Nat.zero_le g)
theorem off_new {v : Value} {l u B : Nat} (h : ∀ g, v.ownBlock = some g → B ≤ g) (hu : u ≤ B) : Off v l u := fun g hg => .inr (Nat.le_trans hu (h g hg))
section
variable {Bad : Nat → Prop} {r : Nat} {A : Option Addr} {n c : Nat} {xs : List Int} {g q : Nat} {w w' : World} {An : Option Addr} {ln cn : Nat} {Af : Option Addr} {lf cf : Nat} {ns : List (Int × Int)} {fs : List Flw} {p : Int}

theorem At.k0 (h : At Bad r A n c xs g q w w' An ln cn Af lf cf ns fs p) : w'.cell? ⟨g, 0, none⟩ = some (.slice An ln cn) := h.here.cell 0
theorem At.k1 (h : At Bad r A n c xs g q w w' An ln cn Af lf cf ns fs p) : w'.cell? ⟨g, 1, none⟩ = some (.slice Af lf cf) := h.here.cell 1
theorem At.f0 (h : At Bad r A n c xs g q w w' An ln cn Af lf cf ns fs p) : w'.frozen? ⟨g, 0, none⟩ = false := h.here.soft 0
theorem At.f1 (h : At Bad r A n c xs g q w w' An ln cn Af lf cf ns fs p) : w'.frozen? ⟨g, 1, none⟩ = false := h.here.soft 1
theorem At.r0 (h : At Bad r A n c xs g q w w' An ln cn Af lf cf ns fs p) : w'.cell? ⟨q, 0, none⟩ = some (.slice none 0 0) := h.res.cell 0
theorem At.r1 (h : At Bad r A n c xs g q w w' An ln cn Af lf cf ns fs p) : w'.cell? ⟨q, 1, none⟩ = some (.slice none 0 0) := h.res.cell 1
theorem At.q0 (h : At Bad r A n c xs g q w w' An ln cn Af lf cf ns fs p) : w'.frozen? ⟨q, 0, none⟩ = false := h.res.soft 0
theorem At.q1 (h : At Bad r A n c xs g q w w' An ln cn Af lf cf ns fs p) : w'.frozen? ⟨q, 1, none⟩ = false := h.res.soft 1
theorem At.drew (h : At Bad r A n c xs g q w w' An ln cn Af lf cf ns fs p) : At Bad r A n c xs g q w w'.drew An ln cn Af lf cf ns fs p := h.below (up_drew (Below.refl _ _))

theorem At.addK (h : At Bad r A n c xs g q w w' An ln cn Af lf cf ns fs p) (kd vl : Int) (hn : ln ≤ 1000) :
    Calls Try.prog 61 #[.agg #[.slice An ln cn, .slice Af lf cf], .int .i64 kd, .int .i64 vl] w'
      (fun e w2 => ∃ v, e = .returned (.tuple #[v, .int .i64 (ln : Int)]) ∧ Gave Bad r A n c xs g q w w2 An ln cn Af lf cf ns fs v (ln + 1) lf p) := by
  refine (add_any Bad ln cn lf cf An Af ns fs kd vl w' h.prc h.en.symm hn h.bad).mono ?_
  rintro e w2 ⟨vn, rfl, hP, _, hb⟩
  obtain ⟨An2, cn2, _, _, rfl, _, _⟩ := hP.form
  have h2 := h.below hb
  have e1 : (ns ++ [(kd, vl)]).length = ln + 1 := by rw [List.length_append, List.length_singleton, h.en]
  rw [e1] at hP ⊢
  exact ⟨_, rfl, An2, cn2, Af, cf, ns ++ [(kd, vl)], fs, p, rfl, Int.le_refl _, h2, h2.put hP e1 h.ef, hP, e1, h.ef⟩
theorem At.block (h : At Bad r A n c xs g q w w' An ln cn Af lf cf ns fs p) (fr : Int) (hp : p ≤ 800000) (h100 : ln ≤ 90) (h200 : lf ≤ 90) :
    Calls Try.prog 87 #[.pointer (some ⟨r, 0, none⟩), .agg #[.slice An ln cn, .slice Af lf cf], .int .i64 fr] w'
      (fun e w2 => ∃ v k, e = .returned (.tuple #[v, .int .i64 k]) ∧ Gave Bad r A n c xs g q w w2 An ln cn Af lf cf ns fs v (ln + 4) (lf + 5) (p + 200)) := by
  refine (addBlock_any Bad r A n c xs p ln cn lf cf An Af ns fs fr w' h.rdr hp h.rb h.bad h.prc h.en.symm h.ef.symm h100 h200).mono ?_
  rintro e w2 ⟨An2, cn2, Af2, cf2, ns2, fs2, k, p2, rfl, e1, e2, hP, hR, hp2, hgg⟩
  have h2 := h.moved hgg hR
  rw [h.en] at e1
  rw [h.ef] at e2
  rw [e1, e2] at hP ⊢
  exact ⟨_, _, rfl, An2, cn2, Af2, cf2, ns2, fs2, p2, rfl, hp2, h2, h2.put hP e1 e2, hP, e1, e2⟩
/-- A node more, the process itself as it was: the new one's row is new. -/
theorem At.addV (h : At Bad r A n c xs g q w w' An ln cn Af lf cf ns fs p) (kd vl : Int) (hn : ln ≤ 1000) :
    Calls Try.prog 61 #[.agg #[.slice An ln cn, .slice Af lf cf], .int .i64 kd, .int .i64 vl] w'
      (fun e w2 => ∃ An2 cn2 ns2, e = .returned (.tuple #[.agg #[.slice An2 (ln + 1) cn2, .slice Af lf cf], .int .i64 (ln : Int)]) ∧ At Bad r A n c xs g q w w2 An ln cn Af lf cf ns fs p ∧ Prc w2 Bad (.slice An2 (ln + 1) cn2) (.slice Af lf cf) ns2 fs ∧ ns2.length = ln + 1 ∧
        (∀ g, (Value.slice An2 (ln + 1) cn2).ownBlock = some g → w'.heap.size ≤ g) ∧ Below w'.heap.size w' w2) := by
  refine (add_any Bad ln cn lf cf An Af ns fs kd vl w' h.prc h.en.symm hn h.bad).mono ?_
  rintro e w2 ⟨vn, rfl, hP, hn2, hb⟩
  obtain ⟨An2, cn2, _, _, rfl, _, _⟩ := hP.form
  have e1 : (ns ++ [(kd, vl)]).length = ln + 1 := by rw [List.length_append, List.length_singleton, h.en]
  rw [e1] at hP hn2 ⊢
  exact ⟨An2, cn2, ns ++ [(kd, vl)], rfl, h.below hb, hP, e1, hn2, hb⟩
/-- A flow more, of another process; the result is to be stored into this one's cell. -/
theorem At.linkV (h : At Bad r A n c xs g q w w' An ln cn Af lf cf ns fs p) {An1 : Option Addr} {ln1 cn1 : Nat} {Af1 : Option Addr} {lf1 cf1 : Nat} {ns1 : List (Int × Int)} {fs1 : List Flw}
    (hP : Prc w' Bad (.slice An1 ln1 cn1) (.slice Af1 lf1 cf1) ns1 fs1) (e1 : ns1.length = ln1) (e2 : fs1.length = lf1) (x y : Int) (l u nw cw : Nat) (Aw : Option Addr) (ps : List (Int × Int)) (hf : lf1 ≤ 1000)
    (hw : Rd w' l u 2 Aw nw (pvs ps)) (hl : ∀ b, Bad b → b < l ∨ u ≤ b) (hu : u ≤ w'.heap.size) (hnw : nw ≤ 16) (hoff : Off (.slice An1 ln1 cn1) l u) :
    Calls Try.prog 60 #[.agg #[.slice An1 ln1 cn1, .slice Af1 lf1 cf1], .int .i64 x, .int .i64 y, .slice Aw nw cw] w'
      (fun e w2 => ∃ v, e = .returned v ∧ Gave Bad r A n c xs g q w w2 An ln cn Af lf cf ns fs v ln1 (lf1 + 1) p) := by
  refine (link_any Bad l u ln1 cn1 An1 Af1 Aw lf1 cf1 nw cw ns1 fs1 x y ps w' hP e2.symm hf h.bad hw hl hu hnw hoff).mono ?_
  rintro e w2 ⟨vf, rfl, hP2, hb⟩
  obtain ⟨_, _, Af2, cf2, _, rfl, _⟩ := hP2.form
  have h2 := h.below hb
  have e3 : (fs1 ++ [(x, y, ps)]).length = lf1 + 1 := by rw [List.length_append, List.length_singleton, e2]
  rw [e3] at hP2 ⊢
  exact ⟨_, rfl, An1, cn1, Af2, cf2, ns1, fs1 ++ [(x, y, ps)], p, rfl, Int.le_refl _, h2, h2.put hP2 e1 e3, hP2, e1, e3⟩
/-- A cell of one of the process's rows is stored. -/
theorem At.store (h : At Bad r A n c xs g q w w' An ln cn Af lf cf ns fs p) {a : Addr} {v : Value} {ns' : List (Int × Int)} {fs' : List Flw} (hP : Prc (w'.setCell a v) Bad (.slice An ln cn) (.slice Af lf cf) ns' fs') (e1 : ns'.length = ln) (e2 : fs'.length = lf) (hb : ¬ Bad a.block) (hw : w.heap.size ≤ a.block) :
    At Bad r A n c xs g q w (w'.setCell a v) An ln cn Af lf cf ns' fs' p :=
  ⟨hP, rdr_set h.rdr a v (Nat.lt_of_lt_of_le h.lt hw), but_put h.but (.inr hw) v, h.here.far (fun e => hb (e ▸ h.gb)) v, h.res.far (fun e => hb (e ▸ h.qb)) v, h.lt, fun b q => by simpa [World.setCell] using h.bad b q, h.rb, h.gb, h.qb, h.wg, h.wq, h.ne, e1, e2⟩
/-- The function ends: the process lies in its result's cell. -/
theorem At.done {Bad0 : Nat → Prop} (h : At Bad r A n c xs g q w w' An ln cn Af lf cf ns fs p) {An' : Option Addr} {ln' cn' : Nat} {Af' : Option Addr} {lf' cf' : Nat} {ns' : List (Int × Int)} {fs' : List Flw}
    (hP : Prc w' Bad (.slice An' ln' cn') (.slice Af' lf' cf') ns' fs') (hl : ∀ b, Bad0 b → Bad b) :
    ((w'.setCell ⟨q, 0, none⟩ (.slice An' ln' cn')).setCell ⟨q, 1, none⟩ (.slice Af' lf' cf')).cell? ⟨q, 0, none⟩ = some (.slice An' ln' cn') ∧
    ((w'.setCell ⟨q, 0, none⟩ (.slice An' ln' cn')).setCell ⟨q, 1, none⟩ (.slice Af' lf' cf')).cell? ⟨q, 1, none⟩ = some (.slice Af' lf' cf') ∧
    Hid (Prc ((w'.setCell ⟨q, 0, none⟩ (.slice An' ln' cn')).setCell ⟨q, 1, none⟩ (.slice Af' lf' cf')) Bad0 (.slice An' ln' cn') (.slice Af' lf' cf') ns' fs' ∧ Rdr ((w'.setCell ⟨q, 0, none⟩ (.slice An' ln' cn')).setCell ⟨q, 1, none⟩ (.slice Af' lf' cf')) r A n c xs p ∧ But r w ((w'.setCell ⟨q, 0, none⟩ (.slice An' ln' cn')).setCell ⟨q, 1, none⟩ (.slice Af' lf' cf'))) := by
  have hZ := (h.res.put 0 (.slice An' ln' cn')).put 1 (.slice Af' lf' cf')
  have b0 := hZ.cell 0
  have b1 := hZ.cell 1
  simp at b0 b1
  have hq : r < q := Nat.lt_of_lt_of_le h.lt h.wq
  exact ⟨b0, b1, Lib.hid ⟨((hP.set ⟨q, 0, none⟩ _ h.qb).set ⟨q, 1, none⟩ _ h.qb).less hl, rdr_set (rdr_set h.rdr ⟨q, 0, none⟩ _ hq) ⟨q, 1, none⟩ _ hq, but_put (but_put h.but (p := ⟨q, 0, none⟩) (.inr h.wq) _) (p := ⟨q, 1, none⟩) (.inr h.wq) _⟩⟩
end

/-- A function gave a process that it built. -/
def Drawn (Bad : Nat → Prop) (r : Nat) (A : Option Addr) (n c : Nat) (xs : List Int) (p K : Int) (w : World) (e : Ending) (w' : World) : Prop :=
  ∃ An ln cn Af lf cf ns fs p', e = .returned (.agg #[.slice An ln cn, .slice Af lf cf]) ∧ ns.length = ln ∧ fs.length = lf ∧ 2 ≤ ln ∧ ln ≤ 20 ∧ 1 ≤ lf ∧ lf ≤ 20 ∧
    Prc w' Bad (.slice An ln cn) (.slice Af lf cf) ns fs ∧ Rdr w' r A n c xs p' ∧ p' ≤ p + K ∧ But r w w'

/-! ### What is stored into a process -/
theorem pvs_set1 : ∀ (ns : List (Int × Int)) (k : Nat) (x y v : Int), ns[k]? = some (x, y) → (pvs ns).set (k * 2 + 1) (.int .i64 v) = pvs (ns.set k (x, v))
  | [], k, x, y, v, h => by simp at h
  | m :: ns, 0, x, y, v, h => by
    simp at h
    subst h
    simp [pvs, pv]
  | m :: ns, k + 1, x, y, v, h => by
    have := pvs_set1 ns k x y v (by simpa using h)
    have e : (k + 1) * 2 = k * 2 + 2 := by omega
    rw [e]
    simpa [pvs, pv] using this
theorem fvs_set1 : ∀ (fs : List Flw) (hs : List Hd) (k : Nat) (x y v : Int) (ps : List (Int × Int)), hs.length = fs.length → fs[k]? = some (x, y, ps) → (fvs fs hs).set (k * 3 + 1) (.int .i64 v) = fvs (fs.set k (x, v, ps)) hs
  | [], _, k, x, y, v, ps, _, h => by simp at h
  | _ :: _, [], k, x, y, v, ps, hl, h => by simp at hl
  | f :: fs, d :: hs, 0, x, y, v, ps, hl, h => by
    simp at h
    subst h
    simp [fvs]
  | f :: fs, d :: hs, k + 1, x, y, v, ps, hl, h => by
    have := fvs_set1 fs hs k x y v ps (by simpa using hl) (by simpa using h)
    have e : (k + 1) * 3 = k * 3 + 3 := by omega
    rw [e]
    simpa [fvs] using this
theorem own_raise {w : World} {H : Nat} {e : TypeId} {size : Nat} {v : Value} {n : Nat} {xs : List Value} (h : w.ownsRow 0 e size v n xs) (hv : ∀ g, v.ownBlock = some g → H ≤ g) : w.ownsRow H e size v n xs := by
  rcases h with ⟨h1, h2 | ⟨g, cap, cur, hv', hb, r⟩⟩
  · exact ⟨h1, .inl h2⟩
  · exact ⟨h1, .inr ⟨g, cap, cur, hv', hv g (by rw [hv']; rfl), r⟩⟩
section
variable {Bad : Nat → Prop} {w : World} {ns : List (Int × Int)} {fs : List Flw}
theorem Prc.setNode {gn nn cn : Nat} {vf : Value} (h : Prc w Bad (.slice (some ⟨gn, 0, Option.none⟩) nn cn) vf ns fs) (hnn : nn = ns.length) {k : Nat} {x y : Int} (hk : ns[k]? = some (x, y)) (v : Int) :
    Prc (w.setCell ⟨gn, k * 2 + 1, Option.none⟩ (.int .i64 v)) Bad (.slice (some ⟨gn, 0, Option.none⟩) nn cn) vf (ns.set k (x, v)) fs := by
  subst hnn
  obtain ⟨h1, h2, b1, b2, hs, h3, h4, h5⟩ := h
  have hlow : Low (fun b => b = gn) w (w.setCell ⟨gn, k * 2 + 1, Option.none⟩ (.int .i64 v)) := low_set w _ _ rfl
  have hne : ∀ g, vf.ownBlock = some g → ¬ g = gn := fun g hg e => by
    subst e
    rcases h2 with h2 | h2
    · simp [Value.ownBlock] at h2
    · exact h2 (by rw [hg]; rfl)
  have hst := (h1.stored (k * 2 + 1) (.int .i64 v)).1
  rw [pvs_set1 ns k x y v hk] at hst
  refine ⟨by rw [List.length_set]; exact hst, h2, b1, b2, hs, h3, own_low h4 hne hlow, fun j f d e e' => ?_⟩
  obtain ⟨l, u, q1, q2, q3, q4, q5, q6⟩ := h5 j f d e e'
  exact ⟨l, u, Nat.le_trans q1 hlow.size, q2, rd_low q3 hlow (fun b hb => by subst hb; exact q5 _ rfl) q1, q4, q5, q6⟩
theorem Prc.setTo {gf n c : Nat} {vn : Value} (h : Prc w Bad vn (.slice (some ⟨gf, 0, Option.none⟩) n c) ns fs) (hn : n = fs.length) {k : Nat} {x y : Int} {ps : List (Int × Int)} (hk : fs[k]? = some (x, y, ps)) (v : Int) :
    Prc (w.setCell ⟨gf, k * 3 + 1, Option.none⟩ (.int .i64 v)) Bad vn (.slice (some ⟨gf, 0, Option.none⟩) n c) ns (fs.set k (x, v, ps)) := by
  subst hn
  obtain ⟨h1, h2, b1, b2, hs, h3, h4, h5⟩ := h
  have hlow : Low (fun b => b = gf) w (w.setCell ⟨gf, k * 3 + 1, Option.none⟩ (.int .i64 v)) := low_set w _ _ rfl
  have hne : ∀ g, vn.ownBlock = some g → ¬ g = gf := fun g hg e => by
    subst e
    rcases h2 with h2 | h2
    · rw [h2] at hg; cases hg
    · exact h2 (by rw [hg]; rfl)
  have hst := (h4.stored (k * 3 + 1) (.int .i64 v)).1
  rw [fvs_set1 fs hs k x y v ps h3 hk] at hst
  refine ⟨own_low h1 hne hlow, h2, b1, b2, hs, by simpa using h3, by rw [List.length_set]; exact hst, fun j f d e e' => ?_⟩
  have hw : ∃ f0, fs[j]? = some f0 ∧ f0.2.2 = f.2.2 := by
    by_cases hj : j = k
    · subst hj
      have hlt := (List.getElem?_eq_some_iff.1 hk).1
      rw [List.getElem?_set_self hlt] at e
      injection e with e
      exact ⟨_, hk, by rw [← e]⟩
    · rw [List.getElem?_set_ne (fun e => hj e.symm)] at e
      exact ⟨f, e, rfl⟩
  obtain ⟨f0, ef, ew⟩ := hw
  obtain ⟨l, u, q1, q2, q3, q4, q5, q6⟩ := h5 j f0 d ef e'
  rw [ew] at q3
  exact ⟨l, u, Nat.le_trans q1 hlow.size, q2, rd_low q3 hlow (fun b hb => by subst hb; exact q6 _ rfl) q1, q4, q5, q6⟩
/-- The condition of the first flow is stored. -/
theorem Prc.setWhen {gf n c : Nat} {vn : Value} {f0 : Flw} {fs' : List Flw} (h : Prc w Bad vn (.slice (some ⟨gf, 0, Option.none⟩) n c) ns (f0 :: fs')) (hn : n = (f0 :: fs').length) {d : Hd} {ps : List (Int × Int)} (hd : Wh w Bad vn (.slice (some ⟨gf, 0, Option.none⟩) n c) d ps) :
    Prc (w.setCell ⟨gf, 2, Option.none⟩ (hdv d)) Bad vn (.slice (some ⟨gf, 0, Option.none⟩) n c) ns ((f0.1, f0.2.1, ps) :: fs') := by
  subst hn
  obtain ⟨h1, h2, b1, b2, hs, h3, h4, h5⟩ := h
  have hlow : Low (fun b => b = gf) w (w.setCell ⟨gf, 2, Option.none⟩ (hdv d)) := low_set w _ _ rfl
  have hne : ∀ g, vn.ownBlock = some g → ¬ g = gf := fun g hg e => by
    subst e
    rcases h2 with h2 | h2
    · rw [h2] at hg; cases hg
    · exact h2 (by rw [hg]; rfl)
  have hst := (h4.stored 2 (hdv d)).1
  cases hs with
  | nil => simp at h3
  | cons d0 hs' =>
    refine ⟨own_low h1 hne hlow, h2, b1, b2, d :: hs', by simpa using h3, by simpa [fvs] using hst, fun j f e ef ee => ?_⟩
    have hw : Wh w Bad vn (.slice (some ⟨gf, 0, Option.none⟩) (f0 :: fs').length c) e f.2.2 := by
      cases j with
      | zero =>
        simp at ef ee
        subst ef; subst ee
        exact hd
      | succ j => exact h5 (j + 1) f e (by simpa using ef) (by simpa using ee)
    obtain ⟨l, u, q1, q2, q3, q4, q5, q6⟩ := hw
    exact ⟨l, u, Nat.le_trans q1 hlow.size, q2, rd_low q3 hlow (fun b hb => by subst hb; exact q6 _ rfl) q1, q4, q5, q6⟩
theorem Wh.high {H : Nat} {vn vf : Value} {d : Hd} {ps : List (Int × Int)} (h : Wh w (fun b => b < H) vn vf d ps) : Rd w H w.heap.size 2 d.1 d.2.1 (pvs ps) := by
  obtain ⟨l, u, q1, q2, q3, q4⟩ := h
  refine ⟨q3.1, fun hn => ?_⟩
  obtain ⟨b, off, e, h1, h2, hc⟩ := q3.2 hn
  refine ⟨b, off, e, ?_, by omega, hc⟩
  rcases Nat.lt_or_ge b H with hb | hb
  · have := q2 b hb; omega
  · exact hb
/-- What a process reads as that lies in new blocks. -/
theorem Prc.high {H : Nat} {An A : Option Addr} {nn cn n c : Nat} (h : Prc w (fun b => b < H) (.slice An nn cn) (.slice A n c) ns fs) (hn : nn = ns.length) (hf : n = fs.length) : Rd w H w.heap.size 2 An nn (pvs ns) ∧ Fls w H w.heap.size A n fs := by
  subst hn; subst hf
  obtain ⟨h1, _, b1, b2, hs, h3, h4, h5⟩ := h
  refine ⟨Rd.of_own (own_raise h1 fun g hg => by have := b1 g hg; omega), rfl, hs, h3, Rd.of_own (own_raise h4 fun g hg => by have := b2 g hg; omega), fun k f x e e' => ?_⟩
  have hw := h5 k f x e e'
  obtain ⟨_, _, _, _, _, q4, _⟩ := h5 k f x e e'
  exact ⟨hw.high, by omega⟩
end
theorem fvs_tail : ∀ (fs : List Flw) (hs : List Hd), hs.length = fs.length → (fvs fs hs).drop 3 = fvs fs.tail hs.tail
  | [], _, _ => by simp [fvs]
  | _ :: _, [], h => by simp at h
  | f :: fs, d :: hs, _ => by simp [fvs]
theorem Fls.tail {w : World} {lo hi b off n : Nat} {fs : List Flw} (h : Fls w lo hi (some ⟨b, off, none⟩) (n + 1) fs) : Fls w lo hi (some ⟨b, off + 3, none⟩) n fs.tail := by
  obtain ⟨hl, hs, hl', hr, hc⟩ := h
  have ht := hr.tail
  rw [fvs_tail fs hs (by omega)] at ht
  exact ⟨by simp [hl], hs.tail, by simp [hl'], ht, fun k f d e e' => hc (k + 1) f d (by simpa using e) (by simpa using e')⟩

/-- A drawn process, valid or not, all of it in new blocks. -/
def DrawnP (r : Nat) (A : Option Addr) (n c : Nat) (xs : List Int) (p K : Int) (w : World) (e : Ending) (w' : World) : Prop :=
  ∃ An nn cn Af lf cf ns fs p', e = .returned (.agg #[.slice An nn cn, .slice Af lf cf]) ∧ nn ≤ 21 ∧ lf ≤ 21 ∧ nn ≤ cn ∧ cn ≤ 9223372036854775807 ∧ lf ≤ cf ∧ cf ≤ 9223372036854775807 ∧
    Rd w' w.heap.size w'.heap.size 2 An nn (pvs ns) ∧ Fls w' w.heap.size w'.heap.size Af lf fs ∧ Rdr w' r A n c xs p' ∧ p' ≤ p + K ∧ But r w w'
end Go.Proofs.Ytmhbfdcikdhehaa

