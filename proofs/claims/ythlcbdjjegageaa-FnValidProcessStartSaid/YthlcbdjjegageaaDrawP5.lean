/- The drawing of processes: a block. -/
import Derived.Test.YthlcbdjjegageaaDrawP4
namespace Go.Proofs.Ythlcbdjjegageaa
open Go.RowKit

set_option maxRecDepth 100000 in
set_option maxHeartbeats 6400000 in
theorem addBlock_any (Bad : Nat → Prop) (r : Nat) (A : Option Addr) (n c : Nat) (xs : List Int) (p : Int) (nn cn nf cf : Nat) (An Af : Option Addr) (ns : List (Int × Int)) (fs : List Flw) (fr : Int) (w : World)
    (hR : Rdr w r A n c xs p) (hp : p ≤ 800000) (hrb : Bad r) (hbad : ∀ b, Bad b → b < w.heap.size) (hP : Prc w Bad (.slice An nn cn) (.slice Af nf cf) ns fs) (hnn : nn = ns.length) (hnf : nf = fs.length) (h100 : nn ≤ 90) (h200 : nf ≤ 90) :
    Calls Try.prog 107 #[.pointer (some ⟨r, 0, none⟩), .agg #[.slice An nn cn, .slice Af nf cf], .int .i64 fr] w (Stepped Bad r A n c xs p 200 ns fs 4 5 w) := by
  subst hnn; subst hnf
  have hp0 := hR.2.2.2.2
  have HA0 : Hid (At (Mine Bad w.heap.size 2) r A n c xs w.heap.size (w.heap.size + 1) w ((w.alloc (.cells #[.slice An ns.length cn, .slice Af fs.length cf] 26)).alloc (.cells #[.slice none 0 0, .slice none 0 0] 26)) An ns.length cn Af fs.length cf ns fs p) := by
    have hb1 := up_alloc (up_alloc (Below.refl _ w) (.cells #[.slice An ns.length cn, .slice Af fs.length cf] 26)) (.cells #[.slice none 0 0, .slice none 0 0] 26)
    have hbb : ∀ b, Mine Bad w.heap.size 2 b → b < ((w.alloc (.cells #[.slice An ns.length cn, .slice Af fs.length cf] 26)).alloc (.cells #[.slice none 0 0, .slice none 0 0] 26)).heap.size := fun b hb => by
      simp
      rcases hb with hb | hb
      · have := hbad b hb; omega
      · omega
    refine Lib.hid ⟨(hP.mine 2).below hb1, hR.below hb1, but_below (but_refl r w) hb1, (Blk.new w 26 #[.slice An ns.length cn, .slice Af fs.length cf]).alloc (.cells #[.slice none 0 0, .slice none 0 0] 26), ?_, hR.lt, hbb, .inl hrb, .inr ⟨by omega, by omega⟩, .inr ⟨by omega, by omega⟩, by omega, by omega, by omega, rfl, rfl⟩
    simpa using Blk.new (w.alloc (.cells #[.slice An ns.length cn, .slice Af fs.length cf] 26)) 26 #[.slice none 0 0, .slice none 0 0]
  clear hP hR hbad
  go_enter Try.func107, Try.ntmps107
  go_wp2_with (fail)
  (with_reducible refine (pick_any r A n c xs p 2 _ HA0.out.rdr (by omega) (by omega)).mono ?_)
  rintro e w1 ⟨v, rfl, _, _, _, hR1, hG1⟩
  have HA1 := Lib.hid (HA0.out.moved hG1 hR1)
  clear HA0 hG1 hR1
  by_cases g1 : v = 0
  · subst g1
    go_wp2_with (fail)
    (with_reducible refine (pick_any r A n c xs (p + 1) 12 _ HA1.out.rdr (by omega) (by omega)).mono ?_)
    rintro e w2 ⟨v2, rfl, _, _, _, hR2, hG2⟩
    have HA2 := Lib.hid (HA1.out.moved hG2 hR2)
    clear HA1 hG2 hR2
    by_cases g2 : v2 = 0
    · subst g2
      go_wp2_with (fail)
      have hA := up_alloc (Below.refl _ w2) (.cells #[.int .i64 8, .int .i64 7] 3)
      have hb := Blk.new w2 3 #[.int .i64 8, .int .i64 7]
      have hrl := HA2.out.lt
      have hs2 := HA2.out.but.size
      (with_reducible refine (one_any r A n c xs (p + 1 + 1) w2.heap.size (w2.heap.size + 1) 2 2 _ [8, 7] _ (HA2.out.below hA).rdr (by omega) (Rd.of_blk hb rfl) (by simp) (by omega) (by omega) (.inl (by omega))).mono ?_)
      rintro e w3 ⟨kb, rfl, _, hR3, hG3⟩
      have HA3 := Lib.hid ((HA2.out.below hA).moved hG3 hR3)
      have HP3 : p + 1 + 1 + 1 ≤ p + 3 := by omega
      clear HA2 hA hb hG3 hR3 hrl hs2
      have k0 := HA3.out.here.cell 0
      have k1 := HA3.out.here.cell 1
      simp at k0 k1
      go_wp2_with (fail)
      clear k0 k1
      (with_reducible refine (HA3.out.add _ _ (by omega)).mono ?_)
      rintro e w4 ⟨v4, k4, rfl, An4, cn4, Af4, cf4, ns4, fs4, p4, rfl, hp4, hO, hN, hP, e1, e2⟩
      have k0 := hO.here.cell 0
      have k1 := hO.here.cell 1
      have f0 := hO.here.soft 0
      have f1 := hO.here.soft 1
      simp at k0 k1
      have HA4 := Lib.hid hN
      clear HA3 hN
      clear hO hP e1 e2
      go_wp2_with (fail)
      clear k0 k1 f0 f1
      (with_reducible refine (HA4.out.link _ _ (by omega)).mono ?_)
      rintro e w5 ⟨v5, rfl, An5, cn5, Af5, cf5, ns5, fs5, p5, rfl, hp5, hO, hN, hP, e1, e2⟩
      have k0 := hO.here.cell 0
      have k1 := hO.here.cell 1
      have f0 := hO.here.soft 0
      have f1 := hO.here.soft 1
      simp at k0 k1
      have HA5 := Lib.hid hN
      clear HA4 hN
      clear hO hP e1 e2
      go_wp2_with (fail)
      clear k0 k1 f0 f1
      have HA6 := Lib.hid (HA5.out.below (up_alloc (Below.refl _ _) (.cells #[] 128)))
      clear HA5
      (with_reducible refine (randomCondition_any r A n c xs p5 _ HA6.out.rdr (by omega)).mono ?_)
      rintro e w7 ⟨Aw, nw, cw, ps, p7, rfl, _, _, _, hnw, hrow, hR7, hp7, hG7⟩
      have HA7 := Lib.hid (HA6.out.moved hG7 hR7)
      have HW7 := Lib.hid (Rd.of_own hrow)
      have HBD := Lib.hid HA6.out.bad
      clear HA6 hrow hR7 hG7
      have k0 := HA7.out.here.cell 0
      have k1 := HA7.out.here.cell 1
      simp at k0 k1
      have hlM : ∀ b, Mine Bad w.heap.size 2 b → b < _ ∨ w7.heap.size ≤ b := fun b hb => .inl (HBD.out b hb)
      go_wp2_with (fail)
      clear k0 k1
      (with_reducible refine (HA7.out.step _ _ _ nw _ _ ps (by omega) (by omega) (by omega) HW7.out hlM (Nat.le_refl _) (by omega)).mono ?_)
      rintro e w8 ⟨v8, k8, rfl, An8, cn8, Af8, cf8, ns8, fs8, p8, rfl, hp8, hO, hN, hP, e1, e2⟩
      have k0 := hO.here.cell 0
      have k1 := hO.here.cell 1
      have f0 := hO.here.soft 0
      have f1 := hO.here.soft 1
      simp at k0 k1
      have HA8 := Lib.hid hN
      clear HA7 hN
      clear hO hP e1 e2 HW7 HBD hlM
      go_wp2_with (fail)
      clear k0 k1 f0 f1
      (with_reducible refine (HA8.out.step _ 0 0 0 _ _ [] (by omega) (by omega) (by omega) (nothing _ _) (fun b _ => .inr (by omega)) (by omega) (by omega)).mono ?_)
      rintro e w9 ⟨v9, k9, rfl, An9, cn9, Af9, cf9, ns9, fs9, p9, rfl, hp9, hO, hN, hP, e1, e2⟩
      have k0 := hO.here.cell 0
      have k1 := hO.here.cell 1
      have f0 := hO.here.soft 0
      have f1 := hO.here.soft 1
      simp at k0 k1
      have HA9 := Lib.hid hN
      clear HA8 hN
      clear hO hP e1 e2
      go_wp2_with (fail)
      clear k0 k1 f0 f1
      (with_reducible refine (HA9.out.add _ _ (by omega)).mono ?_)
      rintro e w10 ⟨v10, k10, rfl, An10, cn10, Af10, cf10, ns10, fs10, p10, rfl, hp10, hO, hN, hP, e1, e2⟩
      have k0 := hO.here.cell 0
      have k1 := hO.here.cell 1
      have f0 := hO.here.soft 0
      have f1 := hO.here.soft 1
      simp at k0 k1
      have HA10 := Lib.hid hN
      clear HA9 hN
      clear hO hP e1 e2
      go_wp2_with (fail)
      clear k0 k1 f0 f1
      (with_reducible refine (HA10.out.link _ _ (by omega)).mono ?_)
      rintro e w11 ⟨v11, rfl, An11, cn11, Af11, cf11, ns11, fs11, p11, rfl, hp11, hO, hN, hP, e1, e2⟩
      have k0 := hO.here.cell 0
      have k1 := hO.here.cell 1
      have f0 := hO.here.soft 0
      have f1 := hO.here.soft 1
      simp at k0 k1
      have HA11 := Lib.hid hN
      clear HA10 hN
      clear hO hP e1 e2
      go_wp2_with (fail)
      clear k0 k1 f0 f1
      (with_reducible refine (HA11.out.link _ _ (by omega)).mono ?_)
      rintro e w12 ⟨v12, rfl, An12, cn12, Af12, cf12, ns12, fs12, p12, rfl, hp12, hO, hN, hP, e1, e2⟩
      have k0 := hO.here.cell 0
      have k1 := hO.here.cell 1
      have f0 := hO.here.soft 0
      have f1 := hO.here.soft 1
      simp at k0 k1
      have HA12 := Lib.hid hN
      clear HA11 hN
      clear k0 k1 f0 f1 HA12
      have hsz := hO.but.size
      have hrl := hO.lt
      have m1 : Mine Bad w.heap.size 2 (w.heap.size + 1) := .inr ⟨by omega, by omega⟩
      have r0 := hO.res.cell 0
      have r1 := hO.res.cell 1
      have q0 := hO.res.soft 0
      have q1 := hO.res.soft 1
      simp at r0 r1
      have hZ := (hO.res.put 0 (.slice An12 (ns.length + 1 + 1 + 1 + 1) cn12)).put 1 (.slice Af12 (fs.length + 1 + 1 + 1 + 1 + 1) cf12)
      have b0 := hZ.cell 0
      have b1 := hZ.cell 1
      simp at b0 b1
      have HPF := Lib.hid (((hP.set ⟨w.heap.size + 1, 0, none⟩ (.slice An12 (ns.length + 1 + 1 + 1 + 1) cn12) m1).set ⟨w.heap.size + 1, 1, none⟩ (.slice Af12 (fs.length + 1 + 1 + 1 + 1 + 1) cf12) m1).less (fun b hb => .inl hb : ∀ b, Bad b → Mine Bad w.heap.size 2 b))
      have HRF := Lib.hid (rdr_set (rdr_set hO.rdr ⟨w.heap.size + 1, 0, none⟩ (.slice An12 (ns.length + 1 + 1 + 1 + 1) cn12) (by show r < w.heap.size + 1; omega)) ⟨w.heap.size + 1, 1, none⟩ (.slice Af12 (fs.length + 1 + 1 + 1 + 1 + 1) cf12) (by show r < w.heap.size + 1; omega))
      have HBF := Lib.hid (but_put (but_put hO.but (p := ⟨w.heap.size + 1, 0, none⟩) (.inr (by show w.heap.size ≤ w.heap.size + 1; omega)) (.slice An12 (ns.length + 1 + 1 + 1 + 1) cn12)) (p := ⟨w.heap.size + 1, 1, none⟩) (.inr (by show w.heap.size ≤ w.heap.size + 1; omega)) (.slice Af12 (fs.length + 1 + 1 + 1 + 1 + 1) cf12))
      have E1 := Lib.hid e1
      have E2 := Lib.hid e2
      clear hZ hO hP e1 e2
      go_wp2
      refine bodyPost_ret (v := .tuple #[.agg #[.slice An12 (ns.length + 1 + 1 + 1 + 1) cn12, .slice Af12 (fs.length + 1 + 1 + 1 + 1 + 1) cf12], .int .i64 k10]) (by simp [results, Try.results107, go_sem, b0, b1]) rfl ?_
      refine ⟨An12, cn12, Af12, cf12, ns12, fs12, k10, p12, by rw [E1.out, E2.out], E1.out, E2.out, by rw [E1.out, E2.out]; exact HPF.out, HRF.out, by omega, HBF.out⟩
    · have g2' : (v2 == 0) = false := by simpa using g2
      generalize hw3 : w2 = w3 at *
      have HA3 := HA2
      have HP3 : p + 1 + 1 ≤ p + 3 := by omega
      clear HA2 hw3 g2
      have k0 := HA3.out.here.cell 0
      have k1 := HA3.out.here.cell 1
      simp at k0 k1
      go_wp2_with (fail)
      clear k0 k1
      (with_reducible refine (HA3.out.add _ _ (by omega)).mono ?_)
      rintro e w4 ⟨v4, k4, rfl, An4, cn4, Af4, cf4, ns4, fs4, p4, rfl, hp4, hO, hN, hP, e1, e2⟩
      have k0 := hO.here.cell 0
      have k1 := hO.here.cell 1
      have f0 := hO.here.soft 0
      have f1 := hO.here.soft 1
      simp at k0 k1
      have HA4 := Lib.hid hN
      clear HA3 hN
      clear hO hP e1 e2
      go_wp2_with (fail)
      clear k0 k1 f0 f1
      (with_reducible refine (HA4.out.link _ _ (by omega)).mono ?_)
      rintro e w5 ⟨v5, rfl, An5, cn5, Af5, cf5, ns5, fs5, p5, rfl, hp5, hO, hN, hP, e1, e2⟩
      have k0 := hO.here.cell 0
      have k1 := hO.here.cell 1
      have f0 := hO.here.soft 0
      have f1 := hO.here.soft 1
      simp at k0 k1
      have HA5 := Lib.hid hN
      clear HA4 hN
      clear hO hP e1 e2
      go_wp2_with (fail)
      clear k0 k1 f0 f1
      have HA6 := Lib.hid (HA5.out.below (up_alloc (Below.refl _ _) (.cells #[] 128)))
      clear HA5
      (with_reducible refine (randomCondition_any r A n c xs p5 _ HA6.out.rdr (by omega)).mono ?_)
      rintro e w7 ⟨Aw, nw, cw, ps, p7, rfl, _, _, _, hnw, hrow, hR7, hp7, hG7⟩
      have HA7 := Lib.hid (HA6.out.moved hG7 hR7)
      have HW7 := Lib.hid (Rd.of_own hrow)
      have HBD := Lib.hid HA6.out.bad
      clear HA6 hrow hR7 hG7
      have k0 := HA7.out.here.cell 0
      have k1 := HA7.out.here.cell 1
      simp at k0 k1
      have hlM : ∀ b, Mine Bad w.heap.size 2 b → b < _ ∨ w7.heap.size ≤ b := fun b hb => .inl (HBD.out b hb)
      go_wp2_with (fail)
      clear k0 k1
      (with_reducible refine (HA7.out.step _ _ _ nw _ _ ps (by omega) (by omega) (by omega) HW7.out hlM (Nat.le_refl _) (by omega)).mono ?_)
      rintro e w8 ⟨v8, k8, rfl, An8, cn8, Af8, cf8, ns8, fs8, p8, rfl, hp8, hO, hN, hP, e1, e2⟩
      have k0 := hO.here.cell 0
      have k1 := hO.here.cell 1
      have f0 := hO.here.soft 0
      have f1 := hO.here.soft 1
      simp at k0 k1
      have HA8 := Lib.hid hN
      clear HA7 hN
      clear hO hP e1 e2 HW7 HBD hlM
      go_wp2_with (fail)
      clear k0 k1 f0 f1
      (with_reducible refine (HA8.out.step _ 0 0 0 _ _ [] (by omega) (by omega) (by omega) (nothing _ _) (fun b _ => .inr (by omega)) (by omega) (by omega)).mono ?_)
      rintro e w9 ⟨v9, k9, rfl, An9, cn9, Af9, cf9, ns9, fs9, p9, rfl, hp9, hO, hN, hP, e1, e2⟩
      have k0 := hO.here.cell 0
      have k1 := hO.here.cell 1
      have f0 := hO.here.soft 0
      have f1 := hO.here.soft 1
      simp at k0 k1
      have HA9 := Lib.hid hN
      clear HA8 hN
      clear hO hP e1 e2
      go_wp2_with (fail)
      clear k0 k1 f0 f1
      (with_reducible refine (HA9.out.add _ _ (by omega)).mono ?_)
      rintro e w10 ⟨v10, k10, rfl, An10, cn10, Af10, cf10, ns10, fs10, p10, rfl, hp10, hO, hN, hP, e1, e2⟩
      have k0 := hO.here.cell 0
      have k1 := hO.here.cell 1
      have f0 := hO.here.soft 0
      have f1 := hO.here.soft 1
      simp at k0 k1
      have HA10 := Lib.hid hN
      clear HA9 hN
      clear hO hP e1 e2
      go_wp2_with (fail)
      clear k0 k1 f0 f1
      (with_reducible refine (HA10.out.link _ _ (by omega)).mono ?_)
      rintro e w11 ⟨v11, rfl, An11, cn11, Af11, cf11, ns11, fs11, p11, rfl, hp11, hO, hN, hP, e1, e2⟩
      have k0 := hO.here.cell 0
      have k1 := hO.here.cell 1
      have f0 := hO.here.soft 0
      have f1 := hO.here.soft 1
      simp at k0 k1
      have HA11 := Lib.hid hN
      clear HA10 hN
      clear hO hP e1 e2
      go_wp2_with (fail)
      clear k0 k1 f0 f1
      (with_reducible refine (HA11.out.link _ _ (by omega)).mono ?_)
      rintro e w12 ⟨v12, rfl, An12, cn12, Af12, cf12, ns12, fs12, p12, rfl, hp12, hO, hN, hP, e1, e2⟩
      have k0 := hO.here.cell 0
      have k1 := hO.here.cell 1
      have f0 := hO.here.soft 0
      have f1 := hO.here.soft 1
      simp at k0 k1
      have HA12 := Lib.hid hN
      clear HA11 hN
      clear k0 k1 f0 f1 HA12
      have hsz := hO.but.size
      have hrl := hO.lt
      have m1 : Mine Bad w.heap.size 2 (w.heap.size + 1) := .inr ⟨by omega, by omega⟩
      have r0 := hO.res.cell 0
      have r1 := hO.res.cell 1
      have q0 := hO.res.soft 0
      have q1 := hO.res.soft 1
      simp at r0 r1
      have hZ := (hO.res.put 0 (.slice An12 (ns.length + 1 + 1 + 1 + 1) cn12)).put 1 (.slice Af12 (fs.length + 1 + 1 + 1 + 1 + 1) cf12)
      have b0 := hZ.cell 0
      have b1 := hZ.cell 1
      simp at b0 b1
      have HPF := Lib.hid (((hP.set ⟨w.heap.size + 1, 0, none⟩ (.slice An12 (ns.length + 1 + 1 + 1 + 1) cn12) m1).set ⟨w.heap.size + 1, 1, none⟩ (.slice Af12 (fs.length + 1 + 1 + 1 + 1 + 1) cf12) m1).less (fun b hb => .inl hb : ∀ b, Bad b → Mine Bad w.heap.size 2 b))
      have HRF := Lib.hid (rdr_set (rdr_set hO.rdr ⟨w.heap.size + 1, 0, none⟩ (.slice An12 (ns.length + 1 + 1 + 1 + 1) cn12) (by show r < w.heap.size + 1; omega)) ⟨w.heap.size + 1, 1, none⟩ (.slice Af12 (fs.length + 1 + 1 + 1 + 1 + 1) cf12) (by show r < w.heap.size + 1; omega))
      have HBF := Lib.hid (but_put (but_put hO.but (p := ⟨w.heap.size + 1, 0, none⟩) (.inr (by show w.heap.size ≤ w.heap.size + 1; omega)) (.slice An12 (ns.length + 1 + 1 + 1 + 1) cn12)) (p := ⟨w.heap.size + 1, 1, none⟩) (.inr (by show w.heap.size ≤ w.heap.size + 1; omega)) (.slice Af12 (fs.length + 1 + 1 + 1 + 1 + 1) cf12))
      have E1 := Lib.hid e1
      have E2 := Lib.hid e2
      clear hZ hO hP e1 e2
      go_wp2
      refine bodyPost_ret (v := .tuple #[.agg #[.slice An12 (ns.length + 1 + 1 + 1 + 1) cn12, .slice Af12 (fs.length + 1 + 1 + 1 + 1 + 1) cf12], .int .i64 k10]) (by simp [results, Try.results107, go_sem, b0, b1]) rfl ?_
      refine ⟨An12, cn12, Af12, cf12, ns12, fs12, k10, p12, by rw [E1.out, E2.out], E1.out, E2.out, by rw [E1.out, E2.out]; exact HPF.out, HRF.out, by omega, HBF.out⟩
  · have g1' : (v == 0) = false := by simpa using g1
    clear g1
    go_wp2_with (fail)
    (with_reducible refine (pick_any r A n c xs (p + 1) 12 _ HA1.out.rdr (by omega) (by omega)).mono ?_)
    rintro e w2 ⟨v2, rfl, _, _, _, hR2, hG2⟩
    have HA2 := Lib.hid (HA1.out.moved hG2 hR2)
    clear HA1 hG2 hR2
    by_cases g2 : v2 = 0
    · subst g2
      go_wp2_with (fail)
      have hA := up_alloc (Below.refl _ w2) (.cells #[.int .i64 8, .int .i64 7] 3)
      have hb := Blk.new w2 3 #[.int .i64 8, .int .i64 7]
      have hrl := HA2.out.lt
      have hs2 := HA2.out.but.size
      (with_reducible refine (one_any r A n c xs (p + 1 + 1) w2.heap.size (w2.heap.size + 1) 2 2 _ [8, 7] _ (HA2.out.below hA).rdr (by omega) (Rd.of_blk hb rfl) (by simp) (by omega) (by omega) (.inl (by omega))).mono ?_)
      rintro e w3 ⟨kb, rfl, _, hR3, hG3⟩
      have HA3 := Lib.hid ((HA2.out.below hA).moved hG3 hR3)
      have HP3 : p + 1 + 1 + 1 ≤ p + 3 := by omega
      clear HA2 hA hb hG3 hR3 hrl hs2
      have k0 := HA3.out.here.cell 0
      have k1 := HA3.out.here.cell 1
      simp at k0 k1
      go_wp2_with (fail)
      clear k0 k1
      (with_reducible refine (HA3.out.add _ _ (by omega)).mono ?_)
      rintro e w4 ⟨v4, k4, rfl, An4, cn4, Af4, cf4, ns4, fs4, p4, rfl, hp4, hO, hN, hP, e1, e2⟩
      have k0 := hO.here.cell 0
      have k1 := hO.here.cell 1
      have f0 := hO.here.soft 0
      have f1 := hO.here.soft 1
      simp at k0 k1
      have HA4 := Lib.hid hN
      clear HA3 hN
      clear hO hP e1 e2
      go_wp2_with (fail)
      clear k0 k1 f0 f1
      (with_reducible refine (HA4.out.link _ _ (by omega)).mono ?_)
      rintro e w5 ⟨v5, rfl, An5, cn5, Af5, cf5, ns5, fs5, p5, rfl, hp5, hO, hN, hP, e1, e2⟩
      have k0 := hO.here.cell 0
      have k1 := hO.here.cell 1
      have f0 := hO.here.soft 0
      have f1 := hO.here.soft 1
      simp at k0 k1
      have HA5 := Lib.hid hN
      clear HA4 hN
      clear hO hP e1 e2
      have HA7 := Lib.hid (HA5.out.below (up_alloc (Below.refl _ _) (.cells #[] 128)))
      have hp7 : p5 ≤ p5 := Int.le_refl _
      clear HA5
      have b0 : (((w5.setCell ⟨w.heap.size, 0, none⟩ (.slice An5 (ns.length + 1) cn5)).setCell ⟨w.heap.size, 1, none⟩ (.slice Af5 (fs.length + 1) cf5)).alloc (.cells #[] 128)).cell? ⟨w.heap.size, 0, none⟩ = some (.slice An5 (ns.length + 1) cn5) := HA7.out.here.cell 0
      have b1 : (((w5.setCell ⟨w.heap.size, 0, none⟩ (.slice An5 (ns.length + 1) cn5)).setCell ⟨w.heap.size, 1, none⟩ (.slice Af5 (fs.length + 1) cf5)).alloc (.cells #[] 128)).cell? ⟨w.heap.size, 1, none⟩ = some (.slice Af5 (fs.length + 1) cf5) := HA7.out.here.cell 1
      go_wp2_with (fail)
      clear k0 k1 f0 f1 b0 b1
      (with_reducible refine (HA7.out.step _ 0 0 0 _ _ [] (by omega) (by omega) (by omega) (nothing _ _) (fun b _ => .inr (by omega)) (by omega) (by omega)).mono ?_)
      rintro e w8 ⟨v8, k8, rfl, An8, cn8, Af8, cf8, ns8, fs8, p8, rfl, hp8, hO, hN, hP, e1, e2⟩
      have k0 := hO.here.cell 0
      have k1 := hO.here.cell 1
      have f0 := hO.here.soft 0
      have f1 := hO.here.soft 1
      simp at k0 k1
      have HA8 := Lib.hid hN
      clear HA7 hN
      clear hO hP e1 e2
      go_wp2_with (fail)
      clear k0 k1 f0 f1
      (with_reducible refine (HA8.out.step _ 0 0 0 _ _ [] (by omega) (by omega) (by omega) (nothing _ _) (fun b _ => .inr (by omega)) (by omega) (by omega)).mono ?_)
      rintro e w9 ⟨v9, k9, rfl, An9, cn9, Af9, cf9, ns9, fs9, p9, rfl, hp9, hO, hN, hP, e1, e2⟩
      have k0 := hO.here.cell 0
      have k1 := hO.here.cell 1
      have f0 := hO.here.soft 0
      have f1 := hO.here.soft 1
      simp at k0 k1
      have HA9 := Lib.hid hN
      clear HA8 hN
      clear hO hP e1 e2
      go_wp2_with (fail)
      clear k0 k1 f0 f1
      (with_reducible refine (HA9.out.add _ _ (by omega)).mono ?_)
      rintro e w10 ⟨v10, k10, rfl, An10, cn10, Af10, cf10, ns10, fs10, p10, rfl, hp10, hO, hN, hP, e1, e2⟩
      have k0 := hO.here.cell 0
      have k1 := hO.here.cell 1
      have f0 := hO.here.soft 0
      have f1 := hO.here.soft 1
      simp at k0 k1
      have HA10 := Lib.hid hN
      clear HA9 hN
      clear hO hP e1 e2
      go_wp2_with (fail)
      clear k0 k1 f0 f1
      (with_reducible refine (HA10.out.link _ _ (by omega)).mono ?_)
      rintro e w11 ⟨v11, rfl, An11, cn11, Af11, cf11, ns11, fs11, p11, rfl, hp11, hO, hN, hP, e1, e2⟩
      have k0 := hO.here.cell 0
      have k1 := hO.here.cell 1
      have f0 := hO.here.soft 0
      have f1 := hO.here.soft 1
      simp at k0 k1
      have HA11 := Lib.hid hN
      clear HA10 hN
      clear hO hP e1 e2
      go_wp2_with (fail)
      clear k0 k1 f0 f1
      (with_reducible refine (HA11.out.link _ _ (by omega)).mono ?_)
      rintro e w12 ⟨v12, rfl, An12, cn12, Af12, cf12, ns12, fs12, p12, rfl, hp12, hO, hN, hP, e1, e2⟩
      have k0 := hO.here.cell 0
      have k1 := hO.here.cell 1
      have f0 := hO.here.soft 0
      have f1 := hO.here.soft 1
      simp at k0 k1
      have HA12 := Lib.hid hN
      clear HA11 hN
      clear k0 k1 f0 f1 HA12
      have hsz := hO.but.size
      have hrl := hO.lt
      have m1 : Mine Bad w.heap.size 2 (w.heap.size + 1) := .inr ⟨by omega, by omega⟩
      have r0 := hO.res.cell 0
      have r1 := hO.res.cell 1
      have q0 := hO.res.soft 0
      have q1 := hO.res.soft 1
      simp at r0 r1
      have hZ := (hO.res.put 0 (.slice An12 (ns.length + 1 + 1 + 1 + 1) cn12)).put 1 (.slice Af12 (fs.length + 1 + 1 + 1 + 1 + 1) cf12)
      have b0 := hZ.cell 0
      have b1 := hZ.cell 1
      simp at b0 b1
      have HPF := Lib.hid (((hP.set ⟨w.heap.size + 1, 0, none⟩ (.slice An12 (ns.length + 1 + 1 + 1 + 1) cn12) m1).set ⟨w.heap.size + 1, 1, none⟩ (.slice Af12 (fs.length + 1 + 1 + 1 + 1 + 1) cf12) m1).less (fun b hb => .inl hb : ∀ b, Bad b → Mine Bad w.heap.size 2 b))
      have HRF := Lib.hid (rdr_set (rdr_set hO.rdr ⟨w.heap.size + 1, 0, none⟩ (.slice An12 (ns.length + 1 + 1 + 1 + 1) cn12) (by show r < w.heap.size + 1; omega)) ⟨w.heap.size + 1, 1, none⟩ (.slice Af12 (fs.length + 1 + 1 + 1 + 1 + 1) cf12) (by show r < w.heap.size + 1; omega))
      have HBF := Lib.hid (but_put (but_put hO.but (p := ⟨w.heap.size + 1, 0, none⟩) (.inr (by show w.heap.size ≤ w.heap.size + 1; omega)) (.slice An12 (ns.length + 1 + 1 + 1 + 1) cn12)) (p := ⟨w.heap.size + 1, 1, none⟩) (.inr (by show w.heap.size ≤ w.heap.size + 1; omega)) (.slice Af12 (fs.length + 1 + 1 + 1 + 1 + 1) cf12))
      have E1 := Lib.hid e1
      have E2 := Lib.hid e2
      clear hZ hO hP e1 e2
      go_wp2
      refine bodyPost_ret (v := .tuple #[.agg #[.slice An12 (ns.length + 1 + 1 + 1 + 1) cn12, .slice Af12 (fs.length + 1 + 1 + 1 + 1 + 1) cf12], .int .i64 k10]) (by simp [results, Try.results107, go_sem, b0, b1]) rfl ?_
      refine ⟨An12, cn12, Af12, cf12, ns12, fs12, k10, p12, by rw [E1.out, E2.out], E1.out, E2.out, by rw [E1.out, E2.out]; exact HPF.out, HRF.out, by omega, HBF.out⟩
    · have g2' : (v2 == 0) = false := by simpa using g2
      generalize hw3 : w2 = w3 at *
      have HA3 := HA2
      have HP3 : p + 1 + 1 ≤ p + 3 := by omega
      clear HA2 hw3 g2
      have k0 := HA3.out.here.cell 0
      have k1 := HA3.out.here.cell 1
      simp at k0 k1
      go_wp2_with (fail)
      clear k0 k1
      (with_reducible refine (HA3.out.add _ _ (by omega)).mono ?_)
      rintro e w4 ⟨v4, k4, rfl, An4, cn4, Af4, cf4, ns4, fs4, p4, rfl, hp4, hO, hN, hP, e1, e2⟩
      have k0 := hO.here.cell 0
      have k1 := hO.here.cell 1
      have f0 := hO.here.soft 0
      have f1 := hO.here.soft 1
      simp at k0 k1
      have HA4 := Lib.hid hN
      clear HA3 hN
      clear hO hP e1 e2
      go_wp2_with (fail)
      clear k0 k1 f0 f1
      (with_reducible refine (HA4.out.link _ _ (by omega)).mono ?_)
      rintro e w5 ⟨v5, rfl, An5, cn5, Af5, cf5, ns5, fs5, p5, rfl, hp5, hO, hN, hP, e1, e2⟩
      have k0 := hO.here.cell 0
      have k1 := hO.here.cell 1
      have f0 := hO.here.soft 0
      have f1 := hO.here.soft 1
      simp at k0 k1
      have HA5 := Lib.hid hN
      clear HA4 hN
      clear hO hP e1 e2
      have HA7 := Lib.hid (HA5.out.below (up_alloc (Below.refl _ _) (.cells #[] 128)))
      have hp7 : p5 ≤ p5 := Int.le_refl _
      clear HA5
      have b0 : (((w5.setCell ⟨w.heap.size, 0, none⟩ (.slice An5 (ns.length + 1) cn5)).setCell ⟨w.heap.size, 1, none⟩ (.slice Af5 (fs.length + 1) cf5)).alloc (.cells #[] 128)).cell? ⟨w.heap.size, 0, none⟩ = some (.slice An5 (ns.length + 1) cn5) := HA7.out.here.cell 0
      have b1 : (((w5.setCell ⟨w.heap.size, 0, none⟩ (.slice An5 (ns.length + 1) cn5)).setCell ⟨w.heap.size, 1, none⟩ (.slice Af5 (fs.length + 1) cf5)).alloc (.cells #[] 128)).cell? ⟨w.heap.size, 1, none⟩ = some (.slice Af5 (fs.length + 1) cf5) := HA7.out.here.cell 1
      go_wp2_with (fail)
      clear k0 k1 f0 f1 b0 b1
      (with_reducible refine (HA7.out.step _ 0 0 0 _ _ [] (by omega) (by omega) (by omega) (nothing _ _) (fun b _ => .inr (by omega)) (by omega) (by omega)).mono ?_)
      rintro e w8 ⟨v8, k8, rfl, An8, cn8, Af8, cf8, ns8, fs8, p8, rfl, hp8, hO, hN, hP, e1, e2⟩
      have k0 := hO.here.cell 0
      have k1 := hO.here.cell 1
      have f0 := hO.here.soft 0
      have f1 := hO.here.soft 1
      simp at k0 k1
      have HA8 := Lib.hid hN
      clear HA7 hN
      clear hO hP e1 e2
      go_wp2_with (fail)
      clear k0 k1 f0 f1
      (with_reducible refine (HA8.out.step _ 0 0 0 _ _ [] (by omega) (by omega) (by omega) (nothing _ _) (fun b _ => .inr (by omega)) (by omega) (by omega)).mono ?_)
      rintro e w9 ⟨v9, k9, rfl, An9, cn9, Af9, cf9, ns9, fs9, p9, rfl, hp9, hO, hN, hP, e1, e2⟩
      have k0 := hO.here.cell 0
      have k1 := hO.here.cell 1
      have f0 := hO.here.soft 0
      have f1 := hO.here.soft 1
      simp at k0 k1
      have HA9 := Lib.hid hN
      clear HA8 hN
      clear hO hP e1 e2
      go_wp2_with (fail)
      clear k0 k1 f0 f1
      (with_reducible refine (HA9.out.add _ _ (by omega)).mono ?_)
      rintro e w10 ⟨v10, k10, rfl, An10, cn10, Af10, cf10, ns10, fs10, p10, rfl, hp10, hO, hN, hP, e1, e2⟩
      have k0 := hO.here.cell 0
      have k1 := hO.here.cell 1
      have f0 := hO.here.soft 0
      have f1 := hO.here.soft 1
      simp at k0 k1
      have HA10 := Lib.hid hN
      clear HA9 hN
      clear hO hP e1 e2
      go_wp2_with (fail)
      clear k0 k1 f0 f1
      (with_reducible refine (HA10.out.link _ _ (by omega)).mono ?_)
      rintro e w11 ⟨v11, rfl, An11, cn11, Af11, cf11, ns11, fs11, p11, rfl, hp11, hO, hN, hP, e1, e2⟩
      have k0 := hO.here.cell 0
      have k1 := hO.here.cell 1
      have f0 := hO.here.soft 0
      have f1 := hO.here.soft 1
      simp at k0 k1
      have HA11 := Lib.hid hN
      clear HA10 hN
      clear hO hP e1 e2
      go_wp2_with (fail)
      clear k0 k1 f0 f1
      (with_reducible refine (HA11.out.link _ _ (by omega)).mono ?_)
      rintro e w12 ⟨v12, rfl, An12, cn12, Af12, cf12, ns12, fs12, p12, rfl, hp12, hO, hN, hP, e1, e2⟩
      have k0 := hO.here.cell 0
      have k1 := hO.here.cell 1
      have f0 := hO.here.soft 0
      have f1 := hO.here.soft 1
      simp at k0 k1
      have HA12 := Lib.hid hN
      clear HA11 hN
      clear k0 k1 f0 f1 HA12
      have hsz := hO.but.size
      have hrl := hO.lt
      have m1 : Mine Bad w.heap.size 2 (w.heap.size + 1) := .inr ⟨by omega, by omega⟩
      have r0 := hO.res.cell 0
      have r1 := hO.res.cell 1
      have q0 := hO.res.soft 0
      have q1 := hO.res.soft 1
      simp at r0 r1
      have hZ := (hO.res.put 0 (.slice An12 (ns.length + 1 + 1 + 1 + 1) cn12)).put 1 (.slice Af12 (fs.length + 1 + 1 + 1 + 1 + 1) cf12)
      have b0 := hZ.cell 0
      have b1 := hZ.cell 1
      simp at b0 b1
      have HPF := Lib.hid (((hP.set ⟨w.heap.size + 1, 0, none⟩ (.slice An12 (ns.length + 1 + 1 + 1 + 1) cn12) m1).set ⟨w.heap.size + 1, 1, none⟩ (.slice Af12 (fs.length + 1 + 1 + 1 + 1 + 1) cf12) m1).less (fun b hb => .inl hb : ∀ b, Bad b → Mine Bad w.heap.size 2 b))
      have HRF := Lib.hid (rdr_set (rdr_set hO.rdr ⟨w.heap.size + 1, 0, none⟩ (.slice An12 (ns.length + 1 + 1 + 1 + 1) cn12) (by show r < w.heap.size + 1; omega)) ⟨w.heap.size + 1, 1, none⟩ (.slice Af12 (fs.length + 1 + 1 + 1 + 1 + 1) cf12) (by show r < w.heap.size + 1; omega))
      have HBF := Lib.hid (but_put (but_put hO.but (p := ⟨w.heap.size + 1, 0, none⟩) (.inr (by show w.heap.size ≤ w.heap.size + 1; omega)) (.slice An12 (ns.length + 1 + 1 + 1 + 1) cn12)) (p := ⟨w.heap.size + 1, 1, none⟩) (.inr (by show w.heap.size ≤ w.heap.size + 1; omega)) (.slice Af12 (fs.length + 1 + 1 + 1 + 1 + 1) cf12))
      have E1 := Lib.hid e1
      have E2 := Lib.hid e2
      clear hZ hO hP e1 e2
      go_wp2
      refine bodyPost_ret (v := .tuple #[.agg #[.slice An12 (ns.length + 1 + 1 + 1 + 1) cn12, .slice Af12 (fs.length + 1 + 1 + 1 + 1 + 1) cf12], .int .i64 k10]) (by simp [results, Try.results107, go_sem, b0, b1]) rfl ?_
      refine ⟨An12, cn12, Af12, cf12, ns12, fs12, k10, p12, by rw [E1.out, E2.out], E1.out, E2.out, by rw [E1.out, E2.out]; exact HPF.out, HRF.out, by omega, HBF.out⟩
end Go.Proofs.Ythlcbdjjegageaa
