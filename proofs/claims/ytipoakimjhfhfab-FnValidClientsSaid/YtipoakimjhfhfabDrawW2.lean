/- Drawing worklists: someWork. -/
import Derived.Test.YtipoakimjhfhfabDrawW1
set_option linter.unusedSimpArgs false
set_option linter.unusedVariables false
namespace Go.Proofs.Ytipoakimjhfhfab
open Go.RowKit

/-- A drawn worklist. -/
def WkPost (Q : List Tri → Prop) (d : Int) (r : Nat) (A : Option Addr) (n c : Nat) (xs : List Int) (p : Int) (w : World) (e : Ending) (w' : World) : Prop :=
  ∃ (v : Value) (m : Nat) (ps : List Tri) (p' : Int), e = .returned v ∧ w'.ownsRow w.heap.size 30 3 v m (tvs ps) ∧ Q ps ∧ m ≤ 20 ∧ Rdr w' r A n c xs p' ∧ p' ≤ p + d ∧ But r w w'
set_option maxRecDepth 100000 in
set_option maxHeartbeats 6400000 in
theorem someWork_any (r : Nat) (A : Option Addr) (n c : Nat) (xs : List Int) (p : Int) (w : World) (h : Rdr w r A n c xs p) (hp : p ≤ 800000) :
    Calls Try.prog 72 #[.pointer (some ⟨r, 0, none⟩)] w (WkPost (fun ps => vWork ps = true) 150 r A n c xs p w) := by
  have hrl := h.lt
  have hown0 : (w.alloc (.cells #[] 30)).ownsRow w.heap.size 30 3 (.slice (some ⟨w.heap.size, 0, none⟩) 0 0) 0 [] := World.ownsRow_made w #[] 0 (Nat.le_refl _) (by unfold maxLen; omega) (by simp)
  have HW0 := Lib.hid (show Wd w (w.alloc (.cells #[] 30)) r A n c xs p (.slice (some ⟨w.heap.size, 0, none⟩) 0 0) 0 [] from ⟨rdr_alloc h _, hown0, rfl, but_alloc (but_refl r w) _, hrl⟩)
  clear hown0 h
  go_enter Try.func72, Try.ntmps72
  go_wp2_with (fail)
  have hbl := Blk.new2 (w := w.alloc (.cells #[] 30)) (t := 3) (cs := #[.int .i64 4, .int .i64 6, .int .i64 8, .int .i64 2, .int .i64 0, .int .i64 16]) (g := w.heap.size + 1) (by simp)
  have hsl : r < w.heap.size + 1 := by omega
  (with_reducible refine (one_any r A n c xs p _ _ 6 6 _ [4, 6, 8, 2, 0, 16] _ (rdr_alloc HW0.out.rdr _) (by omega) (Rd.of_blk hbl rfl) (by simp) (by omega) (by omega) (.inl hsl)).mono ?_)
  rintro e w1 ⟨a, rfl, ha, hR1, hG1⟩
  have ha2 : 0 ≤ a ∧ a ≤ 16 := by simp at ha; omega
  obtain ⟨a0, a1⟩ := ha2
  have HW1 := Lib.hid ((HW0.out.below (up_alloc (Below.refl _ _) _)).drawn hR1 hG1)
  clear ha hR1 hG1 hbl hsl HW0
  go_wp2
  go_loopw [3, 4] (fun v iv wr => ∃ (m p1 : Int) (A1 : Option Addr) (m1 c1 : Nat) (ps : List Tri), v = .slice A1 m1 c1 ∧ iv = .int .i64 m ∧ 0 ≤ m ∧ m ≤ 16 ∧ p1 + 8 * m ≤ p + 140 ∧ Hid (Wd w wr r A n c xs p1 (.slice A1 m1 c1) m1 ps))
     (fun _ iv _ => (intOf iv).toNat)
  case atStart => exact ⟨a, p + 1, _, _, _, _, rfl, rfl, a0, a1, by omega, HW1.out⟩
  case round =>
    clear HW1 a0 a1
    obtain ⟨m, p1, A1, m1, c1, ps, rfl, rfl, hm0, hm1, hpp, H⟩ := hrel
    by_cases hpos : 0 < m
    case neg =>
      obtain rfl : m = 0 := by omega
      have hmo := H.out.most
      go_wp2
      go_ret
      exact ⟨_, m1, ps, p1, rfl, H.out.own, H.out.val, by omega, H.out.rdr, by omega, H.out.but⟩
    have hwm : IntKind.i64.wrap (m - 1) = m - 1 := IntWalk.i64_in _ (by omega)
    go_wp2_with (fail)
    (with_reducible refine (pick_any r A n c xs p1 6 _ H.out.rdr (by omega) (by omega)).mono ?_)
    rintro e wa ⟨q, rfl, q0, q1, _, hR2, hG2⟩
    have q2 := q1 (by omega)
    have H1 := Lib.hid (H.out.drawn hR2 hG2)
    clear H hR2 hG2 q1
    go_wp2_with (fail)
    (with_reducible refine (H1.out.offer q (by unfold in64; omega)).mono ?_)
    rintro e wb ⟨v2, rfl, ho2, hb2⟩
    have H2 := Lib.hid (H1.out.below hb2)
    have N2 := Lib.hid (Nw.of (w0 := w) (offer_v ps q) ho2 H1.out.but.size)
    generalize (offerOf ps q).isSome = b2 at *
    generalize (offerOf ps q).getD [] = ps2 at N2 ho2
    clear ho2 hb2 H1 q0 q2
    have hmo := H2.out.most
    have hrw := H2.out.hr
    by_cases hz : m1 = 0
    · subst hz
      go_upto_region 12 with fail
      cases b2 with
      | false =>
        go_wp2
        go_roundw
        case rel => exact ⟨m - 1, p1 + 1, A1, 0, c1, ps, rfl, by first | rfl | go_num, by omega, by omega, by omega, H2.out⟩
        case measure => simp [intOf]; omega
      | true =>
        obtain ⟨B, cB, rfl, _⟩ := N2.out.form
        have HT := Lib.hid (H2.out.take N2.out)
        clear H2 N2
        go_wp2
        go_roundw
        case rel => exact ⟨m - 1, p1 + 1, B, _, cB, _, rfl, by first | rfl | go_num, by omega, by omega, by omega, HT.out⟩
        case measure => simp [intOf]; omega
    have hmz : (0 : Int) < (m1 : Int) := by omega
    have hmd : decide (0 < m1) = true := decide_eq_true (by omega)
    go_wp2_with (fail)
    (with_reducible refine (pick_any r A n c xs (p1 + 1) 3 _ H2.out.rdr (by omega) (by omega)).mono ?_)
    rintro e wc ⟨q, rfl, q0, q1, _, hR3, hG3⟩
    have q2 := q1 (by omega)
    have H3 := Lib.hid (H2.out.drawn hR3 hG3)
    have N3 := Lib.hid (N2.out.drawn hG3 hrw)
    clear H2 N2 hR3 hG3 q1
    go_upto_if 31 with fail
    go_cut [5, 6] from 13 to 77 (fun s5 s6 wx => ∃ (p2 : Int) (m3 : Nat) (ps3 : List Tri) (b3 : Bool), s6 = .bool b3 ∧ p2 ≤ p1 + 4 ∧ Hid (Wd w wx r A n c xs p2 (.slice A1 m1 c1) m1 ps ∧ Nw w wx s5 m3 ps3))
    case first =>
      by_cases hq : q = 0
      case neg =>
        have hq1 : (q == 0) = false := by simpa using hq
        go_wp2_with fail
        go_meet
        exact ⟨p1 + 1 + 1, _, ps2, b2, rfl, by omega, H3.out, N3.out⟩
      subst hq
      clear q0 q2
      go_wp2_with (fail)
      (with_reducible refine (pick_any r A n c xs (p1 + 1 + 1) m1 _ H3.out.rdr (by omega) (by omega)).mono ?_)
      rintro e wd ⟨q, rfl, q0, q1, _, hR4, hG4⟩
      have q2 := q1 (by omega)
      obtain ⟨k, rfl⟩ := Int.eq_ofNat_of_zero_le q0
      have hk : k < m1 := by omega
      have H4 := Lib.hid (H3.out.drawn hR4 hG4)
      have N4 := Lib.hid (N3.out.drawn hG4 hrw)
      clear H3 N3 hR4 hG4 q1 q0
      obtain ⟨b, off, x, y, u, rfl, hbB, hbl, hg, hc0, hc1, hc2⟩ := H4.out.rd.trip hk
      obtain ⟨⟨hx0, hx1⟩, ⟨hy0, hy1⟩, _⟩ := vWork_ok H4.out.val (List.mem_of_getElem? hg)
      have hx0 : 1 ≤ x := hx0
      have hx1 : x ≤ 999 := hx1
      have hy0 : 0 ≤ y := hy0
      have hy1 : y ≤ 5 := hy1
      clear hg
      have HE := Lib.hid (Blk.new wd 30 #[.int .i64 x, .int .i64 y, .int .i64 u])
      have H5 := Lib.hid (H4.out.below (up_alloc (Below.refl _ _) (.cells #[.int .i64 x, .int .i64 y, .int .i64 u] 30)))
      have N5 := Lib.hid (N4.out.below (up_alloc (Below.refl _ _) (.cells #[.int .i64 x, .int .i64 y, .int .i64 u] 30)))
      go_upto_region 8 with fail
      clear hc0 hc1 hc2 H4 N4
      generalize hwe : wd.alloc (.cells #[.int .i64 x, .int .i64 y, .int .i64 u] 30) = we at *
      have HWE := Lib.hid (show wd.heap.size < we.heap.size by rw [← hwe]; simp)
      clear hwe
      have d0 : we.cell? ⟨wd.heap.size, 0, none⟩ = some (.int .i64 x) := HE.out.cell 0
      have d1 : we.cell? ⟨wd.heap.size, 1, none⟩ = some (.int .i64 y) := HE.out.cell 1
      have hrd : r < wd.heap.size := by have := H5.out.hr; omega
      go_region_held3 (fun w' => w'.cell? ⟨wd.heap.size, 0, none⟩ = some (.int .i64 x) ∧ w'.cell? ⟨wd.heap.size, 1, none⟩ = some (.int .i64 y))
        (first | exact ⟨d0, d1⟩ | exact ⟨(HE.out.drew.alloc _).cell 0, (HE.out.drew.alloc _).cell 1⟩ | exact ⟨((HE.out.alloc _).drew).cell 0, ((HE.out.alloc _).drew).cell 1⟩ | exact ⟨hE6.cell 0, hE6.cell 1⟩ | exact ⟨(hE6.alloc _).cell 0, (hE6.alloc _).cell 1⟩ | exact ⟨hE7.cell 0, hE7.cell 1⟩)
        ((first
          | (go_at_call 61; (with_reducible refine (pick_any r A n c xs (p1 + 1 + 1 + 1) 3 _ (by first | (with_reducible exact rdr_drew H5.out.rdr) | (with_reducible exact rdr_drew (rdr_alloc H5.out.rdr _))) (by omega) (by omega)).mono ?_)
             rintro e wf ⟨q, rfl, q0, q1, _, hRf, hGf⟩
             have q3 := q1 (by omega)
             have hq64 : IntKind.i64.wrap (1 + q) = 1 + q := IntWalk.i64_in _ (by omega)
             have hE6 : Blk wf wd.heap.size 30 #[.int .i64 x, .int .i64 y, .int .i64 u] := by first | exact HE.out.drew.but hGf (by omega) | exact (HE.out.alloc _).drew.but hGf (by omega)
             have hH6 : Wd w wf r A n c xs (p1 + 1 + 1 + 1 + 1) (.slice (some ⟨b, off, none⟩) m1 c1) m1 ps := by first | exact (H5.out.below (up_drew (Below.refl _ we))).drawn hRf hGf | exact (H5.out.below (up_drew (up_alloc (Below.refl _ we) _))).drawn hRf hGf
             have hN6 : Nw w wf v2 ps2.length ps2 := by first | exact (N5.out.below (up_drew (Below.refl _ we))).drawn hGf hrw | exact (N5.out.below (up_drew (up_alloc (Below.refl _ we) _))).drawn hGf hrw
             first | (have hS6 := ((Blk.new we 3 #[.int .i64 y]).drew).but hGf (by have := HWE.out; omega)) | skip)
          | (go_at_call 82; (first | (with_reducible refine (hH6.claim x (1 + q) (by unfold in64; omega) (by unfold in64; omega) (m3 := [y]) (Rd.of_blk hS6 rfl) (by have := hS6.lt; omega) (by omega)).mono ?_) | (with_reducible refine ((hH6.below (up_alloc (Below.refl _ wf) _)).claim x (1 + q) (by unfold in64; omega) (by unfold in64; omega) (m3 := [y]) (Rd.of_blk (Blk.new wf 3 #[.int .i64 y]) rfl) (by simp) (by omega)).mono ?_))
             rintro e wg ⟨v4, rfl, ho4, hb4⟩
             have hE7 : Blk wg wd.heap.size 30 #[.int .i64 x, .int .i64 y, .int .i64 u] := by first | exact hE6.below hb4 hE6.lt | exact (hE6.alloc _).below hb4 (hE6.alloc _).lt
             have hH7 : Wd w wg r A n c xs (p1 + 1 + 1 + 1 + 1) (.slice (some ⟨b, off, none⟩) m1 c1) m1 ps := by first | exact hH6.below hb4 | exact (hH6.below (up_alloc (Below.refl _ wf) _)).below hb4
             have hN7 : Nw w wg v4 ((claimOf ps x (1 + q) [y]).getD []).length ((claimOf ps x (1 + q) [y]).getD []) := by first | exact Nw.of (claim_v ps x (1 + q) [y]) ho4 hH6.but.size | exact Nw.of (claim_v ps x (1 + q) [y]) ho4 (hH6.below (up_alloc (Below.refl _ wf) _)).but.size)))
      all_goals
        go_wp2_with fail
        go_meet
        exact ⟨p1 + 1 + 1 + 1 + 1, _, _, _, rfl, by omega, hH7, hN7⟩
    case rest =>
    obtain ⟨p2, m3, ps3, b3, rfl, hp2, HC⟩ := hcut
    obtain ⟨hH, hN⟩ := HC.out
    have H3 := Lib.hid hH
    have N3 := Lib.hid hN
    clear HC hH hN
    go_wp2_with (fail)
    (with_reducible refine (pick_any r A n c xs p2 8 _ H3.out.rdr (by omega) (by omega)).mono ?_)
    rintro e wd ⟨q, rfl, q0, q1, _, hR4, hG4⟩
    have H4 := Lib.hid (H3.out.drawn hR4 hG4)
    have N4 := Lib.hid (N3.out.drawn hG4 hrw)
    clear H3 N3 hR4 hG4 q1
    by_cases hq : q = 0
    case neg =>
      have hq1 : (q == 0) = false := by simpa using hq
      clear q0 hq
      go_upto_region 12 with fail
      cases b3 with
      | false =>
        go_wp2
        go_roundw
        case rel => exact ⟨m - 1, p2 + 1, A1, m1, c1, ps, rfl, by first | rfl | go_num, by omega, by omega, by omega, H4.out⟩
        case measure => simp [intOf]; omega
      | true =>
        obtain ⟨B, cB, rfl, _⟩ := N4.out.form
        have HT := Lib.hid (H4.out.take N4.out)
        clear H4 N4
        go_wp2
        go_roundw
        case rel => exact ⟨m - 1, p2 + 1, B, _, cB, _, rfl, by first | rfl | go_num, by omega, by omega, by omega, HT.out⟩
        case measure => simp [intOf]; omega
    subst hq
    clear q0
    go_wp2_with (fail)
    (with_reducible refine (pick_any r A n c xs (p2 + 1) m1 _ H4.out.rdr (by omega) (by omega)).mono ?_)
    rintro e we ⟨q, rfl, q0, q1, _, hR5, hG5⟩
    have q2 := q1 (by omega)
    obtain ⟨k, rfl⟩ := Int.eq_ofNat_of_zero_le q0
    have hk : k < m1 := by omega
    have H5 := Lib.hid (H4.out.drawn hR5 hG5)
    have N5 := Lib.hid (N4.out.drawn hG5 hrw)
    clear H4 N4 hR5 hG5 q1 q0
    obtain ⟨b, off, x, y, u, rfl, hbB, hbl, hg, hc0, hc1, hc2⟩ := H5.out.rd.trip hk
    obtain ⟨⟨hx0, hx1⟩, _, ⟨hu0, hu1⟩⟩ := vWork_ok H5.out.val (List.mem_of_getElem? hg)
    have hx0 : 1 ≤ x := hx0
    have hx1 : x ≤ 999 := hx1
    have hu0 : 0 ≤ u := hu0
    have hu1 : u ≤ 9 := hu1
    clear hg
    have H6 := Lib.hid (H5.out.below (up_alloc (Below.refl _ _) (.cells #[.int .i64 x, .int .i64 y, .int .i64 u] 30)))
    clear N5 H5
    go_wp2_with (fail)
    (with_reducible refine (H6.out.finish x u (by unfold in64; omega) (by unfold in64; omega)).mono ?_)
    rintro e wf ⟨v4, rfl, ho4, hb4⟩
    have H7 := Lib.hid (H6.out.below hb4)
    have N7 := Lib.hid (Nw.of (w0 := w) (done_v ps x u) ho4 H6.out.but.size)
    generalize (doneOf ps x u).isSome = b4 at *
    generalize (doneOf ps x u).getD [] = ps4 at N7 ho4
    clear ho4 hb4 H6 hc0 hc1 hc2
    go_upto_region 12 with fail
    cases b4 with
    | false =>
      go_wp2
      go_roundw
      case rel => exact ⟨m - 1, p2 + 1 + 1, _, m1, c1, ps, rfl, by first | rfl | go_num, by omega, by omega, by omega, H7.out⟩
      case measure => simp [intOf]; omega
    | true =>
      obtain ⟨B, cB, rfl, _⟩ := N7.out.form
      have HT := Lib.hid (H7.out.take N7.out)
      clear H7 N7
      go_wp2
      go_roundw
      case rel => exact ⟨m - 1, p2 + 1 + 1, B, _, cB, _, rfl, by first | rfl | go_num, by omega, by omega, by omega, HT.out⟩
      case measure => simp [intOf]; omega
end Go.Proofs.Ytipoakimjhfhfab
