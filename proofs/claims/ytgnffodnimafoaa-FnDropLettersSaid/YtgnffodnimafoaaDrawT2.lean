/- Drawing post offices: spec.anyPost. -/
import Derived.Test.YtgnffodnimafoaaDrawPs
import Derived.Test.YtgnffodnimafoaaHeldLate
import Derived.Deep.RegionHeld3
import Derived.Deep.RegionLaw
set_option linter.unusedSimpArgs false
set_option linter.unusedVariables false
namespace Go.Proofs.Ytgnffodnimafoaa
open Go.RowKit

/-- A drawn post office, its rows the call's own. -/
def DrawnPost (r : Nat) (A : Option Addr) (n c : Nat) (xs : List Int) (p : Int) (w : World) (e : Ending) (w' : World) : Prop :=
  ∃ A1 n1 c1 A2 n2 c2 ns fs p', e = .returned (.agg #[.slice A1 n1 c1, .slice A2 n2 c2]) ∧ CopyRows (w.heap.size + 1) ns fs n1 n2 (.slice A1 n1 c1) (.slice A2 n2 c2) w' ∧ n1 ≤ 11 ∧ n2 ≤ 11 ∧ Rdr w' r A n c xs p' ∧ p' ≤ p + 200 ∧ But r w w'
set_option maxRecDepth 100000 in
set_option maxHeartbeats 6400000 in
theorem anyPost_any (r : Nat) (A : Option Addr) (n c : Nat) (xs : List Int) (p : Int) (w : World) (h : Rdr w r A n c xs p) (hp : p ≤ 800000) :
    Calls Try.prog 28 #[.pointer (some ⟨r, 0, none⟩)] w (DrawnPost r A n c xs p w) := by
  have hrl := h.lt
  have hp0 := h.2.2.2.2
  have hP : Ps w ((((w.alloc (.cells #[.slice none 0 0, .slice none 0 0] 26)).alloc (.cells #[] 42)).alloc (.cells #[] 33)).alloc (.cells #[.slice (some ⟨w.heap.size + 1, 0, none⟩) 0 0, .slice (some ⟨w.heap.size + 1 + 1, 0, none⟩) 0 0] 26)) r A n c xs p (w.heap.size + 1 + 1 + 1) (some ⟨w.heap.size + 1, 0, none⟩) 0 0 (some ⟨w.heap.size + 1 + 1, 0, none⟩) 0 0 [] [] :=
    ⟨rdr_alloc (rdr_alloc (rdr_alloc (rdr_alloc h _) _) _) _, (((Blk.new w _ _).alloc _).alloc _).alloc _, Blk.new2 (by simp),
      ⟨own_of_blk (((Blk.new2 (by simp)).alloc _).alloc _) (Nat.le_refl _), own_of_blk ((Blk.new2 (by simp)).alloc _) (by omega), fun g h1 h2 => by simp [Value.ownBlock] at h1 h2; omega⟩,
      fun q hq => by simp [Value.ownBlock] at hq; omega, fun q hq => by simp [Value.ownBlock] at hq; omega, but_alloc (but_alloc (but_alloc (but_alloc (but_refl r w) _) _) _) _, hrl, by omega⟩
  have HP := Lib.hid hP
  clear hP h
  go_enter Try.func28, Try.ntmps28
  go_wp2_with (fail)
  have HSZ := Lib.hid (show ((((w.alloc (.cells #[.slice none 0 0, .slice none 0 0] 26)).alloc (.cells #[] 42)).alloc (.cells #[] 33)).alloc (.cells #[.slice (some ⟨w.heap.size + 1, 0, none⟩) 0 0, .slice (some ⟨w.heap.size + 1 + 1, 0, none⟩) 0 0] 26)).heap.size = w.heap.size + 1 + 1 + 1 + 1 by simp)
  generalize hw1 : (((w.alloc (.cells #[.slice none 0 0, .slice none 0 0] 26)).alloc (.cells #[] 42)).alloc (.cells #[] 33)).alloc (.cells #[.slice (some ⟨w.heap.size + 1, 0, none⟩) 0 0, .slice (some ⟨w.heap.size + 1 + 1, 0, none⟩) 0 0] 26) = w1 at *
  clear hw1
  have hxb := HP.out.box.lt
  have hbl : Blk (w1.alloc (.cells #[.int .i64 4, .int .i64 6, .int .i64 3, .int .i64 0, .int .i64 14] 3)) (w.heap.size + 1 + 1 + 1 + 1) 3 #[.int .i64 4, .int .i64 6, .int .i64 3, .int .i64 0, .int .i64 14] := Blk.new2 HSZ.out
  (with_reducible refine (one_any r A n c xs p (w.heap.size + 1 + 1 + 1 + 1) (w.heap.size + 1 + 1 + 1 + 1 + 1) 5 5 _ [4, 6, 3, 0, 14] _ (rdr_alloc HP.out.rdr _) (by omega) (Rd.of_blk hbl rfl) (Nat.succ_le_of_lt hbl.lt) (by omega) (by omega) (.inl (by omega))).mono ?_)
  rintro e w2 ⟨m0, rfl, hm, hR2, hG2⟩
  have hm0 : 0 ≤ m0 ∧ m0 ≤ 14 := by simp at hm; omega
  obtain ⟨hm1, hm2⟩ := hm0
  have HP2 := Lib.hid ((HP.out.below (up_alloc (Below.refl _ w1) (.cells #[.int .i64 4, .int .i64 6, .int .i64 3, .int .i64 0, .int .i64 14] 3))).drawn hR2 hG2)
  clear HP hbl hR2 hG2 hm hxb HSZ
  generalize hxe : w.heap.size + 1 + 1 + 1 = xb at *
  have hxb : w.heap.size + 1 + 1 + 1 ≤ xb := by omega
  clear hxe
  go_wp2
  go_loopw [4] (fun iv wr => ∃ (m p1 : Int) (A1 : Option Addr) (n1 c1 : Nat) (A2 : Option Addr) (n2 c2 : Nat) (ns fs : List Tri), iv = .int .i64 m ∧ 0 ≤ m ∧ m ≤ 14 ∧ n1 ≤ 10 ∧ n2 ≤ 10 ∧ 0 ≤ p1 ∧ p1 + 7 * m ≤ p + 99 ∧ Hid (Ps w wr r A n c xs p1 xb A1 n1 c1 A2 n2 c2 ns fs))
     (fun iv _ => (intOf iv).toNat)
  case atStart => exact ⟨m0, p + 1, _, _, _, _, _, _, _, _, rfl, hm1, hm2, by omega, by omega, by omega, by omega, HP2.out⟩
  case round =>
    clear HP2 hm1 hm2
    obtain ⟨m, p1, A1, n1, c1, A2, n2, c2, ns, fs, rfl, hm1, hm2, hn1, hn2, hp1, hpp, HP⟩ := hrel
    by_cases hpos : 0 < m
    · have k0 : wr.cell? ⟨xb, 0, none⟩ = some (.slice A1 n1 c1) := HP.out.box.cell 0
      have k1 : wr.cell? ⟨xb, 1, none⟩ = some (.slice A2 n2 c2) := HP.out.box.cell 1
      have hxw := HP.out.box.lt
      have HKC := Lib.hid (fun (u : World) (hu : Below wr.heap.size wr u) => (⟨(hu.cell (by show xb < wr.heap.size; omega)).trans k0, (hu.cell (by show xb < wr.heap.size; omega)).trans k1⟩ : u.cell? ⟨xb, 0, none⟩ = some (.slice A1 n1 c1) ∧ u.cell? ⟨xb, 1, none⟩ = some (.slice A2 n2 c2)))
      have hold1 : ∀ q, (Value.slice A1 n1 c1).ownBlock = some q → q < wr.heap.size := fun q hq => (HP.out.rows.1.lt q hq).2
      have hold2 : ∀ q, (Value.slice A2 n2 c2).ownBlock = some q → q < wr.heap.size := fun q hq => (HP.out.rows.2.1.lt q hq).2
      go_upto_region 5 with fail
      go_cut [5, 6, 7] from 14 to 38 (fun s5 s6 s7 wx => ∃ g B1 m1 e1 B2 m2 e2 d1 d2 k b, s5 = .pointer (some ⟨g, 0, none⟩) ∧ s6 = .int .i64 k ∧ s7 = .bool b ∧ Hid (Ps w wx r A n c xs (p1 + 3) xb A1 n1 c1 A2 n2 c2 ns fs ∧ Nx w wx xb g B1 m1 e1 B2 m2 e2 d1 d2 ∧ xb < g ∧ (∀ q, (Value.slice A1 n1 c1).ownBlock = some q → q ≠ g) ∧ (∀ q, (Value.slice A2 n2 c2).ownBlock = some q → q ≠ g)))
      case first =>
        go_region_held3 (fun w' => w'.cell? ⟨xb, 0, none⟩ = some (.slice A1 n1 c1) ∧ w'.cell? ⟨xb, 1, none⟩ = some (.slice A2 n2 c2))
          (first | exact ⟨k0, k1⟩ | exact HKC.out _ (up_drew (Below.refl _ _)) | exact HKC.out _ (up_drew (up_alloc (Below.refl _ _) _)) | exact ⟨hPB.box.cell 0, hPB.box.cell 1⟩ | exact ⟨(hPB.box.alloc _).cell 0, (hPB.box.alloc _).cell 1⟩ | exact ⟨hPC.box.cell 0, hPC.box.cell 1⟩ | exact ⟨(hPC.box.alloc _).cell 0, (hPC.box.alloc _).cell 1⟩ | exact ⟨hPE.box.cell 0, hPE.box.cell 1⟩)
          ((first
            | (go_at_call 35; (with_reducible refine (someLetter_any r A n c xs p1 _ (by first | (with_reducible exact rdr_drew HP.out.rdr) | (with_reducible exact rdr_drew (rdr_alloc HP.out.rdr _))) (by omega)).mono ?_)
               rintro e wb ⟨x0, x1, x2, rfl, _, hRb, hGb⟩
               have hPB : Ps w wb r A n c xs (p1 + 3) xb A1 n1 c1 A2 n2 c2 ns fs := by first | exact (HP.out.below (up_drew (Below.refl _ wr))).drawn hRb hGb | exact (HP.out.below (up_drew (up_alloc (Below.refl _ wr) _))).drawn hRb hGb
               have hwb : wr.heap.size ≤ wb.heap.size := by first | exact hGb.size | exact Nat.le_trans (by simp) hGb.size
               have hxy := hPB.box.lt
               obtain ⟨d1, d2, k, b, hRR⟩ : ∃ d1 d2 k b, sendOf ns fs (x0, x1, x2) = ((d1, d2), k, b) := ⟨_, _, _, _, rfl⟩
               obtain ⟨hd1, hd2⟩ : d1.length ≤ 10 ∧ d2.length ≤ 10 := by have hl := send_lens ns fs (x0, x1, x2); rw [hRR] at hl; exact hl
               have HRR := Lib.hid hRR
               clear hRR
               first | (have hG2 := (Blk.new wr 26 #[.slice none 0 0, .slice none 0 0]).drew.but hGb (Nat.ne_of_gt HP.out.rdr.lt)) | skip)
            | (go_at_call 20; (first | (with_reducible refine (hPB.send (by omega) (by omega) x0 x1 x2 HRR.out).mono ?_) | (with_reducible refine ((hPB.below (up_alloc (Below.refl _ wb) _)).send (by omega) (by omega) x0 x1 x2 HRR.out).mono ?_))
               rintro e wc ⟨B1, m1, e1, B2, m2, e2, rfl, hcr, hbv⟩
               have hPC : Ps w wc r A n c xs (p1 + 3) xb A1 n1 c1 A2 n2 c2 ns fs := by first | exact hPB.below hbv | exact (hPB.below (up_alloc (Below.refl _ wb) _)).below hbv
               have hzc := hbv.size
               first | (have hG3 := hG2.below hbv hG2.lt) | (have hG3 := (Blk.new wb 26 #[.slice none 0 0, .slice none 0 0]).below hbv (Blk.new wb 26 #[.slice none 0 0, .slice none 0 0]).lt) | skip
               first | (have g0 := hG3.cell 0; have g1 := hG3.cell 1; have f0 := hG3.soft 0; have f1 := hG3.soft 1) | skip
               first
                 | (have hz9 := hG2.lt; have hPE := (hPC.off (q := ⟨wr.heap.size, 0, none⟩) (.slice B1 m1 e1) hxw (fun q hq => Nat.ne_of_lt (hold1 q hq)) (fun q hq => Nat.ne_of_lt (hold2 q hq))).off (q := ⟨wr.heap.size, 1, none⟩) (.slice B2 m2 e2) hxw (fun q hq => Nat.ne_of_lt (hold1 q hq)) (fun q hq => Nat.ne_of_lt (hold2 q hq)))
                 | (have hz9 := hG3.lt; have hPE := (hPC.off (q := ⟨wb.heap.size, 0, none⟩) (.slice B1 m1 e1) hxy (fun q hq => Nat.ne_of_lt (Nat.lt_of_lt_of_le (hold1 q hq) hwb)) (fun q hq => Nat.ne_of_lt (Nat.lt_of_lt_of_le (hold2 q hq) hwb))).off (q := ⟨wb.heap.size, 1, none⟩) (.slice B2 m2 e2) hxy (fun q hq => Nat.ne_of_lt (Nat.lt_of_lt_of_le (hold1 q hq) hwb)) (fun q hq => Nat.ne_of_lt (Nat.lt_of_lt_of_le (hold2 q hq) hwb)))
                 | skip)))
        all_goals
          go_wp2_with fail
          go_meet
          first
            | exact ⟨_, B1, m1, e1, B2, m2, e2, d1, d2, k, b, rfl, rfl, rfl, hPC.below (up_alloc (Below.refl _ _) _), Nx.last hcr hxy hzc (by omega) hd1 hd2, hPC.box.lt, fun q hq => Nat.ne_of_lt (Nat.lt_of_lt_of_le (hold1 q hq) (Nat.le_trans hwb hzc)), fun q hq => Nat.ne_of_lt (Nat.lt_of_lt_of_le (hold2 q hq) (Nat.le_trans hwb hzc))⟩
            | exact ⟨_, B1, m1, e1, B2, m2, e2, d1, d2, k, b, rfl, rfl, rfl, hPE, Nx.early hcr hG3 hxw hG2.lt (by omega) hd1 hd2, hxw, fun q hq => Nat.ne_of_lt (Nat.lt_of_lt_of_le (hold1 q hq) (Nat.le_refl _)), fun q hq => Nat.ne_of_lt (Nat.lt_of_lt_of_le (hold2 q hq) (Nat.le_refl _))⟩
            | exact ⟨_, B1, m1, e1, B2, m2, e2, d1, d2, k, b, rfl, rfl, rfl, hPE, Nx.early hcr hG3 hxy (Blk.new wb 26 #[.slice none 0 0, .slice none 0 0]).lt (by omega) hd1 hd2, hxy, fun q hq => Nat.ne_of_lt (Nat.lt_of_lt_of_le (hold1 q hq) (hwb)), fun q hq => Nat.ne_of_lt (Nat.lt_of_lt_of_le (hold2 q hq) (hwb))⟩
      case rest =>
      obtain ⟨g, B1, m1, e1, B2, m2, e2, d1, d2, k, b, rfl, rfl, rfl, HC⟩ := hcut
      obtain ⟨hPx, hNx, hgx, hne1, hne2⟩ := HC.out
      have HP4 := Lib.hid hPx
      have HN4 := Lib.hid hNx
      have HNE1 := Lib.hid hne1
      have HNE2 := Lib.hid hne2
      clear HC hPx hNx HKC k0 k1 hold1 hold2 hxw HP hne1 hne2
      generalize wc = wd at *
      go_wp2_with (fail)
      (with_reducible refine (pick_any r A n c xs (p1 + 3) 2 wd HP4.out.rdr (by omega) (by omega)).mono ?_)
      rintro e we ⟨q, rfl, q0, q1, _, hR5, hG5⟩
      have q2 := q1 (by omega)
      have HP5 := Lib.hid (HP4.out.drawn hR5 hG5)
      have HN5 := Lib.hid (HN4.out.drawn hrl hG5)
      clear HP4 HN4 hR5 hG5 q1
      by_cases hq : q = 0
      · subst hq
        have k0 : we.cell? ⟨xb, 0, none⟩ = some (.slice A1 n1 c1) := HP5.out.box.cell 0
        have k1 : we.cell? ⟨xb, 1, none⟩ = some (.slice A2 n2 c2) := HP5.out.box.cell 1
        go_wp2_with (fail)
        go_region_held3 (fun w' => w'.cell? ⟨xb, 0, none⟩ = some (.slice A1 n1 c1) ∧ w'.cell? ⟨xb, 1, none⟩ = some (.slice A2 n2 c2))
          (first | exact ⟨k0, k1⟩ | exact ⟨hP6.box.cell 0, hP6.box.cell 1⟩ | exact ⟨hP7.box.cell 0, hP7.box.cell 1⟩ | exact ⟨hPE.box.cell 0, hPE.box.cell 1⟩)
          ((first
            | (go_at_call 46; (with_reducible refine (someSub_any r A n c xs (p1 + 3 + 1) _ (rdr_drew HP5.out.rdr) (by omega)).mono ?_)
               rintro e wf ⟨y0, y1, y2, rfl, _, hRf, hGf⟩
               have hP6 : Ps w wf r A n c xs (p1 + 3 + 1 + 3) xb A1 n1 c1 A2 n2 c2 ns fs := (HP5.out.below (up_drew (Below.refl _ we))).drawn hRf hGf
               have hN6 : Nx w wf xb g B1 m1 e1 B2 m2 e2 d1 d2 := (HN5.out.below (up_drew (Below.refl _ we))).drawn hrl hGf
               obtain ⟨v1, v2, kk, bb, hRR⟩ : ∃ d1 d2 k b, waitOf ns fs (y0, y1, y2) = ((d1, d2), k, b) := ⟨_, _, _, _, rfl⟩
               obtain ⟨hv1, hv2⟩ : v1.length ≤ 10 ∧ v2.length ≤ 10 := by have hl := wait_lens ns fs (y0, y1, y2); rw [hRR] at hl; exact hl
               have HRR := Lib.hid hRR
               clear hRR)
            | (go_at_call 26; (with_reducible refine (hP6.wait (by omega) (by omega) y0 y1 y2 HRR.out).mono ?_)
               rintro e wg ⟨C1, l1, f1, C2, l2, f2, rfl, hcr, hbv⟩
               have hP7 := hP6.below hbv
               have hN7 := hN6.below hbv
               have hzc := hbv.size
               have g0 := hN7.box.cell 0
               have g1 := hN7.box.cell 1
               have w0 := hN7.box.soft 0
               have w1' := hN7.box.soft 1
               have hPE := (hP7.off (q := ⟨g, 0, none⟩) (.slice C1 l1 f1) hgx HNE1.out HNE2.out).off (q := ⟨g, 1, none⟩) (.slice C2 l2 f2) hgx HNE1.out HNE2.out)))
        have HPU := Lib.hid hPE
        have HNU := Lib.hid (Nx.early hcr hN7.box hgx hN6.box.lt (by omega) hv1 hv2 : Nx w _ xb g C1 l1 f1 C2 l2 f2 v1 v2)
        clear k0 k1 HP5 HN5 hP6 hN6 hP7 hN7 hPE g0 g1 w0 w1' hcr hbv HRR
        go_upto_region 8 with fail
        generalize (wg.setCell ⟨g, 0, none⟩ (.slice C1 l1 f1)).setCell ⟨g, 1, none⟩ (.slice C2 l2 f2) = wU at *
        have hlP := HPU.out.len1
        have kg0 : wU.cell? ⟨g, 0, none⟩ = some (.slice C1 l1 f1) := HNU.out.box.cell 0
        have kg1 : wU.cell? ⟨g, 1, none⟩ = some (.slice C2 l2 f2) := HNU.out.box.cell 1
        have kx0 : wU.cell? ⟨xb, 0, none⟩ = some (.slice A1 n1 c1) := HPU.out.box.cell 0
        have kx1 : wU.cell? ⟨xb, 1, none⟩ = some (.slice A2 n2 c2) := HPU.out.box.cell 1
        have fx0 := HPU.out.box.soft 0
        have fx1 := HPU.out.box.soft 1
        cases bb with
        | false =>
          go_wp2
          go_roundw
          case rel =>
            exact ⟨m - 1, _, A1, n1, c1, A2, n2, c2, ns, fs, by first | rfl | go_num, by omega, by omega, hn1, hn2, by omega, by omega, HPU.out⟩
          case measure => simp [intOf]; omega
        | true =>
          have HT := Lib.hid (HPU.out.take HNU.out)
          have hT1 := HT.out.len1
          have hT2 := HT.out.len2
          have hq1 := HNU.out.l1
          have hq2 := HNU.out.l2
          go_wp2
          go_roundw
          case rel =>
            exact ⟨m - 1, _, _, _, _, _, _, _, _, _, by first | rfl | go_num, by omega, by omega, by omega, by omega, by omega, by omega, HT.out⟩
          case measure => simp [intOf]; omega
      · have hq' : (q == 0) = false := by simpa using hq
        have HPU := Lib.hid HP5.out
        have HNU := Lib.hid HN5.out
        clear HP5 HN5
        go_upto_region 8 with fail
        generalize we = wU at *
        have hlP := HPU.out.len1
        have kg0 : wU.cell? ⟨g, 0, none⟩ = some (.slice B1 m1 e1) := HNU.out.box.cell 0
        have kg1 : wU.cell? ⟨g, 1, none⟩ = some (.slice B2 m2 e2) := HNU.out.box.cell 1
        have kx0 : wU.cell? ⟨xb, 0, none⟩ = some (.slice A1 n1 c1) := HPU.out.box.cell 0
        have kx1 : wU.cell? ⟨xb, 1, none⟩ = some (.slice A2 n2 c2) := HPU.out.box.cell 1
        have fx0 := HPU.out.box.soft 0
        have fx1 := HPU.out.box.soft 1
        cases b with
        | false =>
          go_wp2
          go_roundw
          case rel =>
            exact ⟨m - 1, _, A1, n1, c1, A2, n2, c2, ns, fs, by first | rfl | go_num, by omega, by omega, hn1, hn2, by omega, by omega, HPU.out⟩
          case measure => simp [intOf]; omega
        | true =>
          have HT := Lib.hid (HPU.out.take HNU.out)
          have hT1 := HT.out.len1
          have hT2 := HT.out.len2
          have hq1 := HNU.out.l1
          have hq2 := HNU.out.l2
          go_wp2
          go_roundw
          case rel =>
            exact ⟨m - 1, _, _, _, _, _, _, _, _, _, by first | rfl | go_num, by omega, by omega, by omega, by omega, by omega, by omega, HT.out⟩
          case measure => simp [intOf]; omega
    · obtain rfl : m = 0 := by omega
      go_wp2_with (fail)
      (with_reducible refine (pick_any r A n c xs p1 24 wr HP.out.rdr (by omega) (by omega)).mono ?_)
      rintro e w3 ⟨q, rfl, q0, q1, _, hR3, hG3⟩
      have q2 := q1 (by omega)
      have HP3 := Lib.hid (HP.out.drawn hR3 hG3)
      clear HP hR3 hG3 q1
      obtain ⟨i0, hi0, hz0, hz1, hz2⟩ := info_parts infoLetter
      obtain ⟨j0, hj0, hy0, hy1, hy2⟩ := info_parts infoSub
      rcases (show q = 0 ∨ q = 1 ∨ 2 ≤ q by omega) with rfl | rfl | hq2
      · have k0 : w3.cell? ⟨xb, 0, none⟩ = some (.slice A1 n1 c1) := HP3.out.box.cell 0
        have hr3 := HP3.out.rdr.lt
        have hx3 := HP3.out.box.lt
        go_wp2_with (fail)
        refine wp_region_any (by kernel_rfl) ?_
        try (change wpAny _ _ _ _ _ _ _ (World.drew _))
        refine wpAny_take (i := 0) (oi := ⟨_, _, _, _, _, _⟩) (v := ?_) rfl (by kernel_rfl) (by kernel_rfl) (by kernel_rfl) (fun _ _ _ h => h) (Or.inl ⟨by rfl, ?_⟩) ?_
        rotate_left
        focus (intro w; go_simp; try (with_reducible rfl); done)
        try simp only [Act.put, List.setIfInBounds_toArray, List.set_cons_zero, List.set_cons_succ]
        refine wpAny_take (i := 2) (oi := ⟨_, _, _, _, _, _⟩) (v := ?_) rfl (by kernel_rfl) (by kernel_rfl) (by kernel_rfl) (fun _ _ _ h => h) (Or.inl ⟨by rfl, ?_⟩) ?_
        rotate_left
        focus (intro w; go_simp; try (with_reducible rfl); done)
        try simp only [Act.put, List.setIfInBounds_toArray, List.set_cons_zero, List.set_cons_succ]
        refine wpAny_take (i := 5) (oi := ⟨_, _, _, _, _, _⟩) (v := ?_) rfl (by kernel_rfl) (by kernel_rfl) (by kernel_rfl) (fun _ _ _ h => h) (Or.inl ⟨by rfl, ?_⟩) ?_
        rotate_left
        focus (intro w; go_simp; try (with_reducible rfl); done)
        try simp only [Act.put, List.setIfInBounds_toArray, List.set_cons_zero, List.set_cons_succ]
        refine wpAny_take (i := 8) (oi := ⟨_, _, _, _, _, _⟩) (v := ?_) rfl (by kernel_rfl) (by kernel_rfl) (by kernel_rfl) (fun _ _ _ h => h) (Or.inl ⟨by rfl, ?_⟩) ?_
        rotate_left
        focus (intro w; go_simp; try (with_reducible rfl); done)
        try simp only [Act.put, List.setIfInBounds_toArray, List.set_cons_zero, List.set_cons_succ]
        refine late_take (S := fun wx => wx.cell? ⟨xb, 0, none⟩ = some (.slice A1 n1 c1)) (i := 1) (oi := ⟨_, _, _, _, _, _⟩) (v := ?_) rfl (by kernel_rfl) (by kernel_rfl) (by kernel_rfl) (fun _ _ _ h => h) (Or.inl ⟨by rfl, ?_⟩) ((HP3.out.below (up_drew (Below.refl _ _))).box.cell 0) ?_
        rotate_left
        focus (intro w hSw; (try dsimp only at hSw); go_simp; try (with_reducible rfl); done)
        try simp only [Act.put, List.setIfInBounds_toArray, List.set_cons_zero, List.set_cons_succ]
        refine late_ready (rs := [3, 6, 9]) (by kernel_rfl) (by simp) ?_
        refine (LateReady.cons (o := ⟨_, _, _, _, _, _⟩) rfl (fun K hK => ?_) (LateReady.cons (o := ⟨_, _, _, _, _, _⟩) rfl (fun K hK => ?_) (LateReady.cons (o := ⟨_, _, _, _, _, _⟩) rfl (fun K hK => ?_) LateReady.nil)))
        go_simp
        refine hK _ _ (fun hAW => ?_) ?_
        focus (exact (HP3.out.below (by repeat (first | (with_reducible exact Below.refl _ _) | (with_reducible refine up_drew ?_) | (with_reducible refine up_alloc ?_ _)))).box.cell 0)
        clear hK K
        try simp only [Act.put, List.setIfInBounds_toArray, List.set_cons_zero, List.set_cons_succ]
        refine late_ready (rs := [4, 6, 9]) (by kernel_rfl) (by simp) ?_
        refine (LateReady.cons (o := ⟨_, _, _, _, _, _⟩) rfl (fun K hK => ?_) (LateReady.cons (o := ⟨_, _, _, _, _, _⟩) rfl (fun K hK => ?_) (LateReady.cons (o := ⟨_, _, _, _, _, _⟩) rfl (fun K hK => ?_) LateReady.nil)))
        go_simp
        go_at_call 29
        (with_reducible refine (Ps.one (k := 3) (t := 3) (cs := #[.int .i64 (-1), .int .i64 10, .int .i64 1]) HP3.out (by omega) (by repeat (first | (with_reducible exact Below.refl _ _) | (with_reducible refine up_drew ?_) | (with_reducible refine up_alloc ?_ _))) ?_ ?_ rfl (by omega) (by omega) ?_).mono ?_)
        focus (repeat (first | (with_reducible exact Blk.new _ _ _) | ((with_reducible refine Blk.new2 ?_); focus (simp; done)) | (with_reducible refine Blk.drew ?_) | (with_reducible refine Blk.alloc ?_ _)))
        focus (first | omega | (simp only [World.size_drew, World.size_alloc]; omega))
        focus (intro i v hv; (rcases i with _ | _ | _ | i) <;> simp at hv <;> first | exact ⟨_, hv.symm⟩ | (cases hv))
        rintro e wc1 ⟨z1, rfl, hPc1, hGc1, hzc1⟩
        try simp only [World.size_drew, World.size_alloc] at hzc1
        try go_simp
        refine hK _ _ (fun hAW => ?_) ?_
        focus (exact (hPc1.below (by repeat (first | (with_reducible exact Below.refl _ _) | (with_reducible refine up_drew ?_) | (with_reducible refine up_alloc ?_ _)))).box.cell 0)
        clear hK K
        try simp only [Act.put, List.setIfInBounds_toArray, List.set_cons_zero, List.set_cons_succ]
        refine late_ready (rs := [6, 9]) (by kernel_rfl) (by simp) ?_
        refine (LateReady.cons (o := ⟨_, _, _, _, _, _⟩) rfl (fun K hK => ?_) (LateReady.cons (o := ⟨_, _, _, _, _, _⟩) rfl (fun K hK => ?_) LateReady.nil))
        go_simp
        refine hK _ _ (fun hAW => ?_) ?_
        focus (exact (hPc1.below (by repeat (first | (with_reducible exact Below.refl _ _) | (with_reducible refine up_drew ?_) | (with_reducible refine up_alloc ?_ _)))).box.cell 0)
        clear hK K
        try simp only [Act.put, List.setIfInBounds_toArray, List.set_cons_zero, List.set_cons_succ]
        refine late_ready (rs := [7, 9]) (by kernel_rfl) (by simp) ?_
        refine (LateReady.cons (o := ⟨_, _, _, _, _, _⟩) rfl (fun K hK => ?_) (LateReady.cons (o := ⟨_, _, _, _, _, _⟩) rfl (fun K hK => ?_) LateReady.nil))
        go_simp
        go_at_call 29
        (with_reducible refine (Ps.one (k := 2) (t := 3) (cs := #[.int .i64 0, .int .i64 10]) hPc1 (by omega) (by repeat (first | (with_reducible exact Below.refl _ _) | (with_reducible refine up_drew ?_) | (with_reducible refine up_alloc ?_ _))) ?_ ?_ rfl (by omega) (by omega) ?_).mono ?_)
        focus (repeat (first | (with_reducible exact Blk.new _ _ _) | ((with_reducible refine Blk.new2 ?_); focus (simp; done)) | (with_reducible refine Blk.drew ?_) | (with_reducible refine Blk.alloc ?_ _) | ((with_reducible refine Blk.but ?_ hGc1 ?_); rotate_left; focus omega)))
        focus (first | omega | (simp only [World.size_drew, World.size_alloc]; omega))
        focus (intro i v hv; (rcases i with _ | _ | _ | i) <;> simp at hv <;> first | exact ⟨_, hv.symm⟩ | (cases hv))
        rintro e wc2 ⟨z2, rfl, hPc2, hGc2, hzc2⟩
        try simp only [World.size_drew, World.size_alloc] at hzc2
        try go_simp
        refine hK _ _ (fun hAW => ?_) ?_
        focus (exact (hPc2.below (by repeat (first | (with_reducible exact Below.refl _ _) | (with_reducible refine up_drew ?_) | (with_reducible refine up_alloc ?_ _)))).box.cell 0)
        clear hK K
        try simp only [Act.put, List.setIfInBounds_toArray, List.set_cons_zero, List.set_cons_succ]
        refine late_ready (rs := [9]) (by kernel_rfl) (by simp) ?_
        refine (LateReady.cons (o := ⟨_, _, _, _, _, _⟩) rfl (fun K hK => ?_) LateReady.nil)
        go_simp
        refine hK _ _ (fun hAW => ?_) ?_
        focus (exact (hPc2.below (by repeat (first | (with_reducible exact Below.refl _ _) | (with_reducible refine up_drew ?_) | (with_reducible refine up_alloc ?_ _)))).box.cell 0)
        clear hK K
        try simp only [Act.put, List.setIfInBounds_toArray, List.set_cons_zero, List.set_cons_succ]
        refine late_ready (rs := [10]) (by kernel_rfl) (by simp) ?_
        refine (LateReady.cons (o := ⟨_, _, _, _, _, _⟩) rfl (fun K hK => ?_) LateReady.nil)
        go_simp
        go_at_call 29
        (with_reducible refine (Ps.one (k := 2) (t := 3) (cs := #[.int .i64 0, .int .i64 100]) hPc2 (by omega) (by repeat (first | (with_reducible exact Below.refl _ _) | (with_reducible refine up_drew ?_) | (with_reducible refine up_alloc ?_ _))) ?_ ?_ rfl (by omega) (by omega) ?_).mono ?_)
        focus (repeat (first | (with_reducible exact Blk.new _ _ _) | ((with_reducible refine Blk.new2 ?_); focus (simp; done)) | (with_reducible refine Blk.drew ?_) | (with_reducible refine Blk.alloc ?_ _) | ((with_reducible refine Blk.but ?_ hGc2 ?_); rotate_left; focus omega) | ((with_reducible refine Blk.but ?_ hGc1 ?_); rotate_left; focus omega)))
        focus (first | omega | (simp only [World.size_drew, World.size_alloc]; omega))
        focus (intro i v hv; (rcases i with _ | _ | _ | i) <;> simp at hv <;> first | exact ⟨_, hv.symm⟩ | (cases hv))
        rintro e wc3 ⟨z3, rfl, hPc3, hGc3, hzc3⟩
        try simp only [World.size_drew, World.size_alloc] at hzc3
        try go_simp
        refine hK _ _ (fun hAW => ?_) ?_
        focus (exact (hPc3.below (by repeat (first | (with_reducible exact Below.refl _ _) | (with_reducible refine up_drew ?_) | (with_reducible refine up_alloc ?_ _)))).box.cell 0)
        clear hK K
        try simp only [Act.put, List.setIfInBounds_toArray, List.set_cons_zero, List.set_cons_succ]
        rotate_left 1
        rotate_right 1
        rotate_left 1
        rotate_right 1
        rotate_left 1
        go_simp
        refine hK _ _ (fun hAW => ?_) ?_
        focus (exact (hPc1.below (by repeat (first | (with_reducible exact Below.refl _ _) | (with_reducible refine up_drew ?_) | (with_reducible refine up_alloc ?_ _)))).box.cell 0)
        clear hK K
        try simp only [Act.put, List.setIfInBounds_toArray, List.set_cons_zero, List.set_cons_succ]
        refine late_ready (rs := [7]) (by kernel_rfl) (by simp) ?_
        refine (LateReady.cons (o := ⟨_, _, _, _, _, _⟩) rfl (fun K hK => ?_) LateReady.nil)
        go_simp
        go_at_call 29
        (with_reducible refine (Ps.one (k := 2) (t := 3) (cs := #[.int .i64 0, .int .i64 10]) hPc1 (by omega) (by repeat (first | (with_reducible exact Below.refl _ _) | (with_reducible refine up_drew ?_) | (with_reducible refine up_alloc ?_ _))) ?_ ?_ rfl (by omega) (by omega) ?_).mono ?_)
        focus (repeat (first | (with_reducible exact Blk.new _ _ _) | ((with_reducible refine Blk.new2 ?_); focus (simp; done)) | (with_reducible refine Blk.drew ?_) | (with_reducible refine Blk.alloc ?_ _) | ((with_reducible refine Blk.but ?_ hGc1 ?_); rotate_left; focus omega)))
        focus (first | omega | (simp only [World.size_drew, World.size_alloc]; omega))
        focus (intro i v hv; (rcases i with _ | _ | _ | i) <;> simp at hv <;> first | exact ⟨_, hv.symm⟩ | (cases hv))
        rintro e wc2 ⟨z2, rfl, hPc2, hGc2, hzc2⟩
        try simp only [World.size_drew, World.size_alloc] at hzc2
        try go_simp
        refine hK _ _ (fun hAW => ?_) ?_
        focus (exact (hPc2.below (by repeat (first | (with_reducible exact Below.refl _ _) | (with_reducible refine up_drew ?_) | (with_reducible refine up_alloc ?_ _)))).box.cell 0)
        clear hK K
        try simp only [Act.put, List.setIfInBounds_toArray, List.set_cons_zero, List.set_cons_succ]
        refine late_ready (rs := [10]) (by kernel_rfl) (by simp) ?_
        refine (LateReady.cons (o := ⟨_, _, _, _, _, _⟩) rfl (fun K hK => ?_) LateReady.nil)
        go_simp
        go_at_call 29
        (with_reducible refine (Ps.one (k := 2) (t := 3) (cs := #[.int .i64 0, .int .i64 100]) hPc2 (by omega) (by repeat (first | (with_reducible exact Below.refl _ _) | (with_reducible refine up_drew ?_) | (with_reducible refine up_alloc ?_ _))) ?_ ?_ rfl (by omega) (by omega) ?_).mono ?_)
        focus (repeat (first | (with_reducible exact Blk.new _ _ _) | ((with_reducible refine Blk.new2 ?_); focus (simp; done)) | (with_reducible refine Blk.drew ?_) | (with_reducible refine Blk.alloc ?_ _) | ((with_reducible refine Blk.but ?_ hGc2 ?_); rotate_left; focus omega) | ((with_reducible refine Blk.but ?_ hGc1 ?_); rotate_left; focus omega)))
        focus (first | omega | (simp only [World.size_drew, World.size_alloc]; omega))
        focus (intro i v hv; (rcases i with _ | _ | _ | i) <;> simp at hv <;> first | exact ⟨_, hv.symm⟩ | (cases hv))
        rintro e wc3 ⟨z3, rfl, hPc3, hGc3, hzc3⟩
        try simp only [World.size_drew, World.size_alloc] at hzc3
        try go_simp
        refine hK _ _ (fun hAW => ?_) ?_
        focus (exact (hPc3.below (by repeat (first | (with_reducible exact Below.refl _ _) | (with_reducible refine up_drew ?_) | (with_reducible refine up_alloc ?_ _)))).box.cell 0)
        clear hK K
        try simp only [Act.put, List.setIfInBounds_toArray, List.set_cons_zero, List.set_cons_succ]
        rotate_left 1
        rotate_right 1
        rotate_left 1
        rotate_right 1
        rotate_left 1
        rotate_right 2
        rotate_left 2
        go_simp
        refine hK _ _ (fun hAW => ?_) ?_
        focus (exact (hPc1.below (by repeat (first | (with_reducible exact Below.refl _ _) | (with_reducible refine up_drew ?_) | (with_reducible refine up_alloc ?_ _)))).box.cell 0)
        clear hK K
        try simp only [Act.put, List.setIfInBounds_toArray, List.set_cons_zero, List.set_cons_succ]
        refine late_ready (rs := [6]) (by kernel_rfl) (by simp) ?_
        refine (LateReady.cons (o := ⟨_, _, _, _, _, _⟩) rfl (fun K hK => ?_) LateReady.nil)
        go_simp
        refine hK _ _ (fun hAW => ?_) ?_
        focus (exact (hPc1.below (by repeat (first | (with_reducible exact Below.refl _ _) | (with_reducible refine up_drew ?_) | (with_reducible refine up_alloc ?_ _)))).box.cell 0)
        clear hK K
        try simp only [Act.put, List.setIfInBounds_toArray, List.set_cons_zero, List.set_cons_succ]
        refine late_ready (rs := [7]) (by kernel_rfl) (by simp) ?_
        refine (LateReady.cons (o := ⟨_, _, _, _, _, _⟩) rfl (fun K hK => ?_) LateReady.nil)
        go_simp
        go_at_call 29
        (with_reducible refine (Ps.one (k := 2) (t := 3) (cs := #[.int .i64 0, .int .i64 10]) hPc1 (by omega) (by repeat (first | (with_reducible exact Below.refl _ _) | (with_reducible refine up_drew ?_) | (with_reducible refine up_alloc ?_ _))) ?_ ?_ rfl (by omega) (by omega) ?_).mono ?_)
        focus (repeat (first | (with_reducible exact Blk.new _ _ _) | ((with_reducible refine Blk.new2 ?_); focus (simp; done)) | (with_reducible refine Blk.drew ?_) | (with_reducible refine Blk.alloc ?_ _) | ((with_reducible refine Blk.but ?_ hGc1 ?_); rotate_left; focus omega)))
        focus (first | omega | (simp only [World.size_drew, World.size_alloc]; omega))
        focus (intro i v hv; (rcases i with _ | _ | _ | i) <;> simp at hv <;> first | exact ⟨_, hv.symm⟩ | (cases hv))
        rintro e wc2 ⟨z2, rfl, hPc2, hGc2, hzc2⟩
        try simp only [World.size_drew, World.size_alloc] at hzc2
        try go_simp
        refine hK _ _ (fun hAW => ?_) ?_
        focus (exact (hPc2.below (by repeat (first | (with_reducible exact Below.refl _ _) | (with_reducible refine up_drew ?_) | (with_reducible refine up_alloc ?_ _)))).box.cell 0)
        clear hK K
        try simp only [Act.put, List.setIfInBounds_toArray, List.set_cons_zero, List.set_cons_succ]
        refine late_ready (rs := [10]) (by kernel_rfl) (by simp) ?_
        refine (LateReady.cons (o := ⟨_, _, _, _, _, _⟩) rfl (fun K hK => ?_) LateReady.nil)
        go_simp
        go_at_call 29
        (with_reducible refine (Ps.one (k := 2) (t := 3) (cs := #[.int .i64 0, .int .i64 100]) hPc2 (by omega) (by repeat (first | (with_reducible exact Below.refl _ _) | (with_reducible refine up_drew ?_) | (with_reducible refine up_alloc ?_ _))) ?_ ?_ rfl (by omega) (by omega) ?_).mono ?_)
        focus (repeat (first | (with_reducible exact Blk.new _ _ _) | ((with_reducible refine Blk.new2 ?_); focus (simp; done)) | (with_reducible refine Blk.drew ?_) | (with_reducible refine Blk.alloc ?_ _) | ((with_reducible refine Blk.but ?_ hGc2 ?_); rotate_left; focus omega) | ((with_reducible refine Blk.but ?_ hGc1 ?_); rotate_left; focus omega)))
        focus (first | omega | (simp only [World.size_drew, World.size_alloc]; omega))
        focus (intro i v hv; (rcases i with _ | _ | _ | i) <;> simp at hv <;> first | exact ⟨_, hv.symm⟩ | (cases hv))
        rintro e wc3 ⟨z3, rfl, hPc3, hGc3, hzc3⟩
        try simp only [World.size_drew, World.size_alloc] at hzc3
        try go_simp
        refine hK _ _ (fun hAW => ?_) ?_
        focus (exact (hPc3.below (by repeat (first | (with_reducible exact Below.refl _ _) | (with_reducible refine up_drew ?_) | (with_reducible refine up_alloc ?_ _)))).box.cell 0)
        clear hK K
        try simp only [Act.put, List.setIfInBounds_toArray, List.set_cons_zero, List.set_cons_succ]
        rotate_left 1
        rotate_right 1
        rotate_left 1
        rotate_right 1
        rotate_left 1
        rotate_right 1
        rotate_left 1
        rotate_right 3
        rotate_left 3
        go_simp
        refine hK _ _ (fun hAW => ?_) ?_
        focus (exact (HP3.out.below (by repeat (first | (with_reducible exact Below.refl _ _) | (with_reducible refine up_drew ?_) | (with_reducible refine up_alloc ?_ _)))).box.cell 0)
        clear hK K
        try simp only [Act.put, List.setIfInBounds_toArray, List.set_cons_zero, List.set_cons_succ]
        refine late_ready (rs := [4, 9]) (by kernel_rfl) (by simp) ?_
        refine (LateReady.cons (o := ⟨_, _, _, _, _, _⟩) rfl (fun K hK => ?_) (LateReady.cons (o := ⟨_, _, _, _, _, _⟩) rfl (fun K hK => ?_) LateReady.nil))
        go_simp
        go_at_call 29
        (with_reducible refine (Ps.one (k := 3) (t := 3) (cs := #[.int .i64 (-1), .int .i64 10, .int .i64 1]) HP3.out (by omega) (by repeat (first | (with_reducible exact Below.refl _ _) | (with_reducible refine up_drew ?_) | (with_reducible refine up_alloc ?_ _))) ?_ ?_ rfl (by omega) (by omega) ?_).mono ?_)
        focus (repeat (first | (with_reducible exact Blk.new _ _ _) | ((with_reducible refine Blk.new2 ?_); focus (simp; done)) | (with_reducible refine Blk.drew ?_) | (with_reducible refine Blk.alloc ?_ _)))
        focus (first | omega | (simp only [World.size_drew, World.size_alloc]; omega))
        focus (intro i v hv; (rcases i with _ | _ | _ | i) <;> simp at hv <;> first | exact ⟨_, hv.symm⟩ | (cases hv))
        rintro e wc1 ⟨z1, rfl, hPc1, hGc1, hzc1⟩
        try simp only [World.size_drew, World.size_alloc] at hzc1
        try go_simp
        refine hK _ _ (fun hAW => ?_) ?_
        focus (exact (hPc1.below (by repeat (first | (with_reducible exact Below.refl _ _) | (with_reducible refine up_drew ?_) | (with_reducible refine up_alloc ?_ _)))).box.cell 0)
        clear hK K
        try simp only [Act.put, List.setIfInBounds_toArray, List.set_cons_zero, List.set_cons_succ]
        refine late_ready (rs := [7, 9]) (by kernel_rfl) (by simp) ?_
        refine (LateReady.cons (o := ⟨_, _, _, _, _, _⟩) rfl (fun K hK => ?_) (LateReady.cons (o := ⟨_, _, _, _, _, _⟩) rfl (fun K hK => ?_) LateReady.nil))
        go_simp
        go_at_call 29
        (with_reducible refine (Ps.one (k := 2) (t := 3) (cs := #[.int .i64 0, .int .i64 10]) hPc1 (by omega) (by repeat (first | (with_reducible exact Below.refl _ _) | (with_reducible refine up_drew ?_) | (with_reducible refine up_alloc ?_ _))) ?_ ?_ rfl (by omega) (by omega) ?_).mono ?_)
        focus (repeat (first | (with_reducible exact Blk.new _ _ _) | ((with_reducible refine Blk.new2 ?_); focus (simp; done)) | (with_reducible refine Blk.drew ?_) | (with_reducible refine Blk.alloc ?_ _) | ((with_reducible refine Blk.but ?_ hGc1 ?_); rotate_left; focus omega)))
        focus (first | omega | (simp only [World.size_drew, World.size_alloc]; omega))
        focus (intro i v hv; (rcases i with _ | _ | _ | i) <;> simp at hv <;> first | exact ⟨_, hv.symm⟩ | (cases hv))
        rintro e wc2 ⟨z2, rfl, hPc2, hGc2, hzc2⟩
        try simp only [World.size_drew, World.size_alloc] at hzc2
        try go_simp
        refine hK _ _ (fun hAW => ?_) ?_
        focus (exact (hPc2.below (by repeat (first | (with_reducible exact Below.refl _ _) | (with_reducible refine up_drew ?_) | (with_reducible refine up_alloc ?_ _)))).box.cell 0)
        clear hK K
        try simp only [Act.put, List.setIfInBounds_toArray, List.set_cons_zero, List.set_cons_succ]
        refine late_ready (rs := [9]) (by kernel_rfl) (by simp) ?_
        refine (LateReady.cons (o := ⟨_, _, _, _, _, _⟩) rfl (fun K hK => ?_) LateReady.nil)
        go_simp
        refine hK _ _ (fun hAW => ?_) ?_
        focus (exact (hPc2.below (by repeat (first | (with_reducible exact Below.refl _ _) | (with_reducible refine up_drew ?_) | (with_reducible refine up_alloc ?_ _)))).box.cell 0)
        clear hK K
        try simp only [Act.put, List.setIfInBounds_toArray, List.set_cons_zero, List.set_cons_succ]
        refine late_ready (rs := [10]) (by kernel_rfl) (by simp) ?_
        refine (LateReady.cons (o := ⟨_, _, _, _, _, _⟩) rfl (fun K hK => ?_) LateReady.nil)
        go_simp
        go_at_call 29
        (with_reducible refine (Ps.one (k := 2) (t := 3) (cs := #[.int .i64 0, .int .i64 100]) hPc2 (by omega) (by repeat (first | (with_reducible exact Below.refl _ _) | (with_reducible refine up_drew ?_) | (with_reducible refine up_alloc ?_ _))) ?_ ?_ rfl (by omega) (by omega) ?_).mono ?_)
        focus (repeat (first | (with_reducible exact Blk.new _ _ _) | ((with_reducible refine Blk.new2 ?_); focus (simp; done)) | (with_reducible refine Blk.drew ?_) | (with_reducible refine Blk.alloc ?_ _) | ((with_reducible refine Blk.but ?_ hGc2 ?_); rotate_left; focus omega) | ((with_reducible refine Blk.but ?_ hGc1 ?_); rotate_left; focus omega)))
        focus (first | omega | (simp only [World.size_drew, World.size_alloc]; omega))
        focus (intro i v hv; (rcases i with _ | _ | _ | i) <;> simp at hv <;> first | exact ⟨_, hv.symm⟩ | (cases hv))
        rintro e wc3 ⟨z3, rfl, hPc3, hGc3, hzc3⟩
        try simp only [World.size_drew, World.size_alloc] at hzc3
        try go_simp
        refine hK _ _ (fun hAW => ?_) ?_
        focus (exact (hPc3.below (by repeat (first | (with_reducible exact Below.refl _ _) | (with_reducible refine up_drew ?_) | (with_reducible refine up_alloc ?_ _)))).box.cell 0)
        clear hK K
        try simp only [Act.put, List.setIfInBounds_toArray, List.set_cons_zero, List.set_cons_succ]
        rotate_left 1
        rotate_right 1
        rotate_left 1
        rotate_right 1
        rotate_left 1
        go_simp
        refine hK _ _ (fun hAW => ?_) ?_
        focus (exact (hPc1.below (by repeat (first | (with_reducible exact Below.refl _ _) | (with_reducible refine up_drew ?_) | (with_reducible refine up_alloc ?_ _)))).box.cell 0)
        clear hK K
        try simp only [Act.put, List.setIfInBounds_toArray, List.set_cons_zero, List.set_cons_succ]
        refine late_ready (rs := [7]) (by kernel_rfl) (by simp) ?_
        refine (LateReady.cons (o := ⟨_, _, _, _, _, _⟩) rfl (fun K hK => ?_) LateReady.nil)
        go_simp
        go_at_call 29
        (with_reducible refine (Ps.one (k := 2) (t := 3) (cs := #[.int .i64 0, .int .i64 10]) hPc1 (by omega) (by repeat (first | (with_reducible exact Below.refl _ _) | (with_reducible refine up_drew ?_) | (with_reducible refine up_alloc ?_ _))) ?_ ?_ rfl (by omega) (by omega) ?_).mono ?_)
        focus (repeat (first | (with_reducible exact Blk.new _ _ _) | ((with_reducible refine Blk.new2 ?_); focus (simp; done)) | (with_reducible refine Blk.drew ?_) | (with_reducible refine Blk.alloc ?_ _) | ((with_reducible refine Blk.but ?_ hGc1 ?_); rotate_left; focus omega)))
        focus (first | omega | (simp only [World.size_drew, World.size_alloc]; omega))
        focus (intro i v hv; (rcases i with _ | _ | _ | i) <;> simp at hv <;> first | exact ⟨_, hv.symm⟩ | (cases hv))
        rintro e wc2 ⟨z2, rfl, hPc2, hGc2, hzc2⟩
        try simp only [World.size_drew, World.size_alloc] at hzc2
        try go_simp
        refine hK _ _ (fun hAW => ?_) ?_
        focus (exact (hPc2.below (by repeat (first | (with_reducible exact Below.refl _ _) | (with_reducible refine up_drew ?_) | (with_reducible refine up_alloc ?_ _)))).box.cell 0)
        clear hK K
        try simp only [Act.put, List.setIfInBounds_toArray, List.set_cons_zero, List.set_cons_succ]
        refine late_ready (rs := [10]) (by kernel_rfl) (by simp) ?_
        refine (LateReady.cons (o := ⟨_, _, _, _, _, _⟩) rfl (fun K hK => ?_) LateReady.nil)
        go_simp
        go_at_call 29
        (with_reducible refine (Ps.one (k := 2) (t := 3) (cs := #[.int .i64 0, .int .i64 100]) hPc2 (by omega) (by repeat (first | (with_reducible exact Below.refl _ _) | (with_reducible refine up_drew ?_) | (with_reducible refine up_alloc ?_ _))) ?_ ?_ rfl (by omega) (by omega) ?_).mono ?_)
        focus (repeat (first | (with_reducible exact Blk.new _ _ _) | ((with_reducible refine Blk.new2 ?_); focus (simp; done)) | (with_reducible refine Blk.drew ?_) | (with_reducible refine Blk.alloc ?_ _) | ((with_reducible refine Blk.but ?_ hGc2 ?_); rotate_left; focus omega) | ((with_reducible refine Blk.but ?_ hGc1 ?_); rotate_left; focus omega)))
        focus (first | omega | (simp only [World.size_drew, World.size_alloc]; omega))
        focus (intro i v hv; (rcases i with _ | _ | _ | i) <;> simp at hv <;> first | exact ⟨_, hv.symm⟩ | (cases hv))
        rintro e wc3 ⟨z3, rfl, hPc3, hGc3, hzc3⟩
        try simp only [World.size_drew, World.size_alloc] at hzc3
        try go_simp
        refine hK _ _ (fun hAW => ?_) ?_
        focus (exact (hPc3.below (by repeat (first | (with_reducible exact Below.refl _ _) | (with_reducible refine up_drew ?_) | (with_reducible refine up_alloc ?_ _)))).box.cell 0)
        clear hK K
        try simp only [Act.put, List.setIfInBounds_toArray, List.set_cons_zero, List.set_cons_succ]
        rotate_left 1
        rotate_right 1
        rotate_left 1
        rotate_right 1
        rotate_left 1
        rotate_right 2
        rotate_left 2
        go_simp
        refine hK _ _ (fun hAW => ?_) ?_
        focus (exact (HP3.out.below (by repeat (first | (with_reducible exact Below.refl _ _) | (with_reducible refine up_drew ?_) | (with_reducible refine up_alloc ?_ _)))).box.cell 0)
        clear hK K
        try simp only [Act.put, List.setIfInBounds_toArray, List.set_cons_zero, List.set_cons_succ]
        refine late_ready (rs := [4]) (by kernel_rfl) (by simp) ?_
        refine (LateReady.cons (o := ⟨_, _, _, _, _, _⟩) rfl (fun K hK => ?_) LateReady.nil)
        go_simp
        go_at_call 29
        (with_reducible refine (Ps.one (k := 3) (t := 3) (cs := #[.int .i64 (-1), .int .i64 10, .int .i64 1]) HP3.out (by omega) (by repeat (first | (with_reducible exact Below.refl _ _) | (with_reducible refine up_drew ?_) | (with_reducible refine up_alloc ?_ _))) ?_ ?_ rfl (by omega) (by omega) ?_).mono ?_)
        focus (repeat (first | (with_reducible exact Blk.new _ _ _) | ((with_reducible refine Blk.new2 ?_); focus (simp; done)) | (with_reducible refine Blk.drew ?_) | (with_reducible refine Blk.alloc ?_ _)))
        focus (first | omega | (simp only [World.size_drew, World.size_alloc]; omega))
        focus (intro i v hv; (rcases i with _ | _ | _ | i) <;> simp at hv <;> first | exact ⟨_, hv.symm⟩ | (cases hv))
        rintro e wc1 ⟨z1, rfl, hPc1, hGc1, hzc1⟩
        try simp only [World.size_drew, World.size_alloc] at hzc1
        try go_simp
        refine hK _ _ (fun hAW => ?_) ?_
        focus (exact (hPc1.below (by repeat (first | (with_reducible exact Below.refl _ _) | (with_reducible refine up_drew ?_) | (with_reducible refine up_alloc ?_ _)))).box.cell 0)
        clear hK K
        try simp only [Act.put, List.setIfInBounds_toArray, List.set_cons_zero, List.set_cons_succ]
        refine late_ready (rs := [7]) (by kernel_rfl) (by simp) ?_
        refine (LateReady.cons (o := ⟨_, _, _, _, _, _⟩) rfl (fun K hK => ?_) LateReady.nil)
        go_simp
        go_at_call 29
        (with_reducible refine (Ps.one (k := 2) (t := 3) (cs := #[.int .i64 0, .int .i64 10]) hPc1 (by omega) (by repeat (first | (with_reducible exact Below.refl _ _) | (with_reducible refine up_drew ?_) | (with_reducible refine up_alloc ?_ _))) ?_ ?_ rfl (by omega) (by omega) ?_).mono ?_)
        focus (repeat (first | (with_reducible exact Blk.new _ _ _) | ((with_reducible refine Blk.new2 ?_); focus (simp; done)) | (with_reducible refine Blk.drew ?_) | (with_reducible refine Blk.alloc ?_ _) | ((with_reducible refine Blk.but ?_ hGc1 ?_); rotate_left; focus omega)))
        focus (first | omega | (simp only [World.size_drew, World.size_alloc]; omega))
        focus (intro i v hv; (rcases i with _ | _ | _ | i) <;> simp at hv <;> first | exact ⟨_, hv.symm⟩ | (cases hv))
        rintro e wc2 ⟨z2, rfl, hPc2, hGc2, hzc2⟩
        try simp only [World.size_drew, World.size_alloc] at hzc2
        try go_simp
        refine hK _ _ (fun hAW => ?_) ?_
        focus (exact (hPc2.below (by repeat (first | (with_reducible exact Below.refl _ _) | (with_reducible refine up_drew ?_) | (with_reducible refine up_alloc ?_ _)))).box.cell 0)
        clear hK K
        try simp only [Act.put, List.setIfInBounds_toArray, List.set_cons_zero, List.set_cons_succ]
        refine late_ready (rs := [10]) (by kernel_rfl) (by simp) ?_
        refine (LateReady.cons (o := ⟨_, _, _, _, _, _⟩) rfl (fun K hK => ?_) LateReady.nil)
        go_simp
        go_at_call 29
        (with_reducible refine (Ps.one (k := 2) (t := 3) (cs := #[.int .i64 0, .int .i64 100]) hPc2 (by omega) (by repeat (first | (with_reducible exact Below.refl _ _) | (with_reducible refine up_drew ?_) | (with_reducible refine up_alloc ?_ _))) ?_ ?_ rfl (by omega) (by omega) ?_).mono ?_)
        focus (repeat (first | (with_reducible exact Blk.new _ _ _) | ((with_reducible refine Blk.new2 ?_); focus (simp; done)) | (with_reducible refine Blk.drew ?_) | (with_reducible refine Blk.alloc ?_ _) | ((with_reducible refine Blk.but ?_ hGc2 ?_); rotate_left; focus omega) | ((with_reducible refine Blk.but ?_ hGc1 ?_); rotate_left; focus omega)))
        focus (first | omega | (simp only [World.size_drew, World.size_alloc]; omega))
        focus (intro i v hv; (rcases i with _ | _ | _ | i) <;> simp at hv <;> first | exact ⟨_, hv.symm⟩ | (cases hv))
        rintro e wc3 ⟨z3, rfl, hPc3, hGc3, hzc3⟩
        try simp only [World.size_drew, World.size_alloc] at hzc3
        try go_simp
        refine hK _ _ (fun hAW => ?_) ?_
        focus (exact (hPc3.below (by repeat (first | (with_reducible exact Below.refl _ _) | (with_reducible refine up_drew ?_) | (with_reducible refine up_alloc ?_ _)))).box.cell 0)
        clear hK K
        try simp only [Act.put, List.setIfInBounds_toArray, List.set_cons_zero, List.set_cons_succ]
        rotate_left 1
        rotate_right 1
        rotate_left 1
        rotate_right 1
        rotate_left 1
        rotate_right 1
        rotate_left 1
        rotate_right 3
        rotate_left 3
        go_simp
        refine hK _ _ (fun hAW => ?_) ?_
        focus (exact (HP3.out.below (by repeat (first | (with_reducible exact Below.refl _ _) | (with_reducible refine up_drew ?_) | (with_reducible refine up_alloc ?_ _)))).box.cell 0)
        clear hK K
        try simp only [Act.put, List.setIfInBounds_toArray, List.set_cons_zero, List.set_cons_succ]
        refine late_ready (rs := [4, 6]) (by kernel_rfl) (by simp) ?_
        refine (LateReady.cons (o := ⟨_, _, _, _, _, _⟩) rfl (fun K hK => ?_) (LateReady.cons (o := ⟨_, _, _, _, _, _⟩) rfl (fun K hK => ?_) LateReady.nil))
        go_simp
        go_at_call 29
        (with_reducible refine (Ps.one (k := 3) (t := 3) (cs := #[.int .i64 (-1), .int .i64 10, .int .i64 1]) HP3.out (by omega) (by repeat (first | (with_reducible exact Below.refl _ _) | (with_reducible refine up_drew ?_) | (with_reducible refine up_alloc ?_ _))) ?_ ?_ rfl (by omega) (by omega) ?_).mono ?_)
        focus (repeat (first | (with_reducible exact Blk.new _ _ _) | ((with_reducible refine Blk.new2 ?_); focus (simp; done)) | (with_reducible refine Blk.drew ?_) | (with_reducible refine Blk.alloc ?_ _)))
        focus (first | omega | (simp only [World.size_drew, World.size_alloc]; omega))
        focus (intro i v hv; (rcases i with _ | _ | _ | i) <;> simp at hv <;> first | exact ⟨_, hv.symm⟩ | (cases hv))
        rintro e wc1 ⟨z1, rfl, hPc1, hGc1, hzc1⟩
        try simp only [World.size_drew, World.size_alloc] at hzc1
        try go_simp
        refine hK _ _ (fun hAW => ?_) ?_
        focus (exact (hPc1.below (by repeat (first | (with_reducible exact Below.refl _ _) | (with_reducible refine up_drew ?_) | (with_reducible refine up_alloc ?_ _)))).box.cell 0)
        clear hK K
        try simp only [Act.put, List.setIfInBounds_toArray, List.set_cons_zero, List.set_cons_succ]
        refine late_ready (rs := [6]) (by kernel_rfl) (by simp) ?_
        refine (LateReady.cons (o := ⟨_, _, _, _, _, _⟩) rfl (fun K hK => ?_) LateReady.nil)
        go_simp
        refine hK _ _ (fun hAW => ?_) ?_
        focus (exact (hPc1.below (by repeat (first | (with_reducible exact Below.refl _ _) | (with_reducible refine up_drew ?_) | (with_reducible refine up_alloc ?_ _)))).box.cell 0)
        clear hK K
        try simp only [Act.put, List.setIfInBounds_toArray, List.set_cons_zero, List.set_cons_succ]
        refine late_ready (rs := [7]) (by kernel_rfl) (by simp) ?_
        refine (LateReady.cons (o := ⟨_, _, _, _, _, _⟩) rfl (fun K hK => ?_) LateReady.nil)
        go_simp
        go_at_call 29
        (with_reducible refine (Ps.one (k := 2) (t := 3) (cs := #[.int .i64 0, .int .i64 10]) hPc1 (by omega) (by repeat (first | (with_reducible exact Below.refl _ _) | (with_reducible refine up_drew ?_) | (with_reducible refine up_alloc ?_ _))) ?_ ?_ rfl (by omega) (by omega) ?_).mono ?_)
        focus (repeat (first | (with_reducible exact Blk.new _ _ _) | ((with_reducible refine Blk.new2 ?_); focus (simp; done)) | (with_reducible refine Blk.drew ?_) | (with_reducible refine Blk.alloc ?_ _) | ((with_reducible refine Blk.but ?_ hGc1 ?_); rotate_left; focus omega)))
        focus (first | omega | (simp only [World.size_drew, World.size_alloc]; omega))
        focus (intro i v hv; (rcases i with _ | _ | _ | i) <;> simp at hv <;> first | exact ⟨_, hv.symm⟩ | (cases hv))
        rintro e wc2 ⟨z2, rfl, hPc2, hGc2, hzc2⟩
        try simp only [World.size_drew, World.size_alloc] at hzc2
        try go_simp
        refine hK _ _ (fun hAW => ?_) ?_
        focus (exact (hPc2.below (by repeat (first | (with_reducible exact Below.refl _ _) | (with_reducible refine up_drew ?_) | (with_reducible refine up_alloc ?_ _)))).box.cell 0)
        clear hK K
        try simp only [Act.put, List.setIfInBounds_toArray, List.set_cons_zero, List.set_cons_succ]
        refine late_ready (rs := [10]) (by kernel_rfl) (by simp) ?_
        refine (LateReady.cons (o := ⟨_, _, _, _, _, _⟩) rfl (fun K hK => ?_) LateReady.nil)
        go_simp
        go_at_call 29
        (with_reducible refine (Ps.one (k := 2) (t := 3) (cs := #[.int .i64 0, .int .i64 100]) hPc2 (by omega) (by repeat (first | (with_reducible exact Below.refl _ _) | (with_reducible refine up_drew ?_) | (with_reducible refine up_alloc ?_ _))) ?_ ?_ rfl (by omega) (by omega) ?_).mono ?_)
        focus (repeat (first | (with_reducible exact Blk.new _ _ _) | ((with_reducible refine Blk.new2 ?_); focus (simp; done)) | (with_reducible refine Blk.drew ?_) | (with_reducible refine Blk.alloc ?_ _) | ((with_reducible refine Blk.but ?_ hGc2 ?_); rotate_left; focus omega) | ((with_reducible refine Blk.but ?_ hGc1 ?_); rotate_left; focus omega)))
        focus (first | omega | (simp only [World.size_drew, World.size_alloc]; omega))
        focus (intro i v hv; (rcases i with _ | _ | _ | i) <;> simp at hv <;> first | exact ⟨_, hv.symm⟩ | (cases hv))
        rintro e wc3 ⟨z3, rfl, hPc3, hGc3, hzc3⟩
        try simp only [World.size_drew, World.size_alloc] at hzc3
        try go_simp
        refine hK _ _ (fun hAW => ?_) ?_
        focus (exact (hPc3.below (by repeat (first | (with_reducible exact Below.refl _ _) | (with_reducible refine up_drew ?_) | (with_reducible refine up_alloc ?_ _)))).box.cell 0)
        clear hK K
        try simp only [Act.put, List.setIfInBounds_toArray, List.set_cons_zero, List.set_cons_succ]
        rotate_left 1
        rotate_right 1
        rotate_left 1
        rotate_right 1
        rotate_left 1
        rotate_right 1
        rotate_left 1
        go_simp
        refine hK _ _ (fun hAW => ?_) ?_
        focus (exact (HP3.out.below (by repeat (first | (with_reducible exact Below.refl _ _) | (with_reducible refine up_drew ?_) | (with_reducible refine up_alloc ?_ _)))).box.cell 0)
        clear hK K
        try simp only [Act.put, List.setIfInBounds_toArray, List.set_cons_zero, List.set_cons_succ]
        refine late_ready (rs := [4]) (by kernel_rfl) (by simp) ?_
        refine (LateReady.cons (o := ⟨_, _, _, _, _, _⟩) rfl (fun K hK => ?_) LateReady.nil)
        go_simp
        go_at_call 29
        (with_reducible refine (Ps.one (k := 3) (t := 3) (cs := #[.int .i64 (-1), .int .i64 10, .int .i64 1]) HP3.out (by omega) (by repeat (first | (with_reducible exact Below.refl _ _) | (with_reducible refine up_drew ?_) | (with_reducible refine up_alloc ?_ _))) ?_ ?_ rfl (by omega) (by omega) ?_).mono ?_)
        focus (repeat (first | (with_reducible exact Blk.new _ _ _) | ((with_reducible refine Blk.new2 ?_); focus (simp; done)) | (with_reducible refine Blk.drew ?_) | (with_reducible refine Blk.alloc ?_ _)))
        focus (first | omega | (simp only [World.size_drew, World.size_alloc]; omega))
        focus (intro i v hv; (rcases i with _ | _ | _ | i) <;> simp at hv <;> first | exact ⟨_, hv.symm⟩ | (cases hv))
        rintro e wc1 ⟨z1, rfl, hPc1, hGc1, hzc1⟩
        try simp only [World.size_drew, World.size_alloc] at hzc1
        try go_simp
        refine hK _ _ (fun hAW => ?_) ?_
        focus (exact (hPc1.below (by repeat (first | (with_reducible exact Below.refl _ _) | (with_reducible refine up_drew ?_) | (with_reducible refine up_alloc ?_ _)))).box.cell 0)
        clear hK K
        try simp only [Act.put, List.setIfInBounds_toArray, List.set_cons_zero, List.set_cons_succ]
        refine late_ready (rs := [7]) (by kernel_rfl) (by simp) ?_
        refine (LateReady.cons (o := ⟨_, _, _, _, _, _⟩) rfl (fun K hK => ?_) LateReady.nil)
        go_simp
        go_at_call 29
        (with_reducible refine (Ps.one (k := 2) (t := 3) (cs := #[.int .i64 0, .int .i64 10]) hPc1 (by omega) (by repeat (first | (with_reducible exact Below.refl _ _) | (with_reducible refine up_drew ?_) | (with_reducible refine up_alloc ?_ _))) ?_ ?_ rfl (by omega) (by omega) ?_).mono ?_)
        focus (repeat (first | (with_reducible exact Blk.new _ _ _) | ((with_reducible refine Blk.new2 ?_); focus (simp; done)) | (with_reducible refine Blk.drew ?_) | (with_reducible refine Blk.alloc ?_ _) | ((with_reducible refine Blk.but ?_ hGc1 ?_); rotate_left; focus omega)))
        focus (first | omega | (simp only [World.size_drew, World.size_alloc]; omega))
        focus (intro i v hv; (rcases i with _ | _ | _ | i) <;> simp at hv <;> first | exact ⟨_, hv.symm⟩ | (cases hv))
        rintro e wc2 ⟨z2, rfl, hPc2, hGc2, hzc2⟩
        try simp only [World.size_drew, World.size_alloc] at hzc2
        try go_simp
        refine hK _ _ (fun hAW => ?_) ?_
        focus (exact (hPc2.below (by repeat (first | (with_reducible exact Below.refl _ _) | (with_reducible refine up_drew ?_) | (with_reducible refine up_alloc ?_ _)))).box.cell 0)
        clear hK K
        try simp only [Act.put, List.setIfInBounds_toArray, List.set_cons_zero, List.set_cons_succ]
        refine late_ready (rs := [10]) (by kernel_rfl) (by simp) ?_
        refine (LateReady.cons (o := ⟨_, _, _, _, _, _⟩) rfl (fun K hK => ?_) LateReady.nil)
        go_simp
        go_at_call 29
        (with_reducible refine (Ps.one (k := 2) (t := 3) (cs := #[.int .i64 0, .int .i64 100]) hPc2 (by omega) (by repeat (first | (with_reducible exact Below.refl _ _) | (with_reducible refine up_drew ?_) | (with_reducible refine up_alloc ?_ _))) ?_ ?_ rfl (by omega) (by omega) ?_).mono ?_)
        focus (repeat (first | (with_reducible exact Blk.new _ _ _) | ((with_reducible refine Blk.new2 ?_); focus (simp; done)) | (with_reducible refine Blk.drew ?_) | (with_reducible refine Blk.alloc ?_ _) | ((with_reducible refine Blk.but ?_ hGc2 ?_); rotate_left; focus omega) | ((with_reducible refine Blk.but ?_ hGc1 ?_); rotate_left; focus omega)))
        focus (first | omega | (simp only [World.size_drew, World.size_alloc]; omega))
        focus (intro i v hv; (rcases i with _ | _ | _ | i) <;> simp at hv <;> first | exact ⟨_, hv.symm⟩ | (cases hv))
        rintro e wc3 ⟨z3, rfl, hPc3, hGc3, hzc3⟩
        try simp only [World.size_drew, World.size_alloc] at hzc3
        try go_simp
        refine hK _ _ (fun hAW => ?_) ?_
        focus (exact (hPc3.below (by repeat (first | (with_reducible exact Below.refl _ _) | (with_reducible refine up_drew ?_) | (with_reducible refine up_alloc ?_ _)))).box.cell 0)
        clear hK K
        try simp only [Act.put, List.setIfInBounds_toArray, List.set_cons_zero, List.set_cons_succ]
        rotate_left 1
        rotate_right 1
        rotate_left 1
        rotate_right 1
        rotate_left 1
        rotate_right 1
        rotate_left 1
        rotate_right 2
        rotate_left 2
        rotate_right 8
        rotate_left 8
        go_simp
        refine hK _ _ (fun hAW => ?_) ?_
        focus (exact (HP3.out.below (by repeat (first | (with_reducible exact Below.refl _ _) | (with_reducible refine up_drew ?_) | (with_reducible refine up_alloc ?_ _)))).box.cell 0)
        clear hK K
        try simp only [Act.put, List.setIfInBounds_toArray, List.set_cons_zero, List.set_cons_succ]
        refine late_ready (rs := [3, 9]) (by kernel_rfl) (by simp) ?_
        refine (LateReady.cons (o := ⟨_, _, _, _, _, _⟩) rfl (fun K hK => ?_) (LateReady.cons (o := ⟨_, _, _, _, _, _⟩) rfl (fun K hK => ?_) LateReady.nil))
        go_simp
        refine hK _ _ (fun hAW => ?_) ?_
        focus (exact (HP3.out.below (by repeat (first | (with_reducible exact Below.refl _ _) | (with_reducible refine up_drew ?_) | (with_reducible refine up_alloc ?_ _)))).box.cell 0)
        clear hK K
        try simp only [Act.put, List.setIfInBounds_toArray, List.set_cons_zero, List.set_cons_succ]
        refine late_ready (rs := [4, 9]) (by kernel_rfl) (by simp) ?_
        refine (LateReady.cons (o := ⟨_, _, _, _, _, _⟩) rfl (fun K hK => ?_) (LateReady.cons (o := ⟨_, _, _, _, _, _⟩) rfl (fun K hK => ?_) LateReady.nil))
        go_simp
        go_at_call 29
        (with_reducible refine (Ps.one (k := 3) (t := 3) (cs := #[.int .i64 (-1), .int .i64 10, .int .i64 1]) HP3.out (by omega) (by repeat (first | (with_reducible exact Below.refl _ _) | (with_reducible refine up_drew ?_) | (with_reducible refine up_alloc ?_ _))) ?_ ?_ rfl (by omega) (by omega) ?_).mono ?_)
        focus (repeat (first | (with_reducible exact Blk.new _ _ _) | ((with_reducible refine Blk.new2 ?_); focus (simp; done)) | (with_reducible refine Blk.drew ?_) | (with_reducible refine Blk.alloc ?_ _)))
        focus (first | omega | (simp only [World.size_drew, World.size_alloc]; omega))
        focus (intro i v hv; (rcases i with _ | _ | _ | i) <;> simp at hv <;> first | exact ⟨_, hv.symm⟩ | (cases hv))
        rintro e wc1 ⟨z1, rfl, hPc1, hGc1, hzc1⟩
        try simp only [World.size_drew, World.size_alloc] at hzc1
        try go_simp
        refine hK _ _ (fun hAW => ?_) ?_
        focus (exact (hPc1.below (by repeat (first | (with_reducible exact Below.refl _ _) | (with_reducible refine up_drew ?_) | (with_reducible refine up_alloc ?_ _)))).box.cell 0)
        clear hK K
        try simp only [Act.put, List.setIfInBounds_toArray, List.set_cons_zero, List.set_cons_succ]
        refine late_ready (rs := [7, 9]) (by kernel_rfl) (by simp) ?_
        refine (LateReady.cons (o := ⟨_, _, _, _, _, _⟩) rfl (fun K hK => ?_) (LateReady.cons (o := ⟨_, _, _, _, _, _⟩) rfl (fun K hK => ?_) LateReady.nil))
        go_simp
        go_at_call 29
        (with_reducible refine (Ps.one (k := 2) (t := 3) (cs := #[.int .i64 0, .int .i64 10]) hPc1 (by omega) (by repeat (first | (with_reducible exact Below.refl _ _) | (with_reducible refine up_drew ?_) | (with_reducible refine up_alloc ?_ _))) ?_ ?_ rfl (by omega) (by omega) ?_).mono ?_)
        focus (repeat (first | (with_reducible exact Blk.new _ _ _) | ((with_reducible refine Blk.new2 ?_); focus (simp; done)) | (with_reducible refine Blk.drew ?_) | (with_reducible refine Blk.alloc ?_ _) | ((with_reducible refine Blk.but ?_ hGc1 ?_); rotate_left; focus omega)))
        focus (first | omega | (simp only [World.size_drew, World.size_alloc]; omega))
        focus (intro i v hv; (rcases i with _ | _ | _ | i) <;> simp at hv <;> first | exact ⟨_, hv.symm⟩ | (cases hv))
        rintro e wc2 ⟨z2, rfl, hPc2, hGc2, hzc2⟩
        try simp only [World.size_drew, World.size_alloc] at hzc2
        try go_simp
        refine hK _ _ (fun hAW => ?_) ?_
        focus (exact (hPc2.below (by repeat (first | (with_reducible exact Below.refl _ _) | (with_reducible refine up_drew ?_) | (with_reducible refine up_alloc ?_ _)))).box.cell 0)
        clear hK K
        try simp only [Act.put, List.setIfInBounds_toArray, List.set_cons_zero, List.set_cons_succ]
        refine late_ready (rs := [9]) (by kernel_rfl) (by simp) ?_
        refine (LateReady.cons (o := ⟨_, _, _, _, _, _⟩) rfl (fun K hK => ?_) LateReady.nil)
        go_simp
        refine hK _ _ (fun hAW => ?_) ?_
        focus (exact (hPc2.below (by repeat (first | (with_reducible exact Below.refl _ _) | (with_reducible refine up_drew ?_) | (with_reducible refine up_alloc ?_ _)))).box.cell 0)
        clear hK K
        try simp only [Act.put, List.setIfInBounds_toArray, List.set_cons_zero, List.set_cons_succ]
        refine late_ready (rs := [10]) (by kernel_rfl) (by simp) ?_
        refine (LateReady.cons (o := ⟨_, _, _, _, _, _⟩) rfl (fun K hK => ?_) LateReady.nil)
        go_simp
        go_at_call 29
        (with_reducible refine (Ps.one (k := 2) (t := 3) (cs := #[.int .i64 0, .int .i64 100]) hPc2 (by omega) (by repeat (first | (with_reducible exact Below.refl _ _) | (with_reducible refine up_drew ?_) | (with_reducible refine up_alloc ?_ _))) ?_ ?_ rfl (by omega) (by omega) ?_).mono ?_)
        focus (repeat (first | (with_reducible exact Blk.new _ _ _) | ((with_reducible refine Blk.new2 ?_); focus (simp; done)) | (with_reducible refine Blk.drew ?_) | (with_reducible refine Blk.alloc ?_ _) | ((with_reducible refine Blk.but ?_ hGc2 ?_); rotate_left; focus omega) | ((with_reducible refine Blk.but ?_ hGc1 ?_); rotate_left; focus omega)))
        focus (first | omega | (simp only [World.size_drew, World.size_alloc]; omega))
        focus (intro i v hv; (rcases i with _ | _ | _ | i) <;> simp at hv <;> first | exact ⟨_, hv.symm⟩ | (cases hv))
        rintro e wc3 ⟨z3, rfl, hPc3, hGc3, hzc3⟩
        try simp only [World.size_drew, World.size_alloc] at hzc3
        try go_simp
        refine hK _ _ (fun hAW => ?_) ?_
        focus (exact (hPc3.below (by repeat (first | (with_reducible exact Below.refl _ _) | (with_reducible refine up_drew ?_) | (with_reducible refine up_alloc ?_ _)))).box.cell 0)
        clear hK K
        try simp only [Act.put, List.setIfInBounds_toArray, List.set_cons_zero, List.set_cons_succ]
        rotate_left 1
        rotate_right 1
        rotate_left 1
        rotate_right 1
        rotate_left 1
        go_simp
        refine hK _ _ (fun hAW => ?_) ?_
        focus (exact (hPc1.below (by repeat (first | (with_reducible exact Below.refl _ _) | (with_reducible refine up_drew ?_) | (with_reducible refine up_alloc ?_ _)))).box.cell 0)
        clear hK K
        try simp only [Act.put, List.setIfInBounds_toArray, List.set_cons_zero, List.set_cons_succ]
        refine late_ready (rs := [7]) (by kernel_rfl) (by simp) ?_
        refine (LateReady.cons (o := ⟨_, _, _, _, _, _⟩) rfl (fun K hK => ?_) LateReady.nil)
        go_simp
        go_at_call 29
        (with_reducible refine (Ps.one (k := 2) (t := 3) (cs := #[.int .i64 0, .int .i64 10]) hPc1 (by omega) (by repeat (first | (with_reducible exact Below.refl _ _) | (with_reducible refine up_drew ?_) | (with_reducible refine up_alloc ?_ _))) ?_ ?_ rfl (by omega) (by omega) ?_).mono ?_)
        focus (repeat (first | (with_reducible exact Blk.new _ _ _) | ((with_reducible refine Blk.new2 ?_); focus (simp; done)) | (with_reducible refine Blk.drew ?_) | (with_reducible refine Blk.alloc ?_ _) | ((with_reducible refine Blk.but ?_ hGc1 ?_); rotate_left; focus omega)))
        focus (first | omega | (simp only [World.size_drew, World.size_alloc]; omega))
        focus (intro i v hv; (rcases i with _ | _ | _ | i) <;> simp at hv <;> first | exact ⟨_, hv.symm⟩ | (cases hv))
        rintro e wc2 ⟨z2, rfl, hPc2, hGc2, hzc2⟩
        try simp only [World.size_drew, World.size_alloc] at hzc2
        try go_simp
        refine hK _ _ (fun hAW => ?_) ?_
        focus (exact (hPc2.below (by repeat (first | (with_reducible exact Below.refl _ _) | (with_reducible refine up_drew ?_) | (with_reducible refine up_alloc ?_ _)))).box.cell 0)
        clear hK K
        try simp only [Act.put, List.setIfInBounds_toArray, List.set_cons_zero, List.set_cons_succ]
        refine late_ready (rs := [10]) (by kernel_rfl) (by simp) ?_
        refine (LateReady.cons (o := ⟨_, _, _, _, _, _⟩) rfl (fun K hK => ?_) LateReady.nil)
        go_simp
        go_at_call 29
        (with_reducible refine (Ps.one (k := 2) (t := 3) (cs := #[.int .i64 0, .int .i64 100]) hPc2 (by omega) (by repeat (first | (with_reducible exact Below.refl _ _) | (with_reducible refine up_drew ?_) | (with_reducible refine up_alloc ?_ _))) ?_ ?_ rfl (by omega) (by omega) ?_).mono ?_)
        focus (repeat (first | (with_reducible exact Blk.new _ _ _) | ((with_reducible refine Blk.new2 ?_); focus (simp; done)) | (with_reducible refine Blk.drew ?_) | (with_reducible refine Blk.alloc ?_ _) | ((with_reducible refine Blk.but ?_ hGc2 ?_); rotate_left; focus omega) | ((with_reducible refine Blk.but ?_ hGc1 ?_); rotate_left; focus omega)))
        focus (first | omega | (simp only [World.size_drew, World.size_alloc]; omega))
        focus (intro i v hv; (rcases i with _ | _ | _ | i) <;> simp at hv <;> first | exact ⟨_, hv.symm⟩ | (cases hv))
        rintro e wc3 ⟨z3, rfl, hPc3, hGc3, hzc3⟩
        try simp only [World.size_drew, World.size_alloc] at hzc3
        try go_simp
        refine hK _ _ (fun hAW => ?_) ?_
        focus (exact (hPc3.below (by repeat (first | (with_reducible exact Below.refl _ _) | (with_reducible refine up_drew ?_) | (with_reducible refine up_alloc ?_ _)))).box.cell 0)
        clear hK K
        try simp only [Act.put, List.setIfInBounds_toArray, List.set_cons_zero, List.set_cons_succ]
        rotate_left 1
        rotate_right 1
        rotate_left 1
        rotate_right 1
        rotate_left 1
        rotate_right 2
        rotate_left 2
        go_simp
        refine hK _ _ (fun hAW => ?_) ?_
        focus (exact (HP3.out.below (by repeat (first | (with_reducible exact Below.refl _ _) | (with_reducible refine up_drew ?_) | (with_reducible refine up_alloc ?_ _)))).box.cell 0)
        clear hK K
        try simp only [Act.put, List.setIfInBounds_toArray, List.set_cons_zero, List.set_cons_succ]
        refine late_ready (rs := [4]) (by kernel_rfl) (by simp) ?_
        refine (LateReady.cons (o := ⟨_, _, _, _, _, _⟩) rfl (fun K hK => ?_) LateReady.nil)
        go_simp
        go_at_call 29
        (with_reducible refine (Ps.one (k := 3) (t := 3) (cs := #[.int .i64 (-1), .int .i64 10, .int .i64 1]) HP3.out (by omega) (by repeat (first | (with_reducible exact Below.refl _ _) | (with_reducible refine up_drew ?_) | (with_reducible refine up_alloc ?_ _))) ?_ ?_ rfl (by omega) (by omega) ?_).mono ?_)
        focus (repeat (first | (with_reducible exact Blk.new _ _ _) | ((with_reducible refine Blk.new2 ?_); focus (simp; done)) | (with_reducible refine Blk.drew ?_) | (with_reducible refine Blk.alloc ?_ _)))
        focus (first | omega | (simp only [World.size_drew, World.size_alloc]; omega))
        focus (intro i v hv; (rcases i with _ | _ | _ | i) <;> simp at hv <;> first | exact ⟨_, hv.symm⟩ | (cases hv))
        rintro e wc1 ⟨z1, rfl, hPc1, hGc1, hzc1⟩
        try simp only [World.size_drew, World.size_alloc] at hzc1
        try go_simp
        refine hK _ _ (fun hAW => ?_) ?_
        focus (exact (hPc1.below (by repeat (first | (with_reducible exact Below.refl _ _) | (with_reducible refine up_drew ?_) | (with_reducible refine up_alloc ?_ _)))).box.cell 0)
        clear hK K
        try simp only [Act.put, List.setIfInBounds_toArray, List.set_cons_zero, List.set_cons_succ]
        refine late_ready (rs := [7]) (by kernel_rfl) (by simp) ?_
        refine (LateReady.cons (o := ⟨_, _, _, _, _, _⟩) rfl (fun K hK => ?_) LateReady.nil)
        go_simp
        go_at_call 29
        (with_reducible refine (Ps.one (k := 2) (t := 3) (cs := #[.int .i64 0, .int .i64 10]) hPc1 (by omega) (by repeat (first | (with_reducible exact Below.refl _ _) | (with_reducible refine up_drew ?_) | (with_reducible refine up_alloc ?_ _))) ?_ ?_ rfl (by omega) (by omega) ?_).mono ?_)
        focus (repeat (first | (with_reducible exact Blk.new _ _ _) | ((with_reducible refine Blk.new2 ?_); focus (simp; done)) | (with_reducible refine Blk.drew ?_) | (with_reducible refine Blk.alloc ?_ _) | ((with_reducible refine Blk.but ?_ hGc1 ?_); rotate_left; focus omega)))
        focus (first | omega | (simp only [World.size_drew, World.size_alloc]; omega))
        focus (intro i v hv; (rcases i with _ | _ | _ | i) <;> simp at hv <;> first | exact ⟨_, hv.symm⟩ | (cases hv))
        rintro e wc2 ⟨z2, rfl, hPc2, hGc2, hzc2⟩
        try simp only [World.size_drew, World.size_alloc] at hzc2
        try go_simp
        refine hK _ _ (fun hAW => ?_) ?_
        focus (exact (hPc2.below (by repeat (first | (with_reducible exact Below.refl _ _) | (with_reducible refine up_drew ?_) | (with_reducible refine up_alloc ?_ _)))).box.cell 0)
        clear hK K
        try simp only [Act.put, List.setIfInBounds_toArray, List.set_cons_zero, List.set_cons_succ]
        refine late_ready (rs := [10]) (by kernel_rfl) (by simp) ?_
        refine (LateReady.cons (o := ⟨_, _, _, _, _, _⟩) rfl (fun K hK => ?_) LateReady.nil)
        go_simp
        go_at_call 29
        (with_reducible refine (Ps.one (k := 2) (t := 3) (cs := #[.int .i64 0, .int .i64 100]) hPc2 (by omega) (by repeat (first | (with_reducible exact Below.refl _ _) | (with_reducible refine up_drew ?_) | (with_reducible refine up_alloc ?_ _))) ?_ ?_ rfl (by omega) (by omega) ?_).mono ?_)
        focus (repeat (first | (with_reducible exact Blk.new _ _ _) | ((with_reducible refine Blk.new2 ?_); focus (simp; done)) | (with_reducible refine Blk.drew ?_) | (with_reducible refine Blk.alloc ?_ _) | ((with_reducible refine Blk.but ?_ hGc2 ?_); rotate_left; focus omega) | ((with_reducible refine Blk.but ?_ hGc1 ?_); rotate_left; focus omega)))
        focus (first | omega | (simp only [World.size_drew, World.size_alloc]; omega))
        focus (intro i v hv; (rcases i with _ | _ | _ | i) <;> simp at hv <;> first | exact ⟨_, hv.symm⟩ | (cases hv))
        rintro e wc3 ⟨z3, rfl, hPc3, hGc3, hzc3⟩
        try simp only [World.size_drew, World.size_alloc] at hzc3
        try go_simp
        refine hK _ _ (fun hAW => ?_) ?_
        focus (exact (hPc3.below (by repeat (first | (with_reducible exact Below.refl _ _) | (with_reducible refine up_drew ?_) | (with_reducible refine up_alloc ?_ _)))).box.cell 0)
        clear hK K
        try simp only [Act.put, List.setIfInBounds_toArray, List.set_cons_zero, List.set_cons_succ]
        rotate_left 1
        rotate_right 1
        rotate_left 1
        rotate_right 1
        rotate_left 1
        rotate_right 1
        rotate_left 1
        rotate_right 3
        rotate_left 3
        go_simp
        refine hK _ _ (fun hAW => ?_) ?_
        focus (exact (HP3.out.below (by repeat (first | (with_reducible exact Below.refl _ _) | (with_reducible refine up_drew ?_) | (with_reducible refine up_alloc ?_ _)))).box.cell 0)
        clear hK K
        try simp only [Act.put, List.setIfInBounds_toArray, List.set_cons_zero, List.set_cons_succ]
        refine late_ready (rs := [3]) (by kernel_rfl) (by simp) ?_
        refine (LateReady.cons (o := ⟨_, _, _, _, _, _⟩) rfl (fun K hK => ?_) LateReady.nil)
        go_simp
        refine hK _ _ (fun hAW => ?_) ?_
        focus (exact (HP3.out.below (by repeat (first | (with_reducible exact Below.refl _ _) | (with_reducible refine up_drew ?_) | (with_reducible refine up_alloc ?_ _)))).box.cell 0)
        clear hK K
        try simp only [Act.put, List.setIfInBounds_toArray, List.set_cons_zero, List.set_cons_succ]
        refine late_ready (rs := [4]) (by kernel_rfl) (by simp) ?_
        refine (LateReady.cons (o := ⟨_, _, _, _, _, _⟩) rfl (fun K hK => ?_) LateReady.nil)
        go_simp
        go_at_call 29
        (with_reducible refine (Ps.one (k := 3) (t := 3) (cs := #[.int .i64 (-1), .int .i64 10, .int .i64 1]) HP3.out (by omega) (by repeat (first | (with_reducible exact Below.refl _ _) | (with_reducible refine up_drew ?_) | (with_reducible refine up_alloc ?_ _))) ?_ ?_ rfl (by omega) (by omega) ?_).mono ?_)
        focus (repeat (first | (with_reducible exact Blk.new _ _ _) | ((with_reducible refine Blk.new2 ?_); focus (simp; done)) | (with_reducible refine Blk.drew ?_) | (with_reducible refine Blk.alloc ?_ _)))
        focus (first | omega | (simp only [World.size_drew, World.size_alloc]; omega))
        focus (intro i v hv; (rcases i with _ | _ | _ | i) <;> simp at hv <;> first | exact ⟨_, hv.symm⟩ | (cases hv))
        rintro e wc1 ⟨z1, rfl, hPc1, hGc1, hzc1⟩
        try simp only [World.size_drew, World.size_alloc] at hzc1
        try go_simp
        refine hK _ _ (fun hAW => ?_) ?_
        focus (exact (hPc1.below (by repeat (first | (with_reducible exact Below.refl _ _) | (with_reducible refine up_drew ?_) | (with_reducible refine up_alloc ?_ _)))).box.cell 0)
        clear hK K
        try simp only [Act.put, List.setIfInBounds_toArray, List.set_cons_zero, List.set_cons_succ]
        refine late_ready (rs := [7]) (by kernel_rfl) (by simp) ?_
        refine (LateReady.cons (o := ⟨_, _, _, _, _, _⟩) rfl (fun K hK => ?_) LateReady.nil)
        go_simp
        go_at_call 29
        (with_reducible refine (Ps.one (k := 2) (t := 3) (cs := #[.int .i64 0, .int .i64 10]) hPc1 (by omega) (by repeat (first | (with_reducible exact Below.refl _ _) | (with_reducible refine up_drew ?_) | (with_reducible refine up_alloc ?_ _))) ?_ ?_ rfl (by omega) (by omega) ?_).mono ?_)
        focus (repeat (first | (with_reducible exact Blk.new _ _ _) | ((with_reducible refine Blk.new2 ?_); focus (simp; done)) | (with_reducible refine Blk.drew ?_) | (with_reducible refine Blk.alloc ?_ _) | ((with_reducible refine Blk.but ?_ hGc1 ?_); rotate_left; focus omega)))
        focus (first | omega | (simp only [World.size_drew, World.size_alloc]; omega))
        focus (intro i v hv; (rcases i with _ | _ | _ | i) <;> simp at hv <;> first | exact ⟨_, hv.symm⟩ | (cases hv))
        rintro e wc2 ⟨z2, rfl, hPc2, hGc2, hzc2⟩
        try simp only [World.size_drew, World.size_alloc] at hzc2
        try go_simp
        refine hK _ _ (fun hAW => ?_) ?_
        focus (exact (hPc2.below (by repeat (first | (with_reducible exact Below.refl _ _) | (with_reducible refine up_drew ?_) | (with_reducible refine up_alloc ?_ _)))).box.cell 0)
        clear hK K
        try simp only [Act.put, List.setIfInBounds_toArray, List.set_cons_zero, List.set_cons_succ]
        refine late_ready (rs := [10]) (by kernel_rfl) (by simp) ?_
        refine (LateReady.cons (o := ⟨_, _, _, _, _, _⟩) rfl (fun K hK => ?_) LateReady.nil)
        go_simp
        go_at_call 29
        (with_reducible refine (Ps.one (k := 2) (t := 3) (cs := #[.int .i64 0, .int .i64 100]) hPc2 (by omega) (by repeat (first | (with_reducible exact Below.refl _ _) | (with_reducible refine up_drew ?_) | (with_reducible refine up_alloc ?_ _))) ?_ ?_ rfl (by omega) (by omega) ?_).mono ?_)
        focus (repeat (first | (with_reducible exact Blk.new _ _ _) | ((with_reducible refine Blk.new2 ?_); focus (simp; done)) | (with_reducible refine Blk.drew ?_) | (with_reducible refine Blk.alloc ?_ _) | ((with_reducible refine Blk.but ?_ hGc2 ?_); rotate_left; focus omega) | ((with_reducible refine Blk.but ?_ hGc1 ?_); rotate_left; focus omega)))
        focus (first | omega | (simp only [World.size_drew, World.size_alloc]; omega))
        focus (intro i v hv; (rcases i with _ | _ | _ | i) <;> simp at hv <;> first | exact ⟨_, hv.symm⟩ | (cases hv))
        rintro e wc3 ⟨z3, rfl, hPc3, hGc3, hzc3⟩
        try simp only [World.size_drew, World.size_alloc] at hzc3
        try go_simp
        refine hK _ _ (fun hAW => ?_) ?_
        focus (exact (hPc3.below (by repeat (first | (with_reducible exact Below.refl _ _) | (with_reducible refine up_drew ?_) | (with_reducible refine up_alloc ?_ _)))).box.cell 0)
        clear hK K
        try simp only [Act.put, List.setIfInBounds_toArray, List.set_cons_zero, List.set_cons_succ]
        rotate_left 1
        rotate_right 1
        rotate_left 1
        rotate_right 1
        rotate_left 1
        rotate_right 1
        rotate_left 1
        rotate_right 1
        rotate_left 1
        rotate_right 4
        rotate_left 4
        go_simp
        refine hK _ _ (fun hAW => ?_) ?_
        focus (exact (HP3.out.below (by repeat (first | (with_reducible exact Below.refl _ _) | (with_reducible refine up_drew ?_) | (with_reducible refine up_alloc ?_ _)))).box.cell 0)
        clear hK K
        try simp only [Act.put, List.setIfInBounds_toArray, List.set_cons_zero, List.set_cons_succ]
        refine late_ready (rs := [3, 6]) (by kernel_rfl) (by simp) ?_
        refine (LateReady.cons (o := ⟨_, _, _, _, _, _⟩) rfl (fun K hK => ?_) (LateReady.cons (o := ⟨_, _, _, _, _, _⟩) rfl (fun K hK => ?_) LateReady.nil))
        go_simp
        refine hK _ _ (fun hAW => ?_) ?_
        focus (exact (HP3.out.below (by repeat (first | (with_reducible exact Below.refl _ _) | (with_reducible refine up_drew ?_) | (with_reducible refine up_alloc ?_ _)))).box.cell 0)
        clear hK K
        try simp only [Act.put, List.setIfInBounds_toArray, List.set_cons_zero, List.set_cons_succ]
        refine late_ready (rs := [4, 6]) (by kernel_rfl) (by simp) ?_
        refine (LateReady.cons (o := ⟨_, _, _, _, _, _⟩) rfl (fun K hK => ?_) (LateReady.cons (o := ⟨_, _, _, _, _, _⟩) rfl (fun K hK => ?_) LateReady.nil))
        go_simp
        go_at_call 29
        (with_reducible refine (Ps.one (k := 3) (t := 3) (cs := #[.int .i64 (-1), .int .i64 10, .int .i64 1]) HP3.out (by omega) (by repeat (first | (with_reducible exact Below.refl _ _) | (with_reducible refine up_drew ?_) | (with_reducible refine up_alloc ?_ _))) ?_ ?_ rfl (by omega) (by omega) ?_).mono ?_)
        focus (repeat (first | (with_reducible exact Blk.new _ _ _) | ((with_reducible refine Blk.new2 ?_); focus (simp; done)) | (with_reducible refine Blk.drew ?_) | (with_reducible refine Blk.alloc ?_ _)))
        focus (first | omega | (simp only [World.size_drew, World.size_alloc]; omega))
        focus (intro i v hv; (rcases i with _ | _ | _ | i) <;> simp at hv <;> first | exact ⟨_, hv.symm⟩ | (cases hv))
        rintro e wc1 ⟨z1, rfl, hPc1, hGc1, hzc1⟩
        try simp only [World.size_drew, World.size_alloc] at hzc1
        try go_simp
        refine hK _ _ (fun hAW => ?_) ?_
        focus (exact (hPc1.below (by repeat (first | (with_reducible exact Below.refl _ _) | (with_reducible refine up_drew ?_) | (with_reducible refine up_alloc ?_ _)))).box.cell 0)
        clear hK K
        try simp only [Act.put, List.setIfInBounds_toArray, List.set_cons_zero, List.set_cons_succ]
        refine late_ready (rs := [6]) (by kernel_rfl) (by simp) ?_
        refine (LateReady.cons (o := ⟨_, _, _, _, _, _⟩) rfl (fun K hK => ?_) LateReady.nil)
        go_simp
        refine hK _ _ (fun hAW => ?_) ?_
        focus (exact (hPc1.below (by repeat (first | (with_reducible exact Below.refl _ _) | (with_reducible refine up_drew ?_) | (with_reducible refine up_alloc ?_ _)))).box.cell 0)
        clear hK K
        try simp only [Act.put, List.setIfInBounds_toArray, List.set_cons_zero, List.set_cons_succ]
        refine late_ready (rs := [7]) (by kernel_rfl) (by simp) ?_
        refine (LateReady.cons (o := ⟨_, _, _, _, _, _⟩) rfl (fun K hK => ?_) LateReady.nil)
        go_simp
        go_at_call 29
        (with_reducible refine (Ps.one (k := 2) (t := 3) (cs := #[.int .i64 0, .int .i64 10]) hPc1 (by omega) (by repeat (first | (with_reducible exact Below.refl _ _) | (with_reducible refine up_drew ?_) | (with_reducible refine up_alloc ?_ _))) ?_ ?_ rfl (by omega) (by omega) ?_).mono ?_)
        focus (repeat (first | (with_reducible exact Blk.new _ _ _) | ((with_reducible refine Blk.new2 ?_); focus (simp; done)) | (with_reducible refine Blk.drew ?_) | (with_reducible refine Blk.alloc ?_ _) | ((with_reducible refine Blk.but ?_ hGc1 ?_); rotate_left; focus omega)))
        focus (first | omega | (simp only [World.size_drew, World.size_alloc]; omega))
        focus (intro i v hv; (rcases i with _ | _ | _ | i) <;> simp at hv <;> first | exact ⟨_, hv.symm⟩ | (cases hv))
        rintro e wc2 ⟨z2, rfl, hPc2, hGc2, hzc2⟩
        try simp only [World.size_drew, World.size_alloc] at hzc2
        try go_simp
        refine hK _ _ (fun hAW => ?_) ?_
        focus (exact (hPc2.below (by repeat (first | (with_reducible exact Below.refl _ _) | (with_reducible refine up_drew ?_) | (with_reducible refine up_alloc ?_ _)))).box.cell 0)
        clear hK K
        try simp only [Act.put, List.setIfInBounds_toArray, List.set_cons_zero, List.set_cons_succ]
        refine late_ready (rs := [10]) (by kernel_rfl) (by simp) ?_
        refine (LateReady.cons (o := ⟨_, _, _, _, _, _⟩) rfl (fun K hK => ?_) LateReady.nil)
        go_simp
        go_at_call 29
        (with_reducible refine (Ps.one (k := 2) (t := 3) (cs := #[.int .i64 0, .int .i64 100]) hPc2 (by omega) (by repeat (first | (with_reducible exact Below.refl _ _) | (with_reducible refine up_drew ?_) | (with_reducible refine up_alloc ?_ _))) ?_ ?_ rfl (by omega) (by omega) ?_).mono ?_)
        focus (repeat (first | (with_reducible exact Blk.new _ _ _) | ((with_reducible refine Blk.new2 ?_); focus (simp; done)) | (with_reducible refine Blk.drew ?_) | (with_reducible refine Blk.alloc ?_ _) | ((with_reducible refine Blk.but ?_ hGc2 ?_); rotate_left; focus omega) | ((with_reducible refine Blk.but ?_ hGc1 ?_); rotate_left; focus omega)))
        focus (first | omega | (simp only [World.size_drew, World.size_alloc]; omega))
        focus (intro i v hv; (rcases i with _ | _ | _ | i) <;> simp at hv <;> first | exact ⟨_, hv.symm⟩ | (cases hv))
        rintro e wc3 ⟨z3, rfl, hPc3, hGc3, hzc3⟩
        try simp only [World.size_drew, World.size_alloc] at hzc3
        try go_simp
        refine hK _ _ (fun hAW => ?_) ?_
        focus (exact (hPc3.below (by repeat (first | (with_reducible exact Below.refl _ _) | (with_reducible refine up_drew ?_) | (with_reducible refine up_alloc ?_ _)))).box.cell 0)
        clear hK K
        try simp only [Act.put, List.setIfInBounds_toArray, List.set_cons_zero, List.set_cons_succ]
        rotate_left 1
        rotate_right 1
        rotate_left 1
        rotate_right 1
        rotate_left 1
        rotate_right 1
        rotate_left 1
        go_simp
        refine hK _ _ (fun hAW => ?_) ?_
        focus (exact (HP3.out.below (by repeat (first | (with_reducible exact Below.refl _ _) | (with_reducible refine up_drew ?_) | (with_reducible refine up_alloc ?_ _)))).box.cell 0)
        clear hK K
        try simp only [Act.put, List.setIfInBounds_toArray, List.set_cons_zero, List.set_cons_succ]
        refine late_ready (rs := [4]) (by kernel_rfl) (by simp) ?_
        refine (LateReady.cons (o := ⟨_, _, _, _, _, _⟩) rfl (fun K hK => ?_) LateReady.nil)
        go_simp
        go_at_call 29
        (with_reducible refine (Ps.one (k := 3) (t := 3) (cs := #[.int .i64 (-1), .int .i64 10, .int .i64 1]) HP3.out (by omega) (by repeat (first | (with_reducible exact Below.refl _ _) | (with_reducible refine up_drew ?_) | (with_reducible refine up_alloc ?_ _))) ?_ ?_ rfl (by omega) (by omega) ?_).mono ?_)
        focus (repeat (first | (with_reducible exact Blk.new _ _ _) | ((with_reducible refine Blk.new2 ?_); focus (simp; done)) | (with_reducible refine Blk.drew ?_) | (with_reducible refine Blk.alloc ?_ _)))
        focus (first | omega | (simp only [World.size_drew, World.size_alloc]; omega))
        focus (intro i v hv; (rcases i with _ | _ | _ | i) <;> simp at hv <;> first | exact ⟨_, hv.symm⟩ | (cases hv))
        rintro e wc1 ⟨z1, rfl, hPc1, hGc1, hzc1⟩
        try simp only [World.size_drew, World.size_alloc] at hzc1
        try go_simp
        refine hK _ _ (fun hAW => ?_) ?_
        focus (exact (hPc1.below (by repeat (first | (with_reducible exact Below.refl _ _) | (with_reducible refine up_drew ?_) | (with_reducible refine up_alloc ?_ _)))).box.cell 0)
        clear hK K
        try simp only [Act.put, List.setIfInBounds_toArray, List.set_cons_zero, List.set_cons_succ]
        refine late_ready (rs := [7]) (by kernel_rfl) (by simp) ?_
        refine (LateReady.cons (o := ⟨_, _, _, _, _, _⟩) rfl (fun K hK => ?_) LateReady.nil)
        go_simp
        go_at_call 29
        (with_reducible refine (Ps.one (k := 2) (t := 3) (cs := #[.int .i64 0, .int .i64 10]) hPc1 (by omega) (by repeat (first | (with_reducible exact Below.refl _ _) | (with_reducible refine up_drew ?_) | (with_reducible refine up_alloc ?_ _))) ?_ ?_ rfl (by omega) (by omega) ?_).mono ?_)
        focus (repeat (first | (with_reducible exact Blk.new _ _ _) | ((with_reducible refine Blk.new2 ?_); focus (simp; done)) | (with_reducible refine Blk.drew ?_) | (with_reducible refine Blk.alloc ?_ _) | ((with_reducible refine Blk.but ?_ hGc1 ?_); rotate_left; focus omega)))
        focus (first | omega | (simp only [World.size_drew, World.size_alloc]; omega))
        focus (intro i v hv; (rcases i with _ | _ | _ | i) <;> simp at hv <;> first | exact ⟨_, hv.symm⟩ | (cases hv))
        rintro e wc2 ⟨z2, rfl, hPc2, hGc2, hzc2⟩
        try simp only [World.size_drew, World.size_alloc] at hzc2
        try go_simp
        refine hK _ _ (fun hAW => ?_) ?_
        focus (exact (hPc2.below (by repeat (first | (with_reducible exact Below.refl _ _) | (with_reducible refine up_drew ?_) | (with_reducible refine up_alloc ?_ _)))).box.cell 0)
        clear hK K
        try simp only [Act.put, List.setIfInBounds_toArray, List.set_cons_zero, List.set_cons_succ]
        refine late_ready (rs := [10]) (by kernel_rfl) (by simp) ?_
        refine (LateReady.cons (o := ⟨_, _, _, _, _, _⟩) rfl (fun K hK => ?_) LateReady.nil)
        go_simp
        go_at_call 29
        (with_reducible refine (Ps.one (k := 2) (t := 3) (cs := #[.int .i64 0, .int .i64 100]) hPc2 (by omega) (by repeat (first | (with_reducible exact Below.refl _ _) | (with_reducible refine up_drew ?_) | (with_reducible refine up_alloc ?_ _))) ?_ ?_ rfl (by omega) (by omega) ?_).mono ?_)
        focus (repeat (first | (with_reducible exact Blk.new _ _ _) | ((with_reducible refine Blk.new2 ?_); focus (simp; done)) | (with_reducible refine Blk.drew ?_) | (with_reducible refine Blk.alloc ?_ _) | ((with_reducible refine Blk.but ?_ hGc2 ?_); rotate_left; focus omega) | ((with_reducible refine Blk.but ?_ hGc1 ?_); rotate_left; focus omega)))
        focus (first | omega | (simp only [World.size_drew, World.size_alloc]; omega))
        focus (intro i v hv; (rcases i with _ | _ | _ | i) <;> simp at hv <;> first | exact ⟨_, hv.symm⟩ | (cases hv))
        rintro e wc3 ⟨z3, rfl, hPc3, hGc3, hzc3⟩
        try simp only [World.size_drew, World.size_alloc] at hzc3
        try go_simp
        refine hK _ _ (fun hAW => ?_) ?_
        focus (exact (hPc3.below (by repeat (first | (with_reducible exact Below.refl _ _) | (with_reducible refine up_drew ?_) | (with_reducible refine up_alloc ?_ _)))).box.cell 0)
        clear hK K
        try simp only [Act.put, List.setIfInBounds_toArray, List.set_cons_zero, List.set_cons_succ]
        rotate_left 1
        rotate_right 1
        rotate_left 1
        rotate_right 1
        rotate_left 1
        rotate_right 1
        rotate_left 1
        rotate_right 2
        rotate_left 2
        go_simp
        refine hK _ _ (fun hAW => ?_) ?_
        focus (exact (HP3.out.below (by repeat (first | (with_reducible exact Below.refl _ _) | (with_reducible refine up_drew ?_) | (with_reducible refine up_alloc ?_ _)))).box.cell 0)
        clear hK K
        try simp only [Act.put, List.setIfInBounds_toArray, List.set_cons_zero, List.set_cons_succ]
        refine late_ready (rs := [3]) (by kernel_rfl) (by simp) ?_
        refine (LateReady.cons (o := ⟨_, _, _, _, _, _⟩) rfl (fun K hK => ?_) LateReady.nil)
        go_simp
        refine hK _ _ (fun hAW => ?_) ?_
        focus (exact (HP3.out.below (by repeat (first | (with_reducible exact Below.refl _ _) | (with_reducible refine up_drew ?_) | (with_reducible refine up_alloc ?_ _)))).box.cell 0)
        clear hK K
        try simp only [Act.put, List.setIfInBounds_toArray, List.set_cons_zero, List.set_cons_succ]
        refine late_ready (rs := [4]) (by kernel_rfl) (by simp) ?_
        refine (LateReady.cons (o := ⟨_, _, _, _, _, _⟩) rfl (fun K hK => ?_) LateReady.nil)
        go_simp
        go_at_call 29
        (with_reducible refine (Ps.one (k := 3) (t := 3) (cs := #[.int .i64 (-1), .int .i64 10, .int .i64 1]) HP3.out (by omega) (by repeat (first | (with_reducible exact Below.refl _ _) | (with_reducible refine up_drew ?_) | (with_reducible refine up_alloc ?_ _))) ?_ ?_ rfl (by omega) (by omega) ?_).mono ?_)
        focus (repeat (first | (with_reducible exact Blk.new _ _ _) | ((with_reducible refine Blk.new2 ?_); focus (simp; done)) | (with_reducible refine Blk.drew ?_) | (with_reducible refine Blk.alloc ?_ _)))
        focus (first | omega | (simp only [World.size_drew, World.size_alloc]; omega))
        focus (intro i v hv; (rcases i with _ | _ | _ | i) <;> simp at hv <;> first | exact ⟨_, hv.symm⟩ | (cases hv))
        rintro e wc1 ⟨z1, rfl, hPc1, hGc1, hzc1⟩
        try simp only [World.size_drew, World.size_alloc] at hzc1
        try go_simp
        refine hK _ _ (fun hAW => ?_) ?_
        focus (exact (hPc1.below (by repeat (first | (with_reducible exact Below.refl _ _) | (with_reducible refine up_drew ?_) | (with_reducible refine up_alloc ?_ _)))).box.cell 0)
        clear hK K
        try simp only [Act.put, List.setIfInBounds_toArray, List.set_cons_zero, List.set_cons_succ]
        refine late_ready (rs := [7]) (by kernel_rfl) (by simp) ?_
        refine (LateReady.cons (o := ⟨_, _, _, _, _, _⟩) rfl (fun K hK => ?_) LateReady.nil)
        go_simp
        go_at_call 29
        (with_reducible refine (Ps.one (k := 2) (t := 3) (cs := #[.int .i64 0, .int .i64 10]) hPc1 (by omega) (by repeat (first | (with_reducible exact Below.refl _ _) | (with_reducible refine up_drew ?_) | (with_reducible refine up_alloc ?_ _))) ?_ ?_ rfl (by omega) (by omega) ?_).mono ?_)
        focus (repeat (first | (with_reducible exact Blk.new _ _ _) | ((with_reducible refine Blk.new2 ?_); focus (simp; done)) | (with_reducible refine Blk.drew ?_) | (with_reducible refine Blk.alloc ?_ _) | ((with_reducible refine Blk.but ?_ hGc1 ?_); rotate_left; focus omega)))
        focus (first | omega | (simp only [World.size_drew, World.size_alloc]; omega))
        focus (intro i v hv; (rcases i with _ | _ | _ | i) <;> simp at hv <;> first | exact ⟨_, hv.symm⟩ | (cases hv))
        rintro e wc2 ⟨z2, rfl, hPc2, hGc2, hzc2⟩
        try simp only [World.size_drew, World.size_alloc] at hzc2
        try go_simp
        refine hK _ _ (fun hAW => ?_) ?_
        focus (exact (hPc2.below (by repeat (first | (with_reducible exact Below.refl _ _) | (with_reducible refine up_drew ?_) | (with_reducible refine up_alloc ?_ _)))).box.cell 0)
        clear hK K
        try simp only [Act.put, List.setIfInBounds_toArray, List.set_cons_zero, List.set_cons_succ]
        refine late_ready (rs := [10]) (by kernel_rfl) (by simp) ?_
        refine (LateReady.cons (o := ⟨_, _, _, _, _, _⟩) rfl (fun K hK => ?_) LateReady.nil)
        go_simp
        go_at_call 29
        (with_reducible refine (Ps.one (k := 2) (t := 3) (cs := #[.int .i64 0, .int .i64 100]) hPc2 (by omega) (by repeat (first | (with_reducible exact Below.refl _ _) | (with_reducible refine up_drew ?_) | (with_reducible refine up_alloc ?_ _))) ?_ ?_ rfl (by omega) (by omega) ?_).mono ?_)
        focus (repeat (first | (with_reducible exact Blk.new _ _ _) | ((with_reducible refine Blk.new2 ?_); focus (simp; done)) | (with_reducible refine Blk.drew ?_) | (with_reducible refine Blk.alloc ?_ _) | ((with_reducible refine Blk.but ?_ hGc2 ?_); rotate_left; focus omega) | ((with_reducible refine Blk.but ?_ hGc1 ?_); rotate_left; focus omega)))
        focus (first | omega | (simp only [World.size_drew, World.size_alloc]; omega))
        focus (intro i v hv; (rcases i with _ | _ | _ | i) <;> simp at hv <;> first | exact ⟨_, hv.symm⟩ | (cases hv))
        rintro e wc3 ⟨z3, rfl, hPc3, hGc3, hzc3⟩
        try simp only [World.size_drew, World.size_alloc] at hzc3
        try go_simp
        refine hK _ _ (fun hAW => ?_) ?_
        focus (exact (hPc3.below (by repeat (first | (with_reducible exact Below.refl _ _) | (with_reducible refine up_drew ?_) | (with_reducible refine up_alloc ?_ _)))).box.cell 0)
        clear hK K
        try simp only [Act.put, List.setIfInBounds_toArray, List.set_cons_zero, List.set_cons_succ]
        rotate_left 1
        rotate_right 1
        rotate_left 1
        rotate_right 1
        rotate_left 1
        rotate_right 1
        rotate_left 1
        rotate_right 1
        rotate_left 1
        rotate_right 3
        rotate_left 3
        rotate_right 15
        all_goals
          refine late_ready (rs := [11]) (by kernel_rfl) (by simp) ?_
          refine (LateReady.cons (o := ⟨_, _, _, _, _, _⟩) rfl (fun K hK => ?_) LateReady.nil)
          go_simp
          refine hK _ _ (fun hAW => ?_) ?_
          focus (exact (hPc3.below (by repeat (first | (with_reducible exact Below.refl _ _) | (with_reducible refine up_drew ?_) | (with_reducible refine up_alloc ?_ _)))).box.cell 0)
          clear hK K
          try simp only [Act.put, List.setIfInBounds_toArray, List.set_cons_zero, List.set_cons_succ]
          refine late_ready (rs := [12]) (by kernel_rfl) (by simp) ?_
          refine (LateReady.cons (o := ⟨_, _, _, _, _, _⟩) rfl (fun K hK => ?_) LateReady.nil)
          go_simp
          refine hK _ _ (fun hAW => ?_) ?_
          focus (exact (hPc3.below (by repeat (first | (with_reducible exact Below.refl _ _) | (with_reducible refine up_drew ?_) | (with_reducible refine up_alloc ?_ _)))).box.cell 0)
          clear hK K
          try simp only [Act.put, List.setIfInBounds_toArray, List.set_cons_zero, List.set_cons_succ]
          refine late_ready (rs := [13]) (by kernel_rfl) (by simp) ?_
          refine (LateReady.cons (o := ⟨_, _, _, _, _, _⟩) rfl (fun K hK => ?_) LateReady.nil)
          refine step_append_rd _ (by rfl) (.tmp 44) (.tmp 55) 23 (by rfl) (w.heap.size + 1) 42 _ _ 3 24 Try.underlying23 hj0 hy0 hy1 hy2 rfl (by omega) (.slice A1 n1 c1) n1 (tvs ns) (by rfl) (hPc3.rows.1.alloc _) _ _ (some ⟨wc3.heap.size, 0, none⟩) 1 1 (tvs [(z1, z2, z3)]) (by rfl) (Rd.of_blk3 (Blk.new wc3 _ _)) (tvs_one _) (by unfold maxLen; omega) (by omega) (by have := hPc3.but.size; simp only [World.size_alloc]; omega) ?_
          intro v5 w5 ho5 hg5 hl5
          rw [← tvs_append] at ho5
          obtain ⟨B1, e1, rfl, hce, _⟩ := own_form ho5
          have hP5 := (hPc3.below (up_alloc (Below.refl _ wc3) (.cells #[.int .i64 z1, .int .i64 z2, .int .i64 z3] 42))).more1 ho5 hg5 hl5
          have hB5 := (hPc3.box.alloc (.cells #[.int .i64 z1, .int .i64 z2, .int .i64 z3] 42)).grown hg5 (fun e => hPc3.ne1 _ e.symm rfl)
          have n5 := hB5.cell 0
          have m5 := hB5.soft 0
          refine hK _ _ (fun hAW => ?_) ?_
          focus (exact hB5.cell 0)
          clear hK K
          try simp only [Act.put, List.setIfInBounds_toArray, List.set_cons_zero, List.set_cons_succ]
          refine late_ready (rs := [14]) (by kernel_rfl) (by simp) ?_
          refine (LateReady.cons (o := ⟨_, _, _, _, _, _⟩) rfl (fun K hK => ?_) LateReady.nil)
          go_simp
          refine hK _ _ (fun hAW => ?_) ?_
          focus (exact hB5.cell 0)
          clear hK K
          try simp only [Act.put, List.setIfInBounds_toArray, List.set_cons_zero, List.set_cons_succ]
          refine late_ready (rs := [15]) (by kernel_rfl) (by simp) ?_
          refine (LateReady.cons (o := ⟨_, _, _, _, _, _⟩) rfl (fun K hK => ?_) LateReady.nil)
          go_simp
          refine hK _ _ (fun hAW => ?_) ?_
          focus (have h3 : true = false := Eq.trans (by kernel_rfl) hAW; cases h3)
          clear hK K
          try simp only [Act.put, List.setIfInBounds_toArray, List.set_cons_zero, List.set_cons_succ]
          refine late_done (by kernel_rfl) ?_ _
          have HC := Lib.hid hP5
          clear hP5 hB5 n5 m5 ho5 hg5 hl5 hPc1 hPc2 hPc3 hGc1 hGc2 hGc3 k0
          generalize w5.setCell ⟨xb, 0, none⟩ (.slice B1 (n1 + 1) e1) = wc at *
          obtain ⟨q0, q1, r0, r1, s0, s1, z0', z1', HRS⟩ := Ps.fin HC.out
          go_wp2
          exact bodyPost_ret (v := .agg #[.slice B1 (n1 + 1) e1, .slice A2 n2 c2]) (by simp [results, Try.results28, go_sem, z0', z1']) rfl ⟨_, _, _, _, _, _, _, _, _, rfl, HRS.out.1, by omega, by omega, HRS.out.2.1, by omega, HRS.out.2.2⟩
      · have k0 : w3.cell? ⟨xb, 1, none⟩ = some (.slice A2 n2 c2) := HP3.out.box.cell 1
        have hr3 := HP3.out.rdr.lt
        have hx3 := HP3.out.box.lt
        go_wp2_with (fail)
        refine wp_region_any (by kernel_rfl) ?_
        try (change wpAny _ _ _ _ _ _ _ (World.drew _))
        refine wpAny_take (i := 0) (oi := ⟨_, _, _, _, _, _⟩) (v := ?_) rfl (by kernel_rfl) (by kernel_rfl) (by kernel_rfl) (fun _ _ _ h => h) (Or.inl ⟨by rfl, ?_⟩) ?_
        rotate_left
        focus (intro w; go_simp; try (with_reducible rfl); done)
        try simp only [Act.put, List.setIfInBounds_toArray, List.set_cons_zero, List.set_cons_succ]
        refine wpAny_take (i := 2) (oi := ⟨_, _, _, _, _, _⟩) (v := ?_) rfl (by kernel_rfl) (by kernel_rfl) (by kernel_rfl) (fun _ _ _ h => h) (Or.inl ⟨by rfl, ?_⟩) ?_
        rotate_left
        focus (intro w; go_simp; try (with_reducible rfl); done)
        try simp only [Act.put, List.setIfInBounds_toArray, List.set_cons_zero, List.set_cons_succ]
        refine wpAny_take (i := 5) (oi := ⟨_, _, _, _, _, _⟩) (v := ?_) rfl (by kernel_rfl) (by kernel_rfl) (by kernel_rfl) (fun _ _ _ h => h) (Or.inl ⟨by rfl, ?_⟩) ?_
        rotate_left
        focus (intro w; go_simp; try (with_reducible rfl); done)
        try simp only [Act.put, List.setIfInBounds_toArray, List.set_cons_zero, List.set_cons_succ]
        refine wpAny_take (i := 8) (oi := ⟨_, _, _, _, _, _⟩) (v := ?_) rfl (by kernel_rfl) (by kernel_rfl) (by kernel_rfl) (fun _ _ _ h => h) (Or.inl ⟨by rfl, ?_⟩) ?_
        rotate_left
        focus (intro w; go_simp; try (with_reducible rfl); done)
        try simp only [Act.put, List.setIfInBounds_toArray, List.set_cons_zero, List.set_cons_succ]
        refine late_take (S := fun wx => wx.cell? ⟨xb, 1, none⟩ = some (.slice A2 n2 c2)) (i := 1) (oi := ⟨_, _, _, _, _, _⟩) (v := ?_) rfl (by kernel_rfl) (by kernel_rfl) (by kernel_rfl) (fun _ _ _ h => h) (Or.inl ⟨by rfl, ?_⟩) ((HP3.out.below (up_drew (Below.refl _ _))).box.cell 1) ?_
        rotate_left
        focus (intro w hSw; (try dsimp only at hSw); go_simp; try (with_reducible rfl); done)
        try simp only [Act.put, List.setIfInBounds_toArray, List.set_cons_zero, List.set_cons_succ]
        refine late_ready (rs := [3, 6, 9]) (by kernel_rfl) (by simp) ?_
        refine (LateReady.cons (o := ⟨_, _, _, _, _, _⟩) rfl (fun K hK => ?_) (LateReady.cons (o := ⟨_, _, _, _, _, _⟩) rfl (fun K hK => ?_) (LateReady.cons (o := ⟨_, _, _, _, _, _⟩) rfl (fun K hK => ?_) LateReady.nil)))
        go_simp
        refine hK _ _ (fun hAW => ?_) ?_
        focus (exact (HP3.out.below (by repeat (first | (with_reducible exact Below.refl _ _) | (with_reducible refine up_drew ?_) | (with_reducible refine up_alloc ?_ _)))).box.cell 1)
        clear hK K
        try simp only [Act.put, List.setIfInBounds_toArray, List.set_cons_zero, List.set_cons_succ]
        refine late_ready (rs := [4, 6, 9]) (by kernel_rfl) (by simp) ?_
        refine (LateReady.cons (o := ⟨_, _, _, _, _, _⟩) rfl (fun K hK => ?_) (LateReady.cons (o := ⟨_, _, _, _, _, _⟩) rfl (fun K hK => ?_) (LateReady.cons (o := ⟨_, _, _, _, _, _⟩) rfl (fun K hK => ?_) LateReady.nil)))
        go_simp
        go_at_call 29
        (with_reducible refine (Ps.one (k := 3) (t := 3) (cs := #[.int .i64 (-1), .int .i64 0, .int .i64 10]) HP3.out (by omega) (by repeat (first | (with_reducible exact Below.refl _ _) | (with_reducible refine up_drew ?_) | (with_reducible refine up_alloc ?_ _))) ?_ ?_ rfl (by omega) (by omega) ?_).mono ?_)
        focus (repeat (first | (with_reducible exact Blk.new _ _ _) | ((with_reducible refine Blk.new2 ?_); focus (simp; done)) | (with_reducible refine Blk.drew ?_) | (with_reducible refine Blk.alloc ?_ _)))
        focus (first | omega | (simp only [World.size_drew, World.size_alloc]; omega))
        focus (intro i v hv; (rcases i with _ | _ | _ | i) <;> simp at hv <;> first | exact ⟨_, hv.symm⟩ | (cases hv))
        rintro e wc1 ⟨z1, rfl, hPc1, hGc1, hzc1⟩
        try simp only [World.size_drew, World.size_alloc] at hzc1
        try go_simp
        refine hK _ _ (fun hAW => ?_) ?_
        focus (exact (hPc1.below (by repeat (first | (with_reducible exact Below.refl _ _) | (with_reducible refine up_drew ?_) | (with_reducible refine up_alloc ?_ _)))).box.cell 1)
        clear hK K
        try simp only [Act.put, List.setIfInBounds_toArray, List.set_cons_zero, List.set_cons_succ]
        refine late_ready (rs := [6, 9]) (by kernel_rfl) (by simp) ?_
        refine (LateReady.cons (o := ⟨_, _, _, _, _, _⟩) rfl (fun K hK => ?_) (LateReady.cons (o := ⟨_, _, _, _, _, _⟩) rfl (fun K hK => ?_) LateReady.nil))
        go_simp
        refine hK _ _ (fun hAW => ?_) ?_
        focus (exact (hPc1.below (by repeat (first | (with_reducible exact Below.refl _ _) | (with_reducible refine up_drew ?_) | (with_reducible refine up_alloc ?_ _)))).box.cell 1)
        clear hK K
        try simp only [Act.put, List.setIfInBounds_toArray, List.set_cons_zero, List.set_cons_succ]
        refine late_ready (rs := [7, 9]) (by kernel_rfl) (by simp) ?_
        refine (LateReady.cons (o := ⟨_, _, _, _, _, _⟩) rfl (fun K hK => ?_) (LateReady.cons (o := ⟨_, _, _, _, _, _⟩) rfl (fun K hK => ?_) LateReady.nil))
        go_simp
        go_at_call 29
        (with_reducible refine (Ps.one (k := 2) (t := 3) (cs := #[.int .i64 0, .int .i64 100]) hPc1 (by omega) (by repeat (first | (with_reducible exact Below.refl _ _) | (with_reducible refine up_drew ?_) | (with_reducible refine up_alloc ?_ _))) ?_ ?_ rfl (by omega) (by omega) ?_).mono ?_)
        focus (repeat (first | (with_reducible exact Blk.new _ _ _) | ((with_reducible refine Blk.new2 ?_); focus (simp; done)) | (with_reducible refine Blk.drew ?_) | (with_reducible refine Blk.alloc ?_ _) | ((with_reducible refine Blk.but ?_ hGc1 ?_); rotate_left; focus omega)))
        focus (first | omega | (simp only [World.size_drew, World.size_alloc]; omega))
        focus (intro i v hv; (rcases i with _ | _ | _ | i) <;> simp at hv <;> first | exact ⟨_, hv.symm⟩ | (cases hv))
        rintro e wc2 ⟨z2, rfl, hPc2, hGc2, hzc2⟩
        try simp only [World.size_drew, World.size_alloc] at hzc2
        try go_simp
        refine hK _ _ (fun hAW => ?_) ?_
        focus (exact (hPc2.below (by repeat (first | (with_reducible exact Below.refl _ _) | (with_reducible refine up_drew ?_) | (with_reducible refine up_alloc ?_ _)))).box.cell 1)
        clear hK K
        try simp only [Act.put, List.setIfInBounds_toArray, List.set_cons_zero, List.set_cons_succ]
        refine late_ready (rs := [9]) (by kernel_rfl) (by simp) ?_
        refine (LateReady.cons (o := ⟨_, _, _, _, _, _⟩) rfl (fun K hK => ?_) LateReady.nil)
        go_simp
        refine hK _ _ (fun hAW => ?_) ?_
        focus (exact (hPc2.below (by repeat (first | (with_reducible exact Below.refl _ _) | (with_reducible refine up_drew ?_) | (with_reducible refine up_alloc ?_ _)))).box.cell 1)
        clear hK K
        try simp only [Act.put, List.setIfInBounds_toArray, List.set_cons_zero, List.set_cons_succ]
        refine late_ready (rs := [10]) (by kernel_rfl) (by simp) ?_
        refine (LateReady.cons (o := ⟨_, _, _, _, _, _⟩) rfl (fun K hK => ?_) LateReady.nil)
        go_simp
        go_at_call 29
        (with_reducible refine (Ps.one (k := 3) (t := 3) (cs := #[.int .i64 0, .int .i64 (-1), .int .i64 10000]) hPc2 (by omega) (by repeat (first | (with_reducible exact Below.refl _ _) | (with_reducible refine up_drew ?_) | (with_reducible refine up_alloc ?_ _))) ?_ ?_ rfl (by omega) (by omega) ?_).mono ?_)
        focus (repeat (first | (with_reducible exact Blk.new _ _ _) | ((with_reducible refine Blk.new2 ?_); focus (simp; done)) | (with_reducible refine Blk.drew ?_) | (with_reducible refine Blk.alloc ?_ _) | ((with_reducible refine Blk.but ?_ hGc2 ?_); rotate_left; focus omega) | ((with_reducible refine Blk.but ?_ hGc1 ?_); rotate_left; focus omega)))
        focus (first | omega | (simp only [World.size_drew, World.size_alloc]; omega))
        focus (intro i v hv; (rcases i with _ | _ | _ | i) <;> simp at hv <;> first | exact ⟨_, hv.symm⟩ | (cases hv))
        rintro e wc3 ⟨z3, rfl, hPc3, hGc3, hzc3⟩
        try simp only [World.size_drew, World.size_alloc] at hzc3
        try go_simp
        refine hK _ _ (fun hAW => ?_) ?_
        focus (exact (hPc3.below (by repeat (first | (with_reducible exact Below.refl _ _) | (with_reducible refine up_drew ?_) | (with_reducible refine up_alloc ?_ _)))).box.cell 1)
        clear hK K
        try simp only [Act.put, List.setIfInBounds_toArray, List.set_cons_zero, List.set_cons_succ]
        rotate_left 1
        rotate_right 1
        rotate_left 1
        rotate_right 1
        rotate_left 1
        go_simp
        refine hK _ _ (fun hAW => ?_) ?_
        focus (exact (hPc1.below (by repeat (first | (with_reducible exact Below.refl _ _) | (with_reducible refine up_drew ?_) | (with_reducible refine up_alloc ?_ _)))).box.cell 1)
        clear hK K
        try simp only [Act.put, List.setIfInBounds_toArray, List.set_cons_zero, List.set_cons_succ]
        refine late_ready (rs := [7]) (by kernel_rfl) (by simp) ?_
        refine (LateReady.cons (o := ⟨_, _, _, _, _, _⟩) rfl (fun K hK => ?_) LateReady.nil)
        go_simp
        go_at_call 29
        (with_reducible refine (Ps.one (k := 2) (t := 3) (cs := #[.int .i64 0, .int .i64 100]) hPc1 (by omega) (by repeat (first | (with_reducible exact Below.refl _ _) | (with_reducible refine up_drew ?_) | (with_reducible refine up_alloc ?_ _))) ?_ ?_ rfl (by omega) (by omega) ?_).mono ?_)
        focus (repeat (first | (with_reducible exact Blk.new _ _ _) | ((with_reducible refine Blk.new2 ?_); focus (simp; done)) | (with_reducible refine Blk.drew ?_) | (with_reducible refine Blk.alloc ?_ _) | ((with_reducible refine Blk.but ?_ hGc1 ?_); rotate_left; focus omega)))
        focus (first | omega | (simp only [World.size_drew, World.size_alloc]; omega))
        focus (intro i v hv; (rcases i with _ | _ | _ | i) <;> simp at hv <;> first | exact ⟨_, hv.symm⟩ | (cases hv))
        rintro e wc2 ⟨z2, rfl, hPc2, hGc2, hzc2⟩
        try simp only [World.size_drew, World.size_alloc] at hzc2
        try go_simp
        refine hK _ _ (fun hAW => ?_) ?_
        focus (exact (hPc2.below (by repeat (first | (with_reducible exact Below.refl _ _) | (with_reducible refine up_drew ?_) | (with_reducible refine up_alloc ?_ _)))).box.cell 1)
        clear hK K
        try simp only [Act.put, List.setIfInBounds_toArray, List.set_cons_zero, List.set_cons_succ]
        refine late_ready (rs := [10]) (by kernel_rfl) (by simp) ?_
        refine (LateReady.cons (o := ⟨_, _, _, _, _, _⟩) rfl (fun K hK => ?_) LateReady.nil)
        go_simp
        go_at_call 29
        (with_reducible refine (Ps.one (k := 3) (t := 3) (cs := #[.int .i64 0, .int .i64 (-1), .int .i64 10000]) hPc2 (by omega) (by repeat (first | (with_reducible exact Below.refl _ _) | (with_reducible refine up_drew ?_) | (with_reducible refine up_alloc ?_ _))) ?_ ?_ rfl (by omega) (by omega) ?_).mono ?_)
        focus (repeat (first | (with_reducible exact Blk.new _ _ _) | ((with_reducible refine Blk.new2 ?_); focus (simp; done)) | (with_reducible refine Blk.drew ?_) | (with_reducible refine Blk.alloc ?_ _) | ((with_reducible refine Blk.but ?_ hGc2 ?_); rotate_left; focus omega) | ((with_reducible refine Blk.but ?_ hGc1 ?_); rotate_left; focus omega)))
        focus (first | omega | (simp only [World.size_drew, World.size_alloc]; omega))
        focus (intro i v hv; (rcases i with _ | _ | _ | i) <;> simp at hv <;> first | exact ⟨_, hv.symm⟩ | (cases hv))
        rintro e wc3 ⟨z3, rfl, hPc3, hGc3, hzc3⟩
        try simp only [World.size_drew, World.size_alloc] at hzc3
        try go_simp
        refine hK _ _ (fun hAW => ?_) ?_
        focus (exact (hPc3.below (by repeat (first | (with_reducible exact Below.refl _ _) | (with_reducible refine up_drew ?_) | (with_reducible refine up_alloc ?_ _)))).box.cell 1)
        clear hK K
        try simp only [Act.put, List.setIfInBounds_toArray, List.set_cons_zero, List.set_cons_succ]
        rotate_left 1
        rotate_right 1
        rotate_left 1
        rotate_right 1
        rotate_left 1
        rotate_right 2
        rotate_left 2
        go_simp
        refine hK _ _ (fun hAW => ?_) ?_
        focus (exact (hPc1.below (by repeat (first | (with_reducible exact Below.refl _ _) | (with_reducible refine up_drew ?_) | (with_reducible refine up_alloc ?_ _)))).box.cell 1)
        clear hK K
        try simp only [Act.put, List.setIfInBounds_toArray, List.set_cons_zero, List.set_cons_succ]
        refine late_ready (rs := [6]) (by kernel_rfl) (by simp) ?_
        refine (LateReady.cons (o := ⟨_, _, _, _, _, _⟩) rfl (fun K hK => ?_) LateReady.nil)
        go_simp
        refine hK _ _ (fun hAW => ?_) ?_
        focus (exact (hPc1.below (by repeat (first | (with_reducible exact Below.refl _ _) | (with_reducible refine up_drew ?_) | (with_reducible refine up_alloc ?_ _)))).box.cell 1)
        clear hK K
        try simp only [Act.put, List.setIfInBounds_toArray, List.set_cons_zero, List.set_cons_succ]
        refine late_ready (rs := [7]) (by kernel_rfl) (by simp) ?_
        refine (LateReady.cons (o := ⟨_, _, _, _, _, _⟩) rfl (fun K hK => ?_) LateReady.nil)
        go_simp
        go_at_call 29
        (with_reducible refine (Ps.one (k := 2) (t := 3) (cs := #[.int .i64 0, .int .i64 100]) hPc1 (by omega) (by repeat (first | (with_reducible exact Below.refl _ _) | (with_reducible refine up_drew ?_) | (with_reducible refine up_alloc ?_ _))) ?_ ?_ rfl (by omega) (by omega) ?_).mono ?_)
        focus (repeat (first | (with_reducible exact Blk.new _ _ _) | ((with_reducible refine Blk.new2 ?_); focus (simp; done)) | (with_reducible refine Blk.drew ?_) | (with_reducible refine Blk.alloc ?_ _) | ((with_reducible refine Blk.but ?_ hGc1 ?_); rotate_left; focus omega)))
        focus (first | omega | (simp only [World.size_drew, World.size_alloc]; omega))
        focus (intro i v hv; (rcases i with _ | _ | _ | i) <;> simp at hv <;> first | exact ⟨_, hv.symm⟩ | (cases hv))
        rintro e wc2 ⟨z2, rfl, hPc2, hGc2, hzc2⟩
        try simp only [World.size_drew, World.size_alloc] at hzc2
        try go_simp
        refine hK _ _ (fun hAW => ?_) ?_
        focus (exact (hPc2.below (by repeat (first | (with_reducible exact Below.refl _ _) | (with_reducible refine up_drew ?_) | (with_reducible refine up_alloc ?_ _)))).box.cell 1)
        clear hK K
        try simp only [Act.put, List.setIfInBounds_toArray, List.set_cons_zero, List.set_cons_succ]
        refine late_ready (rs := [10]) (by kernel_rfl) (by simp) ?_
        refine (LateReady.cons (o := ⟨_, _, _, _, _, _⟩) rfl (fun K hK => ?_) LateReady.nil)
        go_simp
        go_at_call 29
        (with_reducible refine (Ps.one (k := 3) (t := 3) (cs := #[.int .i64 0, .int .i64 (-1), .int .i64 10000]) hPc2 (by omega) (by repeat (first | (with_reducible exact Below.refl _ _) | (with_reducible refine up_drew ?_) | (with_reducible refine up_alloc ?_ _))) ?_ ?_ rfl (by omega) (by omega) ?_).mono ?_)
        focus (repeat (first | (with_reducible exact Blk.new _ _ _) | ((with_reducible refine Blk.new2 ?_); focus (simp; done)) | (with_reducible refine Blk.drew ?_) | (with_reducible refine Blk.alloc ?_ _) | ((with_reducible refine Blk.but ?_ hGc2 ?_); rotate_left; focus omega) | ((with_reducible refine Blk.but ?_ hGc1 ?_); rotate_left; focus omega)))
        focus (first | omega | (simp only [World.size_drew, World.size_alloc]; omega))
        focus (intro i v hv; (rcases i with _ | _ | _ | i) <;> simp at hv <;> first | exact ⟨_, hv.symm⟩ | (cases hv))
        rintro e wc3 ⟨z3, rfl, hPc3, hGc3, hzc3⟩
        try simp only [World.size_drew, World.size_alloc] at hzc3
        try go_simp
        refine hK _ _ (fun hAW => ?_) ?_
        focus (exact (hPc3.below (by repeat (first | (with_reducible exact Below.refl _ _) | (with_reducible refine up_drew ?_) | (with_reducible refine up_alloc ?_ _)))).box.cell 1)
        clear hK K
        try simp only [Act.put, List.setIfInBounds_toArray, List.set_cons_zero, List.set_cons_succ]
        rotate_left 1
        rotate_right 1
        rotate_left 1
        rotate_right 1
        rotate_left 1
        rotate_right 1
        rotate_left 1
        rotate_right 3
        rotate_left 3
        go_simp
        refine hK _ _ (fun hAW => ?_) ?_
        focus (exact (HP3.out.below (by repeat (first | (with_reducible exact Below.refl _ _) | (with_reducible refine up_drew ?_) | (with_reducible refine up_alloc ?_ _)))).box.cell 1)
        clear hK K
        try simp only [Act.put, List.setIfInBounds_toArray, List.set_cons_zero, List.set_cons_succ]
        refine late_ready (rs := [4, 9]) (by kernel_rfl) (by simp) ?_
        refine (LateReady.cons (o := ⟨_, _, _, _, _, _⟩) rfl (fun K hK => ?_) (LateReady.cons (o := ⟨_, _, _, _, _, _⟩) rfl (fun K hK => ?_) LateReady.nil))
        go_simp
        go_at_call 29
        (with_reducible refine (Ps.one (k := 3) (t := 3) (cs := #[.int .i64 (-1), .int .i64 0, .int .i64 10]) HP3.out (by omega) (by repeat (first | (with_reducible exact Below.refl _ _) | (with_reducible refine up_drew ?_) | (with_reducible refine up_alloc ?_ _))) ?_ ?_ rfl (by omega) (by omega) ?_).mono ?_)
        focus (repeat (first | (with_reducible exact Blk.new _ _ _) | ((with_reducible refine Blk.new2 ?_); focus (simp; done)) | (with_reducible refine Blk.drew ?_) | (with_reducible refine Blk.alloc ?_ _)))
        focus (first | omega | (simp only [World.size_drew, World.size_alloc]; omega))
        focus (intro i v hv; (rcases i with _ | _ | _ | i) <;> simp at hv <;> first | exact ⟨_, hv.symm⟩ | (cases hv))
        rintro e wc1 ⟨z1, rfl, hPc1, hGc1, hzc1⟩
        try simp only [World.size_drew, World.size_alloc] at hzc1
        try go_simp
        refine hK _ _ (fun hAW => ?_) ?_
        focus (exact (hPc1.below (by repeat (first | (with_reducible exact Below.refl _ _) | (with_reducible refine up_drew ?_) | (with_reducible refine up_alloc ?_ _)))).box.cell 1)
        clear hK K
        try simp only [Act.put, List.setIfInBounds_toArray, List.set_cons_zero, List.set_cons_succ]
        refine late_ready (rs := [7, 9]) (by kernel_rfl) (by simp) ?_
        refine (LateReady.cons (o := ⟨_, _, _, _, _, _⟩) rfl (fun K hK => ?_) (LateReady.cons (o := ⟨_, _, _, _, _, _⟩) rfl (fun K hK => ?_) LateReady.nil))
        go_simp
        go_at_call 29
        (with_reducible refine (Ps.one (k := 2) (t := 3) (cs := #[.int .i64 0, .int .i64 100]) hPc1 (by omega) (by repeat (first | (with_reducible exact Below.refl _ _) | (with_reducible refine up_drew ?_) | (with_reducible refine up_alloc ?_ _))) ?_ ?_ rfl (by omega) (by omega) ?_).mono ?_)
        focus (repeat (first | (with_reducible exact Blk.new _ _ _) | ((with_reducible refine Blk.new2 ?_); focus (simp; done)) | (with_reducible refine Blk.drew ?_) | (with_reducible refine Blk.alloc ?_ _) | ((with_reducible refine Blk.but ?_ hGc1 ?_); rotate_left; focus omega)))
        focus (first | omega | (simp only [World.size_drew, World.size_alloc]; omega))
        focus (intro i v hv; (rcases i with _ | _ | _ | i) <;> simp at hv <;> first | exact ⟨_, hv.symm⟩ | (cases hv))
        rintro e wc2 ⟨z2, rfl, hPc2, hGc2, hzc2⟩
        try simp only [World.size_drew, World.size_alloc] at hzc2
        try go_simp
        refine hK _ _ (fun hAW => ?_) ?_
        focus (exact (hPc2.below (by repeat (first | (with_reducible exact Below.refl _ _) | (with_reducible refine up_drew ?_) | (with_reducible refine up_alloc ?_ _)))).box.cell 1)
        clear hK K
        try simp only [Act.put, List.setIfInBounds_toArray, List.set_cons_zero, List.set_cons_succ]
        refine late_ready (rs := [9]) (by kernel_rfl) (by simp) ?_
        refine (LateReady.cons (o := ⟨_, _, _, _, _, _⟩) rfl (fun K hK => ?_) LateReady.nil)
        go_simp
        refine hK _ _ (fun hAW => ?_) ?_
        focus (exact (hPc2.below (by repeat (first | (with_reducible exact Below.refl _ _) | (with_reducible refine up_drew ?_) | (with_reducible refine up_alloc ?_ _)))).box.cell 1)
        clear hK K
        try simp only [Act.put, List.setIfInBounds_toArray, List.set_cons_zero, List.set_cons_succ]
        refine late_ready (rs := [10]) (by kernel_rfl) (by simp) ?_
        refine (LateReady.cons (o := ⟨_, _, _, _, _, _⟩) rfl (fun K hK => ?_) LateReady.nil)
        go_simp
        go_at_call 29
        (with_reducible refine (Ps.one (k := 3) (t := 3) (cs := #[.int .i64 0, .int .i64 (-1), .int .i64 10000]) hPc2 (by omega) (by repeat (first | (with_reducible exact Below.refl _ _) | (with_reducible refine up_drew ?_) | (with_reducible refine up_alloc ?_ _))) ?_ ?_ rfl (by omega) (by omega) ?_).mono ?_)
        focus (repeat (first | (with_reducible exact Blk.new _ _ _) | ((with_reducible refine Blk.new2 ?_); focus (simp; done)) | (with_reducible refine Blk.drew ?_) | (with_reducible refine Blk.alloc ?_ _) | ((with_reducible refine Blk.but ?_ hGc2 ?_); rotate_left; focus omega) | ((with_reducible refine Blk.but ?_ hGc1 ?_); rotate_left; focus omega)))
        focus (first | omega | (simp only [World.size_drew, World.size_alloc]; omega))
        focus (intro i v hv; (rcases i with _ | _ | _ | i) <;> simp at hv <;> first | exact ⟨_, hv.symm⟩ | (cases hv))
        rintro e wc3 ⟨z3, rfl, hPc3, hGc3, hzc3⟩
        try simp only [World.size_drew, World.size_alloc] at hzc3
        try go_simp
        refine hK _ _ (fun hAW => ?_) ?_
        focus (exact (hPc3.below (by repeat (first | (with_reducible exact Below.refl _ _) | (with_reducible refine up_drew ?_) | (with_reducible refine up_alloc ?_ _)))).box.cell 1)
        clear hK K
        try simp only [Act.put, List.setIfInBounds_toArray, List.set_cons_zero, List.set_cons_succ]
        rotate_left 1
        rotate_right 1
        rotate_left 1
        rotate_right 1
        rotate_left 1
        go_simp
        refine hK _ _ (fun hAW => ?_) ?_
        focus (exact (hPc1.below (by repeat (first | (with_reducible exact Below.refl _ _) | (with_reducible refine up_drew ?_) | (with_reducible refine up_alloc ?_ _)))).box.cell 1)
        clear hK K
        try simp only [Act.put, List.setIfInBounds_toArray, List.set_cons_zero, List.set_cons_succ]
        refine late_ready (rs := [7]) (by kernel_rfl) (by simp) ?_
        refine (LateReady.cons (o := ⟨_, _, _, _, _, _⟩) rfl (fun K hK => ?_) LateReady.nil)
        go_simp
        go_at_call 29
        (with_reducible refine (Ps.one (k := 2) (t := 3) (cs := #[.int .i64 0, .int .i64 100]) hPc1 (by omega) (by repeat (first | (with_reducible exact Below.refl _ _) | (with_reducible refine up_drew ?_) | (with_reducible refine up_alloc ?_ _))) ?_ ?_ rfl (by omega) (by omega) ?_).mono ?_)
        focus (repeat (first | (with_reducible exact Blk.new _ _ _) | ((with_reducible refine Blk.new2 ?_); focus (simp; done)) | (with_reducible refine Blk.drew ?_) | (with_reducible refine Blk.alloc ?_ _) | ((with_reducible refine Blk.but ?_ hGc1 ?_); rotate_left; focus omega)))
        focus (first | omega | (simp only [World.size_drew, World.size_alloc]; omega))
        focus (intro i v hv; (rcases i with _ | _ | _ | i) <;> simp at hv <;> first | exact ⟨_, hv.symm⟩ | (cases hv))
        rintro e wc2 ⟨z2, rfl, hPc2, hGc2, hzc2⟩
        try simp only [World.size_drew, World.size_alloc] at hzc2
        try go_simp
        refine hK _ _ (fun hAW => ?_) ?_
        focus (exact (hPc2.below (by repeat (first | (with_reducible exact Below.refl _ _) | (with_reducible refine up_drew ?_) | (with_reducible refine up_alloc ?_ _)))).box.cell 1)
        clear hK K
        try simp only [Act.put, List.setIfInBounds_toArray, List.set_cons_zero, List.set_cons_succ]
        refine late_ready (rs := [10]) (by kernel_rfl) (by simp) ?_
        refine (LateReady.cons (o := ⟨_, _, _, _, _, _⟩) rfl (fun K hK => ?_) LateReady.nil)
        go_simp
        go_at_call 29
        (with_reducible refine (Ps.one (k := 3) (t := 3) (cs := #[.int .i64 0, .int .i64 (-1), .int .i64 10000]) hPc2 (by omega) (by repeat (first | (with_reducible exact Below.refl _ _) | (with_reducible refine up_drew ?_) | (with_reducible refine up_alloc ?_ _))) ?_ ?_ rfl (by omega) (by omega) ?_).mono ?_)
        focus (repeat (first | (with_reducible exact Blk.new _ _ _) | ((with_reducible refine Blk.new2 ?_); focus (simp; done)) | (with_reducible refine Blk.drew ?_) | (with_reducible refine Blk.alloc ?_ _) | ((with_reducible refine Blk.but ?_ hGc2 ?_); rotate_left; focus omega) | ((with_reducible refine Blk.but ?_ hGc1 ?_); rotate_left; focus omega)))
        focus (first | omega | (simp only [World.size_drew, World.size_alloc]; omega))
        focus (intro i v hv; (rcases i with _ | _ | _ | i) <;> simp at hv <;> first | exact ⟨_, hv.symm⟩ | (cases hv))
        rintro e wc3 ⟨z3, rfl, hPc3, hGc3, hzc3⟩
        try simp only [World.size_drew, World.size_alloc] at hzc3
        try go_simp
        refine hK _ _ (fun hAW => ?_) ?_
        focus (exact (hPc3.below (by repeat (first | (with_reducible exact Below.refl _ _) | (with_reducible refine up_drew ?_) | (with_reducible refine up_alloc ?_ _)))).box.cell 1)
        clear hK K
        try simp only [Act.put, List.setIfInBounds_toArray, List.set_cons_zero, List.set_cons_succ]
        rotate_left 1
        rotate_right 1
        rotate_left 1
        rotate_right 1
        rotate_left 1
        rotate_right 2
        rotate_left 2
        go_simp
        refine hK _ _ (fun hAW => ?_) ?_
        focus (exact (HP3.out.below (by repeat (first | (with_reducible exact Below.refl _ _) | (with_reducible refine up_drew ?_) | (with_reducible refine up_alloc ?_ _)))).box.cell 1)
        clear hK K
        try simp only [Act.put, List.setIfInBounds_toArray, List.set_cons_zero, List.set_cons_succ]
        refine late_ready (rs := [4]) (by kernel_rfl) (by simp) ?_
        refine (LateReady.cons (o := ⟨_, _, _, _, _, _⟩) rfl (fun K hK => ?_) LateReady.nil)
        go_simp
        go_at_call 29
        (with_reducible refine (Ps.one (k := 3) (t := 3) (cs := #[.int .i64 (-1), .int .i64 0, .int .i64 10]) HP3.out (by omega) (by repeat (first | (with_reducible exact Below.refl _ _) | (with_reducible refine up_drew ?_) | (with_reducible refine up_alloc ?_ _))) ?_ ?_ rfl (by omega) (by omega) ?_).mono ?_)
        focus (repeat (first | (with_reducible exact Blk.new _ _ _) | ((with_reducible refine Blk.new2 ?_); focus (simp; done)) | (with_reducible refine Blk.drew ?_) | (with_reducible refine Blk.alloc ?_ _)))
        focus (first | omega | (simp only [World.size_drew, World.size_alloc]; omega))
        focus (intro i v hv; (rcases i with _ | _ | _ | i) <;> simp at hv <;> first | exact ⟨_, hv.symm⟩ | (cases hv))
        rintro e wc1 ⟨z1, rfl, hPc1, hGc1, hzc1⟩
        try simp only [World.size_drew, World.size_alloc] at hzc1
        try go_simp
        refine hK _ _ (fun hAW => ?_) ?_
        focus (exact (hPc1.below (by repeat (first | (with_reducible exact Below.refl _ _) | (with_reducible refine up_drew ?_) | (with_reducible refine up_alloc ?_ _)))).box.cell 1)
        clear hK K
        try simp only [Act.put, List.setIfInBounds_toArray, List.set_cons_zero, List.set_cons_succ]
        refine late_ready (rs := [7]) (by kernel_rfl) (by simp) ?_
        refine (LateReady.cons (o := ⟨_, _, _, _, _, _⟩) rfl (fun K hK => ?_) LateReady.nil)
        go_simp
        go_at_call 29
        (with_reducible refine (Ps.one (k := 2) (t := 3) (cs := #[.int .i64 0, .int .i64 100]) hPc1 (by omega) (by repeat (first | (with_reducible exact Below.refl _ _) | (with_reducible refine up_drew ?_) | (with_reducible refine up_alloc ?_ _))) ?_ ?_ rfl (by omega) (by omega) ?_).mono ?_)
        focus (repeat (first | (with_reducible exact Blk.new _ _ _) | ((with_reducible refine Blk.new2 ?_); focus (simp; done)) | (with_reducible refine Blk.drew ?_) | (with_reducible refine Blk.alloc ?_ _) | ((with_reducible refine Blk.but ?_ hGc1 ?_); rotate_left; focus omega)))
        focus (first | omega | (simp only [World.size_drew, World.size_alloc]; omega))
        focus (intro i v hv; (rcases i with _ | _ | _ | i) <;> simp at hv <;> first | exact ⟨_, hv.symm⟩ | (cases hv))
        rintro e wc2 ⟨z2, rfl, hPc2, hGc2, hzc2⟩
        try simp only [World.size_drew, World.size_alloc] at hzc2
        try go_simp
        refine hK _ _ (fun hAW => ?_) ?_
        focus (exact (hPc2.below (by repeat (first | (with_reducible exact Below.refl _ _) | (with_reducible refine up_drew ?_) | (with_reducible refine up_alloc ?_ _)))).box.cell 1)
        clear hK K
        try simp only [Act.put, List.setIfInBounds_toArray, List.set_cons_zero, List.set_cons_succ]
        refine late_ready (rs := [10]) (by kernel_rfl) (by simp) ?_
        refine (LateReady.cons (o := ⟨_, _, _, _, _, _⟩) rfl (fun K hK => ?_) LateReady.nil)
        go_simp
        go_at_call 29
        (with_reducible refine (Ps.one (k := 3) (t := 3) (cs := #[.int .i64 0, .int .i64 (-1), .int .i64 10000]) hPc2 (by omega) (by repeat (first | (with_reducible exact Below.refl _ _) | (with_reducible refine up_drew ?_) | (with_reducible refine up_alloc ?_ _))) ?_ ?_ rfl (by omega) (by omega) ?_).mono ?_)
        focus (repeat (first | (with_reducible exact Blk.new _ _ _) | ((with_reducible refine Blk.new2 ?_); focus (simp; done)) | (with_reducible refine Blk.drew ?_) | (with_reducible refine Blk.alloc ?_ _) | ((with_reducible refine Blk.but ?_ hGc2 ?_); rotate_left; focus omega) | ((with_reducible refine Blk.but ?_ hGc1 ?_); rotate_left; focus omega)))
        focus (first | omega | (simp only [World.size_drew, World.size_alloc]; omega))
        focus (intro i v hv; (rcases i with _ | _ | _ | i) <;> simp at hv <;> first | exact ⟨_, hv.symm⟩ | (cases hv))
        rintro e wc3 ⟨z3, rfl, hPc3, hGc3, hzc3⟩
        try simp only [World.size_drew, World.size_alloc] at hzc3
        try go_simp
        refine hK _ _ (fun hAW => ?_) ?_
        focus (exact (hPc3.below (by repeat (first | (with_reducible exact Below.refl _ _) | (with_reducible refine up_drew ?_) | (with_reducible refine up_alloc ?_ _)))).box.cell 1)
        clear hK K
        try simp only [Act.put, List.setIfInBounds_toArray, List.set_cons_zero, List.set_cons_succ]
        rotate_left 1
        rotate_right 1
        rotate_left 1
        rotate_right 1
        rotate_left 1
        rotate_right 1
        rotate_left 1
        rotate_right 3
        rotate_left 3
        go_simp
        refine hK _ _ (fun hAW => ?_) ?_
        focus (exact (HP3.out.below (by repeat (first | (with_reducible exact Below.refl _ _) | (with_reducible refine up_drew ?_) | (with_reducible refine up_alloc ?_ _)))).box.cell 1)
        clear hK K
        try simp only [Act.put, List.setIfInBounds_toArray, List.set_cons_zero, List.set_cons_succ]
        refine late_ready (rs := [4, 6]) (by kernel_rfl) (by simp) ?_
        refine (LateReady.cons (o := ⟨_, _, _, _, _, _⟩) rfl (fun K hK => ?_) (LateReady.cons (o := ⟨_, _, _, _, _, _⟩) rfl (fun K hK => ?_) LateReady.nil))
        go_simp
        go_at_call 29
        (with_reducible refine (Ps.one (k := 3) (t := 3) (cs := #[.int .i64 (-1), .int .i64 0, .int .i64 10]) HP3.out (by omega) (by repeat (first | (with_reducible exact Below.refl _ _) | (with_reducible refine up_drew ?_) | (with_reducible refine up_alloc ?_ _))) ?_ ?_ rfl (by omega) (by omega) ?_).mono ?_)
        focus (repeat (first | (with_reducible exact Blk.new _ _ _) | ((with_reducible refine Blk.new2 ?_); focus (simp; done)) | (with_reducible refine Blk.drew ?_) | (with_reducible refine Blk.alloc ?_ _)))
        focus (first | omega | (simp only [World.size_drew, World.size_alloc]; omega))
        focus (intro i v hv; (rcases i with _ | _ | _ | i) <;> simp at hv <;> first | exact ⟨_, hv.symm⟩ | (cases hv))
        rintro e wc1 ⟨z1, rfl, hPc1, hGc1, hzc1⟩
        try simp only [World.size_drew, World.size_alloc] at hzc1
        try go_simp
        refine hK _ _ (fun hAW => ?_) ?_
        focus (exact (hPc1.below (by repeat (first | (with_reducible exact Below.refl _ _) | (with_reducible refine up_drew ?_) | (with_reducible refine up_alloc ?_ _)))).box.cell 1)
        clear hK K
        try simp only [Act.put, List.setIfInBounds_toArray, List.set_cons_zero, List.set_cons_succ]
        refine late_ready (rs := [6]) (by kernel_rfl) (by simp) ?_
        refine (LateReady.cons (o := ⟨_, _, _, _, _, _⟩) rfl (fun K hK => ?_) LateReady.nil)
        go_simp
        refine hK _ _ (fun hAW => ?_) ?_
        focus (exact (hPc1.below (by repeat (first | (with_reducible exact Below.refl _ _) | (with_reducible refine up_drew ?_) | (with_reducible refine up_alloc ?_ _)))).box.cell 1)
        clear hK K
        try simp only [Act.put, List.setIfInBounds_toArray, List.set_cons_zero, List.set_cons_succ]
        refine late_ready (rs := [7]) (by kernel_rfl) (by simp) ?_
        refine (LateReady.cons (o := ⟨_, _, _, _, _, _⟩) rfl (fun K hK => ?_) LateReady.nil)
        go_simp
        go_at_call 29
        (with_reducible refine (Ps.one (k := 2) (t := 3) (cs := #[.int .i64 0, .int .i64 100]) hPc1 (by omega) (by repeat (first | (with_reducible exact Below.refl _ _) | (with_reducible refine up_drew ?_) | (with_reducible refine up_alloc ?_ _))) ?_ ?_ rfl (by omega) (by omega) ?_).mono ?_)
        focus (repeat (first | (with_reducible exact Blk.new _ _ _) | ((with_reducible refine Blk.new2 ?_); focus (simp; done)) | (with_reducible refine Blk.drew ?_) | (with_reducible refine Blk.alloc ?_ _) | ((with_reducible refine Blk.but ?_ hGc1 ?_); rotate_left; focus omega)))
        focus (first | omega | (simp only [World.size_drew, World.size_alloc]; omega))
        focus (intro i v hv; (rcases i with _ | _ | _ | i) <;> simp at hv <;> first | exact ⟨_, hv.symm⟩ | (cases hv))
        rintro e wc2 ⟨z2, rfl, hPc2, hGc2, hzc2⟩
        try simp only [World.size_drew, World.size_alloc] at hzc2
        try go_simp
        refine hK _ _ (fun hAW => ?_) ?_
        focus (exact (hPc2.below (by repeat (first | (with_reducible exact Below.refl _ _) | (with_reducible refine up_drew ?_) | (with_reducible refine up_alloc ?_ _)))).box.cell 1)
        clear hK K
        try simp only [Act.put, List.setIfInBounds_toArray, List.set_cons_zero, List.set_cons_succ]
        refine late_ready (rs := [10]) (by kernel_rfl) (by simp) ?_
        refine (LateReady.cons (o := ⟨_, _, _, _, _, _⟩) rfl (fun K hK => ?_) LateReady.nil)
        go_simp
        go_at_call 29
        (with_reducible refine (Ps.one (k := 3) (t := 3) (cs := #[.int .i64 0, .int .i64 (-1), .int .i64 10000]) hPc2 (by omega) (by repeat (first | (with_reducible exact Below.refl _ _) | (with_reducible refine up_drew ?_) | (with_reducible refine up_alloc ?_ _))) ?_ ?_ rfl (by omega) (by omega) ?_).mono ?_)
        focus (repeat (first | (with_reducible exact Blk.new _ _ _) | ((with_reducible refine Blk.new2 ?_); focus (simp; done)) | (with_reducible refine Blk.drew ?_) | (with_reducible refine Blk.alloc ?_ _) | ((with_reducible refine Blk.but ?_ hGc2 ?_); rotate_left; focus omega) | ((with_reducible refine Blk.but ?_ hGc1 ?_); rotate_left; focus omega)))
        focus (first | omega | (simp only [World.size_drew, World.size_alloc]; omega))
        focus (intro i v hv; (rcases i with _ | _ | _ | i) <;> simp at hv <;> first | exact ⟨_, hv.symm⟩ | (cases hv))
        rintro e wc3 ⟨z3, rfl, hPc3, hGc3, hzc3⟩
        try simp only [World.size_drew, World.size_alloc] at hzc3
        try go_simp
        refine hK _ _ (fun hAW => ?_) ?_
        focus (exact (hPc3.below (by repeat (first | (with_reducible exact Below.refl _ _) | (with_reducible refine up_drew ?_) | (with_reducible refine up_alloc ?_ _)))).box.cell 1)
        clear hK K
        try simp only [Act.put, List.setIfInBounds_toArray, List.set_cons_zero, List.set_cons_succ]
        rotate_left 1
        rotate_right 1
        rotate_left 1
        rotate_right 1
        rotate_left 1
        rotate_right 1
        rotate_left 1
        go_simp
        refine hK _ _ (fun hAW => ?_) ?_
        focus (exact (HP3.out.below (by repeat (first | (with_reducible exact Below.refl _ _) | (with_reducible refine up_drew ?_) | (with_reducible refine up_alloc ?_ _)))).box.cell 1)
        clear hK K
        try simp only [Act.put, List.setIfInBounds_toArray, List.set_cons_zero, List.set_cons_succ]
        refine late_ready (rs := [4]) (by kernel_rfl) (by simp) ?_
        refine (LateReady.cons (o := ⟨_, _, _, _, _, _⟩) rfl (fun K hK => ?_) LateReady.nil)
        go_simp
        go_at_call 29
        (with_reducible refine (Ps.one (k := 3) (t := 3) (cs := #[.int .i64 (-1), .int .i64 0, .int .i64 10]) HP3.out (by omega) (by repeat (first | (with_reducible exact Below.refl _ _) | (with_reducible refine up_drew ?_) | (with_reducible refine up_alloc ?_ _))) ?_ ?_ rfl (by omega) (by omega) ?_).mono ?_)
        focus (repeat (first | (with_reducible exact Blk.new _ _ _) | ((with_reducible refine Blk.new2 ?_); focus (simp; done)) | (with_reducible refine Blk.drew ?_) | (with_reducible refine Blk.alloc ?_ _)))
        focus (first | omega | (simp only [World.size_drew, World.size_alloc]; omega))
        focus (intro i v hv; (rcases i with _ | _ | _ | i) <;> simp at hv <;> first | exact ⟨_, hv.symm⟩ | (cases hv))
        rintro e wc1 ⟨z1, rfl, hPc1, hGc1, hzc1⟩
        try simp only [World.size_drew, World.size_alloc] at hzc1
        try go_simp
        refine hK _ _ (fun hAW => ?_) ?_
        focus (exact (hPc1.below (by repeat (first | (with_reducible exact Below.refl _ _) | (with_reducible refine up_drew ?_) | (with_reducible refine up_alloc ?_ _)))).box.cell 1)
        clear hK K
        try simp only [Act.put, List.setIfInBounds_toArray, List.set_cons_zero, List.set_cons_succ]
        refine late_ready (rs := [7]) (by kernel_rfl) (by simp) ?_
        refine (LateReady.cons (o := ⟨_, _, _, _, _, _⟩) rfl (fun K hK => ?_) LateReady.nil)
        go_simp
        go_at_call 29
        (with_reducible refine (Ps.one (k := 2) (t := 3) (cs := #[.int .i64 0, .int .i64 100]) hPc1 (by omega) (by repeat (first | (with_reducible exact Below.refl _ _) | (with_reducible refine up_drew ?_) | (with_reducible refine up_alloc ?_ _))) ?_ ?_ rfl (by omega) (by omega) ?_).mono ?_)
        focus (repeat (first | (with_reducible exact Blk.new _ _ _) | ((with_reducible refine Blk.new2 ?_); focus (simp; done)) | (with_reducible refine Blk.drew ?_) | (with_reducible refine Blk.alloc ?_ _) | ((with_reducible refine Blk.but ?_ hGc1 ?_); rotate_left; focus omega)))
        focus (first | omega | (simp only [World.size_drew, World.size_alloc]; omega))
        focus (intro i v hv; (rcases i with _ | _ | _ | i) <;> simp at hv <;> first | exact ⟨_, hv.symm⟩ | (cases hv))
        rintro e wc2 ⟨z2, rfl, hPc2, hGc2, hzc2⟩
        try simp only [World.size_drew, World.size_alloc] at hzc2
        try go_simp
        refine hK _ _ (fun hAW => ?_) ?_
        focus (exact (hPc2.below (by repeat (first | (with_reducible exact Below.refl _ _) | (with_reducible refine up_drew ?_) | (with_reducible refine up_alloc ?_ _)))).box.cell 1)
        clear hK K
        try simp only [Act.put, List.setIfInBounds_toArray, List.set_cons_zero, List.set_cons_succ]
        refine late_ready (rs := [10]) (by kernel_rfl) (by simp) ?_
        refine (LateReady.cons (o := ⟨_, _, _, _, _, _⟩) rfl (fun K hK => ?_) LateReady.nil)
        go_simp
        go_at_call 29
        (with_reducible refine (Ps.one (k := 3) (t := 3) (cs := #[.int .i64 0, .int .i64 (-1), .int .i64 10000]) hPc2 (by omega) (by repeat (first | (with_reducible exact Below.refl _ _) | (with_reducible refine up_drew ?_) | (with_reducible refine up_alloc ?_ _))) ?_ ?_ rfl (by omega) (by omega) ?_).mono ?_)
        focus (repeat (first | (with_reducible exact Blk.new _ _ _) | ((with_reducible refine Blk.new2 ?_); focus (simp; done)) | (with_reducible refine Blk.drew ?_) | (with_reducible refine Blk.alloc ?_ _) | ((with_reducible refine Blk.but ?_ hGc2 ?_); rotate_left; focus omega) | ((with_reducible refine Blk.but ?_ hGc1 ?_); rotate_left; focus omega)))
        focus (first | omega | (simp only [World.size_drew, World.size_alloc]; omega))
        focus (intro i v hv; (rcases i with _ | _ | _ | i) <;> simp at hv <;> first | exact ⟨_, hv.symm⟩ | (cases hv))
        rintro e wc3 ⟨z3, rfl, hPc3, hGc3, hzc3⟩
        try simp only [World.size_drew, World.size_alloc] at hzc3
        try go_simp
        refine hK _ _ (fun hAW => ?_) ?_
        focus (exact (hPc3.below (by repeat (first | (with_reducible exact Below.refl _ _) | (with_reducible refine up_drew ?_) | (with_reducible refine up_alloc ?_ _)))).box.cell 1)
        clear hK K
        try simp only [Act.put, List.setIfInBounds_toArray, List.set_cons_zero, List.set_cons_succ]
        rotate_left 1
        rotate_right 1
        rotate_left 1
        rotate_right 1
        rotate_left 1
        rotate_right 1
        rotate_left 1
        rotate_right 2
        rotate_left 2
        rotate_right 8
        rotate_left 8
        go_simp
        refine hK _ _ (fun hAW => ?_) ?_
        focus (exact (HP3.out.below (by repeat (first | (with_reducible exact Below.refl _ _) | (with_reducible refine up_drew ?_) | (with_reducible refine up_alloc ?_ _)))).box.cell 1)
        clear hK K
        try simp only [Act.put, List.setIfInBounds_toArray, List.set_cons_zero, List.set_cons_succ]
        refine late_ready (rs := [3, 9]) (by kernel_rfl) (by simp) ?_
        refine (LateReady.cons (o := ⟨_, _, _, _, _, _⟩) rfl (fun K hK => ?_) (LateReady.cons (o := ⟨_, _, _, _, _, _⟩) rfl (fun K hK => ?_) LateReady.nil))
        go_simp
        refine hK _ _ (fun hAW => ?_) ?_
        focus (exact (HP3.out.below (by repeat (first | (with_reducible exact Below.refl _ _) | (with_reducible refine up_drew ?_) | (with_reducible refine up_alloc ?_ _)))).box.cell 1)
        clear hK K
        try simp only [Act.put, List.setIfInBounds_toArray, List.set_cons_zero, List.set_cons_succ]
        refine late_ready (rs := [4, 9]) (by kernel_rfl) (by simp) ?_
        refine (LateReady.cons (o := ⟨_, _, _, _, _, _⟩) rfl (fun K hK => ?_) (LateReady.cons (o := ⟨_, _, _, _, _, _⟩) rfl (fun K hK => ?_) LateReady.nil))
        go_simp
        go_at_call 29
        (with_reducible refine (Ps.one (k := 3) (t := 3) (cs := #[.int .i64 (-1), .int .i64 0, .int .i64 10]) HP3.out (by omega) (by repeat (first | (with_reducible exact Below.refl _ _) | (with_reducible refine up_drew ?_) | (with_reducible refine up_alloc ?_ _))) ?_ ?_ rfl (by omega) (by omega) ?_).mono ?_)
        focus (repeat (first | (with_reducible exact Blk.new _ _ _) | ((with_reducible refine Blk.new2 ?_); focus (simp; done)) | (with_reducible refine Blk.drew ?_) | (with_reducible refine Blk.alloc ?_ _)))
        focus (first | omega | (simp only [World.size_drew, World.size_alloc]; omega))
        focus (intro i v hv; (rcases i with _ | _ | _ | i) <;> simp at hv <;> first | exact ⟨_, hv.symm⟩ | (cases hv))
        rintro e wc1 ⟨z1, rfl, hPc1, hGc1, hzc1⟩
        try simp only [World.size_drew, World.size_alloc] at hzc1
        try go_simp
        refine hK _ _ (fun hAW => ?_) ?_
        focus (exact (hPc1.below (by repeat (first | (with_reducible exact Below.refl _ _) | (with_reducible refine up_drew ?_) | (with_reducible refine up_alloc ?_ _)))).box.cell 1)
        clear hK K
        try simp only [Act.put, List.setIfInBounds_toArray, List.set_cons_zero, List.set_cons_succ]
        refine late_ready (rs := [7, 9]) (by kernel_rfl) (by simp) ?_
        refine (LateReady.cons (o := ⟨_, _, _, _, _, _⟩) rfl (fun K hK => ?_) (LateReady.cons (o := ⟨_, _, _, _, _, _⟩) rfl (fun K hK => ?_) LateReady.nil))
        go_simp
        go_at_call 29
        (with_reducible refine (Ps.one (k := 2) (t := 3) (cs := #[.int .i64 0, .int .i64 100]) hPc1 (by omega) (by repeat (first | (with_reducible exact Below.refl _ _) | (with_reducible refine up_drew ?_) | (with_reducible refine up_alloc ?_ _))) ?_ ?_ rfl (by omega) (by omega) ?_).mono ?_)
        focus (repeat (first | (with_reducible exact Blk.new _ _ _) | ((with_reducible refine Blk.new2 ?_); focus (simp; done)) | (with_reducible refine Blk.drew ?_) | (with_reducible refine Blk.alloc ?_ _) | ((with_reducible refine Blk.but ?_ hGc1 ?_); rotate_left; focus omega)))
        focus (first | omega | (simp only [World.size_drew, World.size_alloc]; omega))
        focus (intro i v hv; (rcases i with _ | _ | _ | i) <;> simp at hv <;> first | exact ⟨_, hv.symm⟩ | (cases hv))
        rintro e wc2 ⟨z2, rfl, hPc2, hGc2, hzc2⟩
        try simp only [World.size_drew, World.size_alloc] at hzc2
        try go_simp
        refine hK _ _ (fun hAW => ?_) ?_
        focus (exact (hPc2.below (by repeat (first | (with_reducible exact Below.refl _ _) | (with_reducible refine up_drew ?_) | (with_reducible refine up_alloc ?_ _)))).box.cell 1)
        clear hK K
        try simp only [Act.put, List.setIfInBounds_toArray, List.set_cons_zero, List.set_cons_succ]
        refine late_ready (rs := [9]) (by kernel_rfl) (by simp) ?_
        refine (LateReady.cons (o := ⟨_, _, _, _, _, _⟩) rfl (fun K hK => ?_) LateReady.nil)
        go_simp
        refine hK _ _ (fun hAW => ?_) ?_
        focus (exact (hPc2.below (by repeat (first | (with_reducible exact Below.refl _ _) | (with_reducible refine up_drew ?_) | (with_reducible refine up_alloc ?_ _)))).box.cell 1)
        clear hK K
        try simp only [Act.put, List.setIfInBounds_toArray, List.set_cons_zero, List.set_cons_succ]
        refine late_ready (rs := [10]) (by kernel_rfl) (by simp) ?_
        refine (LateReady.cons (o := ⟨_, _, _, _, _, _⟩) rfl (fun K hK => ?_) LateReady.nil)
        go_simp
        go_at_call 29
        (with_reducible refine (Ps.one (k := 3) (t := 3) (cs := #[.int .i64 0, .int .i64 (-1), .int .i64 10000]) hPc2 (by omega) (by repeat (first | (with_reducible exact Below.refl _ _) | (with_reducible refine up_drew ?_) | (with_reducible refine up_alloc ?_ _))) ?_ ?_ rfl (by omega) (by omega) ?_).mono ?_)
        focus (repeat (first | (with_reducible exact Blk.new _ _ _) | ((with_reducible refine Blk.new2 ?_); focus (simp; done)) | (with_reducible refine Blk.drew ?_) | (with_reducible refine Blk.alloc ?_ _) | ((with_reducible refine Blk.but ?_ hGc2 ?_); rotate_left; focus omega) | ((with_reducible refine Blk.but ?_ hGc1 ?_); rotate_left; focus omega)))
        focus (first | omega | (simp only [World.size_drew, World.size_alloc]; omega))
        focus (intro i v hv; (rcases i with _ | _ | _ | i) <;> simp at hv <;> first | exact ⟨_, hv.symm⟩ | (cases hv))
        rintro e wc3 ⟨z3, rfl, hPc3, hGc3, hzc3⟩
        try simp only [World.size_drew, World.size_alloc] at hzc3
        try go_simp
        refine hK _ _ (fun hAW => ?_) ?_
        focus (exact (hPc3.below (by repeat (first | (with_reducible exact Below.refl _ _) | (with_reducible refine up_drew ?_) | (with_reducible refine up_alloc ?_ _)))).box.cell 1)
        clear hK K
        try simp only [Act.put, List.setIfInBounds_toArray, List.set_cons_zero, List.set_cons_succ]
        rotate_left 1
        rotate_right 1
        rotate_left 1
        rotate_right 1
        rotate_left 1
        go_simp
        refine hK _ _ (fun hAW => ?_) ?_
        focus (exact (hPc1.below (by repeat (first | (with_reducible exact Below.refl _ _) | (with_reducible refine up_drew ?_) | (with_reducible refine up_alloc ?_ _)))).box.cell 1)
        clear hK K
        try simp only [Act.put, List.setIfInBounds_toArray, List.set_cons_zero, List.set_cons_succ]
        refine late_ready (rs := [7]) (by kernel_rfl) (by simp) ?_
        refine (LateReady.cons (o := ⟨_, _, _, _, _, _⟩) rfl (fun K hK => ?_) LateReady.nil)
        go_simp
        go_at_call 29
        (with_reducible refine (Ps.one (k := 2) (t := 3) (cs := #[.int .i64 0, .int .i64 100]) hPc1 (by omega) (by repeat (first | (with_reducible exact Below.refl _ _) | (with_reducible refine up_drew ?_) | (with_reducible refine up_alloc ?_ _))) ?_ ?_ rfl (by omega) (by omega) ?_).mono ?_)
        focus (repeat (first | (with_reducible exact Blk.new _ _ _) | ((with_reducible refine Blk.new2 ?_); focus (simp; done)) | (with_reducible refine Blk.drew ?_) | (with_reducible refine Blk.alloc ?_ _) | ((with_reducible refine Blk.but ?_ hGc1 ?_); rotate_left; focus omega)))
        focus (first | omega | (simp only [World.size_drew, World.size_alloc]; omega))
        focus (intro i v hv; (rcases i with _ | _ | _ | i) <;> simp at hv <;> first | exact ⟨_, hv.symm⟩ | (cases hv))
        rintro e wc2 ⟨z2, rfl, hPc2, hGc2, hzc2⟩
        try simp only [World.size_drew, World.size_alloc] at hzc2
        try go_simp
        refine hK _ _ (fun hAW => ?_) ?_
        focus (exact (hPc2.below (by repeat (first | (with_reducible exact Below.refl _ _) | (with_reducible refine up_drew ?_) | (with_reducible refine up_alloc ?_ _)))).box.cell 1)
        clear hK K
        try simp only [Act.put, List.setIfInBounds_toArray, List.set_cons_zero, List.set_cons_succ]
        refine late_ready (rs := [10]) (by kernel_rfl) (by simp) ?_
        refine (LateReady.cons (o := ⟨_, _, _, _, _, _⟩) rfl (fun K hK => ?_) LateReady.nil)
        go_simp
        go_at_call 29
        (with_reducible refine (Ps.one (k := 3) (t := 3) (cs := #[.int .i64 0, .int .i64 (-1), .int .i64 10000]) hPc2 (by omega) (by repeat (first | (with_reducible exact Below.refl _ _) | (with_reducible refine up_drew ?_) | (with_reducible refine up_alloc ?_ _))) ?_ ?_ rfl (by omega) (by omega) ?_).mono ?_)
        focus (repeat (first | (with_reducible exact Blk.new _ _ _) | ((with_reducible refine Blk.new2 ?_); focus (simp; done)) | (with_reducible refine Blk.drew ?_) | (with_reducible refine Blk.alloc ?_ _) | ((with_reducible refine Blk.but ?_ hGc2 ?_); rotate_left; focus omega) | ((with_reducible refine Blk.but ?_ hGc1 ?_); rotate_left; focus omega)))
        focus (first | omega | (simp only [World.size_drew, World.size_alloc]; omega))
        focus (intro i v hv; (rcases i with _ | _ | _ | i) <;> simp at hv <;> first | exact ⟨_, hv.symm⟩ | (cases hv))
        rintro e wc3 ⟨z3, rfl, hPc3, hGc3, hzc3⟩
        try simp only [World.size_drew, World.size_alloc] at hzc3
        try go_simp
        refine hK _ _ (fun hAW => ?_) ?_
        focus (exact (hPc3.below (by repeat (first | (with_reducible exact Below.refl _ _) | (with_reducible refine up_drew ?_) | (with_reducible refine up_alloc ?_ _)))).box.cell 1)
        clear hK K
        try simp only [Act.put, List.setIfInBounds_toArray, List.set_cons_zero, List.set_cons_succ]
        rotate_left 1
        rotate_right 1
        rotate_left 1
        rotate_right 1
        rotate_left 1
        rotate_right 2
        rotate_left 2
        go_simp
        refine hK _ _ (fun hAW => ?_) ?_
        focus (exact (HP3.out.below (by repeat (first | (with_reducible exact Below.refl _ _) | (with_reducible refine up_drew ?_) | (with_reducible refine up_alloc ?_ _)))).box.cell 1)
        clear hK K
        try simp only [Act.put, List.setIfInBounds_toArray, List.set_cons_zero, List.set_cons_succ]
        refine late_ready (rs := [4]) (by kernel_rfl) (by simp) ?_
        refine (LateReady.cons (o := ⟨_, _, _, _, _, _⟩) rfl (fun K hK => ?_) LateReady.nil)
        go_simp
        go_at_call 29
        (with_reducible refine (Ps.one (k := 3) (t := 3) (cs := #[.int .i64 (-1), .int .i64 0, .int .i64 10]) HP3.out (by omega) (by repeat (first | (with_reducible exact Below.refl _ _) | (with_reducible refine up_drew ?_) | (with_reducible refine up_alloc ?_ _))) ?_ ?_ rfl (by omega) (by omega) ?_).mono ?_)
        focus (repeat (first | (with_reducible exact Blk.new _ _ _) | ((with_reducible refine Blk.new2 ?_); focus (simp; done)) | (with_reducible refine Blk.drew ?_) | (with_reducible refine Blk.alloc ?_ _)))
        focus (first | omega | (simp only [World.size_drew, World.size_alloc]; omega))
        focus (intro i v hv; (rcases i with _ | _ | _ | i) <;> simp at hv <;> first | exact ⟨_, hv.symm⟩ | (cases hv))
        rintro e wc1 ⟨z1, rfl, hPc1, hGc1, hzc1⟩
        try simp only [World.size_drew, World.size_alloc] at hzc1
        try go_simp
        refine hK _ _ (fun hAW => ?_) ?_
        focus (exact (hPc1.below (by repeat (first | (with_reducible exact Below.refl _ _) | (with_reducible refine up_drew ?_) | (with_reducible refine up_alloc ?_ _)))).box.cell 1)
        clear hK K
        try simp only [Act.put, List.setIfInBounds_toArray, List.set_cons_zero, List.set_cons_succ]
        refine late_ready (rs := [7]) (by kernel_rfl) (by simp) ?_
        refine (LateReady.cons (o := ⟨_, _, _, _, _, _⟩) rfl (fun K hK => ?_) LateReady.nil)
        go_simp
        go_at_call 29
        (with_reducible refine (Ps.one (k := 2) (t := 3) (cs := #[.int .i64 0, .int .i64 100]) hPc1 (by omega) (by repeat (first | (with_reducible exact Below.refl _ _) | (with_reducible refine up_drew ?_) | (with_reducible refine up_alloc ?_ _))) ?_ ?_ rfl (by omega) (by omega) ?_).mono ?_)
        focus (repeat (first | (with_reducible exact Blk.new _ _ _) | ((with_reducible refine Blk.new2 ?_); focus (simp; done)) | (with_reducible refine Blk.drew ?_) | (with_reducible refine Blk.alloc ?_ _) | ((with_reducible refine Blk.but ?_ hGc1 ?_); rotate_left; focus omega)))
        focus (first | omega | (simp only [World.size_drew, World.size_alloc]; omega))
        focus (intro i v hv; (rcases i with _ | _ | _ | i) <;> simp at hv <;> first | exact ⟨_, hv.symm⟩ | (cases hv))
        rintro e wc2 ⟨z2, rfl, hPc2, hGc2, hzc2⟩
        try simp only [World.size_drew, World.size_alloc] at hzc2
        try go_simp
        refine hK _ _ (fun hAW => ?_) ?_
        focus (exact (hPc2.below (by repeat (first | (with_reducible exact Below.refl _ _) | (with_reducible refine up_drew ?_) | (with_reducible refine up_alloc ?_ _)))).box.cell 1)
        clear hK K
        try simp only [Act.put, List.setIfInBounds_toArray, List.set_cons_zero, List.set_cons_succ]
        refine late_ready (rs := [10]) (by kernel_rfl) (by simp) ?_
        refine (LateReady.cons (o := ⟨_, _, _, _, _, _⟩) rfl (fun K hK => ?_) LateReady.nil)
        go_simp
        go_at_call 29
        (with_reducible refine (Ps.one (k := 3) (t := 3) (cs := #[.int .i64 0, .int .i64 (-1), .int .i64 10000]) hPc2 (by omega) (by repeat (first | (with_reducible exact Below.refl _ _) | (with_reducible refine up_drew ?_) | (with_reducible refine up_alloc ?_ _))) ?_ ?_ rfl (by omega) (by omega) ?_).mono ?_)
        focus (repeat (first | (with_reducible exact Blk.new _ _ _) | ((with_reducible refine Blk.new2 ?_); focus (simp; done)) | (with_reducible refine Blk.drew ?_) | (with_reducible refine Blk.alloc ?_ _) | ((with_reducible refine Blk.but ?_ hGc2 ?_); rotate_left; focus omega) | ((with_reducible refine Blk.but ?_ hGc1 ?_); rotate_left; focus omega)))
        focus (first | omega | (simp only [World.size_drew, World.size_alloc]; omega))
        focus (intro i v hv; (rcases i with _ | _ | _ | i) <;> simp at hv <;> first | exact ⟨_, hv.symm⟩ | (cases hv))
        rintro e wc3 ⟨z3, rfl, hPc3, hGc3, hzc3⟩
        try simp only [World.size_drew, World.size_alloc] at hzc3
        try go_simp
        refine hK _ _ (fun hAW => ?_) ?_
        focus (exact (hPc3.below (by repeat (first | (with_reducible exact Below.refl _ _) | (with_reducible refine up_drew ?_) | (with_reducible refine up_alloc ?_ _)))).box.cell 1)
        clear hK K
        try simp only [Act.put, List.setIfInBounds_toArray, List.set_cons_zero, List.set_cons_succ]
        rotate_left 1
        rotate_right 1
        rotate_left 1
        rotate_right 1
        rotate_left 1
        rotate_right 1
        rotate_left 1
        rotate_right 3
        rotate_left 3
        go_simp
        refine hK _ _ (fun hAW => ?_) ?_
        focus (exact (HP3.out.below (by repeat (first | (with_reducible exact Below.refl _ _) | (with_reducible refine up_drew ?_) | (with_reducible refine up_alloc ?_ _)))).box.cell 1)
        clear hK K
        try simp only [Act.put, List.setIfInBounds_toArray, List.set_cons_zero, List.set_cons_succ]
        refine late_ready (rs := [3]) (by kernel_rfl) (by simp) ?_
        refine (LateReady.cons (o := ⟨_, _, _, _, _, _⟩) rfl (fun K hK => ?_) LateReady.nil)
        go_simp
        refine hK _ _ (fun hAW => ?_) ?_
        focus (exact (HP3.out.below (by repeat (first | (with_reducible exact Below.refl _ _) | (with_reducible refine up_drew ?_) | (with_reducible refine up_alloc ?_ _)))).box.cell 1)
        clear hK K
        try simp only [Act.put, List.setIfInBounds_toArray, List.set_cons_zero, List.set_cons_succ]
        refine late_ready (rs := [4]) (by kernel_rfl) (by simp) ?_
        refine (LateReady.cons (o := ⟨_, _, _, _, _, _⟩) rfl (fun K hK => ?_) LateReady.nil)
        go_simp
        go_at_call 29
        (with_reducible refine (Ps.one (k := 3) (t := 3) (cs := #[.int .i64 (-1), .int .i64 0, .int .i64 10]) HP3.out (by omega) (by repeat (first | (with_reducible exact Below.refl _ _) | (with_reducible refine up_drew ?_) | (with_reducible refine up_alloc ?_ _))) ?_ ?_ rfl (by omega) (by omega) ?_).mono ?_)
        focus (repeat (first | (with_reducible exact Blk.new _ _ _) | ((with_reducible refine Blk.new2 ?_); focus (simp; done)) | (with_reducible refine Blk.drew ?_) | (with_reducible refine Blk.alloc ?_ _)))
        focus (first | omega | (simp only [World.size_drew, World.size_alloc]; omega))
        focus (intro i v hv; (rcases i with _ | _ | _ | i) <;> simp at hv <;> first | exact ⟨_, hv.symm⟩ | (cases hv))
        rintro e wc1 ⟨z1, rfl, hPc1, hGc1, hzc1⟩
        try simp only [World.size_drew, World.size_alloc] at hzc1
        try go_simp
        refine hK _ _ (fun hAW => ?_) ?_
        focus (exact (hPc1.below (by repeat (first | (with_reducible exact Below.refl _ _) | (with_reducible refine up_drew ?_) | (with_reducible refine up_alloc ?_ _)))).box.cell 1)
        clear hK K
        try simp only [Act.put, List.setIfInBounds_toArray, List.set_cons_zero, List.set_cons_succ]
        refine late_ready (rs := [7]) (by kernel_rfl) (by simp) ?_
        refine (LateReady.cons (o := ⟨_, _, _, _, _, _⟩) rfl (fun K hK => ?_) LateReady.nil)
        go_simp
        go_at_call 29
        (with_reducible refine (Ps.one (k := 2) (t := 3) (cs := #[.int .i64 0, .int .i64 100]) hPc1 (by omega) (by repeat (first | (with_reducible exact Below.refl _ _) | (with_reducible refine up_drew ?_) | (with_reducible refine up_alloc ?_ _))) ?_ ?_ rfl (by omega) (by omega) ?_).mono ?_)
        focus (repeat (first | (with_reducible exact Blk.new _ _ _) | ((with_reducible refine Blk.new2 ?_); focus (simp; done)) | (with_reducible refine Blk.drew ?_) | (with_reducible refine Blk.alloc ?_ _) | ((with_reducible refine Blk.but ?_ hGc1 ?_); rotate_left; focus omega)))
        focus (first | omega | (simp only [World.size_drew, World.size_alloc]; omega))
        focus (intro i v hv; (rcases i with _ | _ | _ | i) <;> simp at hv <;> first | exact ⟨_, hv.symm⟩ | (cases hv))
        rintro e wc2 ⟨z2, rfl, hPc2, hGc2, hzc2⟩
        try simp only [World.size_drew, World.size_alloc] at hzc2
        try go_simp
        refine hK _ _ (fun hAW => ?_) ?_
        focus (exact (hPc2.below (by repeat (first | (with_reducible exact Below.refl _ _) | (with_reducible refine up_drew ?_) | (with_reducible refine up_alloc ?_ _)))).box.cell 1)
        clear hK K
        try simp only [Act.put, List.setIfInBounds_toArray, List.set_cons_zero, List.set_cons_succ]
        refine late_ready (rs := [10]) (by kernel_rfl) (by simp) ?_
        refine (LateReady.cons (o := ⟨_, _, _, _, _, _⟩) rfl (fun K hK => ?_) LateReady.nil)
        go_simp
        go_at_call 29
        (with_reducible refine (Ps.one (k := 3) (t := 3) (cs := #[.int .i64 0, .int .i64 (-1), .int .i64 10000]) hPc2 (by omega) (by repeat (first | (with_reducible exact Below.refl _ _) | (with_reducible refine up_drew ?_) | (with_reducible refine up_alloc ?_ _))) ?_ ?_ rfl (by omega) (by omega) ?_).mono ?_)
        focus (repeat (first | (with_reducible exact Blk.new _ _ _) | ((with_reducible refine Blk.new2 ?_); focus (simp; done)) | (with_reducible refine Blk.drew ?_) | (with_reducible refine Blk.alloc ?_ _) | ((with_reducible refine Blk.but ?_ hGc2 ?_); rotate_left; focus omega) | ((with_reducible refine Blk.but ?_ hGc1 ?_); rotate_left; focus omega)))
        focus (first | omega | (simp only [World.size_drew, World.size_alloc]; omega))
        focus (intro i v hv; (rcases i with _ | _ | _ | i) <;> simp at hv <;> first | exact ⟨_, hv.symm⟩ | (cases hv))
        rintro e wc3 ⟨z3, rfl, hPc3, hGc3, hzc3⟩
        try simp only [World.size_drew, World.size_alloc] at hzc3
        try go_simp
        refine hK _ _ (fun hAW => ?_) ?_
        focus (exact (hPc3.below (by repeat (first | (with_reducible exact Below.refl _ _) | (with_reducible refine up_drew ?_) | (with_reducible refine up_alloc ?_ _)))).box.cell 1)
        clear hK K
        try simp only [Act.put, List.setIfInBounds_toArray, List.set_cons_zero, List.set_cons_succ]
        rotate_left 1
        rotate_right 1
        rotate_left 1
        rotate_right 1
        rotate_left 1
        rotate_right 1
        rotate_left 1
        rotate_right 1
        rotate_left 1
        rotate_right 4
        rotate_left 4
        go_simp
        refine hK _ _ (fun hAW => ?_) ?_
        focus (exact (HP3.out.below (by repeat (first | (with_reducible exact Below.refl _ _) | (with_reducible refine up_drew ?_) | (with_reducible refine up_alloc ?_ _)))).box.cell 1)
        clear hK K
        try simp only [Act.put, List.setIfInBounds_toArray, List.set_cons_zero, List.set_cons_succ]
        refine late_ready (rs := [3, 6]) (by kernel_rfl) (by simp) ?_
        refine (LateReady.cons (o := ⟨_, _, _, _, _, _⟩) rfl (fun K hK => ?_) (LateReady.cons (o := ⟨_, _, _, _, _, _⟩) rfl (fun K hK => ?_) LateReady.nil))
        go_simp
        refine hK _ _ (fun hAW => ?_) ?_
        focus (exact (HP3.out.below (by repeat (first | (with_reducible exact Below.refl _ _) | (with_reducible refine up_drew ?_) | (with_reducible refine up_alloc ?_ _)))).box.cell 1)
        clear hK K
        try simp only [Act.put, List.setIfInBounds_toArray, List.set_cons_zero, List.set_cons_succ]
        refine late_ready (rs := [4, 6]) (by kernel_rfl) (by simp) ?_
        refine (LateReady.cons (o := ⟨_, _, _, _, _, _⟩) rfl (fun K hK => ?_) (LateReady.cons (o := ⟨_, _, _, _, _, _⟩) rfl (fun K hK => ?_) LateReady.nil))
        go_simp
        go_at_call 29
        (with_reducible refine (Ps.one (k := 3) (t := 3) (cs := #[.int .i64 (-1), .int .i64 0, .int .i64 10]) HP3.out (by omega) (by repeat (first | (with_reducible exact Below.refl _ _) | (with_reducible refine up_drew ?_) | (with_reducible refine up_alloc ?_ _))) ?_ ?_ rfl (by omega) (by omega) ?_).mono ?_)
        focus (repeat (first | (with_reducible exact Blk.new _ _ _) | ((with_reducible refine Blk.new2 ?_); focus (simp; done)) | (with_reducible refine Blk.drew ?_) | (with_reducible refine Blk.alloc ?_ _)))
        focus (first | omega | (simp only [World.size_drew, World.size_alloc]; omega))
        focus (intro i v hv; (rcases i with _ | _ | _ | i) <;> simp at hv <;> first | exact ⟨_, hv.symm⟩ | (cases hv))
        rintro e wc1 ⟨z1, rfl, hPc1, hGc1, hzc1⟩
        try simp only [World.size_drew, World.size_alloc] at hzc1
        try go_simp
        refine hK _ _ (fun hAW => ?_) ?_
        focus (exact (hPc1.below (by repeat (first | (with_reducible exact Below.refl _ _) | (with_reducible refine up_drew ?_) | (with_reducible refine up_alloc ?_ _)))).box.cell 1)
        clear hK K
        try simp only [Act.put, List.setIfInBounds_toArray, List.set_cons_zero, List.set_cons_succ]
        refine late_ready (rs := [6]) (by kernel_rfl) (by simp) ?_
        refine (LateReady.cons (o := ⟨_, _, _, _, _, _⟩) rfl (fun K hK => ?_) LateReady.nil)
        go_simp
        refine hK _ _ (fun hAW => ?_) ?_
        focus (exact (hPc1.below (by repeat (first | (with_reducible exact Below.refl _ _) | (with_reducible refine up_drew ?_) | (with_reducible refine up_alloc ?_ _)))).box.cell 1)
        clear hK K
        try simp only [Act.put, List.setIfInBounds_toArray, List.set_cons_zero, List.set_cons_succ]
        refine late_ready (rs := [7]) (by kernel_rfl) (by simp) ?_
        refine (LateReady.cons (o := ⟨_, _, _, _, _, _⟩) rfl (fun K hK => ?_) LateReady.nil)
        go_simp
        go_at_call 29
        (with_reducible refine (Ps.one (k := 2) (t := 3) (cs := #[.int .i64 0, .int .i64 100]) hPc1 (by omega) (by repeat (first | (with_reducible exact Below.refl _ _) | (with_reducible refine up_drew ?_) | (with_reducible refine up_alloc ?_ _))) ?_ ?_ rfl (by omega) (by omega) ?_).mono ?_)
        focus (repeat (first | (with_reducible exact Blk.new _ _ _) | ((with_reducible refine Blk.new2 ?_); focus (simp; done)) | (with_reducible refine Blk.drew ?_) | (with_reducible refine Blk.alloc ?_ _) | ((with_reducible refine Blk.but ?_ hGc1 ?_); rotate_left; focus omega)))
        focus (first | omega | (simp only [World.size_drew, World.size_alloc]; omega))
        focus (intro i v hv; (rcases i with _ | _ | _ | i) <;> simp at hv <;> first | exact ⟨_, hv.symm⟩ | (cases hv))
        rintro e wc2 ⟨z2, rfl, hPc2, hGc2, hzc2⟩
        try simp only [World.size_drew, World.size_alloc] at hzc2
        try go_simp
        refine hK _ _ (fun hAW => ?_) ?_
        focus (exact (hPc2.below (by repeat (first | (with_reducible exact Below.refl _ _) | (with_reducible refine up_drew ?_) | (with_reducible refine up_alloc ?_ _)))).box.cell 1)
        clear hK K
        try simp only [Act.put, List.setIfInBounds_toArray, List.set_cons_zero, List.set_cons_succ]
        refine late_ready (rs := [10]) (by kernel_rfl) (by simp) ?_
        refine (LateReady.cons (o := ⟨_, _, _, _, _, _⟩) rfl (fun K hK => ?_) LateReady.nil)
        go_simp
        go_at_call 29
        (with_reducible refine (Ps.one (k := 3) (t := 3) (cs := #[.int .i64 0, .int .i64 (-1), .int .i64 10000]) hPc2 (by omega) (by repeat (first | (with_reducible exact Below.refl _ _) | (with_reducible refine up_drew ?_) | (with_reducible refine up_alloc ?_ _))) ?_ ?_ rfl (by omega) (by omega) ?_).mono ?_)
        focus (repeat (first | (with_reducible exact Blk.new _ _ _) | ((with_reducible refine Blk.new2 ?_); focus (simp; done)) | (with_reducible refine Blk.drew ?_) | (with_reducible refine Blk.alloc ?_ _) | ((with_reducible refine Blk.but ?_ hGc2 ?_); rotate_left; focus omega) | ((with_reducible refine Blk.but ?_ hGc1 ?_); rotate_left; focus omega)))
        focus (first | omega | (simp only [World.size_drew, World.size_alloc]; omega))
        focus (intro i v hv; (rcases i with _ | _ | _ | i) <;> simp at hv <;> first | exact ⟨_, hv.symm⟩ | (cases hv))
        rintro e wc3 ⟨z3, rfl, hPc3, hGc3, hzc3⟩
        try simp only [World.size_drew, World.size_alloc] at hzc3
        try go_simp
        refine hK _ _ (fun hAW => ?_) ?_
        focus (exact (hPc3.below (by repeat (first | (with_reducible exact Below.refl _ _) | (with_reducible refine up_drew ?_) | (with_reducible refine up_alloc ?_ _)))).box.cell 1)
        clear hK K
        try simp only [Act.put, List.setIfInBounds_toArray, List.set_cons_zero, List.set_cons_succ]
        rotate_left 1
        rotate_right 1
        rotate_left 1
        rotate_right 1
        rotate_left 1
        rotate_right 1
        rotate_left 1
        go_simp
        refine hK _ _ (fun hAW => ?_) ?_
        focus (exact (HP3.out.below (by repeat (first | (with_reducible exact Below.refl _ _) | (with_reducible refine up_drew ?_) | (with_reducible refine up_alloc ?_ _)))).box.cell 1)
        clear hK K
        try simp only [Act.put, List.setIfInBounds_toArray, List.set_cons_zero, List.set_cons_succ]
        refine late_ready (rs := [4]) (by kernel_rfl) (by simp) ?_
        refine (LateReady.cons (o := ⟨_, _, _, _, _, _⟩) rfl (fun K hK => ?_) LateReady.nil)
        go_simp
        go_at_call 29
        (with_reducible refine (Ps.one (k := 3) (t := 3) (cs := #[.int .i64 (-1), .int .i64 0, .int .i64 10]) HP3.out (by omega) (by repeat (first | (with_reducible exact Below.refl _ _) | (with_reducible refine up_drew ?_) | (with_reducible refine up_alloc ?_ _))) ?_ ?_ rfl (by omega) (by omega) ?_).mono ?_)
        focus (repeat (first | (with_reducible exact Blk.new _ _ _) | ((with_reducible refine Blk.new2 ?_); focus (simp; done)) | (with_reducible refine Blk.drew ?_) | (with_reducible refine Blk.alloc ?_ _)))
        focus (first | omega | (simp only [World.size_drew, World.size_alloc]; omega))
        focus (intro i v hv; (rcases i with _ | _ | _ | i) <;> simp at hv <;> first | exact ⟨_, hv.symm⟩ | (cases hv))
        rintro e wc1 ⟨z1, rfl, hPc1, hGc1, hzc1⟩
        try simp only [World.size_drew, World.size_alloc] at hzc1
        try go_simp
        refine hK _ _ (fun hAW => ?_) ?_
        focus (exact (hPc1.below (by repeat (first | (with_reducible exact Below.refl _ _) | (with_reducible refine up_drew ?_) | (with_reducible refine up_alloc ?_ _)))).box.cell 1)
        clear hK K
        try simp only [Act.put, List.setIfInBounds_toArray, List.set_cons_zero, List.set_cons_succ]
        refine late_ready (rs := [7]) (by kernel_rfl) (by simp) ?_
        refine (LateReady.cons (o := ⟨_, _, _, _, _, _⟩) rfl (fun K hK => ?_) LateReady.nil)
        go_simp
        go_at_call 29
        (with_reducible refine (Ps.one (k := 2) (t := 3) (cs := #[.int .i64 0, .int .i64 100]) hPc1 (by omega) (by repeat (first | (with_reducible exact Below.refl _ _) | (with_reducible refine up_drew ?_) | (with_reducible refine up_alloc ?_ _))) ?_ ?_ rfl (by omega) (by omega) ?_).mono ?_)
        focus (repeat (first | (with_reducible exact Blk.new _ _ _) | ((with_reducible refine Blk.new2 ?_); focus (simp; done)) | (with_reducible refine Blk.drew ?_) | (with_reducible refine Blk.alloc ?_ _) | ((with_reducible refine Blk.but ?_ hGc1 ?_); rotate_left; focus omega)))
        focus (first | omega | (simp only [World.size_drew, World.size_alloc]; omega))
        focus (intro i v hv; (rcases i with _ | _ | _ | i) <;> simp at hv <;> first | exact ⟨_, hv.symm⟩ | (cases hv))
        rintro e wc2 ⟨z2, rfl, hPc2, hGc2, hzc2⟩
        try simp only [World.size_drew, World.size_alloc] at hzc2
        try go_simp
        refine hK _ _ (fun hAW => ?_) ?_
        focus (exact (hPc2.below (by repeat (first | (with_reducible exact Below.refl _ _) | (with_reducible refine up_drew ?_) | (with_reducible refine up_alloc ?_ _)))).box.cell 1)
        clear hK K
        try simp only [Act.put, List.setIfInBounds_toArray, List.set_cons_zero, List.set_cons_succ]
        refine late_ready (rs := [10]) (by kernel_rfl) (by simp) ?_
        refine (LateReady.cons (o := ⟨_, _, _, _, _, _⟩) rfl (fun K hK => ?_) LateReady.nil)
        go_simp
        go_at_call 29
        (with_reducible refine (Ps.one (k := 3) (t := 3) (cs := #[.int .i64 0, .int .i64 (-1), .int .i64 10000]) hPc2 (by omega) (by repeat (first | (with_reducible exact Below.refl _ _) | (with_reducible refine up_drew ?_) | (with_reducible refine up_alloc ?_ _))) ?_ ?_ rfl (by omega) (by omega) ?_).mono ?_)
        focus (repeat (first | (with_reducible exact Blk.new _ _ _) | ((with_reducible refine Blk.new2 ?_); focus (simp; done)) | (with_reducible refine Blk.drew ?_) | (with_reducible refine Blk.alloc ?_ _) | ((with_reducible refine Blk.but ?_ hGc2 ?_); rotate_left; focus omega) | ((with_reducible refine Blk.but ?_ hGc1 ?_); rotate_left; focus omega)))
        focus (first | omega | (simp only [World.size_drew, World.size_alloc]; omega))
        focus (intro i v hv; (rcases i with _ | _ | _ | i) <;> simp at hv <;> first | exact ⟨_, hv.symm⟩ | (cases hv))
        rintro e wc3 ⟨z3, rfl, hPc3, hGc3, hzc3⟩
        try simp only [World.size_drew, World.size_alloc] at hzc3
        try go_simp
        refine hK _ _ (fun hAW => ?_) ?_
        focus (exact (hPc3.below (by repeat (first | (with_reducible exact Below.refl _ _) | (with_reducible refine up_drew ?_) | (with_reducible refine up_alloc ?_ _)))).box.cell 1)
        clear hK K
        try simp only [Act.put, List.setIfInBounds_toArray, List.set_cons_zero, List.set_cons_succ]
        rotate_left 1
        rotate_right 1
        rotate_left 1
        rotate_right 1
        rotate_left 1
        rotate_right 1
        rotate_left 1
        rotate_right 2
        rotate_left 2
        go_simp
        refine hK _ _ (fun hAW => ?_) ?_
        focus (exact (HP3.out.below (by repeat (first | (with_reducible exact Below.refl _ _) | (with_reducible refine up_drew ?_) | (with_reducible refine up_alloc ?_ _)))).box.cell 1)
        clear hK K
        try simp only [Act.put, List.setIfInBounds_toArray, List.set_cons_zero, List.set_cons_succ]
        refine late_ready (rs := [3]) (by kernel_rfl) (by simp) ?_
        refine (LateReady.cons (o := ⟨_, _, _, _, _, _⟩) rfl (fun K hK => ?_) LateReady.nil)
        go_simp
        refine hK _ _ (fun hAW => ?_) ?_
        focus (exact (HP3.out.below (by repeat (first | (with_reducible exact Below.refl _ _) | (with_reducible refine up_drew ?_) | (with_reducible refine up_alloc ?_ _)))).box.cell 1)
        clear hK K
        try simp only [Act.put, List.setIfInBounds_toArray, List.set_cons_zero, List.set_cons_succ]
        refine late_ready (rs := [4]) (by kernel_rfl) (by simp) ?_
        refine (LateReady.cons (o := ⟨_, _, _, _, _, _⟩) rfl (fun K hK => ?_) LateReady.nil)
        go_simp
        go_at_call 29
        (with_reducible refine (Ps.one (k := 3) (t := 3) (cs := #[.int .i64 (-1), .int .i64 0, .int .i64 10]) HP3.out (by omega) (by repeat (first | (with_reducible exact Below.refl _ _) | (with_reducible refine up_drew ?_) | (with_reducible refine up_alloc ?_ _))) ?_ ?_ rfl (by omega) (by omega) ?_).mono ?_)
        focus (repeat (first | (with_reducible exact Blk.new _ _ _) | ((with_reducible refine Blk.new2 ?_); focus (simp; done)) | (with_reducible refine Blk.drew ?_) | (with_reducible refine Blk.alloc ?_ _)))
        focus (first | omega | (simp only [World.size_drew, World.size_alloc]; omega))
        focus (intro i v hv; (rcases i with _ | _ | _ | i) <;> simp at hv <;> first | exact ⟨_, hv.symm⟩ | (cases hv))
        rintro e wc1 ⟨z1, rfl, hPc1, hGc1, hzc1⟩
        try simp only [World.size_drew, World.size_alloc] at hzc1
        try go_simp
        refine hK _ _ (fun hAW => ?_) ?_
        focus (exact (hPc1.below (by repeat (first | (with_reducible exact Below.refl _ _) | (with_reducible refine up_drew ?_) | (with_reducible refine up_alloc ?_ _)))).box.cell 1)
        clear hK K
        try simp only [Act.put, List.setIfInBounds_toArray, List.set_cons_zero, List.set_cons_succ]
        refine late_ready (rs := [7]) (by kernel_rfl) (by simp) ?_
        refine (LateReady.cons (o := ⟨_, _, _, _, _, _⟩) rfl (fun K hK => ?_) LateReady.nil)
        go_simp
        go_at_call 29
        (with_reducible refine (Ps.one (k := 2) (t := 3) (cs := #[.int .i64 0, .int .i64 100]) hPc1 (by omega) (by repeat (first | (with_reducible exact Below.refl _ _) | (with_reducible refine up_drew ?_) | (with_reducible refine up_alloc ?_ _))) ?_ ?_ rfl (by omega) (by omega) ?_).mono ?_)
        focus (repeat (first | (with_reducible exact Blk.new _ _ _) | ((with_reducible refine Blk.new2 ?_); focus (simp; done)) | (with_reducible refine Blk.drew ?_) | (with_reducible refine Blk.alloc ?_ _) | ((with_reducible refine Blk.but ?_ hGc1 ?_); rotate_left; focus omega)))
        focus (first | omega | (simp only [World.size_drew, World.size_alloc]; omega))
        focus (intro i v hv; (rcases i with _ | _ | _ | i) <;> simp at hv <;> first | exact ⟨_, hv.symm⟩ | (cases hv))
        rintro e wc2 ⟨z2, rfl, hPc2, hGc2, hzc2⟩
        try simp only [World.size_drew, World.size_alloc] at hzc2
        try go_simp
        refine hK _ _ (fun hAW => ?_) ?_
        focus (exact (hPc2.below (by repeat (first | (with_reducible exact Below.refl _ _) | (with_reducible refine up_drew ?_) | (with_reducible refine up_alloc ?_ _)))).box.cell 1)
        clear hK K
        try simp only [Act.put, List.setIfInBounds_toArray, List.set_cons_zero, List.set_cons_succ]
        refine late_ready (rs := [10]) (by kernel_rfl) (by simp) ?_
        refine (LateReady.cons (o := ⟨_, _, _, _, _, _⟩) rfl (fun K hK => ?_) LateReady.nil)
        go_simp
        go_at_call 29
        (with_reducible refine (Ps.one (k := 3) (t := 3) (cs := #[.int .i64 0, .int .i64 (-1), .int .i64 10000]) hPc2 (by omega) (by repeat (first | (with_reducible exact Below.refl _ _) | (with_reducible refine up_drew ?_) | (with_reducible refine up_alloc ?_ _))) ?_ ?_ rfl (by omega) (by omega) ?_).mono ?_)
        focus (repeat (first | (with_reducible exact Blk.new _ _ _) | ((with_reducible refine Blk.new2 ?_); focus (simp; done)) | (with_reducible refine Blk.drew ?_) | (with_reducible refine Blk.alloc ?_ _) | ((with_reducible refine Blk.but ?_ hGc2 ?_); rotate_left; focus omega) | ((with_reducible refine Blk.but ?_ hGc1 ?_); rotate_left; focus omega)))
        focus (first | omega | (simp only [World.size_drew, World.size_alloc]; omega))
        focus (intro i v hv; (rcases i with _ | _ | _ | i) <;> simp at hv <;> first | exact ⟨_, hv.symm⟩ | (cases hv))
        rintro e wc3 ⟨z3, rfl, hPc3, hGc3, hzc3⟩
        try simp only [World.size_drew, World.size_alloc] at hzc3
        try go_simp
        refine hK _ _ (fun hAW => ?_) ?_
        focus (exact (hPc3.below (by repeat (first | (with_reducible exact Below.refl _ _) | (with_reducible refine up_drew ?_) | (with_reducible refine up_alloc ?_ _)))).box.cell 1)
        clear hK K
        try simp only [Act.put, List.setIfInBounds_toArray, List.set_cons_zero, List.set_cons_succ]
        rotate_left 1
        rotate_right 1
        rotate_left 1
        rotate_right 1
        rotate_left 1
        rotate_right 1
        rotate_left 1
        rotate_right 1
        rotate_left 1
        rotate_right 3
        rotate_left 3
        rotate_right 15
        all_goals
          refine late_ready (rs := [11]) (by kernel_rfl) (by simp) ?_
          refine (LateReady.cons (o := ⟨_, _, _, _, _, _⟩) rfl (fun K hK => ?_) LateReady.nil)
          go_simp
          refine hK _ _ (fun hAW => ?_) ?_
          focus (exact (hPc3.below (by repeat (first | (with_reducible exact Below.refl _ _) | (with_reducible refine up_drew ?_) | (with_reducible refine up_alloc ?_ _)))).box.cell 1)
          clear hK K
          try simp only [Act.put, List.setIfInBounds_toArray, List.set_cons_zero, List.set_cons_succ]
          refine late_ready (rs := [12]) (by kernel_rfl) (by simp) ?_
          refine (LateReady.cons (o := ⟨_, _, _, _, _, _⟩) rfl (fun K hK => ?_) LateReady.nil)
          go_simp
          refine hK _ _ (fun hAW => ?_) ?_
          focus (exact (hPc3.below (by repeat (first | (with_reducible exact Below.refl _ _) | (with_reducible refine up_drew ?_) | (with_reducible refine up_alloc ?_ _)))).box.cell 1)
          clear hK K
          try simp only [Act.put, List.setIfInBounds_toArray, List.set_cons_zero, List.set_cons_succ]
          refine late_ready (rs := [13]) (by kernel_rfl) (by simp) ?_
          refine (LateReady.cons (o := ⟨_, _, _, _, _, _⟩) rfl (fun K hK => ?_) LateReady.nil)
          refine step_append_rd _ (by rfl) (.tmp 61) (.tmp 72) 24 (by rfl) (w.heap.size + 1) 33 _ _ 3 24 Try.underlying24 hi0 hz0 hz1 hz2 rfl (by omega) (.slice A2 n2 c2) n2 (tvs fs) (by rfl) (hPc3.rows.2.1.alloc _) _ _ (some ⟨wc3.heap.size, 0, none⟩) 1 1 (tvs [(z1, z2, z3)]) (by rfl) (Rd.of_blk3 (Blk.new wc3 _ _)) (tvs_one _) (by unfold maxLen; omega) (by omega) (by have := hPc3.but.size; simp only [World.size_alloc]; omega) ?_
          intro v5 w5 ho5 hg5 hl5
          rw [← tvs_append] at ho5
          obtain ⟨B1, e1, rfl, hce, _⟩ := own_form ho5
          have hP5 := (hPc3.below (up_alloc (Below.refl _ wc3) (.cells #[.int .i64 z1, .int .i64 z2, .int .i64 z3] 33))).more2 ho5 hg5 hl5
          have hB5 := (hPc3.box.alloc (.cells #[.int .i64 z1, .int .i64 z2, .int .i64 z3] 33)).grown hg5 (fun e => hPc3.ne2 _ e.symm rfl)
          have n5 := hB5.cell 1
          have m5 := hB5.soft 1
          refine hK _ _ (fun hAW => ?_) ?_
          focus (exact hB5.cell 1)
          clear hK K
          try simp only [Act.put, List.setIfInBounds_toArray, List.set_cons_zero, List.set_cons_succ]
          refine late_ready (rs := [14]) (by kernel_rfl) (by simp) ?_
          refine (LateReady.cons (o := ⟨_, _, _, _, _, _⟩) rfl (fun K hK => ?_) LateReady.nil)
          go_simp
          refine hK _ _ (fun hAW => ?_) ?_
          focus (exact hB5.cell 1)
          clear hK K
          try simp only [Act.put, List.setIfInBounds_toArray, List.set_cons_zero, List.set_cons_succ]
          refine late_ready (rs := [15]) (by kernel_rfl) (by simp) ?_
          refine (LateReady.cons (o := ⟨_, _, _, _, _, _⟩) rfl (fun K hK => ?_) LateReady.nil)
          go_simp
          refine hK _ _ (fun hAW => ?_) ?_
          focus (have h3 : true = false := Eq.trans (by kernel_rfl) hAW; cases h3)
          clear hK K
          try simp only [Act.put, List.setIfInBounds_toArray, List.set_cons_zero, List.set_cons_succ]
          refine late_done (by kernel_rfl) ?_ _
          have HC := Lib.hid hP5
          clear hP5 hB5 n5 m5 ho5 hg5 hl5 hPc1 hPc2 hPc3 hGc1 hGc2 hGc3 k0
          generalize w5.setCell ⟨xb, 1, none⟩ (.slice B1 (n2 + 1) e1) = wc at *
          obtain ⟨q0, q1, r0, r1, s0, s1, z0', z1', HRS⟩ := Ps.fin HC.out
          go_wp2
          exact bodyPost_ret (v := .agg #[.slice A1 n1 c1, .slice B1 (n2 + 1) e1]) (by simp [results, Try.results28, go_sem, z0', z1']) rfl ⟨_, _, _, _, _, _, _, _, _, rfl, HRS.out.1, by omega, by omega, HRS.out.2.1, by omega, HRS.out.2.2⟩
      · have g0 : (q == 0) = false := by simp; omega
        have g1 : (q == 1) = false := by simp; omega
        clear q0
        obtain ⟨q0, q1, r0, r1, s0, s1, z0', z1', HRS⟩ := Ps.fin HP3.out
        go_wp2
        exact bodyPost_ret (v := .agg #[.slice A1 n1 c1, .slice A2 n2 c2]) (by simp [results, Try.results28, go_sem, z0', z1']) rfl ⟨_, _, _, _, _, _, _, _, _, rfl, HRS.out.1, by omega, by omega, HRS.out.2.1, by omega, HRS.out.2.2⟩
end Go.Proofs.Ytgnffodnimafoaa
