/- The law FnFirstMarksReady, walked: it returns true. -/
import Derived.Test.YtcckmabdflhfmaaLawTok
import Derived.Deep.RegionLaw
import Derived.BigQuiet
namespace Go.Proofs.Ytcckmabdflhfmaa
open Go.RowKit

set_option maxRecDepth 100000 in
set_option maxHeartbeats 3200000 in
theorem lawFirstMarksReady_any (n c : Nat) (A : Option Addr) (xs : List Int) (w : World) (hr : Rd w 0 w.heap.size 1 A n (bvs xs)) (hby : Bytes xs) (hc : n ≤ c) (hc2 : c ≤ 9223372036854775807) :
    Calls Try.prog 5 #[.slice A n c] w fun e w' => e = .returned (.bool true) ∧ Below w.heap.size w w' := by
  by_cases hbig : (1048576 : Int) < n
  · go_enter Try.func5, Try.ntmps5
    go_wp2
    go_ret
    exact ⟨rfl, Below.refl _ _⟩
  go_enter Try.func5, Try.ntmps5
  go_wp2_with (fail)
  (with_reducible refine (drawFirstMarks_any n c A xs w hr hby (by omega) hc hc2).mono ?_)
  clear hbig
  rintro e w1 ⟨An, nn, cn, Af, lf, cf, ns, fs, rfl, hP, hb1⟩
  have HC1 := Lib.hid (Pc.new hP)
  have HB1 := Lib.hid (up_alloc hb1 (.cells #[.slice An nn cn, .slice Af lf cf] 33))
  have hn21 := hP.n21
  have hf21 := hP.f21
  clear hP hb1
  go_wp2_with (fail)
  (with_reducible refine (HC1.out.firstI).mono ?_)
  rintro e w2 ⟨A2, c2, rfl, _, hr2, _, hb2⟩
  have HC2 := Lib.hid (HC1.out.below hb2)
  have HB2 := Lib.hid (up HB1.out hb2)
  have k0 := HC2.out.k0
  have k1 := HC2.out.k1
  have HR2 := Lib.hid (hr2.wide (Nat.zero_le _) (Nat.le_refl _))
  have HLEN : Hid ((firstOf ns fs).length ≤ 21) := by
    have h1 := HC2.out.flen
    have h2 := first_len (ns := ns) (fs := fs)
    rw [Hid]; omega
  clear hb2 HC1 HB1 hr2
  go_wp2_with (fail)
  (with_reducible refine (HC2.out.firstS).mono ?_)
  rintro e w3 ⟨A3, c3, rfl, _, hr3, _, hb3⟩
  have HC3 := Lib.hid (HC2.out.below hb3)
  have HB3 := Lib.hid (up HB2.out hb3)
  have HE := Lib.hid (equalInts_any _ _ _ c2 _ _ _ c3 A2 A3 (firstOf ns fs) (firstOf ns fs) w3 (HR2.out.keep hb3 (Nat.le_refl _)) hb3.size (Nat.le_trans HLEN.out (by omega)) hr3 (Nat.le_refl _) (Nat.le_trans HLEN.out (by omega)))
  have HS3 := Lib.hid hb3.size
  have HR3 := Lib.hid (HR2.out.keep hb3 (Nat.le_refl _))
  clear hb3 HC2 HB2 HR2 hr3 k0 k1
  go_wp2_with (fail)
  (with_reducible refine HE.out.mono ?_)
  rintro e w4 ⟨rfl, hb4⟩
  rw [beq_self_eq_true]
  have HL4 := Lib.hid (show Lw w w4 w1.heap.size An nn cn Af lf cf ns fs 0 w2.heap.size A2 (firstOf ns fs).length (firstOf ns fs) from ⟨HC3.out.below hb4, HR3.out.keep hb4 HS3.out, Nat.le_trans HS3.out hb4.size, up HB3.out hb4⟩)
  have k0 := HL4.out.pc.k0
  have k1 := HL4.out.pc.k1
  clear hb4 HC3 HB3 HR3 HS3 HE
  by_cases h0 : (firstOf ns fs).length = 0
  · have h0' : (((firstOf ns fs).length : Int) == 0) = true := by simp [h0]
    clear h0
    go_wp2_with (fail)
    (with_reducible refine (HL4.out.pc.firstS).mono ?_)
    rintro e w5 ⟨A5, c5, rfl, _, hr5, _, hb5⟩
    have HL5 := Lib.hid (HL4.out.below hb5)
    have HE := Lib.hid (equalInts_any _ _ _ c2 _ _ _ c5 A2 A5 (firstOf ns fs) (firstOf ns fs) w5 HL5.out.out HL5.out.hh (Nat.le_trans HLEN.out (by omega)) hr5 (Nat.le_refl _) (Nat.le_trans HLEN.out (by omega)))
    clear hb5 hr5 HL4 k0 k1
    go_wp2_with (fail)
    (with_reducible refine HE.out.mono ?_)
    rintro e w6 ⟨rfl, hb6⟩
    rw [beq_self_eq_true]
    have HB6 := Lib.hid (up HL5.out.bel hb6)
    clear hb6 HL5 HE
    go_wp2
    go_ret
    exact ⟨rfl, HB6.out⟩
  have hV := first_valid h0
  have h0' : (((firstOf ns fs).length : Int) == 0) = false := by simpa using h0
  have hl21 := HLEN.out
  clear h0
  obtain ⟨q, j, t, y, ps, hql, hfo, hfq, hnj, htl⟩ := first_at hV
  have HFQ := Lib.hid hfq
  have HNJ := Lib.hid hnj
  have HTL := Lib.hid htl
  have HV := Lib.hid hV
  have HFL := Lib.hid HL4.out.pc.flen
  have HNL := Lib.hid HL4.out.pc.nlen
  have HQL := Lib.hid hql
  have HML : Hid ((firstOf ns fs).length = lf) := by rw [Hid, hfo]; simpa using HFL.out
  have HG := Lib.hid (show ∀ (i : Nat) (m : Int), (firstOf ns fs)[i]? = some m → (i = q ∧ m = 1) ∨ (i ≠ q ∧ m = 0) from fun i m h => setone_get (by rw [hfo] at h; exact h))
  have HRD := Lib.hid (first_ready hV hql hfo hfq htl)
  have HVM := Lib.hid (first_marks hV)
  obtain ⟨⟨z, y4⟩, hnt⟩ : ∃ p, ns[t]? = some p := ⟨_, List.getElem?_eq_getElem htl⟩
  have HNT := Lib.hid hnt
  have HKT := Lib.hid (kindAt_is hnt)
  clear hV hfo hfq hnj htl hql hnt
  generalize firstOf ns fs = M at *
  go_wp2_with (fail)
  (with_reducible refine (HL4.out.pc.readyI _ _ M.length c2 A2 M HL4.out.out HL4.out.hh (Nat.le_trans HLEN.out (by omega))).mono ?_)
  rintro e w5 ⟨A5, c5, rfl, _, hr5, _, hb5⟩
  rw [HRD.out, HKT.out] at hr5 ⊢
  have HL5 := Lib.hid (HL4.out.below hb5)
  have HR5 := Lib.hid hr5
  have HS5 := Lib.hid hb5.size
  clear hb5 hr5 HL4 k0 k1 HRD HKT
  by_cases hz : z = 8
  · subst hz
    rw [if_pos rfl] at HR5 ⊢
    clear HR5
    go_wp2
    go_loopw [6] (fun iv wr => ∃ (k : Nat), k ≤ M.length ∧ iv = .int .i64 k ∧ Hid (Lw w wr w1.heap.size An nn cn Af lf cf ns fs 0 w2.heap.size A2 M.length M))
       (fun iv _ => M.length - (intOf iv).toNat)
    case atStart => exact ⟨0, by omega, rfl, HL5⟩
    case round =>
      clear HL5
      obtain ⟨k, hk, rfl, HL⟩ := hrel
      have k0 := HL.out.pc.k0
      have k1 := HL.out.pc.k1
      by_cases hlt : k < M.length
      · obtain ⟨b, off, m, hA2, _, _, hg, hc0⟩ := HL.out.out.one hlt
        subst hA2
        have hk1 : (k : Int) < (M.length : Int) := by omega
        have hk0 : (0 : Int) ≤ (k : Int) := by omega
        rcases HG.out k m hg with ⟨hkq, hm1⟩ | ⟨_, hm0⟩
        · subst hm1
          subst hkq
          have hkl : k < lf := by have := HML.out; omega
          obtain ⟨b2, off2, x, y2, ps2, _, _, _, hAf, _, _, hg2, hd0, hd1, _, _, _⟩ := HL.out.pc.prs.flows.at hkl
          subst hAf
          have hxj : y2 = (t : Int) := by have h := HFQ.out; rw [hg2] at h; injection h with h; injection h with _ h; injection h
          subst hxj
          have hjn : t < nn := by have := HTL.out; have := HNL.out; omega
          obtain ⟨b3, off3, x3, y3, hAn, _, _, hg3, he0, he1⟩ := HL.out.pc.prs.nodes.pair hjn
          subst hAn
          have hx3 : x3 = 8 := by have h := HNT.out; rw [hg3] at h; injection h with h; injection h
          subst hx3
          have hkl1 : (k : Int) < (lf : Int) := by omega
          have hjn1 : (t : Int) < (nn : Int) := by omega
          have hj0 : (0 : Int) ≤ (t : Int) := by omega
          clear hg hg2 hg3
          go_wp2
          go_quiet (fail)
          go_wp2
          go_roundw
          case rel => exact ⟨k + 1, by omega, by go_num, Lib.hid (HL.out.below (up_drewN (Below.refl _ _) _))⟩
          case measure => simp [intOf]; omega
        · subst hm0
          clear hg
          go_wp2
          go_quiet (fail)
          go_wp2
          go_roundw
          case rel => exact ⟨k + 1, by omega, by go_num, Lib.hid (HL.out.below (up_drewN (Below.refl _ _) _))⟩
          case measure => simp [intOf]; omega
      · obtain rfl : k = M.length := by omega
        go_wp2
        go_ret
        exact ⟨rfl, HL.out.bel⟩
  · rw [if_neg hz] at HR5 ⊢
    go_wp2
    go_loopw [6] (fun iv wr => ∃ (k : Nat), k ≤ q ∧ iv = .int .i64 k ∧ Below w5.heap.size w5 wr)
       (fun iv _ => M.length - (intOf iv).toNat)
    case atStart => exact ⟨0, by omega, rfl, Below.refl _ _⟩
    case round =>
      obtain ⟨k, hk, rfl, hbr⟩ := hrel
      have HL := Lib.hid (HL5.out.below hbr)
      have HR6 := Lib.hid (HR5.out.keep hbr (Nat.le_refl _))
      have HSB := Lib.hid hbr.size
      have k0 := HL.out.pc.k0
      have k1 := HL.out.pc.k1
      have hlt : k < M.length := by have := HML.out; have := HQL.out; have := HFL.out; omega
      obtain ⟨b, off, m, hA2, _, _, hg, hc0⟩ := HL.out.out.one hlt
      subst hA2
      have hk1 : (k : Int) < (M.length : Int) := by omega
      have hk0 : (0 : Int) ≤ (k : Int) := by omega
      rcases HG.out k m hg with ⟨hkq, hm1⟩ | ⟨hne, hm0⟩
      · subst hm1
        subst hkq
        have hkl : k < lf := by have := HML.out; omega
        obtain ⟨b2, off2, x, y2, ps2, _, _, _, hAf, _, _, hg2, hd0, hd1, _, _, _⟩ := HL.out.pc.prs.flows.at hkl
        subst hAf
        have hxj : y2 = (t : Int) := by have h := HFQ.out; rw [hg2] at h; injection h with h; injection h with _ h; injection h
        subst hxj
        have hjn : t < nn := by have := HTL.out; have := HNL.out; omega
        obtain ⟨b3, off3, x3, y3, hAn, _, _, hg3, he0, he1⟩ := HL.out.pc.prs.nodes.pair hjn
        subst hAn
        have hx3 : x3 = z := by have h := HNT.out; rw [hg3] at h; injection h with h; injection h
        subst hx3
        have hz8 : (x3 == 8) = false := by simpa using hz
        have hkl1 : (k : Int) < (lf : Int) := by omega
        have hjn1 : (t : Int) < (nn : Int) := by omega
        have hj0 : (0 : Int) ≤ (t : Int) := by omega
        clear hg hg2 hg3
        go_wp2
        go_quiet (fail)
        go_wp2_with (fail)
        generalize hws : wr.drewN _ = ws
        have hbd : Below wr.heap.size wr ws := by rw [← hws]; exact up_drewN (Below.refl _ _) _
        have HBZ := Lib.hid (up_alloc (up HL.out.bel hbd) (.cells #[.int .i64 (t : Int)] 3))
        have hsw : ws.heap.size = wr.heap.size := by rw [← hws]; rfl
        have hbl : Blk (ws.alloc (.cells #[.int .i64 (t : Int)] 3)) wr.heap.size 3 #[.int .i64 (t : Int)] := by rw [← hsw]; exact Blk.new ws _ _
        have hba := up_alloc (Below.refl _ ws) (.cells #[.int .i64 (t : Int)] 3)
        have HC := Lib.hid (equalInts_any _ _ 1 c5 wr.heap.size (wr.heap.size + 1) 1 1 A5 _ [(t : Int)] [(t : Int)] _ ((HR6.out.keep hbd HSB.out).keep hba (Nat.le_trans HSB.out hbd.size)) (Nat.le_trans (Nat.le_trans HSB.out hbd.size) hba.size) (by omega) (Rd.of_blk hbl rfl) (by simp; omega) (by omega))
        clear hbl hba hbr hsw hws
        (with_reducible refine HC.out.mono ?_)
        rintro e w8 ⟨rfl, hb8⟩
        rw [beq_self_eq_true]
        have HB8 := Lib.hid (up HBZ.out hb8)
        clear hb8 HC HBZ
        go_wp2
        go_ret
        exact ⟨rfl, HB8.out⟩
      · subst hm0
        clear hg
        go_wp2
        go_quiet (fail)
        go_wp2
        go_roundw
        case rel => exact ⟨k + 1, by omega, by go_num, up_drewN hbr _⟩
        case measure => simp [intOf]; omega
end Go.Proofs.Ytcckmabdflhfmaa
