/- The law FnReadyNodes, walked: it returns true. -/
import Derived.Test.YtcckmabdflhfmaaLawTokM
import Derived.Deep.RegionLaw
namespace Go.Proofs.Ytcckmabdflhfmaa
open Go.RowKit

set_option maxRecDepth 100000 in
set_option maxHeartbeats 6400000 in
theorem lawReadyNodes_any (n c : Nat) (A : Option Addr) (xs : List Int) (w : World) (hr : Rd w 0 w.heap.size 1 A n (bvs xs)) (hby : Bytes xs) (hc : n ≤ c) (hc2 : c ≤ 9223372036854775807) :
    Calls Try.prog 6 #[.slice A n c] w fun e w' => e = .returned (.bool true) ∧ Below w.heap.size w w' := by
  by_cases hbig : (1048576 : Int) < n
  · go_enter Try.func6, Try.ntmps6
    go_wp2
    go_ret
    exact ⟨rfl, Below.refl _ _⟩
  go_enter Try.func6, Try.ntmps6
  go_wp2_with (fail)
  (with_reducible refine (drawReadyNodes_any n c A xs w hr hby (by omega) hc hc2).mono ?_)
  have hn9 : n ≤ 1048576 := by omega
  clear hbig
  rintro e w1 ⟨An, nn, cn, Af, lf, cf, ns, fs, A1, n1, c1, ms, rfl, hn1, hP, hM, hb1⟩
  have hn21 := hP.n21
  have hf21 := hP.f21
  have hba := up_alloc (Below.refl _ w1) (.cells #[.slice An nn cn, .slice Af lf cf] 33)
  have hL := (show Lm w _ w1.heap.size An nn cn Af lf cf ns fs w1.heap.size A1 n1 ms w1.heap.size A1 n1 ms from ⟨Pc.new (hP.wide (Nat.zero_le _) (Nat.le_refl _)), (hM.wide (Nat.zero_le _) (Nat.le_refl _)).keep hba (Nat.le_refl _), hba.size, (hM.wide (Nat.zero_le _) (Nat.le_refl _)).keep hba (Nat.le_refl _), hba.size, up hb1 hba⟩)
  have HL := Lib.hid hL
  clear hP hM hb1 hba hL
  go_wp2_with (fail)
  (with_reducible refine (HL.out.pc.readyI _ _ n1 c1 A1 ms HL.out.tok HL.out.mh (by omega)).mono ?_)
  rintro e w2 ⟨A2, c2, rfl, _, hr2, _, hb2⟩
  have HL2 := Lib.hid (show Lm w w2 w1.heap.size An nn cn Af lf cf ns fs w1.heap.size A1 n1 ms w2.heap.size A2 (readyOf ns fs ms).length (readyOf ns fs ms) from
    let h := HL.out.below hb2; ⟨h.pc, h.tok, h.mh, hr2.wide (Nat.zero_le _) (Nat.le_refl _), Nat.le_refl _, h.bel⟩)
  have HLEN : Hid ((readyOf ns fs ms).length ≤ 21) := by
    have h1 := HL2.out.pc.nlen
    have h2 := ready_le ns fs ms
    rw [Hid]; omega
  have k0 := HL2.out.pc.k0
  have k1 := HL2.out.pc.k1
  clear hb2 hr2 HL
  go_wp2_with (fail)
  (with_reducible refine (HL2.out.pc.readyS _ _ n1 c1 A1 ms HL2.out.tok HL2.out.mh (by omega)).mono ?_)
  rintro e w3 ⟨A3, c3, rfl, _, hr3, _, hb3⟩
  have HL3 := Lib.hid (HL2.out.below hb3)
  have HE := Lib.hid (equalInts_any _ _ _ c2 _ _ _ c3 A2 A3 (readyOf ns fs ms) (readyOf ns fs ms) w3 HL3.out.out HL3.out.hh (Nat.le_trans HLEN.out (by omega)) hr3 (Nat.le_refl _) (Nat.le_trans HLEN.out (by omega)))
  clear hb3 HL2 hr3 k0 k1
  go_wp2_with (fail)
  (with_reducible refine HE.out.mono ?_)
  rintro e w4 ⟨rfl, hb4⟩
  rw [beq_self_eq_true]
  have HL4 := Lib.hid (HL3.out.below hb4)
  have k0 := HL4.out.pc.k0
  have k1 := HL4.out.pc.k1
  clear hb4 HL3 HE
  cases hv : vProc ns fs && vMarks fs ms with
  | false =>
    have HC := Lib.hid (count_no hv)
    clear hv
    go_wp2_with (fail)
    (with_reducible refine (HL4.out.pc.countI _ _ n1 c1 A1 ms HL4.out.tok HL4.out.mh (by omega)).mono ?_)
    rintro e w5 ⟨rfl, hb5⟩
    rw [HC.out]
    have HL5 := Lib.hid (HL4.out.below hb5)
    clear hb5 HL4 k0 k1
    have k0 := HL5.out.pc.k0
    have k1 := HL5.out.pc.k1
    go_wp2_with (fail)
    (with_reducible refine (HL5.out.pc.readyS _ _ n1 c1 A1 ms HL5.out.tok HL5.out.mh (by omega)).mono ?_)
    rintro e w6 ⟨A6, c6, rfl, _, hr6, _, hb6⟩
    have HL6 := Lib.hid (HL5.out.below hb6)
    have HE := Lib.hid (equalInts_any _ _ _ c2 _ _ _ c6 A2 A6 (readyOf ns fs ms) (readyOf ns fs ms) w6 HL6.out.out HL6.out.hh (Nat.le_trans HLEN.out (by omega)) hr6 (Nat.le_refl _) (Nat.le_trans HLEN.out (by omega)))
    clear hb6 hr6 HL5 k0 k1
    go_wp2_with (fail)
    (with_reducible refine HE.out.mono ?_)
    rintro e w7 ⟨rfl, hb7⟩
    rw [beq_self_eq_true]
    have HB7 := Lib.hid (up HL6.out.bel hb7)
    clear hb7 HL6 HE
    go_wp2
    go_ret
    exact ⟨rfl, HB7.out⟩
  | true =>
  have HC := Lib.hid (count_yes hv)
  have HRM := Lib.hid (show ∀ i : Nat, i < ns.length → inL (readyOf ns fs ms) (i : Int) = readyB (kindAt ns i) ms (flOf fs false (i : Int)) from fun i hi => ready_mem hv hi)
  rw [Bool.and_eq_true] at hv
  have HV := Lib.hid hv.1
  have hr03 := marks_range hv.2
  have hs0 := sum_nonneg fun z hz => (hr03 z hz).1
  have HML := Lib.hid (show n1 = lf by rw [← HL4.out.tok.len1, marks_len hv.2, HL4.out.pc.flen])
  have HNL := Lib.hid HL4.out.pc.nlen
  have HFL := Lib.hid HL4.out.pc.flen
  clear hv hr03
  generalize hS : ms.sum = s at HC hs0
  clear hS
  have hlt : decide (s < 0) = false := decide_eq_false (by omega)
  go_wp2_with (fail)
  (with_reducible refine (HL4.out.pc.countI _ _ n1 c1 A1 ms HL4.out.tok HL4.out.mh (by omega)).mono ?_)
  rintro e w5 ⟨rfl, hb5⟩
  rw [HC.out]
  have HL5 := Lib.hid (HL4.out.below hb5)
  clear hb5 HL4 k0 k1
  generalize readyOf ns fs ms = R at *
  go_wp2
  go_loopw [6] (fun iv wr => ∃ (i : Nat), i ≤ nn ∧ iv = .int .i64 i ∧ Hid (Lm w wr w1.heap.size An nn cn Af lf cf ns fs w1.heap.size A1 n1 ms w2.heap.size A2 R.length R))
     (fun iv _ => nn - (intOf iv).toNat)
  case atStart => exact ⟨0, by omega, rfl, HL5⟩
  case round =>
    clear HL5
    obtain ⟨i, hi, rfl, HL⟩ := hrel
    have k0 := HL.out.pc.k0
    have k1 := HL.out.pc.k1
    by_cases hlt : i < nn
    · have hi1 : (i : Int) < (nn : Int) := by omega
      have hi0 : (0 : Int) ≤ (i : Int) := by omega
      go_wp2_with (fail)
      (with_reducible refine (HL.out.pc.inI (i : Int) (by unfold in64; omega)).mono ?_)
      rintro e w6 ⟨A6, c6, rfl, _, hr6, _, hb6⟩
      rw [flowsAt_yes HV.out] at hr6 ⊢
      have HL6 := Lib.hid (HL.out.below hb6)
      have HR6 := Lib.hid hr6
      have HMEM := Lib.hid (show ∀ q ∈ flOf fs false (i : Int), ∃ j : Nat, q = (j : Int) ∧ j < n1 from fun q hq => by
        obtain ⟨j, f, rfl, hf, _⟩ := flOf_mem.1 hq
        have := (List.getElem?_eq_some_iff.1 hf).1
        have := HML.out; have := HFL.out
        exact ⟨j, rfl, by omega⟩)
      have HRI := Lib.hid (HRM.out i (by have := HNL.out; omega))
      have hl14 : (flOf fs false (i : Int)).length ≤ 1048576 := by
        have h1 := flUp_le fs false (i : Int) fs.length
        have h2 := HFL.out
        show (flUp fs false (i : Int) fs.length).length ≤ _
        omega
      clear hb6 hr6 HL k0 k1
      generalize flOf fs false (i : Int) = L at *
      go_wp2
      go_loop [8, 9, 10] (fun sv ev kv => ∃ (k : Nat), k ≤ L.length ∧ kv = .int .i64 k ∧ sv = .bool ((L.take k).any (pos ms)) ∧ ev = .bool (decide (0 < L.length) && (L.take k).all (pos ms)))
         (fun _ _ kv => L.length - (intOf kv).toNat)
      case atStart => exact ⟨0, by omega, rfl, by simp, by by_cases h : 0 < L.length <;> simp [h]⟩
      case round =>
        obtain ⟨k, hk, rfl, rfl, rfl⟩ := hrel
        by_cases hkl : k < L.length
        · obtain ⟨b, off, q, hA6, _, _, hg, hc0⟩ := HR6.out.one hkl
          subst hA6
          obtain ⟨j, rfl, hj⟩ := HMEM.out q (List.mem_of_getElem? hg)
          obtain ⟨b2, off2, m, hA1, _, _, hgm, hm0⟩ := HL6.out.tok.one hj
          subst hA1
          have HAN := Lib.hid (show (L.take (k + 1)).any (pos ms) = ((L.take k).any (pos ms) || decide (0 < m)) by
            rw [take_snoc hg, List.any_append]; simp [pos, List.getD_eq_getElem?_getD, hgm])
          have HAL := Lib.hid (show (decide (0 < L.length) && (L.take (k + 1)).all (pos ms)) = ((decide (0 < L.length) && (L.take k).all (pos ms)) && decide (0 < m)) by
            rw [take_snoc hg, List.all_append, Bool.and_assoc]; simp [pos, List.getD_eq_getElem?_getD, hgm])
          clear hg hgm
          have hk1 : (k : Int) < (L.length : Int) := by omega
          have hk0 : (0 : Int) ≤ (k : Int) := by omega
          have hj1 : (j : Int) < (n1 : Int) := by omega
          have hj0 : (0 : Int) ≤ (j : Int) := by omega
          generalize hsb : (L.take k).any (pos ms) = sb at HAN
          generalize heb : (decide (0 < L.length) && (L.take k).all (pos ms)) = eb at HAL
          clear hsb heb
          by_cases hm : 0 < m
          · have hm' : decide (0 < m) = true := decide_eq_true hm
            rw [hm'] at HAN HAL
            have hm1 : (0 : Int) < m := hm
            cases sb <;> cases eb
            all_goals
              go_wp2
              go_round
              case rel => exact ⟨k + 1, by omega, by go_num, by rw [HAN.out]; rfl, by rw [HAL.out]; rfl⟩
              case measure => simp [intOf]; omega
          · have hm' : decide (0 < m) = false := decide_eq_false hm
            rw [hm'] at HAN HAL
            cases sb <;> cases eb
            all_goals
              go_wp2
              go_round
              case rel => exact ⟨k + 1, by omega, by go_num, by rw [HAN.out]; rfl, by rw [HAL.out]; rfl⟩
              case measure => simp [intOf]; omega
        · obtain rfl : k = L.length := by omega
          rw [List.take_length] at *
          have k0 := HL6.out.pc.k0
          have k1 := HL6.out.pc.k1
          obtain ⟨b3, off3, x3, y3, hAn, _, _, hg3, he0, he1⟩ := HL6.out.pc.prs.nodes.pair hlt
          subst hAn
          have HKI := Lib.hid (kindAt_is hg3)
          clear hg3
          have HI := Lib.hid (HL6.out.isIn c2 (Nat.le_trans HLEN.out (by omega)) (i : Int))
          by_cases hx : x3 = 8
          · subst hx
            have HEQ : Hid (inL R (i : Int) = (decide (0 < L.length) && L.all (pos ms))) := by
              rw [Hid, HRI.out, HKI.out, readyB, if_pos rfl]
              cases L <;> simp
            generalize (decide (0 < L.length) && L.all (pos ms)) = eb at *
            generalize L.any (pos ms) = sb at *
            have hee : (eb != eb) = false := by simp
            go_wp2_with (fail)
            (with_reducible refine HI.out.mono ?_)
            rintro e w7 ⟨rfl, rfl⟩
            rw [HEQ.out]
            clear HI
            go_wp2
            go_roundw
            case rel => exact ⟨i + 1, by omega, by go_num, HL6⟩
            case measure => simp [intOf]; omega
          · have hx' : (x3 == 8) = false := by simpa using hx
            have hxn : (x3 != 8) = true := by simpa using hx
            have HEQ : Hid (inL R (i : Int) = L.any (pos ms)) := by
              rw [Hid, HRI.out, HKI.out, readyB, if_neg hx]
            generalize (decide (0 < L.length) && L.all (pos ms)) = eb at *
            generalize L.any (pos ms) = sb at *
            have hee : (sb != sb) = false := by simp
            clear hx
            go_wp2_with (fail)
            (with_reducible refine HI.out.mono ?_)
            rintro e w7 ⟨rfl, rfl⟩
            rw [HEQ.out]
            clear HI
            go_wp2
            go_roundw
            case rel => exact ⟨i + 1, by omega, by go_num, HL6⟩
            case measure => simp [intOf]; omega
    · obtain rfl : i = nn := by omega
      go_wp2
      go_ret
      exact ⟨rfl, HL.out.bel⟩
end Go.Proofs.Ytcckmabdflhfmaa
