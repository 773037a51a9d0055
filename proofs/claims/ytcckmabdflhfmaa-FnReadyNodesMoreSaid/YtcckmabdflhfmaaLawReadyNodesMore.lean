/- The law FnReadyNodesMore, walked: it returns true. -/
import Derived.Test.YtcckmabdflhfmaaLawTokM
import Derived.Deep.RegionLaw
namespace Go.Proofs.Ytcckmabdflhfmaa
open Go.RowKit

theorem vProc_pos1 {ns : List (Int × Int)} {fs : List Flw} (h : vProc ns fs = true) : 0 < fs.length := by
  have h1 := vProc_starts h
  obtain ⟨j, y, hj, hs⟩ := startAt_spec ns 0 (by omega)
  have hk := (vProc_node h hj).2
  have ho : (flOf fs true (j : Int)).length = 1 := by
    simp only [vKind, if_true, Bool.and_eq_true, decide_eq_true_eq] at hk
    omega
  have hl := flUp_le fs true (j : Int) fs.length
  have : (flOf fs true (j : Int)).length ≤ fs.length := hl
  omega
theorem pos_more {ms : List Int} {k : Nat} {v : Int} (hk : k < ms.length) (hv : ms.getD k 0 ≤ v) {q : Int} (h : pos ms q = true) : pos (ms.set k v) q = true := by
  rw [pos, decide_eq_true_eq] at h ⊢
  by_cases e : k = q.toNat
  · rw [← e] at h ⊢
    rw [List.getD_eq_getElem?_getD, List.getElem?_set_self hk]
    show 0 < v
    omega
  · rw [List.getD_eq_getElem?_getD, List.getElem?_set_ne e, ← List.getD_eq_getElem?_getD]; exact h
theorem readyB_more {ms : List Int} {k : Nat} {v x : Int} (hk : k < ms.length) (hv : ms.getD k 0 ≤ v) {ids : List Int} (h : readyB x ms ids = true) : readyB x (ms.set k v) ids = true := by
  unfold readyB at h ⊢
  split at h
  · rw [if_pos (by assumption)]
    rw [Bool.and_eq_true] at h ⊢
    exact ⟨h.1, List.all_eq_true.2 fun q hq => pos_more hk hv (List.all_eq_true.1 h.2 q hq)⟩
  · rw [if_neg (by assumption)]
    obtain ⟨q, hq, hp⟩ := List.any_eq_true.1 h
    exact List.any_eq_true.2 ⟨q, hq, pos_more hk hv hp⟩
theorem marks_set {fs : List Flw} {ms : List Int} {k : Nat} {v : Int} (h : vMarks fs ms = true) (hv : 0 ≤ v ∧ v ≤ 3) : vMarks fs (ms.set k v) = true := by
  rw [vMarks, Bool.and_eq_true]
  refine ⟨by rw [List.length_set, marks_len h]; simp, List.all_eq_true.2 fun z hz => inR_iff.2 ?_⟩
  rcases List.mem_or_eq_of_mem_set hz with h' | rfl
  · exact marks_range h z h'
  · exact hv
theorem ready_more {ns : List (Int × Int)} {fs : List Flw} {ms : List Int} {k : Nat} {v : Int} (h : (vProc ns fs && vMarks fs ms) = true) (hk : k < ms.length) (h1 : ms.getD k 0 ≤ v) (h2 : 0 ≤ v ∧ v ≤ 3) : ∀ z ∈ readyOf ns fs ms, inL (readyOf ns fs (ms.set k v)) z = true := by
  intro z hz
  obtain ⟨i, rfl, hi, _, hb⟩ := ready_in hz
  rw [Bool.and_eq_true] at h
  rw [ready_mem (by rw [h.1, marks_set h.2 h2]; rfl) hi]
  exact readyB_more hk h1 hb

set_option maxRecDepth 100000 in
set_option maxHeartbeats 6400000 in
theorem lawReadyNodesMore_any (n c : Nat) (A : Option Addr) (xs : List Int) (w : World) (hr : Rd w 0 w.heap.size 1 A n (bvs xs)) (hby : Bytes xs) (hc : n ≤ c) (hc2 : c ≤ 9223372036854775807) :
    Calls Try.prog 7 #[.slice A n c] w fun e w' => e = .returned (.bool true) ∧ Below w.heap.size w w' := by
  by_cases hbig : (1048576 : Int) < n
  · go_enter Try.func7, Try.ntmps7
    go_wp2
    go_ret
    exact ⟨rfl, Below.refl _ _⟩
  go_enter Try.func7, Try.ntmps7
  go_wp2_with (fail)
  (with_reducible refine (drawReadyNodes_any n c A xs w hr hby (by omega) hc hc2).mono ?_)
  have hn9 : n ≤ 1048576 := by omega
  clear hbig
  rintro e w1 ⟨An, nn, cn, Af, lf, cf, ns, fs, A1, n1, c1, ms, rfl, hn1, hP, hM, hb1⟩
  have hn21 := hP.n21
  have hf21 := hP.f21
  have hba := up_alloc (Below.refl _ w1) (.cells #[.slice An nn cn, .slice Af lf cf] 33)
  have hL := (show Lm w _ w1.heap.size An nn cn Af lf cf ns fs w1.heap.size A1 n1 ms w1.heap.size A1 n1 ms from ⟨Pc.new (hP.wide (Nat.zero_le _) (Nat.le_refl _)), (hM.wide (Nat.zero_le _) (Nat.le_refl _)).keep hba (Nat.le_refl _), hba.size, (hM.wide (Nat.zero_le _) (Nat.le_refl _)).keep hba (Nat.le_refl _), hba.size, up hb1 hba⟩)
  have HL := Lib.hid hL
  clear hP hM hb1 hba hL
  go_wp2_with (fail)
  (with_reducible refine (HL.out.pc.readyI _ _ n1 c1 A1 ms HL.out.tok HL.out.mh (by omega)).mono ?_)
  rintro e w2 ⟨A2, c2, rfl, _, hr2, _, hb2⟩
  have HL2 := Lib.hid (show Lm w w2 w1.heap.size An nn cn Af lf cf ns fs w1.heap.size A1 n1 ms w2.heap.size A2 (readyOf ns fs ms).length (readyOf ns fs ms) from
    let h := HL.out.below hb2; ⟨h.pc, h.tok, h.mh, hr2.wide (Nat.zero_le _) (Nat.le_refl _), Nat.le_refl _, h.bel⟩)
  have HLEN : Hid ((readyOf ns fs ms).length ≤ 21) := by
    have h1 := HL2.out.pc.nlen
    have h2 := ready_le ns fs ms
    rw [Hid]; omega
  have k0 := HL2.out.pc.k0
  have k1 := HL2.out.pc.k1
  clear hb2 hr2 HL
  go_wp2_with (fail)
  (with_reducible refine (HL2.out.pc.readyS _ _ n1 c1 A1 ms HL2.out.tok HL2.out.mh (by omega)).mono ?_)
  rintro e w3 ⟨A3, c3, rfl, _, hr3, _, hb3⟩
  have HL3 := Lib.hid (HL2.out.below hb3)
  have HE := Lib.hid (equalInts_any _ _ _ c2 _ _ _ c3 A2 A3 (readyOf ns fs ms) (readyOf ns fs ms) w3 HL3.out.out HL3.out.hh (Nat.le_trans HLEN.out (by omega)) hr3 (Nat.le_refl _) (Nat.le_trans HLEN.out (by omega)))
  clear hb3 HL2 hr3 k0 k1
  go_wp2_with (fail)
  (with_reducible refine HE.out.mono ?_)
  rintro e w4 ⟨rfl, hb4⟩
  rw [beq_self_eq_true]
  have HL4 := Lib.hid (HL3.out.below hb4)
  have k0 := HL4.out.pc.k0
  have k1 := HL4.out.pc.k1
  clear hb4 HL3 HE
  by_cases h0 : (readyOf ns fs ms).length = 0
  · have h0' : (((readyOf ns fs ms).length : Int) == 0) = true := by simp [h0]
    clear h0
    have HL5 := Lib.hid HL4.out
    clear HL4
    go_wp2_with (fail)
    (with_reducible refine (HL5.out.pc.readyS _ _ n1 c1 A1 ms HL5.out.tok HL5.out.mh (by omega)).mono ?_)
    rintro e w6 ⟨A6, c6, rfl, _, hr6, _, hb6⟩
    have HL6 := Lib.hid (HL5.out.below hb6)
    have HE := Lib.hid (equalInts_any _ _ _ c2 _ _ _ c6 A2 A6 (readyOf ns fs ms) (readyOf ns fs ms) w6 HL6.out.out HL6.out.hh (Nat.le_trans HLEN.out (by omega)) hr6 (Nat.le_refl _) (Nat.le_trans HLEN.out (by omega)))
    clear hb6 hr6 HL5 k0 k1
    go_wp2_with (fail)
    (with_reducible refine HE.out.mono ?_)
    rintro e w7 ⟨rfl, hb7⟩
    rw [beq_self_eq_true]
    have HB7 := Lib.hid (up HL6.out.bel hb7)
    clear hb7 HL6 HE
    go_wp2
    go_ret
    exact ⟨rfl, HB7.out⟩
  have hv := ready_valid h0
  have h0' : (((readyOf ns fs ms).length : Int) == 0) = false := by simpa using h0
  have HMR := Lib.hid (fun (k : Nat) (v : Int) (hk : k < ms.length) (h1 : ms.getD k 0 ≤ v) (h2 : 0 ≤ v ∧ v ≤ 3) => ready_more hv hk h1 h2)
  rw [Bool.and_eq_true] at hv
  have HR := Lib.hid (marks_range hv.2)
  have HN1 := Lib.hid HL4.out.tok.len1
  have hn0 : 0 < n1 := by
    have h1 := vProc_pos1 hv.1
    have h2 := marks_len hv.2
    have h3 := HN1.out
    omega
  have HRL := Lib.hid (show ∀ m : List Int, (readyOf ns fs m).length ≤ 1048576 from fun m => by
    have h1 := HL4.out.pc.nlen
    have h2 := ready_le ns fs m
    omega)
  clear h0 hv
  have hl21 := HLEN.out
  obtain ⟨i0, hi0, hz0, hz1, hz2⟩ := info_parts infoIntD
  have hown1 : (w4.alloc (.cells #[] 3)).ownsRow w4.heap.size 3 1 (.slice (some ⟨w4.heap.size, 0, none⟩) 0 0) 0 [] := World.ownsRow_made w4 #[] 0 (Nat.le_refl _) (by unfold maxLen; omega) (by simp)
  have hbl := up_alloc (Below.refl _ w4) (.cells #[] 3)
  have hr1 := HL4.out.tok.keep hbl HL4.out.mh
  go_wp2_with (at_builtin; refine wpList_append_rd _ rfl _ _ 26 rfl w4.heap.size 3 i0 (.int .i64 0) 1 8 Try.underlying26 hi0 hz0 hz1 hz2 rfl (by decide) _ _ _ rfl hown1 _ _ A1 n1 c1 (ivs ms) rfl hr1 (ivs_one ms) ?c3 ?c4 ?c5 ?_)
  case c3 => unfold maxLen; omega
  case c4 => omega
  case c5 => simp
  intro v5 w5 hown5 hg5 _
  have hb5 := up_grown hbl hown1 hg5 (Nat.le_refl _)
  try simp only [Nat.zero_add, List.nil_append] at hown5
  obtain ⟨g, c5, rfl, hg51, hg52, hgc5⟩ := own_first hown5 (by omega)
  have HB5 := Lib.hid hb5
  clear hown1 hg5 hr1 hbl hb5
  obtain ⟨q, hq⟩ : ∃ q : Nat, q = n % n1 := ⟨_, rfl⟩
  have hqn : q < n1 := by rw [hq]; exact Nat.mod_lt _ hn0
  have hqt : Int.tmod (n : Int) (n1 : Int) = (q : Int) := by rw [hq]; rfl
  have hqw : IntKind.i64.wrap (q : Int) = (q : Int) := IntWalk.i64_in _ (by omega)
  have hq0 : (0 : Int) ≤ (q : Int) := by omega
  have hq1 : (q : Int) < (n1 : Int) := by omega
  have hn1z : ((n1 : Int) == 0) = false := by simp; omega
  have hd0 := hown5.cellAt q (by omega)
  obtain ⟨y, hy⟩ : ∃ y, ms[q]? = some y := ⟨_, List.getElem?_eq_getElem (by rw [HN1.out]; exact hqn)⟩
  have hyv : (ivs ms)[q]? = some (.int .i64 y) := by simp [ivs, hy]
  rw [hyv] at hd0
  have hyr := HR.out y (List.mem_of_getElem? hy)
  have hy0 := hyr.1
  have hy9 := hyr.2
  have hyd : ms.getD q 0 = y := by rw [List.getD_eq_getElem?_getD, hy]; rfl
  have hf0 := hown5.frozenAt q
  have HST := Lib.hid (show (w5.setCell ⟨g, q, none⟩ (.int .i64 (min (y + 1) 3))).ownsRow w4.heap.size 3 1 (.slice (some ⟨g, 0, none⟩) n1 c5) n1 (ivs (ms.set q (min (y + 1) 3))) from by
    have hst := (hown5.stored q (.int .i64 (min (y + 1) 3))).1
    rw [show (ivs ms).set q (.int .i64 (min (y + 1) 3)) = ivs (ms.set q (min (y + 1) 3)) by simp [ivs, List.map_set]] at hst
    exact hst)
  have HL6 := Lib.hid (HL4.out.below (HB5.out.setCell (p := ⟨g, q, none⟩) hg51 (.int .i64 (min (y + 1) 3))))
  have HMR1 := Lib.hid (HMR.out q (min (y + 1) 3) (by rw [HN1.out]; exact hqn) (by omega) (by omega))
  have hwy : IntKind.i64.wrap (y + 1) = y + 1 := IntWalk.i64_in _ (by omega)
  clear hq hyv hy hyr hyd hown5 HL4 HMR HB5 k0 k1
  have k0 := HL6.out.pc.k0
  have k1 := HL6.out.pc.k1
  go_wp2_with (fail)
  (with_reducible refine (HL6.out.pc.readyI _ _ n1 c5 _ (ms.set q (min (y + 1) 3)) (Rd.of_own HST.out) (Nat.le_refl _) (by omega)).mono ?_)
  rintro e w7 ⟨A7, c7, rfl, _, hr7, _, hb7⟩
  have HL7 := Lib.hid (HL6.out.below hb7)
  have HQ7 := Lib.hid hr7
  have HRL1 := HRL.out (ms.set q (min (y + 1) 3))
  clear hb7 hr7 HL6 HST k0 k1
  generalize readyOf ns fs (ms.set q (min (y + 1) 3)) = R2 at *
  generalize readyOf ns fs ms = R at *
  go_wp2
  go_loop [9] (fun iv => ∃ (i : Nat), i ≤ R.length ∧ iv = .int .i64 i)
     (fun iv => R.length - (intOf iv).toNat)
  case atStart => exact ⟨0, by omega, rfl⟩
  case round =>
    obtain ⟨i, hi, rfl⟩ := hrel
    by_cases hlt : i < R.length
    · have hi1 : (i : Int) < (R.length : Int) := by omega
      have hi0 : (0 : Int) ≤ (i : Int) := by omega
      obtain ⟨b, off, z, hA2, _, _, hg, hc0⟩ := HL7.out.out.one hlt
      subst hA2
      have HIN := Lib.hid (HMR1.out z (List.mem_of_getElem? hg))
      have HI := Lib.hid (isIn_any _ _ R2.length c7 A7 R2 z _ HQ7.out HRL1)
      clear hg
      go_wp2_with (fail)
      (with_reducible refine HI.out.mono ?_)
      rw [HIN.out]
      rintro e w8 ⟨rfl, rfl⟩
      clear HI
      go_wp2
      go_round
      case rel => exact ⟨i + 1, by omega, by go_num⟩
      case measure => simp [intOf]; omega
    · obtain rfl : i = R.length := by omega
      go_wp2
      go_ret
      exact ⟨rfl, HL7.out.bel⟩
end Go.Proofs.Ytcckmabdflhfmaa
