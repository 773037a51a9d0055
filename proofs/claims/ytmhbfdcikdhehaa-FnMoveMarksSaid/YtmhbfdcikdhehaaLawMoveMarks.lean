/- The law FnMoveMarks, walked: it returns true. (Written by gen/lawmove.py.) -/
import Derived.Test.YtmhbfdcikdhehaaLawMv0
import Derived.BigQuiet
import Derived.Deep.RegionLaw
set_option linter.unusedSimpArgs false
set_option linter.unusedVariables false
namespace Go.Proofs.Ytmhbfdcikdhehaa
open Go.RowKit

set_option maxRecDepth 100000 in
set_option maxHeartbeats 6400000 in
theorem lawMoveMarks_any (n c : Nat) (A : Option Addr) (xs : List Int) (w : World) (hr : Rd w 0 w.heap.size 1 A n (bvs xs)) (hby : Bytes xs) (hc : n ≤ c) (hc2 : c ≤ 9223372036854775807) :
    Calls Try.prog 3 #[.slice A n c] w fun e w' => e = .returned (.bool true) ∧ Below w.heap.size w w' := by
  by_cases hbig : (1048576 : Int) < n
  · go_enter Try.func3, Try.ntmps3
    go_wp2
    go_ret
    exact ⟨rfl, Below.refl _ _⟩
  go_enter Try.func3, Try.ntmps3
  go_wp2_with (fail)
  (with_reducible refine (drawMoveMarks_any n c A xs w hr hby (by omega) hc hc2).mono ?_)
  clear hbig hr hby
  rintro e w1 ⟨An, nn, cn, Af, lf, cf, ns, fs, Aq, nq, cq, Ag, lg, cg, nsq, gs, A2, n2, c2, fl, A3, n3, c3, ms, rfl, hn2, hn3, hP, hQ, hF, hM, hb1⟩
  have hba := up_alloc (Below.refl _ w1) (.cells #[.slice An nn cn, .slice Af lf cf] 26)
  have hbb := up_alloc (Below.refl _ (w1.alloc (.cells #[.slice An nn cn, .slice Af lf cf] 26))) (.cells #[.slice Aq nq cq, .slice Ag lg cg] 26)
  have hbc := up_alloc hba (.cells #[.slice Aq nq cq, .slice Ag lg cg] 26)
  have hs1 : (w1.alloc (.cells #[.slice An nn cn, .slice Af lf cf] 26)).heap.size = w1.heap.size + 1 := by simp
  have hQ1 : Pc ((w1.alloc (.cells #[.slice An nn cn, .slice Af lf cf] 26)).alloc (.cells #[.slice Aq nq cq, .slice Ag lg cg] 26)) (w1.heap.size + 1) Aq nq cq Ag lg cg nsq gs := by
    have := Pc.new (w := (w1.alloc (.cells #[.slice An nn cn, .slice Af lf cf] 26))) (((hQ.wide (Nat.zero_le _) (Nat.le_refl _)).keep hba (Nat.le_refl _)).wide (Nat.le_refl _) hba.size)
    rwa [hs1] at this
  have HS0 : Hid (Mv w w1.heap.size An nn cn Af lf cf ns fs (w1.heap.size + 1) Aq nq cq Ag lg cg nsq gs A2 n2 fl A3 n3 ms ((w1.alloc (.cells #[.slice An nn cn, .slice Af lf cf] 26)).alloc (.cells #[.slice Aq nq cq, .slice Ag lg cg] 26))) := ⟨(Pc.new (hP.wide (Nat.zero_le _) (Nat.le_refl _))).below hbb, hQ1, Rm.of (hF.keep hbc (Nat.le_refl _)) hbc.size, Rm.of (hM.keep hbc (Nat.le_refl _)) hbc.size, up hb1 hbc⟩
  clear hP hQ hF hM hb1 hba hbb hbc hs1 hQ1
  have HLF := Lib.hid HS0.out.p.flen
  have HLG := Lib.hid HS0.out.q.flen
  have HLM := Lib.hid HS0.out.m.len
  have HL2 := Lib.hid HS0.out.f.len
  have hf21 := HS0.out.p.prs.f21
  have hg21 := HS0.out.q.prs.f21
  cases hU : moveOf ns fs nsq gs fl ms with
  | none =>
    have HU := Lib.hid hU
    clear hU
    have k_1 := HS0.out.p.k0
    have k_2 := HS0.out.p.k1
    have k_3 := HS0.out.q.k0
    have k_4 := HS0.out.q.k1
    go_wp2_with (fail)
    (with_reducible refine (HS0.out.p.moveI HS0.out.q HS0.out.f HS0.out.m (by omega) (by omega) c2 c3).mono ?_)
    rw [HU.out, Option.getD_none, Option.isSome_none]
    rintro e w2 ⟨AM, cM, rfl, _, hM, _, hbt⟩
    clear k_1 k_2 k_3 k_4
    rw [List.length_nil] at hM ⊢
    have HS_5 := Lib.hid (HS0.out.below hbt)
    clear HS0
    have HM_6 := Lib.hid (Rm.of hM (Nat.le_refl _))
    clear hM
    clear hbt
    have k_7 := HS_5.out.p.k0
    have k_8 := HS_5.out.p.k1
    have k_9 := HS_5.out.q.k0
    have k_10 := HS_5.out.q.k1
    go_wp2_with (fail)
    (with_reducible refine (HS_5.out.p.moveS HS_5.out.q HS_5.out.f HS_5.out.m (by omega) (by omega) c2 c3).mono ?_)
    rw [HU.out, Option.getD_none, Option.isSome_none]
    rintro e w3 ⟨AW, cW, rfl, _, hW, _, hbt⟩
    clear k_7 k_8 k_9 k_10
    rw [List.length_nil] at hW ⊢
    have HS_11 := Lib.hid (HS_5.out.below hbt)
    have HM_12 := Lib.hid (HM_6.out.below hbt)
    clear HS_5 HM_6
    have HW_13 := Lib.hid (Rm.of hW (Nat.le_refl _))
    clear hW
    clear hbt
    have k_14 := HS_11.out.p.k0
    have k_15 := HS_11.out.p.k1
    have k_16 := HS_11.out.q.k0
    have k_17 := HS_11.out.q.k1
    have HE := Lib.hid (eqRm HM_12.out HW_13.out (by omega) (by omega) cM cW)
    go_wp2_with (fail)
    (with_reducible refine HE.out.mono ?_)
    clear HE k_14 k_15 k_16 k_17
    rintro e w4 ⟨rfl, hbt⟩
    rw [beq_self_eq_true]
    have HS_18 := Lib.hid (HS_11.out.below hbt)
    have HM_19 := Lib.hid (HM_12.out.below hbt)
    have HW_20 := Lib.hid (HW_13.out.below hbt)
    clear HS_11 HM_12 HW_13
    clear hbt
    have k_21 := HS_18.out.p.k0
    have k_22 := HS_18.out.p.k1
    have k_23 := HS_18.out.q.k0
    have k_24 := HS_18.out.q.k1
    have HE := Lib.hid (eqRm HM_19.out HW_20.out (by omega) (by omega) cM cW)
    go_wp2_with (fail)
    (with_reducible refine HE.out.mono ?_)
    clear HE k_21 k_22 k_23 k_24
    rintro e w5 ⟨rfl, hbt⟩
    rw [beq_self_eq_true]
    have HS_25 := Lib.hid (HS_18.out.below hbt)
    have HM_26 := Lib.hid (HM_19.out.below hbt)
    have HW_27 := Lib.hid (HW_20.out.below hbt)
    clear HS_18 HM_19 HW_20
    clear hbt
    go_wp2
    go_ret
    exact ⟨rfl, HS_25.out.b⟩
  | some l =>
    have HX := Lib.hid (count_moved hU)
    have HU := Lib.hid hU
    have hll : l.length = lg := by rw [HX.out.2]; exact HLG.out
    clear hU
    have k_28 := HS0.out.p.k0
    have k_29 := HS0.out.p.k1
    have k_30 := HS0.out.q.k0
    have k_31 := HS0.out.q.k1
    go_wp2_with (fail)
    (with_reducible refine (HS0.out.p.moveI HS0.out.q HS0.out.f HS0.out.m (by omega) (by omega) c2 c3).mono ?_)
    rw [HU.out, Option.getD_some, Option.isSome_some]
    rintro e w2 ⟨AM, cM, rfl, _, hM, _, hbt⟩
    clear k_28 k_29 k_30 k_31
    rw [hll] at hM ⊢
    have HS_32 := Lib.hid (HS0.out.below hbt)
    clear HS0
    have HM_33 := Lib.hid (Rm.of hM (Nat.le_refl _))
    clear hM
    clear hbt
    have k_34 := HS_32.out.p.k0
    have k_35 := HS_32.out.p.k1
    have k_36 := HS_32.out.q.k0
    have k_37 := HS_32.out.q.k1
    go_wp2_with (fail)
    (with_reducible refine (HS_32.out.p.moveS HS_32.out.q HS_32.out.f HS_32.out.m (by omega) (by omega) c2 c3).mono ?_)
    rw [HU.out, Option.getD_some, Option.isSome_some]
    rintro e w3 ⟨AW, cW, rfl, _, hW, _, hbt⟩
    clear k_34 k_35 k_36 k_37
    rw [hll] at hW ⊢
    have HS_38 := Lib.hid (HS_32.out.below hbt)
    have HM_39 := Lib.hid (HM_33.out.below hbt)
    clear HS_32 HM_33
    have HW_40 := Lib.hid (Rm.of hW (Nat.le_refl _))
    clear hW
    clear hbt
    have k_41 := HS_38.out.p.k0
    have k_42 := HS_38.out.p.k1
    have k_43 := HS_38.out.q.k0
    have k_44 := HS_38.out.q.k1
    have HE := Lib.hid (eqRm HM_39.out HW_40.out (by omega) (by omega) cM cW)
    go_wp2_with (fail)
    (with_reducible refine HE.out.mono ?_)
    clear HE k_41 k_42 k_43 k_44
    rintro e w4 ⟨rfl, hbt⟩
    rw [beq_self_eq_true]
    have HS_45 := Lib.hid (HS_38.out.below hbt)
    have HM_46 := Lib.hid (HM_39.out.below hbt)
    have HW_47 := Lib.hid (HW_40.out.below hbt)
    clear HS_38 HM_39 HW_40
    clear hbt
    clear HW_47
    have HC0 : Hid (∀ wx : World, Below w4.heap.size w4 wx → Calls Try.prog 13 #[.agg #[.slice Aq nq cq, .slice Ag lg cg], .slice AM lg cM] wx fun e w' => e = .returned (.int .i64 (countOf ns fs ms)) ∧ Below wx.heap.size wx w') := fun wx hbx => by
      rw [← HX.out.1]
      exact (HS_45.out.q.below hbx).countM (HM_46.out.below hbx) (by omega) cM
    have HC1 : Hid (∀ wx : World, Below w4.heap.size w4 wx → Calls Try.prog 13 #[.agg #[.slice An nn cn, .slice Af lf cf], .slice A3 n3 c3] wx fun e w' => e = .returned (.int .i64 (countOf ns fs ms)) ∧ Below wx.heap.size wx w') := fun wx hbx => (HS_45.out.p.below hbx).countM (HS_45.out.m.below hbx) (by omega) c3
    have HSW : Hid (∀ wx : World, Below w4.heap.size w4 wx → wx.cell? ⟨w1.heap.size, 0, none⟩ = some (.slice An nn cn) ∧ wx.cell? ⟨w1.heap.size, 1, none⟩ = some (.slice Af lf cf) ∧ wx.cell? ⟨w1.heap.size + 1, 0, none⟩ = some (.slice Aq nq cq) ∧ wx.cell? ⟨w1.heap.size + 1, 1, none⟩ = some (.slice Ag lg cg)) := fun wx hbx => ⟨(HS_45.out.p.below hbx).k0, (HS_45.out.p.below hbx).k1, (HS_45.out.q.below hbx).k0, (HS_45.out.q.below hbx).k1⟩
    have HSB := Lib.hid HS_45.out.b
    clear HM_46
    generalize countOf ns fs ms = cnt at *
    clear HX HU
    go_wp2_with (fail)
    go_region_held3 (fun w' => w'.cell? ⟨w1.heap.size, 0, none⟩ = some (.slice An nn cn) ∧ w'.cell? ⟨w1.heap.size, 1, none⟩ = some (.slice Af lf cf) ∧ w'.cell? ⟨w1.heap.size + 1, 0, none⟩ = some (.slice Aq nq cq) ∧ w'.cell? ⟨w1.heap.size + 1, 1, none⟩ = some (.slice Ag lg cg))
      (first | exact HSW.out _ (Below.refl _ _) | exact HSW.out _ (up_drew (Below.refl _ _)) | exact HSW.out _ HX7.out | exact HSW.out _ HX8.out)
      ((first
        | (go_at_call 13; (with_reducible refine (HC0.out _ (up_drew (Below.refl _ _))).mono ?_); rintro e w7 ⟨rfl, hb7⟩; have HX7 := Lib.hid (up (up_drew (Below.refl _ w4)) hb7))
        | (go_at_call 13; (with_reducible refine (HC1.out _ HX7.out).mono ?_); rintro e w8 ⟨rfl, hb8⟩; have HX8 := Lib.hid (up HX7.out hb8))))
    all_goals
      go_wp2
      go_ret
      exact ⟨by simp, up HSB.out HX8.out⟩
end Go.Proofs.Ytmhbfdcikdhehaa
