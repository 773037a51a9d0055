/- Marks of timers and of instances. (Written by gen/exinstm.py.) -/
import Derived.Test.YtknphikoikdcjaaGreatExInst
import Derived.Test.YtknphikoikdcjaaGreatExWithin
set_option linter.unusedSimpArgs false
set_option linter.unusedVariables false
namespace Go.Proofs.YtknphikoikdcjaaGreat
open Go.RowKit

set_option maxHeartbeats 800000 in
theorem markTimerS_any (lo hi n c : Nat) (A : Option Addr) (zs : List Value) (k0 : Int) (w : World) (hr : Rd w lo hi 2 A n zs) (hs : Soft w 2 A n) (hn : n ≤ 1048576) (hk0 : 0 ≤ k0) (hk1 : k0 ≤ 1000000000000000) :
    Calls Tryz.prog 80 #[.slice A n c, .int .i64 k0] w (Marked (pvs (seqP k0 n)) lo hi 2 A n (k0 + 2 * n) w) := by
  have HZ := Lib.hid hr.1
  go_enter Tryz.func80, Tryz.ntmps80
  go_wp2
  go_loopw [1, 5] (fun kv iv wr => ∃ (i : Nat), i ≤ n ∧ iv = .int .i64 i ∧ kv = .int .i64 (k0 + 2 * (i : Int)) ∧ Rd wr lo hi 2 A n (pvs (seqP k0 i) ++ zs.drop (i * 2)) ∧ Soft wr 2 A n ∧ In A n w wr)
     (fun _ iv _ => n - (intOf iv).toNat)
  case atStart => exact ⟨0, by omega, rfl, by simp, by simpa [seqP, pvs] using hr, hs, in_refl _ _ _⟩
  case round =>
    clear hr hs
    obtain ⟨i, hi_, rfl, rfl, hr, hs, hin⟩ := hrel
    by_cases hlt : i < n
    · have hl := hr.1
      obtain ⟨b, off, rfl, _, _⟩ := hr.form (by omega)
      obtain ⟨b', off', e, _, _, hcc⟩ := hr.2 (by omega)
      injection e with e; injection e with e1 e2
      subst e1; subst e2
      have hc0 := hcc (i * 2) _ (List.getElem?_eq_getElem (by omega))
      have hc1 := hcc (i * 2 + 1) _ (List.getElem?_eq_getElem (by omega))
      rw [← Nat.add_assoc] at hc1
      generalize (pvs (seqP k0 i) ++ zs.drop (i * 2))[i * 2]'(by omega) = z0 at hc0
      generalize (pvs (seqP k0 i) ++ zs.drop (i * 2))[i * 2 + 1]'(by omega) = z1 at hc1
      have hf0 := hs b off rfl (i * 2) (by omega)
      have hf1 := hs b off rfl (i * 2 + 1) (by omega)
      rw [← Nat.add_assoc] at hf1
      have hr2 := (hr.store (i * 2) (by omega) (.int .i64 (k0 + 2 * (i : Int)))).store (i * 2 + 1) (by omega) (.int .i64 (k0 + 2 * (i : Int) + 1))
      rw [mixP_step k0 zs n i HZ.out hlt, ← Nat.add_assoc] at hr2
      have HR := Lib.hid hr2
      have HS := Lib.hid ((hs.store ⟨b, off + i * 2, none⟩ (.int .i64 (k0 + 2 * (i : Int)))).store ⟨b, off + i * 2 + 1, none⟩ (.int .i64 (k0 + 2 * (i : Int) + 1)))
      have HI := Lib.hid (in_store (in_store hin (by omega) (off + i * 2) (.int .i64 (k0 + 2 * (i : Int)))) (by omega) (off + i * 2 + 1) (.int .i64 (k0 + 2 * (i : Int) + 1)))
      clear hr2 hr hs hin hcc hl
      go_wp2
      go_roundw
      case rel => exact ⟨i + 1, by omega, by go_num, by go_num, HR.out, HS.out, HI.out⟩
      case measure => simp [intOf]; omega
    · obtain rfl : i = n := by omega
      rw [List.drop_of_length_le (by rw [HZ.out]; omega), List.append_nil] at hr
      have HR := Lib.hid hr
      clear hr
      go_wp2
      go_ret
      exact ⟨rfl, HR.out, hs, hin⟩
set_option maxHeartbeats 800000 in
theorem heldTimerS_any (lo hi n c : Nat) (A : Option Addr) (k0 : Int) (w : World) (hr : Rd w lo hi 2 A n (pvs (seqP k0 n))) (hn : n ≤ 1048576) (hk0 : 0 ≤ k0) (hk1 : k0 ≤ 1000000000000000) :
    Calls Tryz.prog 81 #[.slice A n c, .int .i64 k0] w fun e w' => e = .returned (.int .i64 (k0 + 2 * n)) ∧ w = w' := by
  go_enter Tryz.func81, Tryz.ntmps81
  go_wp2
  go_loop [1, 5] (fun kv iv => ∃ (i : Nat), i ≤ n ∧ iv = .int .i64 i ∧ kv = .int .i64 (k0 + 2 * (i : Int)))
     (fun _ iv => n - (intOf iv).toNat)
  case atStart => exact ⟨0, by omega, rfl, by simp⟩
  case round =>
    obtain ⟨i, hi_, rfl, rfl⟩ := hrel
    by_cases hlt : i < n
    · obtain ⟨b, off, x, y, rfl, _, _, hg, hc0, hc1⟩ := hr.pair hlt
      rw [seqP_get hlt] at hg
      have hg2 := Option.some.inj hg
      injection hg2 with hx hy
      subst hx; subst hy
      clear hg
      go_wp2
      go_round
      case rel => exact ⟨i + 1, by omega, by go_num, by go_num⟩
      case measure => simp [intOf]; omega
    · obtain rfl : i = n := by omega
      go_wp2
      go_ret
      exact ⟨rfl, rfl⟩
theorem Within.widen {lo hi lo' hi' : Nat} {w w' : World} (h : Within lo hi w w') (h1 : lo' ≤ lo) (h2 : hi ≤ hi') : Within lo' hi' w w' := ⟨h.os, h.tape, h.output, h.size, fun i hi' ho => h.block i hi' (by omega)⟩
set_option maxHeartbeats 1600000 in
theorem markInstance_from (k0 : Int) (hk0 : 0 ≤ k0) (hk1 : k0 ≤ 9000000000000) (lo m1 m2 hi nm cm nv cv nt ct : Nat) (Am Av At : Option Addr) (cl : Int) (ms vs : List Int) (ts : List (Int × Int)) (w : World)
    (hm : Rd w lo m1 1 Am nm (ivs ms)) (hsm : Soft w 1 Am nm) (hnm : nm ≤ 1048576) (hv : Rd w m1 m2 1 Av nv (ivs vs)) (hsv : Soft w 1 Av nv) (hnv : nv ≤ 1048576) (ht : Rd w m2 hi 2 At nt (pvs ts)) (hst : Soft w 2 At nt) (hnt : nt ≤ 1048576)
    (h1 : lo ≤ m1) (h2 : m1 ≤ m2) (h3 : m2 ≤ hi) (hB : hi ≤ w.heap.size) :
    Calls Tryz.prog 24 #[.agg #[.slice Am nm cm, .slice Av nv cv, .int .i64 cl, .slice At nt ct], .int .i64 k0] w fun e w' => ∃ (r : Int) (w1 : World), e = .returned (.int .i64 r) ∧ 0 ≤ r ∧ r ≤ k0 + 5000000 ∧ Below w.heap.size w w1 ∧ Within lo hi w1 w' := by
  have hb1 := up_alloc (Below.refl _ w) (.cells #[.slice Am nm cm, .slice Av nv cv, .int .i64 cl, .slice At nt ct] 34)
  have HX := Lib.hid (Blk.new w 34 #[.slice Am nm cm, .slice Av nv cv, .int .i64 cl, .slice At nt ct])
  have HM := Lib.hid (hm.keep hb1 (by omega))
  have HSM := Lib.hid (hsm.kept hm hb1 (by omega))
  have HV := Lib.hid (hv.keep hb1 (by omega))
  have HSV := Lib.hid (hsv.kept hv hb1 (by omega))
  have HT := Lib.hid (ht.keep hb1 (by omega))
  have HST := Lib.hid (hst.kept ht hb1 (by omega))
  have HB := Lib.hid hb1
  have hz : (w.alloc (.cells #[.slice Am nm cm, .slice Av nv cv, .int .i64 cl, .slice At nt ct] 34)).heap.size = w.heap.size + 1 := by simp
  have x0 : (w.alloc (.cells #[.slice Am nm cm, .slice Av nv cv, .int .i64 cl, .slice At nt ct] 34)).cell? ⟨w.heap.size, 0, none⟩ = some (.slice Am nm cm) := HX.out.cell 0
  clear hm hsm hv hsv ht hst hb1
  go_enter Tryz.func24, Tryz.ntmps24
  go_wp2_with (fail)
  clear x0
  generalize w.alloc (.cells #[.slice Am nm cm, .slice Av nv cv, .int .i64 cl, .slice At nt ct] 34) = w1 at *
  (with_reducible refine (markIntS_any lo m1 nm cm Am (ivs ms) k0 w1 HM.out HSM.out hnm (by omega) (by omega)).mono ?_)
  rintro e w2 ⟨rfl, _, _, hin2⟩
  have hw2 := Within.grown (lo := lo) (hi := m1) hin2 (in_row HM.out)
  have HX2 := Lib.hid (HX.out.grown hin2 (fun e => by have := in_row HM.out _ e.symm; omega))
  have HV2 := Lib.hid (HV.out.within hw2 (by omega) (.inr (by omega)))
  have HSV2 := Lib.hid (HSV.out.within HV.out hw2 (by omega) (.inr (by omega)))
  have HT2 := Lib.hid (HT.out.within hw2 (by omega) (.inr (by omega)))
  have HST2 := Lib.hid (HST.out.within HT.out hw2 (by omega) (.inr (by omega)))
  have HW2 := Lib.hid (hw2.widen (lo' := lo) (hi' := hi) (Nat.le_refl _) (by omega))
  have hs2 := hw2.size
  have x1 : w2.cell? ⟨w.heap.size, 1, none⟩ = some (.slice Av nv cv) := HX2.out.cell 1
  clear hin2 hw2 HM HSM HV HSV HT HST HX
  go_wp2_with (fail)
  (with_reducible refine (markIntS_any m1 m2 nv cv Av (ivs vs) (k0 + (nm : Int)) w2 HV2.out HSV2.out hnv (by omega) (by omega)).mono ?_)
  rintro e w3 ⟨rfl, _, _, hin3⟩
  clear x1
  have hw3 := Within.grown (lo := m1) (hi := m2) hin3 (in_row HV2.out)
  have HX3 := Lib.hid (HX2.out.grown hin3 (fun e => by have := in_row HV2.out _ e.symm; omega))
  have HT3 := Lib.hid (HT2.out.within hw3 (by omega) (.inr (by omega)))
  have HST3 := Lib.hid (HST2.out.within HT2.out hw3 (by omega) (.inr (by omega)))
  have HW3 := Lib.hid (HW2.out.trans (hw3.widen (lo' := lo) (hi' := hi) (by omega) (by omega)))
  have hs3 := hw3.size
  have x3 : w3.cell? ⟨w.heap.size, 3, none⟩ = some (.slice At nt ct) := HX3.out.cell 3
  clear hin3 hw3 HV2 HSV2 HT2 HST2 HX2 HW2
  go_wp2_with (fail)
  (with_reducible refine (markTimerS_any m2 hi nt ct At (pvs ts) (k0 + (nm : Int) + (nv : Int)) w3 HT3.out HST3.out hnt (by omega) (by omega)).mono ?_)
  rintro e w4 ⟨rfl, _, _, hin4⟩
  clear x3
  have HW4 := Lib.hid (HW3.out.trans ((Within.grown (lo := m2) (hi := hi) hin4 (in_row HT3.out)).widen (lo' := lo) (hi' := hi) (by omega) (Nat.le_refl _)))
  clear hin4
  go_wp2
  go_ret
  exact ⟨_, w1, rfl, by omega, by omega, HB.out, HW4.out⟩
end Go.Proofs.YtknphikoikdcjaaGreat
