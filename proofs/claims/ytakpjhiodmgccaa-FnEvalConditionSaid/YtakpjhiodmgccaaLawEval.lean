/- The law FnEvalCondition, walked: it returns true. -/
import Derived.Test.YtakpjhiodmgccaaDraw5
import Derived.Deep.RegionLaw
import Derived.Test.YtakpjhiodmgccaaEvalS
import Derived.Test.YtakpjhiodmgccaaEvalI
import Derived.Test.YtakpjhiodmgccaaSetMath
namespace Go.Proofs.Ytakpjhiodmgccaa
open Go.RowKit

set_option maxRecDepth 100000 in
set_option maxHeartbeats 3200000 in
theorem lawEval_any (n c : Nat) (A : Option Addr) (xs : List Int) (w : World) (hr : Rd w 0 w.heap.size 1 A n (bvs xs)) (hby : Bytes xs) (hc : n ≤ c) (hc2 : c ≤ 9223372036854775807) :
    Calls Try.prog 3 #[.slice A n c] w fun e w' => e = .returned (.bool true) ∧ Below w.heap.size w w' := by
  by_cases hbig : (1048576 : Int) < n
  · go_enter Try.func3, Try.ntmps3
    go_wp2
    go_ret
    exact ⟨rfl, Below.refl _ _⟩
  go_enter Try.func3, Try.ntmps3
  go_wp2_with (fail)
  (with_reducible refine (drawEval_any n c A xs w hr hby (by omega) hc hc2).mono ?_)
  clear hbig
  rintro e w1 ⟨A1, n1, c1, ps, A2, n2, c2, vs, rfl, hn1, _, _, hr1, hn2, _, _, hr2, hb1⟩
  have HL := Lib.hid hr2.len1
  go_wp2_with (fail)
  (with_reducible refine (EvalConditionI_any _ _ n1 c1 _ _ n2 c2 A1 A2 ps vs w1 hr1 (Nat.le_refl _) (by omega) hr2 (Nat.le_refl _) (by omega)).mono ?_)
  rintro e w2 ⟨rfl, hb2⟩
  have hr1' := hr1.keep hb2 (Nat.le_refl _)
  have hr2' := hr2.keep hb2 (Nat.le_refl _)
  have hsz2 := hb2.size
  have hb02 := up hb1 hb2
  clear hb1
  go_wp2_with (fail)
  (with_reducible refine (EvalConditionS_any _ _ n1 c1 _ _ n2 c2 A1 A2 ps vs w2 hr1' hsz2 (by omega) hr2' hsz2 (by omega)).mono ?_)
  rintro e w3 ⟨rfl, hb3⟩
  have hms := evalOf_small ps vs
  generalize hm : evalOf ps vs = m
  rw [hm] at hms
  obtain ⟨hm0, hm1⟩ := hms
  have HM := Lib.hid hm
  clear hm
  have hr13 := hr1'.keep hb3 hsz2
  have hr23 := hr2'.keep hb3 hsz2
  have hsz3 := hb3.size
  have hb03 := up hb02 hb3
  clear hb2 hb3 hb02 hr1 hr2 hr1' hr2'
  by_cases h4 : n2 = 4
  · subst h4
    obtain ⟨b, off, rfl, hb2lo, hb2hi⟩ := hr23.form (by omega)
    go_wp2
    go_loop [6] (fun iv => ∃ (k : Nat), k ≤ 4 ∧ iv = .int .i64 k ∧ Hid (allR vs (-9999) 9999 = allR (vs.drop k) (-9999) 9999))
       (fun iv => 4 - (intOf iv).toNat)
    case atStart => exact ⟨0, by omega, rfl, rfl⟩
    case round =>
      obtain ⟨k, hk4, rfl, hS⟩ := hrel
      by_cases hlt : k < 4
      · obtain ⟨b', off', x, hA, _, _, hg, hc0⟩ := hr23.one hlt
        injection hA with hA; injection hA with hA1 hA2; subst hA1; subst hA2
        by_cases hx0 : x < -9999
        · have HS : Hid (m = 0) := by
            have h1 : allR vs (-9999) 9999 = false := by
              rw [hS.out]; exact all_miss (f := fun x => inR x (-9999) 9999) hg (by
                show inR x (-9999) 9999 = false
                simp only [inR]; simp; omega)
            have h2 : vVals vs = false := by simp only [vVals]; rw [show (vs.all fun x => inR x (-9999) 9999) = false from h1]; simp
            rw [Hid, ← HM.out, evalOf_bad h2]
          clear hg hS
          go_wp2
          go_ret
          exact ⟨ret_bool (by rw [HS.out]; rfl), hb03⟩
        · by_cases hx1 : 9999 < x
          · have HS : Hid (m = 0) := by
              have h1 : allR vs (-9999) 9999 = false := by
                rw [hS.out]; exact all_miss (f := fun x => inR x (-9999) 9999) hg (by
                  show inR x (-9999) 9999 = false
                  simp only [inR]; simp; omega)
              have h2 : vVals vs = false := by simp only [vVals]; rw [show (vs.all fun x => inR x (-9999) 9999) = false from h1]; simp
              rw [Hid, ← HM.out, evalOf_bad h2]
            clear hg hS
            go_wp2
            go_ret
            exact ⟨ret_bool (by rw [HS.out]; rfl), hb03⟩
          · have HS := Lib.hid (hS.out.trans (all_hit (f := fun x => inR x (-9999) 9999) hg (inR_iff.2 ⟨by omega, by omega⟩)))
            clear hg hS
            go_wp2
            go_round
            case rel => exact ⟨k + 1, by omega, by go_num, HS⟩
            case measure => simp [intOf]; omega
      · obtain rfl : k = 4 := by omega
        have hvs : vVals vs = true := by
          have h1 : allR vs (-9999) 9999 = true := by rw [hS.out, List.drop_of_length_le (by rw [HL.out]; omega)]; rfl
          simp only [vVals]; rw [show (vs.all fun x => inR x (-9999) 9999) = true from h1, HL.out]; simp
        have HVS := Lib.hid hvs
        clear hvs hS
        go_wp2
        go_loopw [7] (fun iv wr => ∃ (v : Nat), v ≤ 4 ∧ iv = .int .i64 v ∧ Below w3.heap.size w3 wr)
           (fun iv _ => 4 - (intOf iv).toNat)
        case atStart => exact ⟨0, by omega, rfl, Below.refl _ _⟩
        case round =>
          obtain ⟨v, hv4, rfl, hbl⟩ := hrel
          have hszr := hbl.size
          have hr2r := hr23.keep hbl (by omega)
          by_cases hlt : v < 4
          · obtain ⟨b', off', x, hA, _, _, hg, hc0⟩ := hr2r.one hlt
            injection hA with hA; injection hA with hA1 hA2; subst hA1; subst hA2
            have hev : evalOf [(1, (v : Int))] vs = x := by
              rw [evalOf_var hlt HVS.out, List.getD_eq_getElem?_getD, hg]; rfl
            have HEV := Lib.hid hev
            clear hev hg
            have hbd := up_alloc (up_drew (Below.refl _ wr)) (.cells #[.int .i64 1, .int .i64 (v : Int)] 29)
            have hblk := Blk.new wr.drew 29 #[.int .i64 1, .int .i64 (v : Int)]
            have hcall := EvalConditionI_any wr.heap.size (wr.heap.size + 1) 1 1 _ _ 4 c2 _ _ [(1, (v : Int))] vs _ (Rd.of_blk hblk rfl) (by simp) (by omega) (hr2r.keep hbd (by omega)) (by simp; omega) (by omega)
            rw [HEV.out] at hcall
            have HC := Lib.hid hcall
            have hbw : b < wr.heap.size := by omega
            have hv0 : (0 : Int) ≤ (v : Int) := by omega
            have hv4' : (v : Int) < 4 := by omega
            have hcd := (hbd.cell hbw).trans hc0
            have hxx : (x != x) = false := by simp
            clear hblk hcall
            go_wp2
            go_region_law (go_simp; refine HC.out.mono ?_; rintro e w9 ⟨rfl, hb9⟩; have hc9 := (hb9.cell (by simp; omega)).trans hcd)
            all_goals
              have HB := Lib.hid (up (up_alloc (up_drew hbl) _) hb9)
              clear hb9
              go_wp2
              go_roundw
              case rel => exact ⟨v + 1, by omega, by go_num, HB.out⟩
              case measure => simp [intOf]; omega
          · have hbn := up_alloc hbl (.cells #[.int .i64 0, .int .i64 7] 29)
            have hm0' : decide (-9999 ≤ m) = true := decide_eq_true hm0
            go_wp2_with (fail)
            have hblk := Blk.new wr 29 #[.int .i64 0, .int .i64 7]
            (with_reducible refine (EvalConditionI_any wr.heap.size (wr.heap.size + 1) 1 1 _ _ 4 c2 _ _ [(0, 7)] vs _ (Rd.of_blk hblk rfl) (by simp) (by omega) (hr23.keep hbn (by omega)) (by simp; omega) (by omega)).mono ?_)
            rintro e w8 ⟨rfl, hb8⟩
            rw [evalOf_num (by omega) (by omega), if_pos HVS.out]
            have HB := Lib.hid (up hb03 (up hbn hb8))
            clear hb8 hblk hbn
            go_wp2
            go_ret
            exact ⟨rfl, HB.out⟩
  · have h4' : ((n2 : Int) == 4) = false := by simp; omega
    go_wp2_with (fail)
    (with_reducible refine (EvalConditionS_any _ _ n1 c1 _ _ n2 c2 A1 A2 ps vs w3 hr13 (by omega) (by omega) hr23 (by omega) (by omega)).mono ?_)
    rintro e w9 ⟨rfl, hb9⟩
    rw [HM.out]
    go_wp2
    go_ret
    exact ⟨by simp, up hb03 hb9⟩
end Go.Proofs.Ytakpjhiodmgccaa
