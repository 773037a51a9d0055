/- The law FnUsedVariables, walked: it returns true. -/
import Derived.Test.YtakpjhiodmgccaaDraw5
import Derived.Test.YtakpjhiodmgccaaCondUsedI
import Derived.Test.YtakpjhiodmgccaaEvalS
import Derived.Test.YtakpjhiodmgccaaEvalI
import Derived.Test.YtakpjhiodmgccaaSetMath
namespace Go.Proofs.Ytakpjhiodmgccaa
open Go.RowKit

set_option maxRecDepth 100000 in
set_option maxHeartbeats 3200000 in
theorem lawUsed_any (n c : Nat) (A : Option Addr) (xs : List Int) (w : World) (hr : Rd w 0 w.heap.size 1 A n (bvs xs)) (hby : Bytes xs) (hc : n ≤ c) (hc2 : c ≤ 9223372036854775807) :
    Calls Try.prog 5 #[.slice A n c] w fun e w' => e = .returned (.bool true) ∧ Below w.heap.size w w' := by
  obtain ⟨i0, hi0, hz0, hz1, hz2⟩ := info_parts infoIntD
  by_cases hbig : (1048576 : Int) < n
  · go_enter Try.func5, Try.ntmps5
    go_wp2
    go_ret
    exact ⟨rfl, Below.refl _ _⟩
  go_enter Try.func5, Try.ntmps5
  go_wp2_with (fail)
  (with_reducible refine (drawEval_any n c A xs w hr hby (by omega) hc hc2).mono ?_)
  clear hbig
  rintro e w1 ⟨A1, n1, c1, ps, A2, n2, c2, vs, rfl, hn1, _, _, hr1, hn2, _, _, hr2, hb1⟩
  have HL := Lib.hid hr2.len1
  go_wp2_with (fail)
  (with_reducible refine (EvalConditionI_any _ _ n1 c1 _ _ n2 c2 A1 A2 ps vs w1 hr1 (Nat.le_refl _) (by omega) hr2 (Nat.le_refl _) (by omega)).mono ?_)
  rintro e w2 ⟨rfl, hb2⟩
  have hr1' := hr1.keep hb2 (Nat.le_refl _)
  have hr2' := hr2.keep hb2 (Nat.le_refl _)
  have hsz2 := hb2.size
  have hb02 := up hb1 hb2
  clear hb1
  go_wp2_with (fail)
  (with_reducible refine (EvalConditionS_any _ _ n1 c1 _ _ n2 c2 A1 A2 ps vs w2 hr1' hsz2 (by omega) hr2' hsz2 (by omega)).mono ?_)
  rintro e w3 ⟨rfl, hb3⟩
  have hms := evalOf_small ps vs
  generalize hm : evalOf ps vs = m
  rw [hm] at hms
  obtain ⟨hm0, hm1⟩ := hms
  have HM := Lib.hid hm
  clear hm
  have hr13 := hr1'.keep hb3 hsz2
  have hr23 := hr2'.keep hb3 hsz2
  have hsz3 := hb3.size
  have hb03 := up hb02 hb3
  clear hb2 hb3 hb02 hr1 hr2 hr1' hr2'
  by_cases h4 : n2 = 4
  · subst h4
    go_wp2_with (fail)
    (with_reducible refine (usedI_any _ _ n1 c1 A1 ps w3 hr13 (by omega) (by omega)).mono ?_)
    have hul := used_le ps
    generalize hU : usedOf ps = us at hul
    have HU := Lib.hid hU
    clear hU
    rintro e w4 ⟨A4, c4, rfl, _, hr4, _, hb4⟩
    have hr14 := hr13.keep hb4 (by omega)
    have hr24 := hr23.keep hb4 (by omega)
    have hsz4 := hb4.size
    have hb04 := up hb03 hb4
    clear hb4 hb03 hr13 hr23
    obtain ⟨b, off, rfl, hb2lo, hb2hi⟩ := hr24.form (by omega)
    go_wp2
    go_loopw [7, 8] (fun iv wv wr => ∃ (v : Nat), v ≤ 4 ∧ iv = .int .i64 v ∧ Below w4.heap.size w4 wr)
       (fun iv _ _ => 4 - (intOf iv).toNat)
    case atStart => exact ⟨0, by omega, rfl, Below.refl _ _⟩
    case round =>
      obtain ⟨v, hv4, rfl, hbl⟩ := hrel
      have hszr := hbl.size
      by_cases hlt : v < 4
      · have hr1r := hr14.keep hbl (by omega)
        have hr2r := hr24.keep hbl (by omega)
        have hr4r := hr4.keep hbl (Nat.le_refl _)
        have hownN : (wr.alloc (.cells #[] 3)).ownsRow wr.heap.size 3 1 (.slice (some ⟨wr.heap.size, 0, none⟩) 0 0) 0 [] := World.ownsRow_made wr #[] 0 (Nat.le_refl _) (by unfold maxLen; omega) (by simp)
        have hbm := up_alloc (Below.refl _ wr) (.cells #[] 3)
        have hrm := hr2r.keep hbm (by omega)
        go_wp2_with (at_builtin; refine wpList_append_own _ rfl (.tmp 43) (.tmp 44) 24 rfl wr.heap.size 3 i0 (.int .i64 0) 1 8 Try.underlying24 hi0 hz0 hz1 hz2 rfl (by decide) _ _ _ rfl hownN ⟨b, off, none⟩ 4 c2 (ivs vs) rfl hrm.1 hrm.src (ivs_one vs) ?d3 ?d4 ?d5 ?_)
        case d3 => unfold maxLen; omega
        case d4 => omega
        case d5 => simp
        intro va wa howna hga _
        have hba := up_grown hbm hownN hga (Nat.le_refl _)
        try simp only [Nat.zero_add, List.nil_append] at howna
        clear hownN hga hrm hbm
        obtain ⟨g, ca, rfl, hg1, hg2, hgc⟩ := own_first howna (by omega)
        have hd0 := howna.cellAt v (by omega)
        obtain ⟨z0, e0⟩ : ∃ z, (ivs vs)[v]? = some z := ⟨_, List.getElem?_eq_getElem (by rw [ivs_length, HL.out]; exact hlt)⟩
        rw [e0] at hd0
        clear e0
        have hf0 := howna.frozenAt v
        have hst := (howna.stored v (.int .i64 17)).1
        rw [show (ivs vs).set v (.int .i64 17) = ivs (vs.set v 17) by simp [ivs, List.map_set]] at hst
        have hbs := hba.setCell (p := ⟨g, v, none⟩) (by show _ ≤ g; omega) (.int .i64 17)
        have hrw := Rd.of_own hst
        have hszw := hbs.size
        have hr1s := hr1r.keep hbs (by omega)
        have hr2s := hr2r.keep hbs (by omega)
        have hr4s := hr4r.keep hbs (by omega)
        have hb4s := up hbl hbs
        have HRW := Lib.hid hrw
        have HBS := Lib.hid hb4s
        clear hst howna hba hbs hrw hr1r hr2r hr4r hb4s
        go_wp2_with (fail)
        generalize hws : wa.setCell _ _ = ws at *
        (with_reducible refine (isIn_any _ _ _ c4 A4 us (v : Int) ws hr4s (by omega)).mono ?_)
        rintro e w7 ⟨rfl, rfl⟩
        have hszs := HBS.out.size
        generalize hin : inL us (v : Int) = bin
        have HIN := Lib.hid hin
        clear hin
        cases bin
        · go_wp2_with (fail)
          have hblk := Blk.new ws 29 #[.int .i64 0, .int .i64 1]
          have hbn := up_alloc (Below.refl _ ws) (.cells #[.int .i64 0, .int .i64 1] 29)
          (with_reducible refine (EvalConditionI_any ws.heap.size (ws.heap.size + 1) 1 1 _ _ 4 c2 _ _ [(0, 1)] vs _ (Rd.of_blk hblk rfl) (by simp) (by omega) (hr2s.keep hbn (by omega)) (by simp; omega) (by omega)).mono ?_)
          rintro e w8 ⟨rfl, hb8⟩
          rw [evalOf_num (by omega) (by omega)]
          have hb8' := up hbn hb8
          have hr1t := hr1s.keep hb8' (by omega)
          have hrwt := HRW.out.keep hb8' (Nat.le_refl _)
          have hb48 := up HBS.out hb8'
          have hsz8 := hb8'.size
          have HB48 := Lib.hid hb48
          clear hb8 hb8' hblk hbn hb48
          by_cases hvs : vVals vs = true
          · have hev : evalOf ps (vs.set v 17) = m := by
              rw [evalOf_set hlt hvs (by omega) (by omega) (by rw [HU.out]; exact HIN.out)]; exact HM.out
            have HEV := Lib.hid hev
            rw [if_pos hvs]
            clear hvs hev
            go_wp2_with (fail)
            (with_reducible refine (EvalConditionI_any _ _ n1 c1 _ _ 4 ca A1 _ ps (vs.set v 17) w8 hr1t (by omega) (by omega) hrwt (by omega) (by omega)).mono ?_)
            rintro e w9 ⟨rfl, hb9⟩
            rw [HEV.out]
            go_wp2
            go_roundw
            case rel => exact ⟨v + 1, by omega, by go_num, up HB48.out hb9⟩
            case measure => simp [intOf]; omega
          · rw [if_neg hvs]
            go_wp2
            go_roundw
            case rel => exact ⟨v + 1, by omega, by go_num, HB48.out⟩
            case measure => simp [intOf]; omega
        · go_wp2
          go_roundw
          case rel => exact ⟨v + 1, by omega, by go_num, HBS.out⟩
          case measure => simp [intOf]; omega
      · go_wp2
        go_ret
        exact ⟨rfl, up hb04 hbl⟩
  · have h4' : ((n2 : Int) == 4) = false := by simp; omega
    go_wp2_with (fail)
    (with_reducible refine (EvalConditionS_any _ _ n1 c1 _ _ n2 c2 A1 A2 ps vs w3 hr13 (by omega) (by omega) hr23 (by omega) (by omega)).mono ?_)
    rintro e w9 ⟨rfl, hb9⟩
    rw [HM.out]
    go_wp2
    go_ret
    exact ⟨by simp, up hb03 hb9⟩
end Go.Proofs.Ytakpjhiodmgccaa
