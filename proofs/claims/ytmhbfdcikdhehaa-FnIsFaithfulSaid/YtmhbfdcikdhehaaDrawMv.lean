/- The drawing of a map of flows. (Written by gen/drawmv.py.) -/
import Derived.Test.YtmhbfdcikdhehaaDrawMarks
import Derived.Test.YtmhbfdcikdhehaaMoveFS
import Derived.Deep.RegionLaw
set_option linter.unusedSimpArgs false
set_option linter.unusedVariables false
namespace Go.Proofs.Ytmhbfdcikdhehaa
open Go.RowKit

/-- How things stand while a map of flows is drawn. -/
structure Sm (r : Nat) (w : World) (lo hi : Nat) (An : Option Addr) (nn cn : Nat) (Af : Option Addr) (lf cf : Nat) (ns : List (Int × Int)) (fs : List Flw) (lo2 hi2 : Nat) (Aq : Option Addr) (nq cq : Nat) (Ag : Option Addr) (lg cg : Nat) (nsq : List (Int × Int)) (gs : List Flw) (ov : Value) (ys : List Int) (wr : World) : Prop where
  own : wr.ownsRow (w.heap.size + 1 + 1) 3 1 ov ys.length (ivs ys)
  but : But r w wr
  bp : Blk wr w.heap.size 26 #[.slice An nn cn, .slice Af lf cf]
  bq : Blk wr (w.heap.size + 1) 26 #[.slice Aq nq cq, .slice Ag lg cg]
  pp : Prs wr lo hi An nn cn Af lf cf ns fs
  qq : Prs wr lo2 hi2 Aq nq cq Ag lg cg nsq gs
theorem Prs.validPS {w : World} {lo hi : Nat} {An : Option Addr} {nn cn : Nat} {Af : Option Addr} {lf cf : Nat} {ns : List (Int × Int)} {fs : List Flw} (h : Prs w lo hi An nn cn Af lf cf ns fs) (hh : hi ≤ w.heap.size) : Calls Try.prog 38 #[.agg #[.slice An nn cn, .slice Af lf cf]] w (fun e w' => e = .returned (.bool (vProc ns fs)) ∧ Below w.heap.size w w') :=
  validProcessS_any lo hi nn cn An ns lo hi lf cf Af fs w h.nodes hh (Nat.le_trans h.n21 (by omega)) h.flows hh (Nat.le_trans h.f21 (by omega))
section
variable {r : Nat} {w : World} {lo hi : Nat} {An : Option Addr} {nn cn : Nat} {Af : Option Addr} {lf cf : Nat} {ns : List (Int × Int)} {fs : List Flw} {lo2 hi2 : Nat} {Aq : Option Addr} {nq cq : Nat} {Ag : Option Addr} {lg cg : Nat} {nsq : List (Int × Int)} {gs : List Flw} {ov : Value} {ys : List Int} {wr w2 : World}
theorem Sm.size (h : Sm r w lo hi An nn cn Af lf cf ns fs lo2 hi2 Aq nq cq Ag lg cg nsq gs ov ys wr) : w.heap.size + 1 < wr.heap.size := h.bq.lt
theorem Sm.below (h : Sm r w lo hi An nn cn Af lf cf ns fs lo2 hi2 Aq nq cq Ag lg cg nsq gs ov ys wr) (hb : Below wr.heap.size wr w2) (h1 : hi ≤ w.heap.size) (h2 : hi2 ≤ w.heap.size) : Sm r w lo hi An nn cn Af lf cf ns fs lo2 hi2 Aq nq cq Ag lg cg nsq gs ov ys w2 :=
  have hs := h.size
  ⟨own_keep h.own hb, but_below h.but hb, h.bp.below hb (by omega), h.bq.below hb (by omega), h.pp.keep hb (by omega), h.qq.keep hb (by omega)⟩
theorem Sm.next (h : Sm r w lo hi An nn cn Af lf cf ns fs lo2 hi2 Aq nq cq Ag lg cg nsq gs ov ys wr) (hG : But r wr w2) (h1 : hi ≤ w.heap.size) (h2 : hi2 ≤ w.heap.size) (hr : r < w.heap.size) (hr1 : r < lo) (hr2 : r < lo2) : Sm r w lo hi An nn cn Af lf cf ns fs lo2 hi2 Aq nq cq Ag lg cg nsq gs ov ys w2 :=
  have hs := h.size
  ⟨own_but h.own hG (by omega), but_trans h.but hG, h.bp.but hG (by omega), h.bq.but hG (by omega), h.pp.far hG (by omega) (fun g e => by injection e with e; omega), h.qq.far hG (by omega) (fun g e => by injection e with e; omega)⟩
end
set_option maxRecDepth 100000 in
set_option maxHeartbeats 6400000 in
theorem someMap_any (r : Nat) (A : Option Addr) (n c : Nat) (xs : List Int) (p : Int) (lo hi : Nat) (An : Option Addr) (nn cn : Nat) (Af : Option Addr) (lf cf : Nat) (ns : List (Int × Int)) (fs : List Flw) (lo2 hi2 : Nat) (Aq : Option Addr) (nq cq : Nat) (Ag : Option Addr) (lg cg : Nat) (nsq : List (Int × Int)) (gs : List Flw) (w : World)
    (h : Rdr w r A n c xs p) (hp : p ≤ 800000) (hP : Prs w lo hi An nn cn Af lf cf ns fs) (hh : hi ≤ w.heap.size) (hr1 : r < lo) (hQ : Prs w lo2 hi2 Aq nq cq Ag lg cg nsq gs) (hh2 : hi2 ≤ w.heap.size) (hr2 : r < lo2) :
    Calls Try.prog 32 #[.pointer (some ⟨r, 0, none⟩), .agg #[.slice An nn cn, .slice Af lf cf], .agg #[.slice Aq nq cq, .slice Ag lg cg]] w (IntsPost r A n c xs p 600 22 w) := by
  obtain ⟨i0, hi0, hz0, hz1, hz2⟩ := info_parts infoIntD
  have hrb := h.lt
  have hp0 := h.2.2.2.2
  have hn21 := hP.n21
  have hf21 := hP.f21
  have hm21 := hQ.n21
  have hg21 := hQ.f21
  have hb1 := up_alloc (up_alloc (up_alloc (Below.refl _ w) (.cells #[.slice An nn cn, .slice Af lf cf] 26)) (.cells #[.slice Aq nq cq, .slice Ag lg cg] 26)) (.cells #[] 3)
  have hown0 := World.ownsRow_made ((w.alloc (.cells #[.slice An nn cn, .slice Af lf cf] 26)).alloc (.cells #[.slice Aq nq cq, .slice Ag lg cg] 26)) (base := w.heap.size + 1 + 1) (e := 3) (size := 1) #[] 0 (by simp) (by unfold maxLen; omega) (by simp)
  rw [show ((w.alloc (.cells #[.slice An nn cn, .slice Af lf cf] 26)).alloc (.cells #[.slice Aq nq cq, .slice Ag lg cg] 26)).heap.size = w.heap.size + 1 + 1 by simp] at hown0
  have hp1 := ((Blk.new w 26 #[.slice An nn cn, .slice Af lf cf]).alloc (.cells #[.slice Aq nq cq, .slice Ag lg cg] 26)).alloc (.cells #[] 3)
  have hq1 : Blk (((w.alloc (.cells #[.slice An nn cn, .slice Af lf cf] 26)).alloc (.cells #[.slice Aq nq cq, .slice Ag lg cg] 26)).alloc (.cells #[] 3)) (w.heap.size + 1) 26 #[.slice Aq nq cq, .slice Ag lg cg] := by
    have := (Blk.new (w.alloc (.cells #[.slice An nn cn, .slice Af lf cf] 26)) 26 #[.slice Aq nq cq, .slice Ag lg cg]).alloc (.cells #[] 3)
    simpa using this
  have HS0 : Hid (Sm r w lo hi An nn cn Af lf cf ns fs lo2 hi2 Aq nq cq Ag lg cg nsq gs (.slice (some ⟨w.heap.size + 1 + 1, 0, none⟩) 0 0) [] (((w.alloc (.cells #[.slice An nn cn, .slice Af lf cf] 26)).alloc (.cells #[.slice Aq nq cq, .slice Ag lg cg] 26)).alloc (.cells #[] 3))) :=
    ⟨hown0, but_alloc (but_alloc (but_alloc (but_refl r w) _) _) _, hp1, hq1, hP.keep hb1 (by omega), hQ.keep hb1 (by omega)⟩
  have HR0 := Lib.hid (h.below hb1)
  have hsz0 : (((w.alloc (.cells #[.slice An nn cn, .slice Af lf cf] 26)).alloc (.cells #[.slice Aq nq cq, .slice Ag lg cg] 26)).alloc (.cells #[] 3)).heap.size = w.heap.size + 3 := by simp
  clear hb1 hown0 hp1 hq1 h hP hQ
  go_enter Try.func32, Try.ntmps32
  go_wp2
  go_loopw [7, 8, 9, 10] (fun ov iv _ _ wr => ∃ (k : Nat) (ys : List Int) (p' : Int), k ≤ lf ∧ iv = .int .i64 k ∧ ys.length = k ∧ Hid (Sm r w lo hi An nn cn Af lf cf ns fs lo2 hi2 Aq nq cq Ag lg cg nsq gs ov ys wr) ∧ Hid (Rdr wr r A n c xs p') ∧ 0 ≤ p' ∧ p' ≤ p + 25 * k)
     (fun _ iv _ _ _ => lf - (intOf iv).toNat)
  case atStart => exact ⟨0, [], p, by omega, rfl, rfl, HS0, HR0, by omega, by omega⟩
  case round =>
    clear HS0 HR0 hsz0
    obtain ⟨k, ys, p', hk, rfl, hyl, HS, HR, hp0', hpk⟩ := hrel
    have HY := Lib.hid hyl
    have hyb : ys.length ≤ 21 := by omega
    clear hyl
    have k0 := HS.out.bp.cell 0
    have k1 := HS.out.bp.cell 1
    have q0 := HS.out.bq.cell 0
    have q1 := HS.out.bq.cell 1
    simp only [List.getElem?_toArray, List.getElem?_cons_zero, List.getElem?_cons_succ] at k0 k1 q0 q1
    by_cases hlt : k < lf
    · have hkn : (k : Int) < (lf : Int) := by omega
      go_wp2
      clear k0 k1 q0 q1
      have hsr := HS.out.size
      go_loopw [9, 10] (fun kv jv wq => ∃ (j : Nat) (z p2 : Int), j ≤ lg ∧ kv = .int .i64 z ∧ jv = .int .i64 j ∧ -1 ≤ z ∧ z ≤ 21 ∧ Hid (Sm r w lo hi An nn cn Af lf cf ns fs lo2 hi2 Aq nq cq Ag lg cg nsq gs u7 ys wq) ∧ Hid (Rdr wq r A n c xs p2) ∧ 0 ≤ p2 ∧ p2 ≤ p' + j)
        (fun _ jv _ => lg - (intOf jv).toNat)
      case atStart => exact ⟨0, -1, p', by omega, rfl, rfl, by omega, by omega, HS, HR, by omega, by omega⟩
      case round =>
        clear HS HR
        obtain ⟨j, z, p2, hj, rfl, rfl, hz1', hz2', HS, HR, hp20, hp2⟩ := hrel
        have k0 := HS.out.bp.cell 0
        have k1 := HS.out.bp.cell 1
        have q0 := HS.out.bq.cell 0
        have q1 := HS.out.bq.cell 1
        simp only [List.getElem?_toArray, List.getElem?_cons_zero, List.getElem?_cons_succ] at k0 k1 q0 q1
        have hsq := HS.out.size
        by_cases hjl : j < lg
        · have hjn : (j : Int) < (lg : Int) := by omega
          have HC := Lib.hid (HS.out.pp.validPS (show hi ≤ wr.heap.size by omega))
          cases hV : vProc ns fs with
          | false =>
            rw [hV] at HC
            have HSX := HS
            have HRX := HR
            go_wp2_with (fail)
            (with_reducible refine HC.out.mono ?_)
            clear HC k0 k1 q0 q1
            rintro e wa ⟨rfl, hbx⟩
            have HSwa := Lib.hid (HSX.out.below hbx hh hh2)
            have HRwa := Lib.hid (HRX.out.below hbx)
            clear hbx
            go_wp2
            go_roundw
            case rel => exact ⟨j + 1, z, p2, by omega, rfl, by go_num, by omega, by omega, HSwa, HRwa, by omega, by omega⟩
            case measure => simp [intOf]; omega
          | true =>
          rw [hV] at HC
          have HV := Lib.hid hV
          clear hV
          have HSX := HS
          have HRX := HR
          go_wp2_with (fail)
          (with_reducible refine HC.out.mono ?_)
          clear HC k0 k1 q0 q1
          rintro e wa ⟨rfl, hbx⟩
          have HSwa := Lib.hid (HSX.out.below hbx hh hh2)
          have HRwa := Lib.hid (HRX.out.below hbx)
          clear hbx
          clear HSX HRX HS HR
          have k0 := HSwa.out.bp.cell 0
          have k1 := HSwa.out.bp.cell 1
          have q0 := HSwa.out.bq.cell 0
          have q1 := HSwa.out.bq.cell 1
          simp only [List.getElem?_toArray, List.getElem?_cons_zero, List.getElem?_cons_succ] at k0 k1 q0 q1
          have hsa := HSwa.out.size
          have HC := Lib.hid (HSwa.out.qq.validPS (show hi2 ≤ wa.heap.size by omega))
          cases hV : vProc nsq gs with
          | false =>
            rw [hV] at HC
            have HSX := HSwa
            have HRX := HRwa
            go_wp2_with (fail)
            (with_reducible refine HC.out.mono ?_)
            clear HC k0 k1 q0 q1
            rintro e wb ⟨rfl, hbx⟩
            have HSwb := Lib.hid (HSX.out.below hbx hh hh2)
            have HRwb := Lib.hid (HRX.out.below hbx)
            clear hbx
            go_wp2
            go_roundw
            case rel => exact ⟨j + 1, z, p2, by omega, rfl, by go_num, by omega, by omega, HSwb, HRwb, by omega, by omega⟩
            case measure => simp [intOf]; omega
          | true =>
          rw [hV] at HC
          have HVQ := Lib.hid hV
          clear hV
          have HSX := HSwa
          have HRX := HRwa
          go_wp2_with (fail)
          (with_reducible refine HC.out.mono ?_)
          clear HC k0 k1 q0 q1
          rintro e wb ⟨rfl, hbx⟩
          have HSwb := Lib.hid (HSX.out.below hbx hh hh2)
          have HRwb := Lib.hid (HRX.out.below hbx)
          clear hbx
          clear HSX HRX HSwa HRwa
          have k0 := HSwb.out.bp.cell 0
          have k1 := HSwb.out.bp.cell 1
          have q0 := HSwb.out.bq.cell 0
          have q1 := HSwb.out.bq.cell 1
          simp only [List.getElem?_toArray, List.getElem?_cons_zero, List.getElem?_cons_succ] at k0 k1 q0 q1
          have hsb := HSwb.out.size
          have HC := Lib.hid (sameStops_any lo hi nn cn An ns lo hi lf cf Af fs lo2 hi2 nq cq Aq nsq lo2 hi2 lg cg Ag gs k j wb HSwb.out.pp.nodes (by omega) (by omega) HSwb.out.pp.flows (by omega) (by omega) HSwb.out.qq.nodes (by omega) (by omega) HSwb.out.qq.flows (by omega) (by omega) HV.out HVQ.out hlt hjl)
          generalize (stopAt ns fs k == stopAt nsq gs j) = sb at *
          cases sb with
          | false =>
            have HSX := HSwb
            have HRX := HRwb
            go_wp2_with (fail)
            (with_reducible refine HC.out.mono ?_)
            clear HC k0 k1 q0 q1
            rintro e wd ⟨rfl, hbx⟩
            have HSwd := Lib.hid (HSX.out.below hbx hh hh2)
            have HRwd := Lib.hid (HRX.out.below hbx)
            clear hbx
            go_wp2
            go_roundw
            case rel => exact ⟨j + 1, z, p2, by omega, rfl, by go_num, by omega, by omega, HSwd, HRwd, by omega, by omega⟩
            case measure => simp [intOf]; omega
          | true =>
          have HSX := HSwb
          have HRX := HRwb
          by_cases hz0' : z < 0
          · have hzd : decide (z < 0) = true := decide_eq_true hz0'
            go_wp2_with (fail)
            (with_reducible refine HC.out.mono ?_)
            clear HC k0 k1 q0 q1
            rintro e wd ⟨rfl, hbx⟩
            have HSwd := Lib.hid (HSX.out.below hbx hh hh2)
            have HRwd := Lib.hid (HRX.out.below hbx)
            clear hbx
            clear HSX HRX HSwb HRwb
            go_wp2
            go_roundw
            case rel => exact ⟨j + 1, (j : Int), p2, by omega, rfl, by go_num, by omega, by omega, HSwd, HRwd, by omega, by omega⟩
            case measure => simp [intOf]; omega
          · have hzd : decide (z < 0) = false := decide_eq_false hz0'
            go_wp2_with (fail)
            (with_reducible refine HC.out.mono ?_)
            clear HC k0 k1 q0 q1
            rintro e wd ⟨rfl, hbx⟩
            have HSwd := Lib.hid (HSX.out.below hbx hh hh2)
            have HRwd := Lib.hid (HRX.out.below hbx)
            clear hbx
            clear HSX HRX HSwb HRwb
            have hsd := HSwd.out.size
            have HC := Lib.hid (pick_any r A n c xs p2 2 wd HRwd.out (by omega) (by omega))
            go_wp2_with (fail)
            (with_reducible refine HC.out.mono ?_)
            clear HC
            rintro e we ⟨q, rfl, hq0, hq1, _, hRe, hGe⟩
            have HSwe := Lib.hid (HSwd.out.next hGe hh hh2 hrb hr1 hr2)
            have HRwe := Lib.hid hRe
            clear hRe hGe HSwd HRwd
            have hq2 := hq1 (by omega)
            clear hq1
            by_cases hqz : q = 0
            · have hqd : (q == 0) = true := by simpa using hqz
              go_wp2
              go_roundw
              case rel => exact ⟨j + 1, (j : Int), (p2 + 1), by omega, rfl, by go_num, by omega, by omega, HSwe, HRwe, by omega, by omega⟩
              case measure => simp [intOf]; omega
            · have hqd : (q == 0) = false := by simpa using hqz
              go_wp2
              go_roundw
              case rel => exact ⟨j + 1, z, (p2 + 1), by omega, rfl, by go_num, by omega, by omega, HSwe, HRwe, by omega, by omega⟩
              case measure => simp [intOf]; omega
        · obtain rfl : lg = j := by omega
          go_wp2_with (fail)
          clear k0 k1 q0 q1
          have HC := Lib.hid (pick_any r A n c xs p2 12 wr HR.out (by omega) (by omega))
          (with_reducible refine HC.out.mono ?_)
          clear HC
          rintro e we ⟨q, rfl, hq0, hq1, _, hRe, hGe⟩
          have HSwe := Lib.hid (HS.out.next hGe hh hh2 hrb hr1 hr2)
          have HRwe := Lib.hid hRe
          clear hRe hGe HS HR
          have hq2 := hq1 (by omega)
          clear hq1
          by_cases hqz : q = 0
          · have hqd : (q == 0) = true := by simpa using hqz
            have k0 := HSwe.out.bp.cell 0
            have k1 := HSwe.out.bp.cell 1
            have q0 := HSwe.out.bq.cell 0
            have q1 := HSwe.out.bq.cell 1
            simp only [List.getElem?_toArray, List.getElem?_cons_zero, List.getElem?_cons_succ] at k0 k1 q0 q1
            have hwr1 : IntKind.i64.wrap ((lg : Int) + 1) = (lg : Int) + 1 := IntWalk.i64_in _ (by omega)
            have HC := Lib.hid (pick_any r A n c xs (p2 + 1) ((lg : Int) + 1) we HRwe.out (by omega) (by omega))
            go_wp2_with (fail)
            (with_reducible refine HC.out.mono ?_)
            clear HC k0 k1 q0 q1
            rintro e wf ⟨q3, rfl, hq30, hq31, _, hRe, hGe⟩
            have HSwf := Lib.hid (HSwe.out.next hGe hh hh2 hrb hr1 hr2)
            have HRwf := Lib.hid hRe
            clear hRe hGe HSwe HRwe
            have hq32 := hq31 (by omega)
            clear hq31
            have hwr2 : IntKind.i64.wrap (q3 - 1) = q3 - 1 := IntWalk.i64_in _ (by omega)
            obtain ⟨A', c', rfl, hcc, hcm⟩ := own_cap HSwf.out.own
            have hownX := HSwf.out.own
            have hlow := hownX.lt
            have hsx := HSwf.out.size
            go_wp2_with (at_builtin; refine wpList_append_own _ rfl _ _ 27 rfl (w.heap.size + 1 + 1) 3 i0 (.int .i64 0) 1 8 Try.underlying27 hi0 hz0 hz1 hz2 rfl (by decide) _ _ _ rfl (hownX.alloc _) _ 1 1 [.int .i64 (q3 - 1)] rfl rfl (cell_one_new _ _ _) ?c2 ?c3 ?c4 ?c5 ?_)
            case c2 => first | rfl | (intro u hu; simp at hu; subst hu; rfl)
            case c3 => unfold maxLen; omega
            case c4 => omega
            case c5 => first | omega | (simp; omega)
            intro v' w4 hown4 hg4 _
            have hs4 : wf.heap.size + 1 ≤ w4.heap.size := by have := hg4.size; simpa using this
            have hba := up_alloc (Below.refl _ wf) (.cells #[.int .i64 (q3 - 1)] 3)
            have HS4 := Lib.hid (show Sm r w lo hi An nn cn Af lf cf ns fs lo2 hi2 Aq nq cq Ag lg cg nsq gs v' (ys ++ [(q3 - 1)]) w4 from ⟨own_ints hown4, but_grown (but_alloc HSwf.out.but (.cells #[.int .i64 (q3 - 1)] 3)) (hownX.alloc _) hg4 (by omega), (HSwf.out.bp.alloc _).grown hg4 (fun e => by have := (hlow _ e.symm).1; omega), (HSwf.out.bq.alloc _).grown hg4 (fun e => by have := (hlow _ e.symm).1; omega), (HSwf.out.pp.keep hba (by omega)).far hg4 (by simp; omega) (fun g hg => by have := (hlow g hg).1; omega), (HSwf.out.qq.keep hba (by omega)).far hg4 (by simp; omega) (fun g hg => by have := (hlow g hg).1; omega)⟩)
            have HR4 := Lib.hid (rdr_grown (rdr_alloc HRwf.out (.cells #[.int .i64 (q3 - 1)] 3)) (hownX.alloc _) hg4 (by omega))
            clear hg4 hownX hown4 hlow hba HSwf HRwf
            go_wp2
            go_roundw
            case rel => exact ⟨k + 1, ys ++ [(q3 - 1)], (p2 + 1 + 1), by omega, by go_num, by rw [List.length_append, HY.out]; rfl, HS4, HR4, by omega, by omega⟩
            case measure => simp [intOf]; omega
          · have hqd : (q == 0) = false := by simpa using hqz
            obtain ⟨A', c', rfl, hcc, hcm⟩ := own_cap HSwe.out.own
            have hownX := HSwe.out.own
            have hlow := hownX.lt
            have hsx := HSwe.out.size
            go_wp2_with (at_builtin; refine wpList_append_own _ rfl _ _ 27 rfl (w.heap.size + 1 + 1) 3 i0 (.int .i64 0) 1 8 Try.underlying27 hi0 hz0 hz1 hz2 rfl (by decide) _ _ _ rfl (hownX.alloc _) _ 1 1 [.int .i64 z] rfl rfl (cell_one_new _ _ _) ?c2 ?c3 ?c4 ?c5 ?_)
            case c2 => first | rfl | (intro u hu; simp at hu; subst hu; rfl)
            case c3 => unfold maxLen; omega
            case c4 => omega
            case c5 => first | omega | (simp; omega)
            intro v' w4 hown4 hg4 _
            have hs4 : we.heap.size + 1 ≤ w4.heap.size := by have := hg4.size; simpa using this
            have hba := up_alloc (Below.refl _ we) (.cells #[.int .i64 z] 3)
            have HS4 := Lib.hid (show Sm r w lo hi An nn cn Af lf cf ns fs lo2 hi2 Aq nq cq Ag lg cg nsq gs v' (ys ++ [z]) w4 from ⟨own_ints hown4, but_grown (but_alloc HSwe.out.but (.cells #[.int .i64 z] 3)) (hownX.alloc _) hg4 (by omega), (HSwe.out.bp.alloc _).grown hg4 (fun e => by have := (hlow _ e.symm).1; omega), (HSwe.out.bq.alloc _).grown hg4 (fun e => by have := (hlow _ e.symm).1; omega), (HSwe.out.pp.keep hba (by omega)).far hg4 (by simp; omega) (fun g hg => by have := (hlow g hg).1; omega), (HSwe.out.qq.keep hba (by omega)).far hg4 (by simp; omega) (fun g hg => by have := (hlow g hg).1; omega)⟩)
            have HR4 := Lib.hid (rdr_grown (rdr_alloc HRwe.out (.cells #[.int .i64 z] 3)) (hownX.alloc _) hg4 (by omega))
            clear hg4 hownX hown4 hlow hba HSwe HRwe
            go_wp2
            go_roundw
            case rel => exact ⟨k + 1, ys ++ [z], (p2 + 1), by omega, by go_num, by rw [List.length_append, HY.out]; rfl, HS4, HR4, by omega, by omega⟩
            case measure => simp [intOf]; omega
    · obtain rfl : k = lf := by omega
      obtain ⟨A', c', rfl, hcc, hcm⟩ := own_cap HS.out.own
      have hsx := HS.out.size
      have HC := Lib.hid (spoilN_any r A n c xs p' _ _ _ c' A' ys lg wr HR.out (by omega) (Rd.of_own HS.out.own) (Nat.le_refl _) (by omega))
      go_wp2_with (fail)
      (with_reducible refine HC.out.mono ?_)
      clear HC k0 k1 q0 q1
      rintro e w4 ⟨A2, n2, c2, zs, p4, rfl, hn2, hc2, hm2, hrd, hR4, hp4, hG4⟩
      have HRD := Lib.hid hrd
      have HR4 := Lib.hid hR4
      have HG4 := Lib.hid (but_trans HS.out.but hG4)
      clear hrd hR4 hG4 HS HR
      go_wp2
      go_ret
      exact ⟨A2, n2, c2, zs, p4, rfl, by omega, hc2, hm2, HRD.out.wide (by omega) (Nat.le_refl _), HR4.out, by omega, HG4.out⟩
end Go.Proofs.Ytmhbfdcikdhehaa
