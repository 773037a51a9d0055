/- Merged: InstS, InstS2. -/
import Derived.Test.YtknphikoikdcjaaGreatInstMathA
import Derived.Test.YtknphikoikdcjaaGreatTokReadyS
import Derived.BigQuiet
import Derived.Deep.QuietTactic
import Derived.Deep.RegionHeld3
import Derived.Deep.Onto
/- The reference's instances: waiting, automatic, timersAt, sooner. -/
set_option linter.unusedSimpArgs false
set_option linter.unusedVariables false
namespace Go.Proofs.YtknphikoikdcjaaGreat
open Go.RowKit

theorem head_of {l : List Int} {q : Int} (h : l[0]? = some q) : l.headD 0 = q := by
  cases l with
  | nil => simp at h
  | cons a l => simpa using h
set_option maxRecDepth 100000 in
set_option maxHeartbeats 800000 in
theorem waitingS_any (vn : Value) (lo1 hi1 lf cf : Nat) (Af : Option Addr) (fs : List Flw) (lo' hi' n' c' : Nat) (A' : Option Addr) (ms : List Int) (k : Nat) (w : World)
    (hr : Fls w lo1 hi1 Af lf fs) (hB1 : hi1 ≤ w.heap.size) (hn : lf ≤ 1048576) (hv : Rd w lo' hi' 1 A' n' (ivs ms)) (hB' : hi' ≤ w.heap.size) (hml : ms.length = fs.length) (hne : 0 < (flOf fs false (k : Int)).length) :
    Calls Tryz.prog 90 #[.agg #[vn, .slice Af lf cf], .slice A' n' c', .int .i64 (k : Int)] w fun e w' => e = .returned (.int .i64 (waitAt fs ms (k : Int))) ∧ Below w.heap.size w w' := by
  have hb1 := up_alloc (Below.refl _ w) (.cells #[vn, .slice Af lf cf] 40)
  have hbk := Blk.new w 40 #[vn, .slice Af lf cf]
  have k0 := hbk.cell 0
  have k1 := hbk.cell 1
  simp only [List.getElem?_toArray, List.getElem?_cons_zero, List.getElem?_cons_succ] at k0 k1
  have hz0 : (flOf fs false (k : Int))[0]? = some ((flOf fs false (k : Int))[0]) := List.getElem?_eq_getElem hne
  obtain ⟨q, f, hq, hf, _⟩ := flOf_mem.1 (List.getElem_mem hne)
  rw [hq] at hz0
  have hqm : q < ms.length := by have := (List.getElem?_eq_some_iff.1 hf).1; omega
  have hl := hv.len1
  have HFO := Lib.hid (flowsOf_any lo1 hi1 lf cf Af vn fs (k : Int) false _ (hr.keep hb1 hB1) (by have := hb1.size; omega) hn)
  have HB := Lib.hid hb1
  have HX : Hid (waitAt fs ms (k : Int) = ms.getD q 0) := by
    show waitAt fs ms (k : Int) = _
    unfold waitAt
    rw [head_of hz0, Int.toNat_natCast]
  generalize flOf fs false (k : Int) = ids at *
  clear hf hq hbk hb1
  go_enter Tryz.func90, Tryz.ntmps90
  go_wp2_with (fail)
  (with_reducible refine HFO.out.mono ?_)
  clear HFO k0 k1
  rintro e w1 ⟨Ai, ci, rfl, _, hri, _, hb2⟩
  have HB2 := Lib.hid (up HB.out hb2)
  obtain ⟨b, off, z, rfl, _, _, hg, hc0⟩ := hri.one hne
  rw [hz0] at hg; injection hg with hg; subst hg
  obtain ⟨bm, off3, mq, rfl, _, _, hgm, hcm⟩ := (hv.keep HB2.out hB').one (show q < n' by omega)
  rw [Nat.add_zero] at hc0
  have hmq : ms.getD q 0 = mq := by rw [List.getD_eq_getElem?_getD, hgm]; rfl
  have HX2 := Lib.hid (HX.out.trans hmq)
  have hq1 : (q : Int) < (n' : Int) := by omega
  have hq0 : (0 : Int) ≤ (q : Int) := by omega
  have hn0 : (0 : Int) < (ids.length : Int) := by omega
  clear hgm hmq hz0 hri hb2 HX HB hr hv
  go_wp2
  go_ret
  exact ⟨ret_int HX2.out.symm, HB2.out⟩
theorem automatic_any (x : Int) (w : World) : Calls Tryz.prog 116 #[.int .i64 x] w fun e w' => e = .returned (.bool (autoB x)) ∧ w = w' := by
  unfold autoB
  by_cases h : x = 1
  · have h1 : (x == 1) = true := by simpa using h
    have h2 : decide (x = 1) = true := decide_eq_true h
    go_enter Tryz.func116, Tryz.ntmps116
    go_wp2
    go_ret
    exact ⟨ret_bool (by rw [h2]; rfl), rfl⟩
  · have h1 : (x == 1) = false := by simpa using h
    have h2 : decide (x = 1) = false := decide_eq_false h
    go_enter Tryz.func116, Tryz.ntmps116
    go_wp2
    go_ret
    exact ⟨ret_bool (by rw [h2]; rfl), rfl⟩
theorem tAt_take {ts : List Tm} {k : Nat} {t : Tm} (h : ts[k]? = some t) (node : Int) : tAt (ts.take (k + 1)) node = tAt (ts.take k) node + (if t.1 = node then 1 else 0) := by
  rw [take_snoc h]
  unfold tAt
  rw [List.countP_append]
  by_cases e : t.1 = node <;> simp [e]
theorem tAt_le (ts : List Tm) (node : Int) : tAt ts node ≤ ts.length := List.countP_le_length
set_option maxRecDepth 100000 in
set_option maxHeartbeats 800000 in
theorem timersAt_any (lo hi n c : Nat) (A : Option Addr) (ts : List Tm) (node : Int) (w : World) (hr : Rd w lo hi 2 A n (pvs ts)) (hn : n ≤ 1048576) :
    Calls Tryz.prog 115 #[.slice A n c, .int .i64 node] w fun e w' => e = .returned (.int .i64 (tAt ts node : Int)) ∧ w = w' := by
  have HL := Lib.hid hr.len2
  go_enter Tryz.func115, Tryz.ntmps115
  go_wp2
  go_loop [5, 6] (fun nv iv => ∃ (k : Nat), k ≤ n ∧ iv = .int .i64 k ∧ nv = .int .i64 (tAt (ts.take k) node : Int))
     (fun _ iv => n - (intOf iv).toNat)
  case atStart => exact ⟨0, by omega, rfl, by simp [tAt]⟩
  case round =>
    obtain ⟨k, hk, rfl, rfl⟩ := hrel
    by_cases hlt : k < n
    · obtain ⟨b, off, x, y, rfl, _, _, hg, hc0, hc1⟩ := hr.pair hlt
      have hkn : (k : Int) < (n : Int) := by omega
      have hk0 : (0 : Int) ≤ (k : Int) := by omega
      have HT := Lib.hid (tAt_take hg node)
      have hle := tAt_le (ts.take k) node
      have hle2 := List.length_take_le k ts
      have hbd : (tAt (ts.take k) node : Int) ≤ 1048576 := by omega
      have hb0 : (0 : Int) ≤ (tAt (ts.take k) node : Int) := by omega
      clear hg hle hle2
      by_cases e : x = node
      · have hx : (x == node) = true := by simpa using e
        have HT2 := Lib.hid (show tAt (ts.take (k + 1)) node = tAt (ts.take k) node + 1 by rw [HT.out, if_pos e])
        clear HT e
        have htr1 : tr true = 1 := rfl
        have htr0 : tr false = 0 := rfl
        generalize tAt (ts.take k) node = m at *
        go_wp2_with (go_at_call 144; refine (toInt_any _ _).mono ?_; rintro e w' ⟨rfl, rfl⟩)
        go_round
        case rel => exact ⟨k + 1, by omega, by go_num, by rw [HT2.out]; go_num⟩
        case measure => simp [intOf]; omega
      · have hx : (x == node) = false := by simpa using e
        have HT2 := Lib.hid (show tAt (ts.take (k + 1)) node = tAt (ts.take k) node by rw [HT.out, if_neg e]; rfl)
        clear HT e
        have htr1 : tr true = 1 := rfl
        have htr0 : tr false = 0 := rfl
        generalize tAt (ts.take k) node = m at *
        go_wp2_with (go_at_call 144; refine (toInt_any _ _).mono ?_; rintro e w' ⟨rfl, rfl⟩)
        go_round
        case rel => exact ⟨k + 1, by omega, by go_num, by rw [HT2.out]⟩
        case measure => simp [intOf]; omega
    · obtain rfl : k = n := by omega
      have hal : ts.take k = ts := List.take_of_length_le (by have := HL.out; omega)
      rw [hal]
      go_wp2
      go_ret
      exact ⟨rfl, rfl⟩
set_option maxHeartbeats 800000 in
theorem sooner_any (x y u v : Int) (w : World) :
    Calls Tryz.prog 114 #[.agg #[.int .i64 x, .int .i64 y], .agg #[.int .i64 u, .int .i64 v]] w fun e w' => e = .returned (.bool (tlt (x, y) (u, v))) ∧ Below w.heap.size w w' := by
  have hb1 := up_alloc (up_alloc (Below.refl _ w) (.cells #[.int .i64 x, .int .i64 y] 96)) (.cells #[.int .i64 u, .int .i64 v] 96)
  have hp1 := (Blk.new w 96 #[.int .i64 x, .int .i64 y]).alloc (.cells #[.int .i64 u, .int .i64 v] 96)
  have hq1 : Blk ((w.alloc (.cells #[.int .i64 x, .int .i64 y] 96)).alloc (.cells #[.int .i64 u, .int .i64 v] 96)) (w.heap.size + 1) 96 #[.int .i64 u, .int .i64 v] := by
    simpa using Blk.new (w.alloc (.cells #[.int .i64 x, .int .i64 y] 96)) 96 #[.int .i64 u, .int .i64 v]
  have k0 := hp1.cell 0
  have k1 := hp1.cell 1
  have q0 := hq1.cell 0
  have q1 := hq1.cell 1
  simp only [List.getElem?_toArray, List.getElem?_cons_zero, List.getElem?_cons_succ] at k0 k1 q0 q1
  have HB := Lib.hid hb1
  clear hb1 hp1 hq1
  have HX := Lib.hid (show tlt (x, y) (u, v) = (decide (y < v) || (decide (y = v) && decide (x < u))) from rfl)
  by_cases h1 : y < v
  · have h1' : decide (y < v) = true := decide_eq_true h1
    go_enter Tryz.func114, Tryz.ntmps114
    go_wp2
    go_ret
    exact ⟨ret_bool (by rw [HX.out, h1']; rfl), HB.out⟩
  · have h1' : decide (y < v) = false := decide_eq_false h1
    by_cases h2 : y = v
    · have h2' : (y == v) = true := by simpa using h2
      have h3 : decide (y = v) = true := decide_eq_true h2
      have HX2 := Lib.hid (show tlt (x, y) (u, v) = decide (x < u) by rw [HX.out, h1', h3]; rfl)
      clear h2 h3 HX h1
      go_enter Tryz.func114, Tryz.ntmps114
      go_wp2
      go_ret
      exact ⟨ret_bool HX2.out.symm, HB.out⟩
    · have h2' : (y == v) = false := by simpa using h2
      have h3 : decide (y = v) = false := decide_eq_false h2
      have HX2 := Lib.hid (show tlt (x, y) (u, v) = false by rw [HX.out, h1', h3]; rfl)
      clear h2 h3 HX h1
      go_enter Tryz.func114, Tryz.ntmps114
      go_wp2
      go_ret
      exact ⟨ret_bool HX2.out.symm, HB.out⟩
end Go.Proofs.YtknphikoikdcjaaGreat


/- The reference's addTimer. (Written by gen/insts2.py.) -/
namespace Go.Proofs.YtknphikoikdcjaaGreat
open Go.RowKit

theorem infoTimerS : (Tryz.prog.info? 96).map (fun i => (i.zero, i.size, i.bytes)) = some (some (.agg #[.int .i64 0, .int .i64 0]), 2, 16) := by kernel_rfl
theorem filt_yes {p : Tm → Bool} {ts : List Tm} {k : Nat} {t : Tm} (h : ts[k]? = some t) (hp : p t = true) : (ts.take (k + 1)).filter p = (ts.take k).filter p ++ [t] := by
  rw [take_snoc h, List.filter_append]; simp [hp]
theorem filt_no {p : Tm → Bool} {ts : List Tm} {k : Nat} {t : Tm} (h : ts[k]? = some t) (hp : p t = false) : (ts.take (k + 1)).filter p = (ts.take k).filter p := by
  rw [take_snoc h, List.filter_append]; simp [hp]
theorem filt_le (p : Tm → Bool) (ts : List Tm) : (ts.filter p).length ≤ ts.length := List.length_filter_le _ _
theorem pvs_snoc (ys : List Tm) (x y : Int) : pvs (ys ++ [(x, y)]) = pvs ys ++ [.int .i64 x, .int .i64 y] := by simp [pvs, pv]
theorem own_pair {w : World} {base : Nat} {e : TypeId} {v : Value} {ys : List Tm} {x y : Int} (h : w.ownsRow base e 2 v (ys.length + 1) (pvs ys ++ [.int .i64 x, .int .i64 y])) : w.ownsRow base e 2 v (ys ++ [(x, y)]).length (pvs (ys ++ [(x, y)])) := by
  rw [pvs_snoc, List.length_append]; exact h
def addUp1 (ts : List Tm) (t : Tm) (k : Nat) : List Tm := (ts.take k).filter fun u => !tlt t u
def addUp2 (ts : List Tm) (t : Tm) (k : Nat) : List Tm := (ts.filter (fun u => !tlt t u) ++ [t]) ++ (ts.take k).filter fun u => tlt t u
theorem addUp1_le (ts : List Tm) (t : Tm) (k : Nat) : (addUp1 ts t k).length ≤ ts.length := Nat.le_trans (filt_le _ _) (by rw [List.length_take]; omega)
theorem addUp2_le (ts : List Tm) (t : Tm) (k : Nat) : (addUp2 ts t k).length ≤ ts.length + 1 + ts.length := by
  unfold addUp2
  rw [List.length_append, List.length_append]
  have h1 := filt_le (fun u => !tlt t u) ts
  have h2 : ((ts.take k).filter fun u => tlt t u).length ≤ ts.length := Nat.le_trans (filt_le _ _) (by rw [List.length_take]; omega)
  simp only [List.length_cons, List.length_nil]
  omega
theorem addUp1_yes {ts : List Tm} {t u : Tm} {k : Nat} (h : ts[k]? = some u) (hp : tlt t u = false) : addUp1 ts t (k + 1) = addUp1 ts t k ++ [u] := filt_yes h (by rw [hp]; rfl)
theorem addUp1_no {ts : List Tm} {t u : Tm} {k : Nat} (h : ts[k]? = some u) (hp : tlt t u = true) : addUp1 ts t (k + 1) = addUp1 ts t k := filt_no h (by rw [hp]; rfl)
theorem addUp2_yes {ts : List Tm} {t u : Tm} {k : Nat} (h : ts[k]? = some u) (hp : tlt t u = true) : addUp2 ts t (k + 1) = addUp2 ts t k ++ [u] := by
  unfold addUp2; rw [filt_yes h hp, List.append_assoc, List.append_assoc, List.append_assoc]
theorem addUp2_no {ts : List Tm} {t u : Tm} {k : Nat} (h : ts[k]? = some u) (hp : tlt t u = false) : addUp2 ts t (k + 1) = addUp2 ts t k := by
  unfold addUp2; rw [filt_no h hp]
theorem addUp2_zero {ts : List Tm} {t : Tm} {n : Nat} (h : ts.length = n) : addUp2 ts t 0 = addUp1 ts t n ++ [t] := by
  unfold addUp2 addUp1; rw [show ts.take n = ts from List.take_of_length_le (by omega)]; simp
theorem addUp2_end {ts : List Tm} {t : Tm} {n : Nat} (h : ts.length = n) : addUp2 ts t n = addT ts t := by
  unfold addUp2 addT; rw [List.take_of_length_le (by omega)]; simp
set_option maxRecDepth 100000 in
set_option maxHeartbeats 3200000 in
theorem addTimer_any (lo hi n c : Nat) (A : Option Addr) (ts : List Tm) (x y : Int) (w : World) (hr : Rd w lo hi 2 A n (pvs ts)) (hB : hi ≤ w.heap.size) (hn : n ≤ 100000) :
    Calls Tryz.prog 62 #[.slice A n c, .agg #[.int .i64 x, .int .i64 y]] w fun e w' => ∃ v, e = .returned v ∧ w'.ownsRow w.heap.size 96 2 v (addT ts (x, y)).length (pvs (addT ts (x, y))) ∧ Below w.heap.size w w' := by
  obtain ⟨i0, hi0, hz0, hz1, hz2⟩ := info_parts infoTimerS
  have HL := Lib.hid hr.len2
  have hb1 := up_alloc (up_alloc (Below.refl _ w) (.cells #[.int .i64 x, .int .i64 y] 96)) (.cells #[] 96)
  have hbk := (Blk.new w 96 #[.int .i64 x, .int .i64 y]).alloc (.cells #[] 96)
  have hown0 := World.ownsRow_made (w.alloc (.cells #[.int .i64 x, .int .i64 y] 96)) (base := w.heap.size + 1) (e := 96) (size := 2) #[] 0 (by simp) (by unfold maxLen; omega) (by simp)
  rw [show (w.alloc (.cells #[.int .i64 x, .int .i64 y] 96)).heap.size = w.heap.size + 1 by simp] at hown0
  have HO0 := Lib.hid (show ((w.alloc (.cells #[.int .i64 x, .int .i64 y] 96)).alloc (.cells #[] 96)).ownsRow (w.heap.size + 1) 96 2 (.slice (some ⟨w.heap.size + 1, 0, none⟩) 0 0) (addUp1 ts (x, y) 0).length (pvs (addUp1 ts (x, y) 0)) from hown0)
  have HB0 := Lib.hid hb1
  clear hown0 hb1
  go_enter Tryz.func62, Tryz.ntmps62
  go_wp2
  go_loopw [5, 6] (fun ov iv wr => ∃ (k : Nat), k ≤ n ∧ iv = .int .i64 k ∧ Hid (wr.ownsRow (w.heap.size + 1) 96 2 ov (addUp1 ts (x, y) k).length (pvs (addUp1 ts (x, y) k))) ∧ Hid (Below w.heap.size w wr) ∧ Blk wr w.heap.size 96 #[.int .i64 x, .int .i64 y])
     (fun _ iv _ => n - (intOf iv).toNat)
  case atStart => exact ⟨0, by omega, rfl, HO0, HB0, hbk⟩
  case round =>
    clear HO0 HB0 hbk
    obtain ⟨k, hk, rfl, HO, HB, hbk⟩ := hrel
    have hbl := hbk.lt
    have hszr := HB.out.size
    by_cases hlt : k < n
    · obtain ⟨b, off, x1, y1, rfl, hbh, _, hg, hc0, hc1⟩ := (hr.keep HB.out hB).pair hlt
      have hkn : (k : Int) < (n : Int) := by omega
      have hk0 : (0 : Int) ≤ (k : Int) := by omega
      have HBK := Lib.hid hbk
      have HG := Lib.hid hg
      have hlen1 := addUp1_le ts (x, y) k
      have HLL := HL.out
      have HC : Hid (∀ wx : World, Calls Tryz.prog 114 #[.agg #[.int .i64 x, .int .i64 y], .agg #[.int .i64 x1, .int .i64 y1]] wx fun e w' => e = .returned (.bool (tlt (x, y) (x1, y1))) ∧ Below wx.heap.size wx w') := fun wx => sooner_any x y x1 y1 wx
      have HSW : Hid (∀ wx : World, Below wr.heap.size wr wx → wx.cell? ⟨w.heap.size, 0, none⟩ = some (.int .i64 x) ∧ wx.cell? ⟨w.heap.size, 1, none⟩ = some (.int .i64 y) ∧ wx.cell? ⟨b, off + k * 2, none⟩ = some (.int .i64 x1) ∧ wx.cell? ⟨b, off + k * 2 + 1, none⟩ = some (.int .i64 y1)) := fun wx hbx => ⟨(HBK.out.below hbx hbl).cell 0, (HBK.out.below hbx hbl).cell 1, (hbx.cell (p := ⟨b, off + k * 2, none⟩) (by show b < wr.heap.size; omega)).trans hc0, (hbx.cell (p := ⟨b, off + k * 2 + 1, none⟩) (by show b < wr.heap.size; omega)).trans hc1⟩
      clear hg hc0 hc1 hbk
      cases hs : tlt (x, y) (x1, y1) with
      | true =>
        rw [hs] at HC
        have HS := Lib.hid hs
        clear hs
        go_wp2_with (fail)
        go_region_held3 (fun w' => w'.cell? ⟨w.heap.size, 0, none⟩ = some (.int .i64 x) ∧ w'.cell? ⟨w.heap.size, 1, none⟩ = some (.int .i64 y) ∧ w'.cell? ⟨b, off + k * 2, none⟩ = some (.int .i64 x1) ∧ w'.cell? ⟨b, off + k * 2 + 1, none⟩ = some (.int .i64 y1))
          (first | exact HSW.out _ (Below.refl _ _) | exact HSW.out _ (up_drew (Below.refl _ _)) | exact HSW.out _ HX7.out)
          ((first
            | (go_at_call 114; (with_reducible refine (HC.out _).mono ?_); rintro e w7 ⟨rfl, hb7⟩; have HX7 := Lib.hid (up (up_drew (Below.refl _ wr)) hb7))))
        all_goals
          have HB7 := Lib.hid (up HB.out HX7.out)
          have HO7 := Lib.hid (own_keep HO.out HX7.out)
          have HK7 := Lib.hid (HBK.out.below HX7.out hbl)
          have hsz7 := HX7.out.size
          have HO8 := Lib.hid (show w7.ownsRow (w.heap.size + 1) 96 2 _ (addUp1 ts (x, y) (k + 1)).length (pvs (addUp1 ts (x, y) (k + 1))) from by rw [addUp1_no HG.out HS.out]; exact HO7.out)
          clear HSW HC HX7 HO7 HO HB HBK
          go_wp2
          go_roundw
          case rel => exact ⟨k + 1, by omega, by go_num, HO8, HB7, HK7.out⟩
          case measure => simp [intOf]; omega
      | false =>
        rw [hs] at HC
        have HS := Lib.hid hs
        clear hs
        go_wp2_with (fail)
        go_region_held3 (fun w' => w'.cell? ⟨w.heap.size, 0, none⟩ = some (.int .i64 x) ∧ w'.cell? ⟨w.heap.size, 1, none⟩ = some (.int .i64 y) ∧ w'.cell? ⟨b, off + k * 2, none⟩ = some (.int .i64 x1) ∧ w'.cell? ⟨b, off + k * 2 + 1, none⟩ = some (.int .i64 y1))
          (first | exact HSW.out _ (Below.refl _ _) | exact HSW.out _ (up_drew (Below.refl _ _)) | exact HSW.out _ HX7.out)
          ((first
            | (go_at_call 114; (with_reducible refine (HC.out _).mono ?_); rintro e w7 ⟨rfl, hb7⟩; have HX7 := Lib.hid (up (up_drew (Below.refl _ wr)) hb7))))
        all_goals
          have HB7 := Lib.hid (up HB.out HX7.out)
          have HO7 := Lib.hid (own_keep HO.out HX7.out)
          have HK7 := Lib.hid (HBK.out.below HX7.out hbl)
          have hsz7 := HX7.out.size
          obtain ⟨q0, q1⟩ := (⟨(HSW.out _ HX7.out).2.2.1, (HSW.out _ HX7.out).2.2.2⟩ : _ ∧ _)
          have hownX := HO7.out
          have hlow := hownX.lt
          clear HSW HC HX7 HO7 HO HB HBK
          go_wp2_with (at_builtin; refine wpList_append_own _ rfl _ _ 32 rfl (w.heap.size + 1) 96 i0 _ 2 16 Tryz.underlying32 hi0 hz0 hz1 hz2 rfl (by decide) _ _ _ rfl (hownX.alloc _) _ 1 1 [.int .i64 x1, .int .i64 y1] rfl rfl (World.news_of_block (heap_alloc_new _ _)) ?c2 ?c3 ?c4 ?c5 ?_)
          case c2 => first | rfl | (intro u hu; simp at hu; rcases hu with rfl | rfl <;> rfl)
          case c3 => unfold maxLen; omega
          case c4 => omega
          case c5 => first | omega | (simp; omega)
          intro v' w4 hown4 hg4 _
          have hb4 := up_grown (up_alloc HB7.out (.cells #[.int .i64 x1, .int .i64 y1] 96)) (hownX.alloc _) hg4 (by omega)
          have hk4 := (HK7.out.alloc (.cells #[.int .i64 x1, .int .i64 y1] 96)).grown hg4 (fun e => by have := (hlow _ e.symm).1; omega)
          have HO8 := Lib.hid (show w4.ownsRow (w.heap.size + 1) 96 2 v' (addUp1 ts (x, y) (k + 1)).length (pvs (addUp1 ts (x, y) (k + 1))) from by rw [addUp1_yes HG.out HS.out]; exact own_pair hown4)
          have HB8 := Lib.hid hb4
          have HK8 := Lib.hid hk4
          clear hown4 hg4 hb4 hk4 hownX hlow HB7 HK7 q0 q1
          go_wp2
          go_roundw
          case rel => exact ⟨k + 1, by omega, by go_num, HO8, HB8, HK8.out⟩
          case measure => simp [intOf]; omega
    · obtain rfl : n = k := by omega
      have hlenf := addUp1_le ts (x, y) n
      have HLL := HL.out
      have c0 := hbk.cell 0
      have c1 := hbk.cell 1
      simp only [List.getElem?_toArray, List.getElem?_cons_zero, List.getElem?_cons_succ] at c0 c1
      have hownX := HO.out
      have hlow := hownX.lt
      go_wp2_with (at_builtin; refine wpList_append_own _ rfl _ _ 32 rfl (w.heap.size + 1) 96 i0 _ 2 16 Tryz.underlying32 hi0 hz0 hz1 hz2 rfl (by decide) _ _ _ rfl (hownX.alloc _) _ 1 1 [.int .i64 x, .int .i64 y] rfl rfl (World.news_of_block (heap_alloc_new _ _)) ?c2 ?c3 ?c4 ?c5 ?_)
      case c2 => first | rfl | (intro u hu; simp at hu; rcases hu with rfl | rfl <;> rfl)
      case c3 => unfold maxLen; omega
      case c4 => omega
      case c5 => first | omega | (simp; omega)
      intro v' w4 hown4 hg4 _
      have hb4 := up_grown (up_alloc HB.out (.cells #[.int .i64 x, .int .i64 y] 96)) (hownX.alloc _) hg4 (by omega)
      have hbk1 := (hbk.alloc (.cells #[.int .i64 x, .int .i64 y] 96)).grown hg4 (fun e => by have := (hlow _ e.symm).1; omega)
      have HO1 := Lib.hid (show w4.ownsRow (w.heap.size + 1) 96 2 v' (addUp2 ts (x, y) 0).length (pvs (addUp2 ts (x, y) 0)) from by rw [addUp2_zero HL.out]; exact own_pair hown4)
      have HB1 := Lib.hid hb4
      clear hown4 hg4 hb4 hownX hlow hbk c0 c1 HO HB hszr hbl hlenf HLL
      go_wp2
      go_loopw [5, 7] (fun ov iv wr => ∃ (k : Nat), k ≤ n ∧ iv = .int .i64 k ∧ Hid (wr.ownsRow (w.heap.size + 1) 96 2 ov (addUp2 ts (x, y) k).length (pvs (addUp2 ts (x, y) k))) ∧ Hid (Below w.heap.size w wr) ∧ Blk wr w.heap.size 96 #[.int .i64 x, .int .i64 y])
         (fun _ iv _ => n - (intOf iv).toNat)
      case atStart => exact ⟨0, by omega, rfl, HO1, HB1, hbk1⟩
      case round =>
        clear HO1 HB1 hbk1
        obtain ⟨k, hk, rfl, HO, HB, hbk⟩ := hrel
        have hbl := hbk.lt
        have hszr := HB.out.size
        by_cases hlt : k < n
        · obtain ⟨b, off, x1, y1, rfl, hbh, _, hg, hc0, hc1⟩ := (hr.keep HB.out hB).pair hlt
          have hkn : (k : Int) < (n : Int) := by omega
          have hk0 : (0 : Int) ≤ (k : Int) := by omega
          have HBK := Lib.hid hbk
          have HG := Lib.hid hg
          have hlen1 := addUp2_le ts (x, y) k
          have HLL := HL.out
          have HC : Hid (∀ wx : World, Calls Tryz.prog 114 #[.agg #[.int .i64 x, .int .i64 y], .agg #[.int .i64 x1, .int .i64 y1]] wx fun e w' => e = .returned (.bool (tlt (x, y) (x1, y1))) ∧ Below wx.heap.size wx w') := fun wx => sooner_any x y x1 y1 wx
          have HSW : Hid (∀ wx : World, Below wr.heap.size wr wx → wx.cell? ⟨w.heap.size, 0, none⟩ = some (.int .i64 x) ∧ wx.cell? ⟨w.heap.size, 1, none⟩ = some (.int .i64 y) ∧ wx.cell? ⟨b, off + k * 2, none⟩ = some (.int .i64 x1) ∧ wx.cell? ⟨b, off + k * 2 + 1, none⟩ = some (.int .i64 y1)) := fun wx hbx => ⟨(HBK.out.below hbx hbl).cell 0, (HBK.out.below hbx hbl).cell 1, (hbx.cell (p := ⟨b, off + k * 2, none⟩) (by show b < wr.heap.size; omega)).trans hc0, (hbx.cell (p := ⟨b, off + k * 2 + 1, none⟩) (by show b < wr.heap.size; omega)).trans hc1⟩
          clear hg hc0 hc1 hbk
          cases hs : tlt (x, y) (x1, y1) with
          | true =>
            rw [hs] at HC
            have HS := Lib.hid hs
            clear hs
            go_wp2_with (fail)
            go_region_held3 (fun w' => w'.cell? ⟨w.heap.size, 0, none⟩ = some (.int .i64 x) ∧ w'.cell? ⟨w.heap.size, 1, none⟩ = some (.int .i64 y) ∧ w'.cell? ⟨b, off + k * 2, none⟩ = some (.int .i64 x1) ∧ w'.cell? ⟨b, off + k * 2 + 1, none⟩ = some (.int .i64 y1))
              (first | exact HSW.out _ (Below.refl _ _) | exact HSW.out _ (up_drew (Below.refl _ _)) | exact HSW.out _ HX7.out)
              ((first
                | (go_at_call 114; (with_reducible refine (HC.out _).mono ?_); rintro e w7 ⟨rfl, hb7⟩; have HX7 := Lib.hid (up (up_drew (Below.refl _ wr)) hb7))))
            all_goals
              have HB7 := Lib.hid (up HB.out HX7.out)
              have HO7 := Lib.hid (own_keep HO.out HX7.out)
              have HK7 := Lib.hid (HBK.out.below HX7.out hbl)
              have hsz7 := HX7.out.size
              obtain ⟨q0, q1⟩ := (⟨(HSW.out _ HX7.out).2.2.1, (HSW.out _ HX7.out).2.2.2⟩ : _ ∧ _)
              have hownX := HO7.out
              have hlow := hownX.lt
              clear HSW HC HX7 HO7 HO HB HBK
              go_wp2_with (at_builtin; refine wpList_append_own _ rfl _ _ 32 rfl (w.heap.size + 1) 96 i0 _ 2 16 Tryz.underlying32 hi0 hz0 hz1 hz2 rfl (by decide) _ _ _ rfl (hownX.alloc _) _ 1 1 [.int .i64 x1, .int .i64 y1] rfl rfl (World.news_of_block (heap_alloc_new _ _)) ?c2 ?c3 ?c4 ?c5 ?_)
              case c2 => first | rfl | (intro u hu; simp at hu; rcases hu with rfl | rfl <;> rfl)
              case c3 => unfold maxLen; omega
              case c4 => omega
              case c5 => first | omega | (simp; omega)
              intro v' w4 hown4 hg4 _
              have hb4 := up_grown (up_alloc HB7.out (.cells #[.int .i64 x1, .int .i64 y1] 96)) (hownX.alloc _) hg4 (by omega)
              have hk4 := (HK7.out.alloc (.cells #[.int .i64 x1, .int .i64 y1] 96)).grown hg4 (fun e => by have := (hlow _ e.symm).1; omega)
              have HO8 := Lib.hid (show w4.ownsRow (w.heap.size + 1) 96 2 v' (addUp2 ts (x, y) (k + 1)).length (pvs (addUp2 ts (x, y) (k + 1))) from by rw [addUp2_yes HG.out HS.out]; exact own_pair hown4)
              have HB8 := Lib.hid hb4
              have HK8 := Lib.hid hk4
              clear hown4 hg4 hb4 hk4 hownX hlow HB7 HK7 q0 q1
              go_wp2
              go_roundw
              case rel => exact ⟨k + 1, by omega, by go_num, HO8, HB8, HK8.out⟩
              case measure => simp [intOf]; omega
          | false =>
            rw [hs] at HC
            have HS := Lib.hid hs
            clear hs
            go_wp2_with (fail)
            go_region_held3 (fun w' => w'.cell? ⟨w.heap.size, 0, none⟩ = some (.int .i64 x) ∧ w'.cell? ⟨w.heap.size, 1, none⟩ = some (.int .i64 y) ∧ w'.cell? ⟨b, off + k * 2, none⟩ = some (.int .i64 x1) ∧ w'.cell? ⟨b, off + k * 2 + 1, none⟩ = some (.int .i64 y1))
              (first | exact HSW.out _ (Below.refl _ _) | exact HSW.out _ (up_drew (Below.refl _ _)) | exact HSW.out _ HX7.out)
              ((first
                | (go_at_call 114; (with_reducible refine (HC.out _).mono ?_); rintro e w7 ⟨rfl, hb7⟩; have HX7 := Lib.hid (up (up_drew (Below.refl _ wr)) hb7))))
            all_goals
              have HB7 := Lib.hid (up HB.out HX7.out)
              have HO7 := Lib.hid (own_keep HO.out HX7.out)
              have HK7 := Lib.hid (HBK.out.below HX7.out hbl)
              have hsz7 := HX7.out.size
              have HO8 := Lib.hid (show w7.ownsRow (w.heap.size + 1) 96 2 _ (addUp2 ts (x, y) (k + 1)).length (pvs (addUp2 ts (x, y) (k + 1))) from by rw [addUp2_no HG.out HS.out]; exact HO7.out)
              clear HSW HC HX7 HO7 HO HB HBK
              go_wp2
              go_roundw
              case rel => exact ⟨k + 1, by omega, by go_num, HO8, HB7, HK7.out⟩
              case measure => simp [intOf]; omega
        · obtain rfl : n = k := by omega
          have HO9 := Lib.hid (show wr.ownsRow w.heap.size 96 2 _ (addT ts (x, y)).length (pvs (addT ts (x, y))) from by rw [← addUp2_end HL.out]; exact HO.out.mono (Nat.le_succ _))
          go_wp2
          go_ret
          exact ⟨_, rfl, HO9.out, HB.out⟩
end Go.Proofs.YtknphikoikdcjaaGreat

