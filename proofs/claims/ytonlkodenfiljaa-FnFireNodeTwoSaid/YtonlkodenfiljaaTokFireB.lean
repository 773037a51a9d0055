/- Merged: TokFireS, TokFireT. -/
import Derived.Test.YtonlkodenfiljaaTokTakenS
import Derived.Test.YtonlkodenfiljaaTokChooseS
import Derived.Test.YtonlkodenfiljaaTokFireA
import Derived.Test.YtonlkodenfiljaaTokList
import Derived.Deep.RegionLaw
/- spec.fire, spec.FireNode. -/
set_option linter.unusedSimpArgs false
set_option linter.unusedVariables false
namespace Go.Proofs.Ytonlkodenfiljaa
open Go.RowKit

set_option maxRecDepth 100000 in
set_option maxHeartbeats 3200000 in
theorem fire_any (lo hi nn cn : Nat) (An : Option Addr) (ns : List (Int × Int)) (lo1 hi1 lf cf : Nat) (Af : Option Addr) (fs : List Flw) (lo' hi' n' c' : Nat) (A' : Option Addr) (ms : List Int) (k : Nat) (x y : Int) (lo5 hi5 n5 c5 : Nat) (A5 : Option Addr) (vs : List Int) (w : World)
    (hrn : Rd w lo hi 2 An nn (pvs ns)) (hB : hi ≤ w.heap.size) (hnn : nn ≤ 1048576) (hr : Fls w lo1 hi1 Af lf fs) (hB1 : hi1 ≤ w.heap.size) (hn : lf ≤ 1048576) (hv : Rd w lo' hi' 1 A' n' (ivs ms)) (hB' : hi' ≤ w.heap.size) (hn' : n' ≤ 1048576) (hw : Rd w lo5 hi5 1 A5 n5 (ivs vs)) (hB5 : hi5 ≤ w.heap.size) (hn5 : n5 ≤ 1048576)
    (hlen : ms.length = fs.length) (h03 : ∀ z ∈ ms, 0 ≤ z ∧ z ≤ 3) (hk : k < nn) (hkx : ns[k]? = some (x, y)) (h14 : fs.length ≤ 14) (hpos : 0 < n') (hV : vProc ns fs = true) (hvs : vVals vs = true) (R : Option (List Int)) (hR : R = if canFire x fs ms vs (k : Int) then some (behindOf x fs ms vs (k : Int)) else none) :
    Calls Try.prog 59 #[.agg #[.slice An nn cn, .slice Af lf cf], .slice A' n' c', .int .i64 (k : Int), .slice A5 n5 c5] w (MarksPost R w) := by
  have HRR := Lib.hid hR
  clear hR
  have hb1 := up_alloc (Below.refl _ w) (.cells #[.slice An nn cn, .slice Af lf cf] 26)
  have hbk := Blk.new w 26 #[.slice An nn cn, .slice Af lf cf]
  have hs1 : (w.alloc (.cells #[.slice An nn cn, .slice Af lf cf] 26)).heap.size = w.heap.size + 1 := by simp
  have HL := Lib.hid hv.len1
  have HFL := Lib.hid hr.1
  have HV := Lib.hid hV
  have HVS := Lib.hid hvs
  have HNG := Lib.hid (show ∀ z ∈ ms, 0 ≤ z from fun z hz => (h03 z hz).1)
  have HRD := Lib.hid (readyS_any lo hi nn cn An ns lo1 hi1 lf cf Af fs lo' hi' n' c' A' ms k x y _ (hrn.keep hb1 hB) (by omega) hnn (hr.keep hb1 hB1) (by omega) hn (hv.keep hb1 hB') (by omega) hlen HNG.out hk hkx)
  clear hV hvs
  go_enter Try.func59, Try.ntmps59
  go_wp2_with (fail)
  (with_reducible refine HRD.out.mono ?_)
  clear HRD
  rintro e w1 ⟨rfl, hb2⟩
  have HB := Lib.hid (up hb1 hb2)
  have hs2 := hb2.size
  rw [hs1] at hs2
  have HK := Lib.hid (hbk.below hb2 (by omega))
  clear hb1 hb2 hbk
  cases hrb : readyB x ms (flOf fs false (k : Int)) with
  | false =>
    have HX := Lib.hid (show R = none by rw [HRR.out, canFire_ready hrb]; rfl)
    clear hrb
    go_wp2
    exact bodyPost_ret (v := .tuple #[.slice none 0 0, .bool false]) (by simp [results, Try.results59, go_sem]) rfl (.inl ⟨HX.out, rfl, HB.out⟩)
  | true =>
  have HRB := Lib.hid hrb
  clear hrb
  have k0 : w1.cell? ⟨w.heap.size, 0, none⟩ = some (.slice An nn cn) := HK.out.cell 0
  have k1 : w1.cell? ⟨w.heap.size, 1, none⟩ = some (.slice Af lf cf) := HK.out.cell 1
  have HT := Lib.hid (taken_any lo hi nn cn An ns lo1 hi1 lf cf Af fs lo' hi' n' c' A' ms k x y w1 (hrn.keep HB.out hB) (Nat.le_trans hB HB.out.size) hnn (hr.keep HB.out hB1) (Nat.le_trans hB1 HB.out.size) hn (hv.keep HB.out hB') (Nat.le_trans hB' HB.out.size) hn' hlen h03 hk hkx h14 hpos)
  go_wp2_with (fail)
  (with_reducible refine HT.out.mono ?_)
  clear HT
  rintro e w2 ⟨g, cg, rfl, hown, hb3⟩
  have HB2 := Lib.hid (up HB.out hb3)
  have HK2 := Lib.hid (HK.out.below hb3 (by omega))
  obtain ⟨g', cg', hge, hg1, hg2, hcg⟩ := own_first hown hpos
  obtain ⟨rfl, rfl⟩ : g = g' ∧ cg = cg' := by
    injection hge with h1 h2 h3
    injection h1 with h1
    injection h1 with h1 _
    exact ⟨h1, h3⟩
  have HO2 := Lib.hid (own_base hown (base' := w.heap.size + 1) (by omega))
  have hs3 := hb3.size
  rw [taken_takes HRB.out] at HO2
  have hbd0 := bump_in (d := -1) (by omega) (by omega) (takesOf x ms (flOf fs false (k : Int))) ms (Int.le_refl 0) (by omega) h03
  have htl : (takesOf x ms (flOf fs false (k : Int))).length ≤ 14 := Nat.le_trans (takes_le x ms _) (Nat.le_trans (flUp_le fs false (k : Int) fs.length) h14)
  have HC2 := Lib.hid (show ∀ z ∈ bump (-1) ms (takesOf x ms (flOf fs false (k : Int))), -14 ≤ z ∧ z ≤ 17 from fun z hz => by have := hbd0 z hz; omega)
  have HCL := Lib.hid (show (bump (-1) ms (takesOf x ms (flOf fs false (k : Int)))).length = n' from (bump_len _ _ _).trans HL.out)
  have HBH := Lib.hid (show ∀ os, putsOf x fs vs (k : Int) = os → bump 1 (bump (-1) ms (takesOf x ms (flOf fs false (k : Int)))) os = behindOf x fs ms vs (k : Int) from fun os h => by rw [← h]; rfl)
  have HBL := Lib.hid (show (behindOf x fs ms vs (k : Int)).length = n' from (behind_len x fs ms vs (k : Int)).trans HL.out)
  have HPM := Lib.hid (fun h => puts_mem (x := x) (fs := fs) (vs := vs) (node := (k : Int)) h)
  have HPL := Lib.hid (puts_le x fs vs (k : Int) h14)
  generalize bump (-1) ms (takesOf x ms (flOf fs false (k : Int))) = cs at *
  clear hb3 hown hge hbd0 htl k0 k1 HK
  have k0 : w2.cell? ⟨w.heap.size, 0, none⟩ = some (.slice An nn cn) := HK2.out.cell 0
  have k1 : w2.cell? ⟨w.heap.size, 1, none⟩ = some (.slice Af lf cf) := HK2.out.cell 1
  have HFO := Lib.hid (flowsOf_any lo1 hi1 lf cf Af (.slice An nn cn) fs (k : Int) true w2 (hr.keep HB2.out hB1) (Nat.le_trans hB1 HB2.out.size) hn)
  go_wp2_with (fail)
  (with_reducible refine HFO.out.mono ?_)
  clear HFO
  rintro e w3 ⟨Af2, co, rfl, _, hro, _, hb4⟩
  have HB3 := Lib.hid (up HB2.out hb4)
  have HK3 := Lib.hid (HK2.out.below hb4 (by omega))
  have HO3 := Lib.hid (own_keep HO2.out hb4)
  have hs4 := hb4.size
  have HRO := Lib.hid hro
  clear hb4 hro HK2 HO2 k0 k1
  have k0 : w3.cell? ⟨w.heap.size, 0, none⟩ = some (.slice An nn cn) := HK3.out.cell 0
  have k1 : w3.cell? ⟨w.heap.size, 1, none⟩ = some (.slice Af lf cf) := HK3.out.cell 1
  obtain ⟨bn, on, xx, yy, hAe, hbn, _, hgn, hn0, _⟩ := (hrn.keep HB3.out hB).pair hk
  have hxx : xx = x := by rw [hkx] at hgn; injection hgn with hgn; injection hgn with h1 _; exact h1.symm
  rw [hxx] at hn0
  clear hgn hxx
  have hk1 : (k : Int) < (nn : Int) := by omega
  have hk0 : (0 : Int) ≤ (k : Int) := by omega
  by_cases hx : x = 5
  · have hx' : (x == 5) = true := by simpa using hx
    have HCH := Lib.hid (choose_any An nn cn ns lo1 hi1 lf cf Af fs (k : Int) lo5 hi5 n5 c5 A5 vs w3 HV.out HVS.out (hr.keep HB3.out hB1) (Nat.le_trans hB1 HB3.out.size) hn (hw.keep HB3.out hB5) (Nat.le_trans hB5 HB3.out.size))
    have HPO := Lib.hid (show putsOf x fs vs (k : Int) = [chooseR fs vs (flOf fs true (k : Int)) (-1)] by simp [putsOf, hx])
    have HNE := Lib.hid (show (!(x == 5 && decide (chooseR fs vs (flOf fs true (k : Int)) (-1) < 0))) = !decide (chooseR fs vs (flOf fs true (k : Int)) (-1) < 0) by rw [hx']; rfl)
    subst hAe
    have HXH := Lib.hid hx
    have HXB := Lib.hid hx'
    clear hx
    go_wp2_with (fail)
    (with_reducible refine HCH.out.mono ?_)
    clear HCH
    rintro e w4 ⟨rfl, hb5⟩
    have HB4 := Lib.hid (up HB3.out hb5)
    have HK4 := Lib.hid (HK3.out.below hb5 (by omega))
    have HO4 := Lib.hid (own_keep HO3.out hb5)
    have hs5 := hb5.size
    clear hb5 HK3 HO3 k0 k1 hn0 hx' HRO
    by_cases hq0 : chooseR fs vs (flOf fs true (k : Int)) (-1) < 0
    · have HX := Lib.hid (show R = none by rw [HRR.out, canFire_puts (by rw [HNE.out, decide_eq_true hq0]; rfl)]; rfl)
      have hq0' : decide (chooseR fs vs (flOf fs true (k : Int)) (-1) < 0) = true := decide_eq_true hq0
      clear hq0
      go_wp2
      exact bodyPost_ret (v := .tuple #[.slice none 0 0, .bool false]) (by simp [results, Try.results59, go_sem]) rfl (.inl ⟨HX.out, rfl, HB4.out⟩)
    have hq0' : decide (chooseR fs vs (flOf fs true (k : Int)) (-1) < 0) = false := decide_eq_false hq0
    have hpb : (!(x == 5 && decide (chooseR fs vs (flOf fs true (k : Int)) (-1) < 0))) = true := by rw [HNE.out, hq0']; rfl
    have HCF := Lib.hid (show canFire x fs ms vs (k : Int) = vMarks fs (behindOf x fs ms vs (k : Int)) by
      rw [canFire_rest HRB.out hpb, vMarks, behind_len, hlen]; simp)
    have HMO := Lib.hid (show ∀ z ∈ [chooseR fs vs (flOf fs true (k : Int)) (-1)], ∃ q : Nat, z = (q : Int) ∧ q < n' from fun z hz => by
      rw [← HPO.out] at hz
      obtain ⟨q, h1, h2⟩ := HPM.out hpb z hz
      exact ⟨q, h1, by have := HL.out; omega⟩)
    have HEQ := Lib.hid (HBH.out _ HPO.out)
    generalize chooseR fs vs (flOf fs true (k : Int)) (-1) = qq at *
    clear hpb hq0
    obtain ⟨outs, hout⟩ : ∃ l, l = [qq] := ⟨_, rfl⟩
    rw [← hout] at HMO HEQ
    have hol : outs.length = 1 := by rw [hout]; rfl
    have hbz := up_alloc HB4.out (.cells #[.int .i64 qq] 3)
    have hoz := HO4.out.alloc (.cells #[.int .i64 qq] 3)
    have hkz := HK4.out.alloc (.cells #[.int .i64 qq] 3)
    obtain ⟨Ao, hAo⟩ : ∃ A : Option Addr, A = some ⟨w4.heap.size, 0, none⟩ := ⟨_, rfl⟩
    obtain ⟨lo6, hlo6⟩ : ∃ l, l = w4.heap.size := ⟨_, rfl⟩
    obtain ⟨hi6, hhi6⟩ : ∃ l, l = w4.heap.size + 1 := ⟨_, rfl⟩
    have hrz : Rd (w4.alloc (.cells #[.int .i64 qq] 3)) lo6 hi6 1 (some ⟨w4.heap.size, 0, none⟩) outs.length (ivs outs) := by
      refine ⟨by rw [hout]; rfl, fun _ => ⟨_, _, rfl, by omega, by omega, fun j u hj => ?_⟩⟩
      rw [(Blk.new w4 3 #[.int .i64 qq]).cell (0 + j)]
      rw [hout] at hj
      simpa [ivs] using hj
    have hi6z : hi6 ≤ (w4.alloc (.cells #[.int .i64 qq] 3)).heap.size := by simp; omega
    have hgl : g < lo6 := by omega
    have hol14 : outs.length ≤ 14 := by omega
    clear HK4 HO4 HB4
    have HBZ := Lib.hid hbz
    have HOZ := Lib.hid hoz
    have HRZ := Lib.hid hrz
    have HKZ := Lib.hid hkz
    have hkzl := hkz.lt
    have hszz := hbz.size
    clear hbz hoz hrz hkz
    go_wp2
    go_loopw [13] (fun iv wr => ∃ (j : Nat), j ≤ outs.length ∧ iv = .int .i64 j ∧ Hid (wr.ownsRow (w.heap.size + 1) 3 1 (.slice (some ⟨g, 0, none⟩) n' cg) n' (ivs (bump 1 cs (outs.take j))) ∧ Blk wr w.heap.size 26 #[.slice (some ⟨bn, on, none⟩) nn cn, .slice Af lf cf] ∧ Below w.heap.size w wr ∧ Rd wr lo6 hi6 1 (some ⟨w4.heap.size, 0, none⟩) outs.length (ivs outs)) ∧ hi6 ≤ wr.heap.size)
       (fun iv _ => outs.length - (intOf iv).toNat)
    case atStart => exact ⟨0, by omega, rfl, ⟨HOZ.out, HKZ.out, HBZ.out, HRZ.out⟩, by first | exact hi6z | (simp; omega)⟩
    case round =>
      clear HBZ HOZ HRZ HKZ
      obtain ⟨j, hj, rfl, HR, hsz⟩ := hrel
      have HBR := Lib.hid HR.out.2.2.1
      by_cases hlt : j < outs.length
      · obtain ⟨b, off, z, hAz, _, _, hg, hc0⟩ := HR.out.2.2.2.one hlt
        obtain ⟨rfl, rfl⟩ : w4.heap.size = b ∧ 0 = off := by
          injection hAz with h1
          injection h1 with h1 h2
          exact ⟨h1, h2⟩
        clear hAz
        rw [Nat.zero_add] at hc0
        obtain ⟨q, rfl, hq⟩ := HMO.out z (List.mem_of_getElem? hg)
        have HS := Lib.hid (bump_take (d := 1) (ms := cs) hg)
        rw [Int.toNat_natCast] at HS
        have hcl : (bump 1 cs (outs.take j)).length = n' := (bump_len _ _ _).trans HCL.out
        have hbd := bump_in (d := 1) (by omega) (by omega) (outs.take j) cs (by omega : (-14 : Int) ≤ 0) (by omega : (0 : Int) ≤ 17) HC2.out _ (mem_getD (k := q) (by omega))
        have htk : (outs.take j).length ≤ 14 := by rw [List.length_take]; omega
        have hd0 := HR.out.1.cellAt q (by omega)
        rw [ivs_at (by omega)] at hd0
        have hf0 := HR.out.1.frozenAt q
        have hv1 : -28 ≤ (bump 1 cs (outs.take j)).getD q 0 := by omega
        have hv2 : (bump 1 cs (outs.take j)).getD q 0 ≤ 31 := by omega
        have hj1 : (j : Int) < (outs.length : Int) := by omega
        have hj0 : (0 : Int) ≤ (j : Int) := by omega
        have hq1 : (q : Int) < (n' : Int) := by omega
        have hq0 : (0 : Int) ≤ (q : Int) := by omega
        have hst := (HR.out.1.stored q (.int .i64 ((bump 1 cs (outs.take j)).getD q 0 + 1))).1
        rw [ivs_set, ← HS.out] at hst
        have HST := Lib.hid hst
        clear hg hcl hbd htk hst HS
        generalize (bump 1 cs (outs.take j)).getD q 0 = v at *
        have HBD := Lib.hid (up_drew (HBR.out.setCell (p := ⟨g, q, none⟩) (by show w.heap.size ≤ g; omega) (.int .i64 (v + 1))))
        have HKD := Lib.hid (HR.out.2.1.far (p := ⟨g, q, none⟩) (by show w.heap.size ≠ g; omega) (.int .i64 (v + 1))).drew
        have HRID := Lib.hid ((HR.out.2.2.2.setCell (p := ⟨g, q, none⟩) (.inl (by show g < lo6; omega)) (.int .i64 (v + 1))).keep (up_drew (Below.refl _ _)) (by simp [World.setCell]; omega))
        have hszd : hi6 ≤ (wr.setCell ⟨g, q, none⟩ (.int .i64 (v + 1))).drew.heap.size := by simp [World.drew, World.setCell]; omega
        clear HR
        go_wp2_with (fail)
        go_region
        all_goals
          have HSTD := Lib.hid (show (wr.setCell ⟨g, q, none⟩ (.int .i64 (v + 1))).drew.ownsRow (w.heap.size + 1) 3 1 (.slice (some ⟨g, 0, none⟩) n' cg) n' (ivs (bump 1 cs (outs.take (j + 1)))) from HST.out)
          clear HST
          generalize (wr.setCell ⟨g, q, none⟩ (.int .i64 (v + 1))).drew = wd at *
          go_wp2
          go_roundw
          case rel => exact ⟨j + 1, by omega, by go_num, ⟨HSTD.out, HKD.out, HBD.out, HRID.out⟩, hszd⟩
          case measure => simp [intOf]; omega
      · obtain rfl : j = outs.length := by omega
        have HO := Lib.hid HR.out.1
        have hk9 := HR.out.2.1
        rw [List.take_length, HEQ.out] at HO
        have p0 : wr.cell? ⟨w.heap.size, 0, none⟩ = some (.slice (some ⟨bn, on, none⟩) nn cn) := hk9.cell 0
        have p1 : wr.cell? ⟨w.heap.size, 1, none⟩ = some (.slice Af lf cf) := hk9.cell 1
        have HMK := Lib.hid (validMarks_any (.slice (some ⟨bn, on, none⟩) nn cn) (some ⟨bn, on, none⟩) nn cn lo1 hi1 lf cf Af fs (w.heap.size + 1) wr.heap.size n' cg (some ⟨g, 0, none⟩) (behindOf x fs ms vs (k : Int)) wr HFL.out (Rd.of_own HO.out) (Nat.le_refl _) hn')
        clear HR hk9
        go_wp2_with (fail)
        (with_reducible refine HMK.out.mono ?_)
        clear HMK
        rintro e w8 ⟨rfl, hb8⟩
        have HB8 := Lib.hid (up HBR.out hb8)
        have HO8 := Lib.hid (own_keep HO.out hb8)
        clear hb8
        cases hvm : vMarks fs (behindOf x fs ms vs (k : Int)) with
        | false =>
          have HX := Lib.hid (show R = none by rw [HRR.out, HCF.out, hvm]; rfl)
          clear hvm
          go_wp2
          exact bodyPost_ret (v := .tuple #[.slice none 0 0, .bool false]) (by simp [results, Try.results59, go_sem]) rfl (.inl ⟨HX.out, rfl, HB8.out⟩)
        | true =>
          have HX := Lib.hid (show R = some (behindOf x fs ms vs (k : Int)) by rw [HRR.out, HCF.out, hvm]; rfl)
          clear hvm
          go_wp2
          refine bodyPost_ret (v := .tuple #[.slice (some ⟨g, 0, none⟩) n' cg, .bool true]) (by simp [results, Try.results59, go_sem]) rfl (.inr ⟨_, some ⟨g, 0, none⟩, cg, HX.out, ?_, ?_, ?_, ?_, HB8.out⟩)
          · rw [HBL.out]
          · rw [HBL.out]; exact hcg
          · rw [HBL.out]; exact (Rd.of_own HO8.out).wide (by omega) (Nat.le_refl _)
          · rw [HBL.out]; exact Soft.of_own HO8.out
  · have hx' : (x == 5) = false := by simpa using hx
    have hpb : (!(x == 5 && decide (chooseR fs vs (flOf fs true (k : Int)) (-1) < 0))) = true := by rw [hx']; rfl
    have HPO := Lib.hid (show putsOf x fs vs (k : Int) = flOf fs true (k : Int) by simp [putsOf, hx])
    have HCF := Lib.hid (show canFire x fs ms vs (k : Int) = vMarks fs (behindOf x fs ms vs (k : Int)) by
      rw [canFire_rest HRB.out hpb, vMarks, behind_len, hlen]; simp)
    have HMO := Lib.hid (show ∀ z ∈ flOf fs true (k : Int), ∃ q : Nat, z = (q : Int) ∧ q < n' from fun z hz => by
      rw [← HPO.out] at hz
      obtain ⟨q, h1, h2⟩ := HPM.out hpb z hz
      exact ⟨q, h1, by have := HL.out; omega⟩)
    have HEQ := Lib.hid (HBH.out _ HPO.out)
    rw [HPO.out] at HPL
    have hol14 := HPL.out
    generalize flOf fs true (k : Int) = outs at *
    subst hAe
    clear hpb hx HPL
    have hbz := HB3.out
    have hoz := HO3.out
    have hkz := HK3.out
    have hrz := HRO.out
    obtain ⟨lo6, hlo6⟩ : ∃ l, l = w2.heap.size := ⟨_, rfl⟩
    obtain ⟨hi6, hhi6⟩ : ∃ l, l = w3.heap.size := ⟨_, rfl⟩
    rw [← hlo6, ← hhi6] at hrz
    have hi6z : hi6 ≤ w3.heap.size := by omega
    have hgl : g < lo6 := by omega
    clear HK3 HO3 HB3 HRO
    have HBZ := Lib.hid hbz
    have HOZ := Lib.hid hoz
    have HRZ := Lib.hid hrz
    have HKZ := Lib.hid hkz
    have hkzl := hkz.lt
    have hszz := hbz.size
    clear hbz hoz hrz hkz
    go_wp2
    go_loopw [13] (fun iv wr => ∃ (j : Nat), j ≤ outs.length ∧ iv = .int .i64 j ∧ Hid (wr.ownsRow (w.heap.size + 1) 3 1 (.slice (some ⟨g, 0, none⟩) n' cg) n' (ivs (bump 1 cs (outs.take j))) ∧ Blk wr w.heap.size 26 #[.slice (some ⟨bn, on, none⟩) nn cn, .slice Af lf cf] ∧ Below w.heap.size w wr ∧ Rd wr lo6 hi6 1 Af2 outs.length (ivs outs)) ∧ hi6 ≤ wr.heap.size)
       (fun iv _ => outs.length - (intOf iv).toNat)
    case atStart => exact ⟨0, by omega, rfl, ⟨HOZ.out, HKZ.out, HBZ.out, HRZ.out⟩, by first | exact hi6z | (simp; omega)⟩
    case round =>
      clear HBZ HOZ HRZ HKZ
      obtain ⟨j, hj, rfl, HR, hsz⟩ := hrel
      have HBR := Lib.hid HR.out.2.2.1
      by_cases hlt : j < outs.length
      · obtain ⟨b, off, z, rfl, _, _, hg, hc0⟩ := HR.out.2.2.2.one hlt
        obtain ⟨q, rfl, hq⟩ := HMO.out z (List.mem_of_getElem? hg)
        have HS := Lib.hid (bump_take (d := 1) (ms := cs) hg)
        rw [Int.toNat_natCast] at HS
        have hcl : (bump 1 cs (outs.take j)).length = n' := (bump_len _ _ _).trans HCL.out
        have hbd := bump_in (d := 1) (by omega) (by omega) (outs.take j) cs (by omega : (-14 : Int) ≤ 0) (by omega : (0 : Int) ≤ 17) HC2.out _ (mem_getD (k := q) (by omega))
        have htk : (outs.take j).length ≤ 14 := by rw [List.length_take]; omega
        have hd0 := HR.out.1.cellAt q (by omega)
        rw [ivs_at (by omega)] at hd0
        have hf0 := HR.out.1.frozenAt q
        have hv1 : -28 ≤ (bump 1 cs (outs.take j)).getD q 0 := by omega
        have hv2 : (bump 1 cs (outs.take j)).getD q 0 ≤ 31 := by omega
        have hj1 : (j : Int) < (outs.length : Int) := by omega
        have hj0 : (0 : Int) ≤ (j : Int) := by omega
        have hq1 : (q : Int) < (n' : Int) := by omega
        have hq0 : (0 : Int) ≤ (q : Int) := by omega
        have hst := (HR.out.1.stored q (.int .i64 ((bump 1 cs (outs.take j)).getD q 0 + 1))).1
        rw [ivs_set, ← HS.out] at hst
        have HST := Lib.hid hst
        clear hg hcl hbd htk hst HS
        generalize (bump 1 cs (outs.take j)).getD q 0 = v at *
        have HBD := Lib.hid (up_drew (HBR.out.setCell (p := ⟨g, q, none⟩) (by show w.heap.size ≤ g; omega) (.int .i64 (v + 1))))
        have HKD := Lib.hid (HR.out.2.1.far (p := ⟨g, q, none⟩) (by show w.heap.size ≠ g; omega) (.int .i64 (v + 1))).drew
        have HRID := Lib.hid ((HR.out.2.2.2.setCell (p := ⟨g, q, none⟩) (.inl (by show g < lo6; omega)) (.int .i64 (v + 1))).keep (up_drew (Below.refl _ _)) (by simp [World.setCell]; omega))
        have hszd : hi6 ≤ (wr.setCell ⟨g, q, none⟩ (.int .i64 (v + 1))).drew.heap.size := by simp [World.drew, World.setCell]; omega
        clear HR
        go_wp2_with (fail)
        go_region
        all_goals
          have HSTD := Lib.hid (show (wr.setCell ⟨g, q, none⟩ (.int .i64 (v + 1))).drew.ownsRow (w.heap.size + 1) 3 1 (.slice (some ⟨g, 0, none⟩) n' cg) n' (ivs (bump 1 cs (outs.take (j + 1)))) from HST.out)
          clear HST
          generalize (wr.setCell ⟨g, q, none⟩ (.int .i64 (v + 1))).drew = wd at *
          go_wp2
          go_roundw
          case rel => exact ⟨j + 1, by omega, by go_num, ⟨HSTD.out, HKD.out, HBD.out, HRID.out⟩, hszd⟩
          case measure => simp [intOf]; omega
      · obtain rfl : j = outs.length := by omega
        have HO := Lib.hid HR.out.1
        have hk9 := HR.out.2.1
        rw [List.take_length, HEQ.out] at HO
        have p0 : wr.cell? ⟨w.heap.size, 0, none⟩ = some (.slice (some ⟨bn, on, none⟩) nn cn) := hk9.cell 0
        have p1 : wr.cell? ⟨w.heap.size, 1, none⟩ = some (.slice Af lf cf) := hk9.cell 1
        have HMK := Lib.hid (validMarks_any (.slice (some ⟨bn, on, none⟩) nn cn) (some ⟨bn, on, none⟩) nn cn lo1 hi1 lf cf Af fs (w.heap.size + 1) wr.heap.size n' cg (some ⟨g, 0, none⟩) (behindOf x fs ms vs (k : Int)) wr HFL.out (Rd.of_own HO.out) (Nat.le_refl _) hn')
        clear HR hk9
        go_wp2_with (fail)
        (with_reducible refine HMK.out.mono ?_)
        clear HMK
        rintro e w8 ⟨rfl, hb8⟩
        have HB8 := Lib.hid (up HBR.out hb8)
        have HO8 := Lib.hid (own_keep HO.out hb8)
        clear hb8
        cases hvm : vMarks fs (behindOf x fs ms vs (k : Int)) with
        | false =>
          have HX := Lib.hid (show R = none by rw [HRR.out, HCF.out, hvm]; rfl)
          clear hvm
          go_wp2
          exact bodyPost_ret (v := .tuple #[.slice none 0 0, .bool false]) (by simp [results, Try.results59, go_sem]) rfl (.inl ⟨HX.out, rfl, HB8.out⟩)
        | true =>
          have HX := Lib.hid (show R = some (behindOf x fs ms vs (k : Int)) by rw [HRR.out, HCF.out, hvm]; rfl)
          clear hvm
          go_wp2
          refine bodyPost_ret (v := .tuple #[.slice (some ⟨g, 0, none⟩) n' cg, .bool true]) (by simp [results, Try.results59, go_sem]) rfl (.inr ⟨_, some ⟨g, 0, none⟩, cg, HX.out, ?_, ?_, ?_, ?_, HB8.out⟩)
          · rw [HBL.out]
          · rw [HBL.out]; exact hcg
          · rw [HBL.out]; exact (Rd.of_own HO8.out).wide (by omega) (Nat.le_refl _)
          · rw [HBL.out]; exact Soft.of_own HO8.out
end Go.Proofs.Ytonlkodenfiljaa


/- spec.FireNode. -/
namespace Go.Proofs.Ytonlkodenfiljaa
open Go.RowKit

/-- A valid process has a flow. -/
theorem vProc_pos {ns : List (Int × Int)} {fs : List Flw} (h : vProc ns fs = true) : 0 < fs.length := by
  obtain ⟨q, _, h, _⟩ := start_flow h
  omega

set_option maxRecDepth 100000 in
set_option maxHeartbeats 1600000 in
theorem FireNodeS_any (lo hi nn cn : Nat) (An : Option Addr) (ns : List (Int × Int)) (lo1 hi1 lf cf : Nat) (Af : Option Addr) (fs : List Flw) (lo' hi' n' c' : Nat) (A' : Option Addr) (ms : List Int) (node : Int) (lo5 hi5 n5 c5 : Nat) (A5 : Option Addr) (vs : List Int) (w : World) (hrn : Rd w lo hi 2 An nn (pvs ns)) (hB : hi ≤ w.heap.size) (hnn : nn ≤ 1048576)
    (hr : Fls w lo1 hi1 Af lf fs) (hB1 : hi1 ≤ w.heap.size) (hn : lf ≤ 1048576) (hv : Rd w lo' hi' 1 A' n' (ivs ms)) (hB' : hi' ≤ w.heap.size) (hn' : n' ≤ 1048576) (hw : Rd w lo5 hi5 1 A5 n5 (ivs vs)) (hB5 : hi5 ≤ w.heap.size) (hn5 : n5 ≤ 1048576) :
    Calls Try.prog 25 #[.agg #[.slice An nn cn, .slice Af lf cf], .slice A' n' c', .int .i64 node, .slice A5 n5 c5] w (MarksPost (fireOf ns fs ms node vs) w) := by
  have hb1 := up_alloc (Below.refl _ w) (.cells #[.slice An nn cn, .slice Af lf cf] 26)
  have hp := Blk.new w 26 #[.slice An nn cn, .slice Af lf cf]
  have hs1 : (w.alloc (.cells #[.slice An nn cn, .slice Af lf cf] 26)).heap.size = w.heap.size + 1 := by simp
  have HL := Lib.hid hrn.len2
  have HF := Lib.hid hr.1
  have HMS := Lib.hid hv.len1
  have HC := Lib.hid (validProcessS_any lo hi nn cn An ns lo1 hi1 lf cf Af fs _ (hrn.keep hb1 hB) (by omega) hnn (hr.keep hb1 hB1) (by omega) hn)
  go_enter Try.func25, Try.ntmps25
  go_wp2_with (fail)
  (with_reducible refine HC.out.mono ?_)
  clear HC
  rintro e w1 ⟨rfl, hb2⟩
  have HP := Lib.hid (hp.below hb2 (by omega))
  have HB := Lib.hid (up hb1 hb2)
  have k0 : w1.cell? ⟨w.heap.size, 0, none⟩ = some (.slice An nn cn) := HP.out.cell 0
  have k1 : w1.cell? ⟨w.heap.size, 1, none⟩ = some (.slice Af lf cf) := HP.out.cell 1
  clear hb1 hb2 hp
  cases hV : vProc ns fs with
  | false =>
    have HX := Lib.hid (fireOf_no (ms := ms) (node := node) (vs := vs) (.inl (by rw [hV]; rfl) : (vProc ns fs && vMarks fs ms) = false ∨ _ ∨ _))
    clear hV
    go_wp2
    exact bodyPost_ret (v := .tuple #[.slice none 0 0, .bool false]) (by simp [results, Try.results25, go_sem]) rfl (.inl ⟨HX.out, rfl, HB.out⟩)
  | true =>
  have HV := Lib.hid hV
  clear hV
  have HM := Lib.hid (validMarks_any (.slice An nn cn) An nn cn lo1 hi1 lf cf Af fs lo' hi' n' c' A' ms w1 HF.out (hv.keep HB.out hB') (Nat.le_trans hB' HB.out.size) hn')
  go_wp2_with (fail)
  (with_reducible refine HM.out.mono ?_)
  clear HM
  rintro e w2 ⟨rfl, hb3⟩
  have HB2 := Lib.hid (up HB.out hb3)
  have HP2 := Lib.hid (HP.out.below hb3 HP.out.lt)
  have l0 : w2.cell? ⟨w.heap.size, 0, none⟩ = some (.slice An nn cn) := HP2.out.cell 0
  have l1 : w2.cell? ⟨w.heap.size, 1, none⟩ = some (.slice Af lf cf) := HP2.out.cell 1
  clear hb3 k0 k1 HP HB
  cases hM : vMarks fs ms with
  | false =>
    have HX := Lib.hid (fireOf_no (ns := ns) (fs := fs) (ms := ms) (node := node) (vs := vs) (.inl (by rw [hM, Bool.and_false])))
    clear hM
    go_wp2
    exact bodyPost_ret (v := .tuple #[.slice none 0 0, .bool false]) (by simp [results, Try.results25, go_sem]) rfl (.inl ⟨HX.out, rfl, HB2.out⟩)
  | true =>
  have HVM := Lib.hid hM
  have hlen : ms.length = fs.length := by
    simp only [vMarks, Bool.and_eq_true] at hM
    simpa using hM.1
  have H03 := Lib.hid (show ∀ z ∈ ms, 0 ≤ z ∧ z ≤ 3 from fun z hz => by
    simp only [vMarks, Bool.and_eq_true] at hM
    exact inR_iff.1 (List.all_eq_true.1 hM.2 z hz))
  have HLEN := Lib.hid hlen
  have HPOS := Lib.hid (show 0 < n' by have := vProc_pos HV.out; have := HMS.out; omega)
  have hwr : IntKind.i64.wrap ((nn : Int) - 1) = (nn : Int) - 1 := IntWalk.i64_in _ (by omega)
  clear hM hlen
  cases hin : inR node 0 ((nn : Int) - 1) with
  | false =>
    have HX := Lib.hid (fireOf_no (ns := ns) (fs := fs) (ms := ms) (node := node) (vs := vs) (.inr (.inl (by rw [HL.out]; exact hin))))
    go_wp2_with (fail)
    (with_reducible refine (inRange_any node 0 ((nn : Int) - 1) _).mono ?_)
    rintro e w3 ⟨rfl, rfl⟩
    rw [hin]
    clear hin
    go_wp2
    exact bodyPost_ret (v := .tuple #[.slice none 0 0, .bool false]) (by simp [results, Try.results25, go_sem]) rfl (.inl ⟨HX.out, rfl, HB2.out⟩)
  | true =>
  obtain ⟨i0, i1⟩ := inR_iff.1 hin
  obtain ⟨k, rfl⟩ := Int.eq_ofNat_of_zero_le i0
  have hk : k < nn := by omega
  obtain ⟨b, off, x, y, hAe, _, _, hg, _, _⟩ := (hrn.keep HB2.out hB).pair hk
  clear hAe
  have HIN := Lib.hid (show inR (k : Int) 0 ((ns.length : Int) - 1) = true by rw [HL.out]; exact hin)
  have HG := Lib.hid hg
  clear hg i0 i1
  go_wp2_with (fail)
  (with_reducible refine (inRange_any (k : Int) 0 ((nn : Int) - 1) _).mono ?_)
  rintro e w3 ⟨rfl, rfl⟩
  rw [hin]
  clear hin
  have HVV := Lib.hid (validValuesS_any lo5 hi5 n5 c5 A5 vs _ (hw.keep HB2.out hB5) (by omega))
  go_wp2_with (fail)
  (with_reducible refine HVV.out.mono ?_)
  clear HVV
  rintro e w3 ⟨rfl, rfl⟩
  cases hvv : vVals vs with
  | false =>
    have HX := Lib.hid (fireOf_no (ns := ns) (fs := fs) (ms := ms) (node := (k : Int)) (.inr (.inr hvv)))
    clear hvv
    go_wp2
    exact bodyPost_ret (v := .tuple #[.slice none 0 0, .bool false]) (by simp [results, Try.results25, go_sem]) rfl (.inl ⟨HX.out, rfl, HB2.out⟩)
  | true =>
  have HF2 := Lib.hid (fire_any lo hi nn cn An ns lo1 hi1 lf cf Af fs lo' hi' n' c' A' ms k x y lo5 hi5 n5 c5 A5 vs _ (hrn.keep HB2.out hB) (Nat.le_trans hB HB2.out.size) hnn (hr.keep HB2.out hB1) (Nat.le_trans hB1 HB2.out.size) hn (hv.keep HB2.out hB') (Nat.le_trans hB' HB2.out.size) hn' (hw.keep HB2.out hB5) (Nat.le_trans hB5 HB2.out.size) hn5 HLEN.out H03.out hk HG.out (vProc_len HV.out).2.2 HPOS.out HV.out hvv _ (fireOf_yes HV.out HVM.out HG.out HIN.out hvv))
  clear hvv
  generalize hR : fireOf ns fs ms (k : Int) vs = R at HF2
  have HRQ := Lib.hid hR
  clear hR
  go_wp2_with (fail)
  (with_reducible refine HF2.out.mono ?_)
  clear HF2
  rintro e w4 (⟨hR, rfl, hb5⟩ | ⟨l, A, c, hR, rfl, hc, hrr, hss, hb5⟩)
  · have HX := Lib.hid (HRQ.out.trans hR)
    have HB5 := Lib.hid (up HB2.out hb5)
    clear hb5 hR
    go_wp2
    exact bodyPost_ret (v := .tuple #[.slice none 0 0, .bool false]) (by simp [results, Try.results25, go_sem]) rfl (.inl ⟨HX.out, rfl, HB5.out⟩)
  · have HX := Lib.hid (HRQ.out.trans hR)
    have HB5 := Lib.hid (up HB2.out hb5)
    have HRR := Lib.hid (hrr.wide (lo' := w.heap.size) HB2.out.size (Nat.le_refl _))
    have HSS := Lib.hid hss
    clear hb5 hR hrr hss
    go_wp2
    exact bodyPost_ret (v := .tuple #[.slice A l.length c, .bool true]) (by simp [results, Try.results25, go_sem]) rfl (.inr ⟨l, A, c, HX.out, rfl, hc, HRR.out, HSS.out, HB5.out⟩)

/-- A list of its own and whether there is one. -/
def FreshB (l : List Int) (b : Bool) (w : World) (e : Ending) (w' : World) : Prop :=
  ∃ A c, e = .returned (.tuple #[.slice A l.length c, .bool b]) ∧ l.length ≤ c ∧ Rd w' w.heap.size w'.heap.size 1 A l.length (ivs l) ∧ Soft w' 1 A l.length ∧ Below w.heap.size w w'
theorem MarksPost.fresh {r : Option (List Int)} {w : World} {e : Ending} {w' : World} (h : MarksPost r w e w') : FreshB (r.getD []) r.isSome w e w' := by
  rcases h with ⟨rfl, rfl, hb⟩ | ⟨l, A, c, rfl, rfl, hc, hr, hs, hb⟩
  · exact ⟨none, 0, rfl, Nat.le_refl _, Rd.nil _ _ _ _ _, (fun b off e j hj => by simp at hj), hb⟩
  · exact ⟨A, c, rfl, hc, hr, hs, hb⟩
theorem fireOf_len (ns : List (Int × Int)) (fs : List Flw) (ms : List Int) (node : Int) (vs : List Int) : ((fireOf ns fs ms node vs).getD []).length ≤ ms.length := by
  unfold fireOf
  split
  · show (behindOf _ fs ms vs node).length ≤ _
    rw [behind_len]; exact Nat.le_refl _
  · simp

theorem FireNodeS_ex (lo hi nn cn : Nat) (An : Option Addr) (ns : List (Int × Int)) (lo1 hi1 lf cf : Nat) (Af : Option Addr) (fs : List Flw) (lo' hi' n' c' : Nat) (A' : Option Addr) (ms : List Int) (node : Int) (lo5 hi5 n5 c5 : Nat) (A5 : Option Addr) (vs : List Int) (w : World) (hrn : Rd w lo hi 2 An nn (pvs ns)) (hB : hi ≤ w.heap.size) (hnn : nn ≤ 1048576)
    (hr : Fls w lo1 hi1 Af lf fs) (hB1 : hi1 ≤ w.heap.size) (hn : lf ≤ 1048576) (hv : Rd w lo' hi' 1 A' n' (ivs ms)) (hB' : hi' ≤ w.heap.size) (hn' : n' ≤ 1048576) (hw : Rd w lo5 hi5 1 A5 n5 (ivs vs)) (hB5 : hi5 ≤ w.heap.size) (hn5 : n5 ≤ 1048576) :
    Calls Try.prog 25 #[.agg #[.slice An nn cn, .slice Af lf cf], .slice A' n' c', .int .i64 node, .slice A5 n5 c5] w (FreshB ((fireOf ns fs ms node vs).getD []) (fireOf ns fs ms node vs).isSome w) :=
  (FireNodeS_any lo hi nn cn An ns lo1 hi1 lf cf Af fs lo' hi' n' c' A' ms node lo5 hi5 n5 c5 A5 vs w hrn hB hnn hr hB1 hn hv hB' hn' hw hB5 hn5).mono fun _ _ h => h.fresh
theorem FireNodeI_ex (lo hi nn cn : Nat) (An : Option Addr) (ns : List (Int × Int)) (lo1 hi1 lf cf : Nat) (Af : Option Addr) (fs : List Flw) (lo' hi' n' c' : Nat) (A' : Option Addr) (ms : List Int) (node : Int) (lo5 hi5 n5 c5 : Nat) (A5 : Option Addr) (vs : List Int) (w : World) (hrn : Rd w lo hi 2 An nn (pvs ns)) (hB : hi ≤ w.heap.size) (hnn : nn ≤ 1048576)
    (hr : Fls w lo1 hi1 Af lf fs) (hB1 : hi1 ≤ w.heap.size) (hn : lf ≤ 1048576) (hv : Rd w lo' hi' 1 A' n' (ivs ms)) (hB' : hi' ≤ w.heap.size) (hn' : n' ≤ 1048576) (hw : Rd w lo5 hi5 1 A5 n5 (ivs vs)) (hB5 : hi5 ≤ w.heap.size) (hn5 : n5 ≤ 1048576) :
    Calls Try.prog 24 #[.agg #[.slice An nn cn, .slice Af lf cf], .slice A' n' c', .int .i64 node, .slice A5 n5 c5] w (FreshB ((fireOf ns fs ms node vs).getD []) (fireOf ns fs ms node vs).isSome w) :=
  (FireNodeI_any lo hi nn cn An ns lo1 hi1 lf cf Af fs lo' hi' n' c' A' ms node lo5 hi5 n5 c5 A5 vs w hrn hB hnn hr hB1 hn hv hB' hn' hw hB5 hn5).mono fun _ _ h => h.fresh
end Go.Proofs.Ytonlkodenfiljaa

