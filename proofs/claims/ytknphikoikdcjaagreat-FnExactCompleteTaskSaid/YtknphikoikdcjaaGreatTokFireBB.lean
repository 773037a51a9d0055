/- Merged: TokTakenS, TokFireB. -/
import Derived.Test.YtknphikoikdcjaaGreatTokFireAA
import Derived.Test.YtknphikoikdcjaaGreatTokReadyS
import Derived.Test.YtknphikoikdcjaaGreatBase
import Derived.Test.YtknphikoikdcjaaGreatTokChooseS
import Derived.Test.YtknphikoikdcjaaGreatTokFireA
import Derived.Test.YtknphikoikdcjaaGreatTokList
import Derived.Deep.RegionLaw
/- spec.taken: tokens without those that a node takes. -/
set_option linter.unusedSimpArgs false
set_option linter.unusedVariables false
namespace Go.Proofs.YtknphikoikdcjaaGreat
open Go.RowKit

theorem having_split (ms ids : List Int) (j : Nat) : havingOf ms ids = havingOf ms (ids.take j) ++ havingOf ms (ids.drop j) := by
  unfold havingOf
  rw [← List.filter_append, List.take_append_drop]
theorem taken_first {x : Int} {ms ids : List Int} {j : Nat} {q : Int} (hx : ¬ x = 8) (h : havingOf ms (ids.take j) = [q]) : takenOf x ms ids = [q] := by
  rw [takenOf, if_neg hx, having_split ms ids j, h]; rfl
theorem taken_none {x : Int} {ms ids : List Int} (hx : ¬ x = 8) (h : havingOf ms ids = []) : takenOf x ms ids = [] := by
  rw [takenOf, if_neg hx, h]; rfl
theorem taken_join {ms ids : List Int} : takenOf 8 ms ids = havingOf ms ids := by rw [takenOf, if_pos rfl]

set_option maxHeartbeats 400000 in
theorem copyIntsR_any (lo hi n c b off : Nat) (ys : List Int) (w : World) (hr : Rd w lo hi 1 (some ⟨b, off, none⟩) n (ivs ys)) (hB : hi ≤ w.heap.size) (hn : n ≤ 1048576) :
    Calls Tryz.prog 64 #[.slice (some ⟨b, off, none⟩) n c] w fun e w' => ∃ v, e = .returned v ∧ w'.ownsRow w.heap.size 3 1 v n (ivs ys) ∧ Below w.heap.size w w' := by
  obtain ⟨i0, hi0, hz0, hz1, hz2⟩ := info_parts infoIntR
  have hown1 : (w.alloc (.cells #[] 3)).ownsRow w.heap.size 3 1 (.slice (some ⟨w.heap.size, 0, none⟩) 0 0) 0 [] := World.ownsRow_made w #[] 0 (Nat.le_refl _) (by unfold maxLen; omega) (by simp)
  have hbl := up_alloc (Below.refl _ w) (.cells #[] 3)
  have hr1 := hr.keep hbl hB
  go_enter Tryz.func64, Tryz.ntmps64
  go_wp2_with (at_builtin; refine wpList_append_own _ rfl _ _ 26 rfl w.heap.size 3 i0 (.int .i64 0) 1 8 Tryz.underlying26 hi0 hz0 hz1 hz2 rfl (by decide) _ _ _ rfl hown1 ⟨b, off, none⟩ n c (ivs ys) rfl hr1.1 hr1.src (ivs_one ys) ?c3 ?c4 ?c5 ?_)
  case c3 => unfold maxLen; omega
  case c4 => omega
  case c5 => simp
  intro v2 w2 hown2 hg2 _
  have hb2 := up_grown hbl hown1 hg2 (Nat.le_refl _)
  try simp only [Nat.zero_add, List.nil_append] at hown2
  have HO := Lib.hid hown2
  clear hown1 hown2 hg2 hr1 hbl
  go_wp2
  go_ret
  exact ⟨v2, rfl, HO.out, hb2⟩
theorem ivs_set (ms : List Int) (k : Nat) (v : Int) : (ivs ms).set k (.int .i64 v) = ivs (ms.set k v) := by simp [ivs, List.map_set]
theorem ivs_at {ms : List Int} {k : Nat} (h : k < ms.length) : (ivs ms)[k]? = some (.int .i64 (ms.getD k 0)) := by
  rw [ivs, List.getElem?_map, List.getD_eq_getElem?_getD, List.getElem?_eq_getElem h]; rfl
theorem having_not {ms ids : List Int} {j q : Nat} (hs : ids.Pairwise (· < ·)) (hm : ∀ z ∈ ids, 0 ≤ z) (hk : ids[j]? = some (q : Int)) : ∀ z ∈ havingOf ms (ids.take j), z.toNat ≠ q := by
  intro z hz e
  have h1 := (having_sub ms _).subset hz
  have hl := (List.getElem?_eq_some_iff.1 hk)
  obtain ⟨i, hi, hzi⟩ := List.mem_iff_getElem.1 h1
  rw [List.length_take] at hi
  rw [List.getElem_take] at hzi
  have h2 := List.pairwise_iff_getElem.1 hs i j (by omega) hl.1 (by omega)
  rw [hzi, hl.2] at h2
  have := hm z ((List.take_sublist _ _).subset h1)
  omega
set_option maxRecDepth 100000 in
set_option maxHeartbeats 1600000 in
theorem taken_any (lo hi nn cn : Nat) (An : Option Addr) (ns : List (Int × Int)) (lo1 hi1 lf cf : Nat) (Af : Option Addr) (fs : List Flw) (lo' hi' n' c' : Nat) (A' : Option Addr) (ms : List Int) (k : Nat) (x y : Int) (w : World)
    (hrn : Rd w lo hi 2 An nn (pvs ns)) (hB : hi ≤ w.heap.size) (hnn : nn ≤ 1048576) (hr : Fls w lo1 hi1 Af lf fs) (hB1 : hi1 ≤ w.heap.size) (hn : lf ≤ 1048576) (hv : Rd w lo' hi' 1 A' n' (ivs ms)) (hB' : hi' ≤ w.heap.size) (hn' : n' ≤ 1048576) (hlen : ms.length = fs.length) (h03 : ∀ z ∈ ms, 0 ≤ z ∧ z ≤ 3) (hk : k < nn) (hkx : ns[k]? = some (x, y)) (h14 : fs.length ≤ 14) (hpos : 0 < n') :
    Calls Tryz.prog 172 #[.agg #[.slice An nn cn, .slice Af lf cf], .slice A' n' c', .int .i64 (k : Int)] w fun e w' => ∃ g c, e = .returned (.slice (some ⟨g, 0, none⟩) n' c) ∧ w'.ownsRow w.heap.size 3 1 (.slice (some ⟨g, 0, none⟩) n' c) n' (ivs (bump (-1) ms (takenOf x ms (flOf fs false (k : Int))))) ∧ Below w.heap.size w w' := by
  have hb1 := up_alloc (Below.refl _ w) (.cells #[.slice An nn cn, .slice Af lf cf] 40)
  have hbk := Blk.new w 40 #[.slice An nn cn, .slice Af lf cf]
  have hs1 : (w.alloc (.cells #[.slice An nn cn, .slice Af lf cf] 40)).heap.size = w.heap.size + 1 := by simp
  have HL := Lib.hid hv.len1
  have HMEM := Lib.hid (show ∀ (j : Nat) (z : Int), (flOf fs false (k : Int))[j]? = some z → ∃ (q : Nat), z = (q : Int) ∧ q < n' from fun j z h => by
    obtain ⟨q, f, rfl, hf, _⟩ := flOf_mem.1 (List.mem_of_getElem? h)
    exact ⟨q, rfl, by have := (List.getElem?_eq_some_iff.1 hf).1; have := HL.out; omega⟩)
  have HSORT := Lib.hid (flOf_sorted fs false (k : Int))
  have HNN := Lib.hid (show ∀ z ∈ flOf fs false (k : Int), 0 ≤ z from fun z h => by
    obtain ⟨q, f, rfl, hf, _⟩ := flOf_mem.1 h
    omega)
  have hml : (flOf fs false (k : Int)).length ≤ 14 := Nat.le_trans (flUp_le fs false (k : Int) fs.length) h14
  obtain ⟨bm, om, rfl, _, _⟩ := hv.form hpos
  have HCP := Lib.hid (copyIntsR_any lo' hi' n' c' bm om ms _ (hv.keep hb1 hB') (by omega) hn')
  go_enter Tryz.func172, Tryz.ntmps172
  go_wp2_with (fail)
  (with_reducible refine HCP.out.mono ?_)
  clear HCP
  rintro e w1 ⟨v, rfl, hown, hb2⟩
  have HB := Lib.hid (up hb1 hb2)
  have hs2 := hb2.size
  rw [hs1] at hs2
  have HK := Lib.hid (hbk.below hb2 (by omega))
  obtain ⟨g, cg, rfl, hg1, hg2, _⟩ := own_first hown hpos
  rw [hs1] at hg1 hown
  have k0 : w1.cell? ⟨w.heap.size, 0, none⟩ = some (.slice An nn cn) := HK.out.cell 0
  have k1 : w1.cell? ⟨w.heap.size, 1, none⟩ = some (.slice Af lf cf) := HK.out.cell 1
  have HFO := Lib.hid (flowsOf_any lo1 hi1 lf cf Af (.slice An nn cn) fs (k : Int) false w1 (hr.keep HB.out hB1) (Nat.le_trans hB1 HB.out.size) hn)
  have HOWN := Lib.hid hown
  generalize hids : flOf fs false (k : Int) = ids at *
  have HIDS := Lib.hid hids
  clear hb1 hb2 hbk hown hids
  go_wp2_with (fail)
  (with_reducible refine HFO.out.mono ?_)
  clear HFO
  rintro e w2 ⟨Ai, ci, rfl, _, hri, _, hb3⟩
  have HB2 := Lib.hid (up HB.out hb3)
  have HK2 := Lib.hid (HK.out.below hb3 (by omega))
  have HOWN2 := Lib.hid (own_keep HOWN.out hb3)
  have hs3 := hb3.size
  have HRI := Lib.hid hri
  clear hb3 hri HK HOWN k0 k1
  go_wp2
  go_loopw [9] (fun iv wr => ∃ (j : Nat), j ≤ ids.length ∧ iv = .int .i64 j ∧ Hid (wr.ownsRow (w.heap.size + 1) 3 1 (.slice (some ⟨g, 0, none⟩) n' cg) n' (ivs (bump (-1) ms (havingOf ms (ids.take j)))) ∧ (¬ x = 8 → havingOf ms (ids.take j) = []) ∧ Blk wr w.heap.size 40 #[.slice An nn cn, .slice Af lf cf] ∧ Below w.heap.size w wr ∧ Rd wr w1.heap.size w2.heap.size 1 Ai ids.length (ivs ids)) ∧ w2.heap.size ≤ wr.heap.size)
     (fun iv _ => ids.length - (intOf iv).toNat)
  case atStart => exact ⟨0, by omega, rfl, ⟨HOWN2.out, fun _ => rfl, HK2.out, HB2.out, HRI.out⟩, Nat.le_refl _⟩
  case round =>
    clear HOWN2 HK2 HB2 HRI
    obtain ⟨j, hj, rfl, HR, hsz⟩ := hrel
    have HBR := Lib.hid HR.out.2.2.2.1
    by_cases hlt : j < ids.length
    · obtain ⟨b, off, z, rfl, _, _, hg, hc0⟩ := HR.out.2.2.2.2.one hlt
      obtain ⟨q, rfl, hq⟩ := HMEM.out j z hg
      have hcl : (bump (-1) ms (havingOf ms (ids.take j))).length = n' := (bump_len _ _ _).trans HL.out
      have HVQ := Lib.hid (show (bump (-1) ms (havingOf ms (ids.take j))).getD q 0 = ms.getD q 0 from bump_other _ _ _ (having_not HSORT.out HNN.out hg))
      have hd0 := HR.out.1.cellAt q (by omega)
      rw [ivs_at (by omega), HVQ.out] at hd0
      have hf0 := HR.out.1.frozenAt q
      have hmq := h03 _ (mem_getD (k := q) (by rw [HL.out]; exact hq))
      have hj1 : (j : Int) < (ids.length : Int) := by omega
      have hj0 : (0 : Int) ≤ (j : Int) := by omega
      have hq1 : (q : Int) < (n' : Int) := by omega
      have hq0 : (0 : Int) ≤ (q : Int) := by omega
      have HG := Lib.hid hg
      have HMQ := Lib.hid (show ms.getD ((q : Int)).toNat 0 = ms.getD q 0 by rw [Int.toNat_natCast])
      clear hg hcl
      generalize ms.getD q 0 = v at *
      obtain ⟨hv0, hv3⟩ := hmq
      by_cases hvp : 0 < v
      · have hvp' : decide (0 < v) = true := decide_eq_true hvp
        have HH := Lib.hid (having_yes HG.out (by rw [HMQ.out]; exact hvp))
        have hst := (HR.out.1.stored q (.int .i64 (v - 1))).1
        rw [ivs_set] at hst
        have HST := Lib.hid (show (wr.setCell ⟨g, q, none⟩ (.int .i64 (v - 1))).ownsRow (w.heap.size + 1) 3 1 (.slice (some ⟨g, 0, none⟩) n' cg) n' (ivs (bump (-1) ms (havingOf ms (ids.take (j + 1))))) by
          rw [HH.out, bump_snoc, Int.toNat_natCast, HVQ.out]; exact hst)
        obtain ⟨bn, on, xx, yy, hAe, hbn, _, hgn, hn0, _⟩ := (hrn.keep HBR.out hB).pair hk
        have hxx : xx = x := by rw [hkx] at hgn; injection hgn with hgn; injection hgn with h1 _; exact h1.symm
        rw [hxx] at hn0
        subst hAe
        have p0 : (wr.setCell ⟨g, q, none⟩ (.int .i64 (v - 1))).cell? ⟨w.heap.size, 0, none⟩ = some (.slice (some ⟨bn, on, none⟩) nn cn) := by
          have := (HR.out.2.2.1.far (p := ⟨g, q, none⟩) (by show w.heap.size ≠ g; omega) (.int .i64 (v - 1))).cell 0
          simpa using this
        have HB5 := Lib.hid (HBR.out.setCell (p := ⟨g, q, none⟩) (by show w.heap.size ≤ g; omega) (.int .i64 (v - 1)))
        have hbnw : bn < w.heap.size := by omega
        have hn5 : (wr.setCell ⟨g, q, none⟩ (.int .i64 (v - 1))).drew.cell? ⟨bn, on + k * 2, none⟩ = some (.int .i64 x) := (HB5.out.cell (p := ⟨bn, on + k * 2, none⟩) hbnw).trans ((HBR.out.cell (p := ⟨bn, on + k * 2, none⟩) hbnw).symm.trans hn0)
        have p0d : (wr.setCell ⟨g, q, none⟩ (.int .i64 (v - 1))).drew.cell? ⟨w.heap.size, 0, none⟩ = some (.slice (some ⟨bn, on, none⟩) nn cn) := p0
        have HBD := Lib.hid (up_drew HB5.out)
        have HKD := Lib.hid (HR.out.2.2.1.far (p := ⟨g, q, none⟩) (by show w.heap.size ≠ g; omega) (.int .i64 (v - 1))).drew
        have HRID := Lib.hid ((HR.out.2.2.2.2.setCell (p := ⟨g, q, none⟩) (.inl (by show g < w1.heap.size; omega)) (.int .i64 (v - 1))).keep (up_drew (Below.refl _ _)) (by simp [World.setCell]; omega))
        have hszd : w2.heap.size ≤ (wr.setCell ⟨g, q, none⟩ (.int .i64 (v - 1))).drew.heap.size := by simp [World.drew, World.setCell]; omega
        have hk1 : (k : Int) < (nn : Int) := by omega
        have hk0 : (0 : Int) ≤ (k : Int) := by omega
        have H0 := Lib.hid HR.out.2.1
        clear hst hvp hgn p0 hn0 HB5 HR
        go_wp2_with (fail)
        go_region
        all_goals
          have HSTD := Lib.hid (show (wr.setCell ⟨g, q, none⟩ (.int .i64 (v - 1))).drew.ownsRow (w.heap.size + 1) 3 1 (.slice (some ⟨g, 0, none⟩) n' cg) n' (ivs (bump (-1) ms (havingOf ms (ids.take (j + 1))))) from HST.out)
          clear HST
          generalize (wr.setCell ⟨g, q, none⟩ (.int .i64 (v - 1))).drew = wd at *
          by_cases hx : x = 8
          · have hx' : (x != 8) = false := by simpa using hx
            have HXX := Lib.hid hx
            clear hx
            go_wp2
            go_roundw
            case rel => exact ⟨j + 1, by omega, by go_num, ⟨HSTD.out, fun h => absurd HXX.out h, HKD.out, HBD.out, HRID.out⟩, hszd⟩
            case measure => simp [intOf]; omega
          · have hx' : (x != 8) = true := by simpa using hx
            have HT := Lib.hid (show takenOf x ms ids = havingOf ms (ids.take (j + 1)) by
              have h1 := HH.out
              rw [H0.out hx, List.nil_append] at h1
              rw [taken_first hx h1, h1])
            clear hx
            go_wp2
            go_ret
            refine ⟨g, cg, rfl, ?_, HBD.out⟩
            rw [HIDS.out, HT.out]
            exact own_base HSTD.out (by omega)
      · have hvp' : decide (0 < v) = false := decide_eq_false hvp
        have HH := Lib.hid (having_no HG.out (by rw [HMQ.out]; exact hvp))
        clear hvp
        go_wp2
        go_roundw
        case rel => exact ⟨j + 1, by omega, by go_num, by rw [HH.out]; exact HR, by omega⟩
        case measure => simp [intOf]; omega
    · obtain rfl : j = ids.length := by omega
      have HX := Lib.hid HR.out.2.1
      have HO := Lib.hid HR.out.1
      rw [List.take_length] at HX HO
      clear HR
      go_wp2
      go_ret
      refine ⟨g, cg, rfl, ?_, HBR.out⟩
      rw [HIDS.out]
      have he : takenOf x ms ids = havingOf ms ids := by
        by_cases hx : x = 8
        · subst hx; exact taken_join
        · rw [taken_none hx (HX.out hx), HX.out hx]
      rw [he]
      exact own_base HO.out (by omega)
end Go.Proofs.YtknphikoikdcjaaGreat


/- Merged: TokFireS, TokFireT. -/
/- spec.fire, spec.FireNode. -/
namespace Go.Proofs.YtknphikoikdcjaaGreat
open Go.RowKit

set_option maxRecDepth 100000 in
set_option maxHeartbeats 3200000 in
theorem fire_any (lo hi nn cn : Nat) (An : Option Addr) (ns : List (Int × Int)) (lo1 hi1 lf cf : Nat) (Af : Option Addr) (fs : List Flw) (lo' hi' n' c' : Nat) (A' : Option Addr) (ms : List Int) (k : Nat) (x y : Int) (lo5 hi5 n5 c5 : Nat) (A5 : Option Addr) (vs : List Int) (w : World)
    (hrn : Rd w lo hi 2 An nn (pvs ns)) (hB : hi ≤ w.heap.size) (hnn : nn ≤ 1048576) (hr : Fls w lo1 hi1 Af lf fs) (hB1 : hi1 ≤ w.heap.size) (hn : lf ≤ 1048576) (hv : Rd w lo' hi' 1 A' n' (ivs ms)) (hB' : hi' ≤ w.heap.size) (hn' : n' ≤ 1048576) (hw : Rd w lo5 hi5 1 A5 n5 (ivs vs)) (hB5 : hi5 ≤ w.heap.size) (hn5 : n5 ≤ 1048576)
    (hlen : ms.length = fs.length) (h03 : ∀ z ∈ ms, 0 ≤ z ∧ z ≤ 3) (hk : k < nn) (hkx : ns[k]? = some (x, y)) (h14 : fs.length ≤ 14) (hpos : 0 < n') (hV : vProc ns fs = true) (hvs : vVals vs = true) (R : Option (List Int)) (hR : R = if canFire x fs ms vs (k : Int) then some (behindOf x fs ms vs (k : Int)) else none) :
    Calls Tryz.prog 146 #[.agg #[.slice An nn cn, .slice Af lf cf], .slice A' n' c', .int .i64 (k : Int), .slice A5 n5 c5] w (MarksPost R w) := by
  have HRR := Lib.hid hR
  clear hR
  have hb1 := up_alloc (Below.refl _ w) (.cells #[.slice An nn cn, .slice Af lf cf] 40)
  have hbk := Blk.new w 40 #[.slice An nn cn, .slice Af lf cf]
  have hs1 : (w.alloc (.cells #[.slice An nn cn, .slice Af lf cf] 40)).heap.size = w.heap.size + 1 := by simp
  have HL := Lib.hid hv.len1
  have HFL := Lib.hid hr.1
  have HV := Lib.hid hV
  have HVS := Lib.hid hvs
  have HNG := Lib.hid (show ∀ z ∈ ms, 0 ≤ z from fun z hz => (h03 z hz).1)
  have HRD := Lib.hid (readyS_any lo hi nn cn An ns lo1 hi1 lf cf Af fs lo' hi' n' c' A' ms k x y _ (hrn.keep hb1 hB) (by omega) hnn (hr.keep hb1 hB1) (by omega) hn (hv.keep hb1 hB') (by omega) hlen HNG.out hk hkx)
  clear hV hvs
  go_enter Tryz.func146, Tryz.ntmps146
  go_wp2_with (fail)
  (with_reducible refine HRD.out.mono ?_)
  clear HRD
  rintro e w1 ⟨rfl, hb2⟩
  have HB := Lib.hid (up hb1 hb2)
  have hs2 := hb2.size
  rw [hs1] at hs2
  have HK := Lib.hid (hbk.below hb2 (by omega))
  clear hb1 hb2 hbk
  cases hrb : readyB x ms (flOf fs false (k : Int)) with
  | false =>
    have HX := Lib.hid (show R = none by rw [HRR.out, canFire_ready hrb]; rfl)
    clear hrb
    go_wp2
    exact bodyPost_ret (v := .tuple #[.slice none 0 0, .bool false]) (by simp [results, Tryz.results146, go_sem]) rfl (.inl ⟨HX.out, rfl, HB.out⟩)
  | true =>
  have HRB := Lib.hid hrb
  clear hrb
  have k0 : w1.cell? ⟨w.heap.size, 0, none⟩ = some (.slice An nn cn) := HK.out.cell 0
  have k1 : w1.cell? ⟨w.heap.size, 1, none⟩ = some (.slice Af lf cf) := HK.out.cell 1
  have HT := Lib.hid (taken_any lo hi nn cn An ns lo1 hi1 lf cf Af fs lo' hi' n' c' A' ms k x y w1 (hrn.keep HB.out hB) (Nat.le_trans hB HB.out.size) hnn (hr.keep HB.out hB1) (Nat.le_trans hB1 HB.out.size) hn (hv.keep HB.out hB') (Nat.le_trans hB' HB.out.size) hn' hlen h03 hk hkx h14 hpos)
  go_wp2_with (fail)
  (with_reducible refine HT.out.mono ?_)
  clear HT
  rintro e w2 ⟨g, cg, rfl, hown, hb3⟩
  have HB2 := Lib.hid (up HB.out hb3)
  have HK2 := Lib.hid (HK.out.below hb3 (by omega))
  obtain ⟨g', cg', hge, hg1, hg2, hcg⟩ := own_first hown hpos
  obtain ⟨rfl, rfl⟩ : g = g' ∧ cg = cg' := by
    injection hge with h1 h2 h3
    injection h1 with h1
    injection h1 with h1 _
    exact ⟨h1, h3⟩
  have HO2 := Lib.hid (own_base hown (base' := w.heap.size + 1) (by omega))
  have hs3 := hb3.size
  rw [taken_takes HRB.out] at HO2
  have hbd0 := bump_in (d := -1) (by omega) (by omega) (takesOf x ms (flOf fs false (k : Int))) ms (Int.le_refl 0) (by omega) h03
  have htl : (takesOf x ms (flOf fs false (k : Int))).length ≤ 14 := Nat.le_trans (takes_le x ms _) (Nat.le_trans (flUp_le fs false (k : Int) fs.length) h14)
  have HC2 := Lib.hid (show ∀ z ∈ bump (-1) ms (takesOf x ms (flOf fs false (k : Int))), -14 ≤ z ∧ z ≤ 17 from fun z hz => by have := hbd0 z hz; omega)
  have HCL := Lib.hid (show (bump (-1) ms (takesOf x ms (flOf fs false (k : Int)))).length = n' from (bump_len _ _ _).trans HL.out)
  have HBH := Lib.hid (show ∀ os, putsOf x fs vs (k : Int) = os → bump 1 (bump (-1) ms (takesOf x ms (flOf fs false (k : Int)))) os = behindOf x fs ms vs (k : Int) from fun os h => by rw [← h]; rfl)
  have HBL := Lib.hid (show (behindOf x fs ms vs (k : Int)).length = n' from (behind_len x fs ms vs (k : Int)).trans HL.out)
  have HPM := Lib.hid (fun h => puts_mem (x := x) (fs := fs) (vs := vs) (node := (k : Int)) h)
  have HPL := Lib.hid (puts_le x fs vs (k : Int) h14)
  generalize bump (-1) ms (takesOf x ms (flOf fs false (k : Int))) = cs at *
  clear hb3 hown hge hbd0 htl k0 k1 HK
  have k0 : w2.cell? ⟨w.heap.size, 0, none⟩ = some (.slice An nn cn) := HK2.out.cell 0
  have k1 : w2.cell? ⟨w.heap.size, 1, none⟩ = some (.slice Af lf cf) := HK2.out.cell 1
  have HFO := Lib.hid (flowsOf_any lo1 hi1 lf cf Af (.slice An nn cn) fs (k : Int) true w2 (hr.keep HB2.out hB1) (Nat.le_trans hB1 HB2.out.size) hn)
  go_wp2_with (fail)
  (with_reducible refine HFO.out.mono ?_)
  clear HFO
  rintro e w3 ⟨Af2, co, rfl, _, hro, _, hb4⟩
  have HB3 := Lib.hid (up HB2.out hb4)
  have HK3 := Lib.hid (HK2.out.below hb4 (by omega))
  have HO3 := Lib.hid (own_keep HO2.out hb4)
  have hs4 := hb4.size
  have HRO := Lib.hid hro
  clear hb4 hro HK2 HO2 k0 k1
  have k0 : w3.cell? ⟨w.heap.size, 0, none⟩ = some (.slice An nn cn) := HK3.out.cell 0
  have k1 : w3.cell? ⟨w.heap.size, 1, none⟩ = some (.slice Af lf cf) := HK3.out.cell 1
  obtain ⟨bn, on, xx, yy, hAe, hbn, _, hgn, hn0, _⟩ := (hrn.keep HB3.out hB).pair hk
  have hxx : xx = x := by rw [hkx] at hgn; injection hgn with hgn; injection hgn with h1 _; exact h1.symm
  rw [hxx] at hn0
  clear hgn hxx
  have hk1 : (k : Int) < (nn : Int) := by omega
  have hk0 : (0 : Int) ≤ (k : Int) := by omega
  by_cases hx : x = 5
  · have hx' : (x == 5) = true := by simpa using hx
    have HCH := Lib.hid (choose_any An nn cn ns lo1 hi1 lf cf Af fs (k : Int) lo5 hi5 n5 c5 A5 vs w3 HV.out HVS.out (hr.keep HB3.out hB1) (Nat.le_trans hB1 HB3.out.size) hn (hw.keep HB3.out hB5) (Nat.le_trans hB5 HB3.out.size))
    have HPO := Lib.hid (show putsOf x fs vs (k : Int) = [chooseR fs vs (flOf fs true (k : Int)) (-1)] by simp [putsOf, hx])
    have HNE := Lib.hid (show (!(x == 5 && decide (chooseR fs vs (flOf fs true (k : Int)) (-1) < 0))) = !decide (chooseR fs vs (flOf fs true (k : Int)) (-1) < 0) by rw [hx']; rfl)
    subst hAe
    have HXH := Lib.hid hx
    have HXB := Lib.hid hx'
    clear hx
    go_wp2_with (fail)
    (with_reducible refine HCH.out.mono ?_)
    clear HCH
    rintro e w4 ⟨rfl, hb5⟩
    have HB4 := Lib.hid (up HB3.out hb5)
    have HK4 := Lib.hid (HK3.out.below hb5 (by omega))
    have HO4 := Lib.hid (own_keep HO3.out hb5)
    have hs5 := hb5.size
    clear hb5 HK3 HO3 k0 k1 hn0 hx' HRO
    by_cases hq0 : chooseR fs vs (flOf fs true (k : Int)) (-1) < 0
    · have HX := Lib.hid (show R = none by rw [HRR.out, canFire_puts (by rw [HNE.out, decide_eq_true hq0]; rfl)]; rfl)
      have hq0' : decide (chooseR fs vs (flOf fs true (k : Int)) (-1) < 0) = true := decide_eq_true hq0
      clear hq0
      go_wp2
      exact bodyPost_ret (v := .tuple #[.slice none 0 0, .bool false]) (by simp [results, Tryz.results146, go_sem]) rfl (.inl ⟨HX.out, rfl, HB4.out⟩)
    have hq0' : decide (chooseR fs vs (flOf fs true (k : Int)) (-1) < 0) = false := decide_eq_false hq0
    have hpb : (!(x == 5 && decide (chooseR fs vs (flOf fs true (k : Int)) (-1) < 0))) = true := by rw [HNE.out, hq0']; rfl
    have HCF := Lib.hid (show canFire x fs ms vs (k : Int) = vMarks fs (behindOf x fs ms vs (k : Int)) by
      rw [canFire_rest HRB.out hpb, vMarks, behind_len, hlen]; simp)
    have HMO := Lib.hid (show ∀ z ∈ [chooseR fs vs (flOf fs true (k : Int)) (-1)], ∃ q : Nat, z = (q : Int) ∧ q < n' from fun z hz => by
      rw [← HPO.out] at hz
      obtain ⟨q, h1, h2⟩ := HPM.out hpb z hz
      exact ⟨q, h1, by have := HL.out; omega⟩)
    have HEQ := Lib.hid (HBH.out _ HPO.out)
    generalize chooseR fs vs (flOf fs true (k : Int)) (-1) = qq at *
    clear hpb hq0
    obtain ⟨outs, hout⟩ : ∃ l, l = [qq] := ⟨_, rfl⟩
    rw [← hout] at HMO HEQ
    have hol : outs.length = 1 := by rw [hout]; rfl
    have hbz := up_alloc HB4.out (.cells #[.int .i64 qq] 3)
    have hoz := HO4.out.alloc (.cells #[.int .i64 qq] 3)
    have hkz := HK4.out.alloc (.cells #[.int .i64 qq] 3)
    obtain ⟨Ao, hAo⟩ : ∃ A : Option Addr, A = some ⟨w4.heap.size, 0, none⟩ := ⟨_, rfl⟩
    obtain ⟨lo6, hlo6⟩ : ∃ l, l = w4.heap.size := ⟨_, rfl⟩
    obtain ⟨hi6, hhi6⟩ : ∃ l, l = w4.heap.size + 1 := ⟨_, rfl⟩
    have hrz : Rd (w4.alloc (.cells #[.int .i64 qq] 3)) lo6 hi6 1 (some ⟨w4.heap.size, 0, none⟩) outs.length (ivs outs) := by
      refine ⟨by rw [hout]; rfl, fun _ => ⟨_, _, rfl, by omega, by omega, fun j u hj => ?_⟩⟩
      rw [(Blk.new w4 3 #[.int .i64 qq]).cell (0 + j)]
      rw [hout] at hj
      simpa [ivs] using hj
    have hi6z : hi6 ≤ (w4.alloc (.cells #[.int .i64 qq] 3)).heap.size := by simp; omega
    have hgl : g < lo6 := by omega
    have hol14 : outs.length ≤ 14 := by omega
    clear HK4 HO4 HB4
    have HBZ := Lib.hid hbz
    have HOZ := Lib.hid hoz
    have HRZ := Lib.hid hrz
    have HKZ := Lib.hid hkz
    have hkzl := hkz.lt
    have hszz := hbz.size
    clear hbz hoz hrz hkz
    go_wp2
    go_loopw [13] (fun iv wr => ∃ (j : Nat), j ≤ outs.length ∧ iv = .int .i64 j ∧ Hid (wr.ownsRow (w.heap.size + 1) 3 1 (.slice (some ⟨g, 0, none⟩) n' cg) n' (ivs (bump 1 cs (outs.take j))) ∧ Blk wr w.heap.size 40 #[.slice (some ⟨bn, on, none⟩) nn cn, .slice Af lf cf] ∧ Below w.heap.size w wr ∧ Rd wr lo6 hi6 1 (some ⟨w4.heap.size, 0, none⟩) outs.length (ivs outs)) ∧ hi6 ≤ wr.heap.size)
       (fun iv _ => outs.length - (intOf iv).toNat)
    case atStart => exact ⟨0, by omega, rfl, ⟨HOZ.out, HKZ.out, HBZ.out, HRZ.out⟩, by first | exact hi6z | (simp; omega)⟩
    case round =>
      clear HBZ HOZ HRZ HKZ
      obtain ⟨j, hj, rfl, HR, hsz⟩ := hrel
      have HBR := Lib.hid HR.out.2.2.1
      by_cases hlt : j < outs.length
      · obtain ⟨b, off, z, hAz, _, _, hg, hc0⟩ := HR.out.2.2.2.one hlt
        obtain ⟨rfl, rfl⟩ : w4.heap.size = b ∧ 0 = off := by
          injection hAz with h1
          injection h1 with h1 h2
          exact ⟨h1, h2⟩
        clear hAz
        rw [Nat.zero_add] at hc0
        obtain ⟨q, rfl, hq⟩ := HMO.out z (List.mem_of_getElem? hg)
        have HS := Lib.hid (bump_take (d := 1) (ms := cs) hg)
        rw [Int.toNat_natCast] at HS
        have hcl : (bump 1 cs (outs.take j)).length = n' := (bump_len _ _ _).trans HCL.out
        have hbd := bump_in (d := 1) (by omega) (by omega) (outs.take j) cs (by omega : (-14 : Int) ≤ 0) (by omega : (0 : Int) ≤ 17) HC2.out _ (mem_getD (k := q) (by omega))
        have htk : (outs.take j).length ≤ 14 := by rw [List.length_take]; omega
        have hd0 := HR.out.1.cellAt q (by omega)
        rw [ivs_at (by omega)] at hd0
        have hf0 := HR.out.1.frozenAt q
        have hv1 : -28 ≤ (bump 1 cs (outs.take j)).getD q 0 := by omega
        have hv2 : (bump 1 cs (outs.take j)).getD q 0 ≤ 31 := by omega
        have hj1 : (j : Int) < (outs.length : Int) := by omega
        have hj0 : (0 : Int) ≤ (j : Int) := by omega
        have hq1 : (q : Int) < (n' : Int) := by omega
        have hq0 : (0 : Int) ≤ (q : Int) := by omega
        have hst := (HR.out.1.stored q (.int .i64 ((bump 1 cs (outs.take j)).getD q 0 + 1))).1
        rw [ivs_set, ← HS.out] at hst
        have HST := Lib.hid hst
        clear hg hcl hbd htk hst HS
        generalize (bump 1 cs (outs.take j)).getD q 0 = v at *
        have HBD := Lib.hid (up_drew (HBR.out.setCell (p := ⟨g, q, none⟩) (by show w.heap.size ≤ g; omega) (.int .i64 (v + 1))))
        have HKD := Lib.hid (HR.out.2.1.far (p := ⟨g, q, none⟩) (by show w.heap.size ≠ g; omega) (.int .i64 (v + 1))).drew
        have HRID := Lib.hid ((HR.out.2.2.2.setCell (p := ⟨g, q, none⟩) (.inl (by show g < lo6; omega)) (.int .i64 (v + 1))).keep (up_drew (Below.refl _ _)) (by simp [World.setCell]; omega))
        have hszd : hi6 ≤ (wr.setCell ⟨g, q, none⟩ (.int .i64 (v + 1))).drew.heap.size := by simp [World.drew, World.setCell]; omega
        clear HR
        go_wp2_with (fail)
        go_region
        all_goals
          have HSTD := Lib.hid (show (wr.setCell ⟨g, q, none⟩ (.int .i64 (v + 1))).drew.ownsRow (w.heap.size + 1) 3 1 (.slice (some ⟨g, 0, none⟩) n' cg) n' (ivs (bump 1 cs (outs.take (j + 1)))) from HST.out)
          clear HST
          generalize (wr.setCell ⟨g, q, none⟩ (.int .i64 (v + 1))).drew = wd at *
          go_wp2
          go_roundw
          case rel => exact ⟨j + 1, by omega, by go_num, ⟨HSTD.out, HKD.out, HBD.out, HRID.out⟩, hszd⟩
          case measure => simp [intOf]; omega
      · obtain rfl : j = outs.length := by omega
        have HO := Lib.hid HR.out.1
        have hk9 := HR.out.2.1
        rw [List.take_length, HEQ.out] at HO
        have p0 : wr.cell? ⟨w.heap.size, 0, none⟩ = some (.slice (some ⟨bn, on, none⟩) nn cn) := hk9.cell 0
        have p1 : wr.cell? ⟨w.heap.size, 1, none⟩ = some (.slice Af lf cf) := hk9.cell 1
        have HMK := Lib.hid (validMarks_any (.slice (some ⟨bn, on, none⟩) nn cn) (some ⟨bn, on, none⟩) nn cn lo1 hi1 lf cf Af fs (w.heap.size + 1) wr.heap.size n' cg (some ⟨g, 0, none⟩) (behindOf x fs ms vs (k : Int)) wr HFL.out (Rd.of_own HO.out) (Nat.le_refl _) hn')
        clear HR hk9
        go_wp2_with (fail)
        (with_reducible refine HMK.out.mono ?_)
        clear HMK
        rintro e w8 ⟨rfl, hb8⟩
        have HB8 := Lib.hid (up HBR.out hb8)
        have HO8 := Lib.hid (own_keep HO.out hb8)
        clear hb8
        cases hvm : vMarks fs (behindOf x fs ms vs (k : Int)) with
        | false =>
          have HX := Lib.hid (show R = none by rw [HRR.out, HCF.out, hvm]; rfl)
          clear hvm
          go_wp2
          exact bodyPost_ret (v := .tuple #[.slice none 0 0, .bool false]) (by simp [results, Tryz.results146, go_sem]) rfl (.inl ⟨HX.out, rfl, HB8.out⟩)
        | true =>
          have HX := Lib.hid (show R = some (behindOf x fs ms vs (k : Int)) by rw [HRR.out, HCF.out, hvm]; rfl)
          clear hvm
          go_wp2
          refine bodyPost_ret (v := .tuple #[.slice (some ⟨g, 0, none⟩) n' cg, .bool true]) (by simp [results, Tryz.results146, go_sem]) rfl (.inr ⟨_, some ⟨g, 0, none⟩, cg, HX.out, ?_, ?_, ?_, ?_, HB8.out⟩)
          · rw [HBL.out]
          · rw [HBL.out]; exact hcg
          · rw [HBL.out]; exact (Rd.of_own HO8.out).wide (by omega) (Nat.le_refl _)
          · rw [HBL.out]; exact Soft.of_own HO8.out
  · have hx' : (x == 5) = false := by simpa using hx
    have hpb : (!(x == 5 && decide (chooseR fs vs (flOf fs true (k : Int)) (-1) < 0))) = true := by rw [hx']; rfl
    have HPO := Lib.hid (show putsOf x fs vs (k : Int) = flOf fs true (k : Int) by simp [putsOf, hx])
    have HCF := Lib.hid (show canFire x fs ms vs (k : Int) = vMarks fs (behindOf x fs ms vs (k : Int)) by
      rw [canFire_rest HRB.out hpb, vMarks, behind_len, hlen]; simp)
    have HMO := Lib.hid (show ∀ z ∈ flOf fs true (k : Int), ∃ q : Nat, z = (q : Int) ∧ q < n' from fun z hz => by
      rw [← HPO.out] at hz
      obtain ⟨q, h1, h2⟩ := HPM.out hpb z hz
      exact ⟨q, h1, by have := HL.out; omega⟩)
    have HEQ := Lib.hid (HBH.out _ HPO.out)
    rw [HPO.out] at HPL
    have hol14 := HPL.out
    generalize flOf fs true (k : Int) = outs at *
    subst hAe
    clear hpb hx HPL
    have hbz := HB3.out
    have hoz := HO3.out
    have hkz := HK3.out
    have hrz := HRO.out
    obtain ⟨lo6, hlo6⟩ : ∃ l, l = w2.heap.size := ⟨_, rfl⟩
    obtain ⟨hi6, hhi6⟩ : ∃ l, l = w3.heap.size := ⟨_, rfl⟩
    rw [← hlo6, ← hhi6] at hrz
    have hi6z : hi6 ≤ w3.heap.size := by omega
    have hgl : g < lo6 := by omega
    clear HK3 HO3 HB3 HRO
    have HBZ := Lib.hid hbz
    have HOZ := Lib.hid hoz
    have HRZ := Lib.hid hrz
    have HKZ := Lib.hid hkz
    have hkzl := hkz.lt
    have hszz := hbz.size
    clear hbz hoz hrz hkz
    go_wp2
    go_loopw [13] (fun iv wr => ∃ (j : Nat), j ≤ outs.length ∧ iv = .int .i64 j ∧ Hid (wr.ownsRow (w.heap.size + 1) 3 1 (.slice (some ⟨g, 0, none⟩) n' cg) n' (ivs (bump 1 cs (outs.take j))) ∧ Blk wr w.heap.size 40 #[.slice (some ⟨bn, on, none⟩) nn cn, .slice Af lf cf] ∧ Below w.heap.size w wr ∧ Rd wr lo6 hi6 1 Af2 outs.length (ivs outs)) ∧ hi6 ≤ wr.heap.size)
       (fun iv _ => outs.length - (intOf iv).toNat)
    case atStart => exact ⟨0, by omega, rfl, ⟨HOZ.out, HKZ.out, HBZ.out, HRZ.out⟩, by first | exact hi6z | (simp; omega)⟩
    case round =>
      clear HBZ HOZ HRZ HKZ
      obtain ⟨j, hj, rfl, HR, hsz⟩ := hrel
      have HBR := Lib.hid HR.out.2.2.1
      by_cases hlt : j < outs.length
      · obtain ⟨b, off, z, rfl, _, _, hg, hc0⟩ := HR.out.2.2.2.one hlt
        obtain ⟨q, rfl, hq⟩ := HMO.out z (List.mem_of_getElem? hg)
        have HS := Lib.hid (bump_take (d := 1) (ms := cs) hg)
        rw [Int.toNat_natCast] at HS
        have hcl : (bump 1 cs (outs.take j)).length = n' := (bump_len _ _ _).trans HCL.out
        have hbd := bump_in (d := 1) (by omega) (by omega) (outs.take j) cs (by omega : (-14 : Int) ≤ 0) (by omega : (0 : Int) ≤ 17) HC2.out _ (mem_getD (k := q) (by omega))
        have htk : (outs.take j).length ≤ 14 := by rw [List.length_take]; omega
        have hd0 := HR.out.1.cellAt q (by omega)
        rw [ivs_at (by omega)] at hd0
        have hf0 := HR.out.1.frozenAt q
        have hv1 : -28 ≤ (bump 1 cs (outs.take j)).getD q 0 := by omega
        have hv2 : (bump 1 cs (outs.take j)).getD q 0 ≤ 31 := by omega
        have hj1 : (j : Int) < (outs.length : Int) := by omega
        have hj0 : (0 : Int) ≤ (j : Int) := by omega
        have hq1 : (q : Int) < (n' : Int) := by omega
        have hq0 : (0 : Int) ≤ (q : Int) := by omega
        have hst := (HR.out.1.stored q (.int .i64 ((bump 1 cs (outs.take j)).getD q 0 + 1))).1
        rw [ivs_set, ← HS.out] at hst
        have HST := Lib.hid hst
        clear hg hcl hbd htk hst HS
        generalize (bump 1 cs (outs.take j)).getD q 0 = v at *
        have HBD := Lib.hid (up_drew (HBR.out.setCell (p := ⟨g, q, none⟩) (by show w.heap.size ≤ g; omega) (.int .i64 (v + 1))))
        have HKD := Lib.hid (HR.out.2.1.far (p := ⟨g, q, none⟩) (by show w.heap.size ≠ g; omega) (.int .i64 (v + 1))).drew
        have HRID := Lib.hid ((HR.out.2.2.2.setCell (p := ⟨g, q, none⟩) (.inl (by show g < lo6; omega)) (.int .i64 (v + 1))).keep (up_drew (Below.refl _ _)) (by simp [World.setCell]; omega))
        have hszd : hi6 ≤ (wr.setCell ⟨g, q, none⟩ (.int .i64 (v + 1))).drew.heap.size := by simp [World.drew, World.setCell]; omega
        clear HR
        go_wp2_with (fail)
        go_region
        all_goals
          have HSTD := Lib.hid (show (wr.setCell ⟨g, q, none⟩ (.int .i64 (v + 1))).drew.ownsRow (w.heap.size + 1) 3 1 (.slice (some ⟨g, 0, none⟩) n' cg) n' (ivs (bump 1 cs (outs.take (j + 1)))) from HST.out)
          clear HST
          generalize (wr.setCell ⟨g, q, none⟩ (.int .i64 (v + 1))).drew = wd at *
          go_wp2
          go_roundw
          case rel => exact ⟨j + 1, by omega, by go_num, ⟨HSTD.out, HKD.out, HBD.out, HRID.out⟩, hszd⟩
          case measure => simp [intOf]; omega
      · obtain rfl : j = outs.length := by omega
        have HO := Lib.hid HR.out.1
        have hk9 := HR.out.2.1
        rw [List.take_length, HEQ.out] at HO
        have p0 : wr.cell? ⟨w.heap.size, 0, none⟩ = some (.slice (some ⟨bn, on, none⟩) nn cn) := hk9.cell 0
        have p1 : wr.cell? ⟨w.heap.size, 1, none⟩ = some (.slice Af lf cf) := hk9.cell 1
        have HMK := Lib.hid (validMarks_any (.slice (some ⟨bn, on, none⟩) nn cn) (some ⟨bn, on, none⟩) nn cn lo1 hi1 lf cf Af fs (w.heap.size + 1) wr.heap.size n' cg (some ⟨g, 0, none⟩) (behindOf x fs ms vs (k : Int)) wr HFL.out (Rd.of_own HO.out) (Nat.le_refl _) hn')
        clear HR hk9
        go_wp2_with (fail)
        (with_reducible refine HMK.out.mono ?_)
        clear HMK
        rintro e w8 ⟨rfl, hb8⟩
        have HB8 := Lib.hid (up HBR.out hb8)
        have HO8 := Lib.hid (own_keep HO.out hb8)
        clear hb8
        cases hvm : vMarks fs (behindOf x fs ms vs (k : Int)) with
        | false =>
          have HX := Lib.hid (show R = none by rw [HRR.out, HCF.out, hvm]; rfl)
          clear hvm
          go_wp2
          exact bodyPost_ret (v := .tuple #[.slice none 0 0, .bool false]) (by simp [results, Tryz.results146, go_sem]) rfl (.inl ⟨HX.out, rfl, HB8.out⟩)
        | true =>
          have HX := Lib.hid (show R = some (behindOf x fs ms vs (k : Int)) by rw [HRR.out, HCF.out, hvm]; rfl)
          clear hvm
          go_wp2
          refine bodyPost_ret (v := .tuple #[.slice (some ⟨g, 0, none⟩) n' cg, .bool true]) (by simp [results, Tryz.results146, go_sem]) rfl (.inr ⟨_, some ⟨g, 0, none⟩, cg, HX.out, ?_, ?_, ?_, ?_, HB8.out⟩)
          · rw [HBL.out]
          · rw [HBL.out]; exact hcg
          · rw [HBL.out]; exact (Rd.of_own HO8.out).wide (by omega) (Nat.le_refl _)
          · rw [HBL.out]; exact Soft.of_own HO8.out
end Go.Proofs.YtknphikoikdcjaaGreat


/- spec.FireNode. -/
namespace Go.Proofs.YtknphikoikdcjaaGreat
open Go.RowKit

/-- A valid process has a flow. -/
theorem vProc_pos {ns : List (Int × Int)} {fs : List Flw} (h : vProc ns fs = true) : 0 < fs.length := by
  obtain ⟨q, _, h, _⟩ := start_flow h
  omega


/-- A list of its own and whether there is one. -/
def FreshB (l : List Int) (b : Bool) (w : World) (e : Ending) (w' : World) : Prop :=
  ∃ A c, e = .returned (.tuple #[.slice A l.length c, .bool b]) ∧ l.length ≤ c ∧ Rd w' w.heap.size w'.heap.size 1 A l.length (ivs l) ∧ Soft w' 1 A l.length ∧ Below w.heap.size w w'
theorem MarksPost.fresh {r : Option (List Int)} {w : World} {e : Ending} {w' : World} (h : MarksPost r w e w') : FreshB (r.getD []) r.isSome w e w' := by
  rcases h with ⟨rfl, rfl, hb⟩ | ⟨l, A, c, rfl, rfl, hc, hr, hs, hb⟩
  · exact ⟨none, 0, rfl, Nat.le_refl _, Rd.nil _ _ _ _ _, (fun b off e j hj => by simp at hj), hb⟩
  · exact ⟨A, c, rfl, hc, hr, hs, hb⟩
theorem fireOf_len (ns : List (Int × Int)) (fs : List Flw) (ms : List Int) (node : Int) (vs : List Int) : ((fireOf ns fs ms node vs).getD []).length ≤ ms.length := by
  unfold fireOf
  split
  · show (behindOf _ fs ms vs node).length ≤ _
    rw [behind_len]; exact Nat.le_refl _
  · simp

end Go.Proofs.YtknphikoikdcjaaGreat


