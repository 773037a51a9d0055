/- spec.taken: tokens without those that a node takes. -/
import Derived.Test.YtonlkodenfiljaaTokFire0
import Derived.Test.YtonlkodenfiljaaTokReadyS
import Derived.Test.YtonlkodenfiljaaBase
set_option linter.unusedSimpArgs false
set_option linter.unusedVariables false
namespace Go.Proofs.Ytonlkodenfiljaa
open Go.RowKit

theorem having_split (ms ids : List Int) (j : Nat) : havingOf ms ids = havingOf ms (ids.take j) ++ havingOf ms (ids.drop j) := by
  unfold havingOf
  rw [← List.filter_append, List.take_append_drop]
theorem taken_first {x : Int} {ms ids : List Int} {j : Nat} {q : Int} (hx : ¬ x = 8) (h : havingOf ms (ids.take j) = [q]) : takenOf x ms ids = [q] := by
  rw [takenOf, if_neg hx, having_split ms ids j, h]; rfl
theorem taken_none {x : Int} {ms ids : List Int} (hx : ¬ x = 8) (h : havingOf ms ids = []) : takenOf x ms ids = [] := by
  rw [takenOf, if_neg hx, h]; rfl
theorem taken_join {ms ids : List Int} : takenOf 8 ms ids = havingOf ms ids := by rw [takenOf, if_pos rfl]

set_option maxHeartbeats 400000 in
theorem copyIntsR_any (lo hi n c b off : Nat) (ys : List Int) (w : World) (hr : Rd w lo hi 1 (some ⟨b, off, none⟩) n (ivs ys)) (hB : hi ≤ w.heap.size) (hn : n ≤ 1048576) :
    Calls Try.prog 88 #[.slice (some ⟨b, off, none⟩) n c] w fun e w' => ∃ v, e = .returned v ∧ w'.ownsRow w.heap.size 3 1 v n (ivs ys) ∧ Below w.heap.size w w' := by
  obtain ⟨i0, hi0, hz0, hz1, hz2⟩ := info_parts infoIntR
  have hown1 : (w.alloc (.cells #[] 3)).ownsRow w.heap.size 3 1 (.slice (some ⟨w.heap.size, 0, none⟩) 0 0) 0 [] := World.ownsRow_made w #[] 0 (Nat.le_refl _) (by unfold maxLen; omega) (by simp)
  have hbl := up_alloc (Below.refl _ w) (.cells #[] 3)
  have hr1 := hr.keep hbl hB
  go_enter Try.func88, Try.ntmps88
  go_wp2_with (at_builtin; refine wpList_append_own _ rfl _ _ 27 rfl w.heap.size 3 i0 (.int .i64 0) 1 8 Try.underlying27 hi0 hz0 hz1 hz2 rfl (by decide) _ _ _ rfl hown1 ⟨b, off, none⟩ n c (ivs ys) rfl hr1.1 hr1.src (ivs_one ys) ?c3 ?c4 ?c5 ?_)
  case c3 => unfold maxLen; omega
  case c4 => omega
  case c5 => simp
  intro v2 w2 hown2 hg2 _
  have hb2 := up_grown hbl hown1 hg2 (Nat.le_refl _)
  try simp only [Nat.zero_add, List.nil_append] at hown2
  have HO := Lib.hid hown2
  clear hown1 hown2 hg2 hr1 hbl
  go_wp2
  go_ret
  exact ⟨v2, rfl, HO.out, hb2⟩
theorem ivs_set (ms : List Int) (k : Nat) (v : Int) : (ivs ms).set k (.int .i64 v) = ivs (ms.set k v) := by simp [ivs, List.map_set]
theorem ivs_at {ms : List Int} {k : Nat} (h : k < ms.length) : (ivs ms)[k]? = some (.int .i64 (ms.getD k 0)) := by
  rw [ivs, List.getElem?_map, List.getD_eq_getElem?_getD, List.getElem?_eq_getElem h]; rfl
theorem having_not {ms ids : List Int} {j q : Nat} (hs : ids.Pairwise (· < ·)) (hm : ∀ z ∈ ids, 0 ≤ z) (hk : ids[j]? = some (q : Int)) : ∀ z ∈ havingOf ms (ids.take j), z.toNat ≠ q := by
  intro z hz e
  have h1 := (having_sub ms _).subset hz
  have hl := (List.getElem?_eq_some_iff.1 hk)
  obtain ⟨i, hi, hzi⟩ := List.mem_iff_getElem.1 h1
  rw [List.length_take] at hi
  rw [List.getElem_take] at hzi
  have h2 := List.pairwise_iff_getElem.1 hs i j (by omega) hl.1 (by omega)
  rw [hzi, hl.2] at h2
  have := hm z ((List.take_sublist _ _).subset h1)
  omega
set_option maxRecDepth 100000 in
set_option maxHeartbeats 1600000 in
theorem taken_any (lo hi nn cn : Nat) (An : Option Addr) (ns : List (Int × Int)) (lo1 hi1 lf cf : Nat) (Af : Option Addr) (fs : List Flw) (lo' hi' n' c' : Nat) (A' : Option Addr) (ms : List Int) (k : Nat) (x y : Int) (w : World)
    (hrn : Rd w lo hi 2 An nn (pvs ns)) (hB : hi ≤ w.heap.size) (hnn : nn ≤ 1048576) (hr : Fls w lo1 hi1 Af lf fs) (hB1 : hi1 ≤ w.heap.size) (hn : lf ≤ 1048576) (hv : Rd w lo' hi' 1 A' n' (ivs ms)) (hB' : hi' ≤ w.heap.size) (hn' : n' ≤ 1048576) (hlen : ms.length = fs.length) (h03 : ∀ z ∈ ms, 0 ≤ z ∧ z ≤ 3) (hk : k < nn) (hkx : ns[k]? = some (x, y)) (h14 : fs.length ≤ 14) (hpos : 0 < n') :
    Calls Try.prog 85 #[.agg #[.slice An nn cn, .slice Af lf cf], .slice A' n' c', .int .i64 (k : Int)] w fun e w' => ∃ g c, e = .returned (.slice (some ⟨g, 0, none⟩) n' c) ∧ w'.ownsRow w.heap.size 3 1 (.slice (some ⟨g, 0, none⟩) n' c) n' (ivs (bump (-1) ms (takenOf x ms (flOf fs false (k : Int))))) ∧ Below w.heap.size w w' := by
  have hb1 := up_alloc (Below.refl _ w) (.cells #[.slice An nn cn, .slice Af lf cf] 26)
  have hbk := Blk.new w 26 #[.slice An nn cn, .slice Af lf cf]
  have hs1 : (w.alloc (.cells #[.slice An nn cn, .slice Af lf cf] 26)).heap.size = w.heap.size + 1 := by simp
  have HL := Lib.hid hv.len1
  have HMEM := Lib.hid (show ∀ (j : Nat) (z : Int), (flOf fs false (k : Int))[j]? = some z → ∃ (q : Nat), z = (q : Int) ∧ q < n' from fun j z h => by
    obtain ⟨q, f, rfl, hf, _⟩ := flOf_mem.1 (List.mem_of_getElem? h)
    exact ⟨q, rfl, by have := (List.getElem?_eq_some_iff.1 hf).1; have := HL.out; omega⟩)
  have HSORT := Lib.hid (flOf_sorted fs false (k : Int))
  have HNN := Lib.hid (show ∀ z ∈ flOf fs false (k : Int), 0 ≤ z from fun z h => by
    obtain ⟨q, f, rfl, hf, _⟩ := flOf_mem.1 h
    omega)
  have hml : (flOf fs false (k : Int)).length ≤ 14 := Nat.le_trans (flUp_le fs false (k : Int) fs.length) h14
  obtain ⟨bm, om, rfl, _, _⟩ := hv.form hpos
  have HCP := Lib.hid (copyIntsR_any lo' hi' n' c' bm om ms _ (hv.keep hb1 hB') (by omega) hn')
  go_enter Try.func85, Try.ntmps85
  go_wp2_with (fail)
  (with_reducible refine HCP.out.mono ?_)
  clear HCP
  rintro e w1 ⟨v, rfl, hown, hb2⟩
  have HB := Lib.hid (up hb1 hb2)
  have hs2 := hb2.size
  rw [hs1] at hs2
  have HK := Lib.hid (hbk.below hb2 (by omega))
  obtain ⟨g, cg, rfl, hg1, hg2, _⟩ := own_first hown hpos
  rw [hs1] at hg1 hown
  have k0 : w1.cell? ⟨w.heap.size, 0, none⟩ = some (.slice An nn cn) := HK.out.cell 0
  have k1 : w1.cell? ⟨w.heap.size, 1, none⟩ = some (.slice Af lf cf) := HK.out.cell 1
  have HFO := Lib.hid (flowsOf_any lo1 hi1 lf cf Af (.slice An nn cn) fs (k : Int) false w1 (hr.keep HB.out hB1) (Nat.le_trans hB1 HB.out.size) hn)
  have HOWN := Lib.hid hown
  generalize hids : flOf fs false (k : Int) = ids at *
  have HIDS := Lib.hid hids
  clear hb1 hb2 hbk hown hids
  go_wp2_with (fail)
  (with_reducible refine HFO.out.mono ?_)
  clear HFO
  rintro e w2 ⟨Ai, ci, rfl, _, hri, _, hb3⟩
  have HB2 := Lib.hid (up HB.out hb3)
  have HK2 := Lib.hid (HK.out.below hb3 (by omega))
  have HOWN2 := Lib.hid (own_keep HOWN.out hb3)
  have hs3 := hb3.size
  have HRI := Lib.hid hri
  clear hb3 hri HK HOWN k0 k1
  go_wp2
  go_loopw [9] (fun iv wr => ∃ (j : Nat), j ≤ ids.length ∧ iv = .int .i64 j ∧ Hid (wr.ownsRow (w.heap.size + 1) 3 1 (.slice (some ⟨g, 0, none⟩) n' cg) n' (ivs (bump (-1) ms (havingOf ms (ids.take j)))) ∧ (¬ x = 8 → havingOf ms (ids.take j) = []) ∧ Blk wr w.heap.size 26 #[.slice An nn cn, .slice Af lf cf] ∧ Below w.heap.size w wr ∧ Rd wr w1.heap.size w2.heap.size 1 Ai ids.length (ivs ids)) ∧ w2.heap.size ≤ wr.heap.size)
     (fun iv _ => ids.length - (intOf iv).toNat)
  case atStart => exact ⟨0, by omega, rfl, ⟨HOWN2.out, fun _ => rfl, HK2.out, HB2.out, HRI.out⟩, Nat.le_refl _⟩
  case round =>
    clear HOWN2 HK2 HB2 HRI
    obtain ⟨j, hj, rfl, HR, hsz⟩ := hrel
    have HBR := Lib.hid HR.out.2.2.2.1
    by_cases hlt : j < ids.length
    · obtain ⟨b, off, z, rfl, _, _, hg, hc0⟩ := HR.out.2.2.2.2.one hlt
      obtain ⟨q, rfl, hq⟩ := HMEM.out j z hg
      have hcl : (bump (-1) ms (havingOf ms (ids.take j))).length = n' := (bump_len _ _ _).trans HL.out
      have HVQ := Lib.hid (show (bump (-1) ms (havingOf ms (ids.take j))).getD q 0 = ms.getD q 0 from bump_other _ _ _ (having_not HSORT.out HNN.out hg))
      have hd0 := HR.out.1.cellAt q (by omega)
      rw [ivs_at (by omega), HVQ.out] at hd0
      have hf0 := HR.out.1.frozenAt q
      have hmq := h03 _ (mem_getD (k := q) (by rw [HL.out]; exact hq))
      have hj1 : (j : Int) < (ids.length : Int) := by omega
      have hj0 : (0 : Int) ≤ (j : Int) := by omega
      have hq1 : (q : Int) < (n' : Int) := by omega
      have hq0 : (0 : Int) ≤ (q : Int) := by omega
      have HG := Lib.hid hg
      have HMQ := Lib.hid (show ms.getD ((q : Int)).toNat 0 = ms.getD q 0 by rw [Int.toNat_natCast])
      clear hg hcl
      generalize ms.getD q 0 = v at *
      obtain ⟨hv0, hv3⟩ := hmq
      by_cases hvp : 0 < v
      · have hvp' : decide (0 < v) = true := decide_eq_true hvp
        have HH := Lib.hid (having_yes HG.out (by rw [HMQ.out]; exact hvp))
        have hst := (HR.out.1.stored q (.int .i64 (v - 1))).1
        rw [ivs_set] at hst
        have HST := Lib.hid (show (wr.setCell ⟨g, q, none⟩ (.int .i64 (v - 1))).ownsRow (w.heap.size + 1) 3 1 (.slice (some ⟨g, 0, none⟩) n' cg) n' (ivs (bump (-1) ms (havingOf ms (ids.take (j + 1))))) by
          rw [HH.out, bump_snoc, Int.toNat_natCast, HVQ.out]; exact hst)
        obtain ⟨bn, on, xx, yy, hAe, hbn, _, hgn, hn0, _⟩ := (hrn.keep HBR.out hB).pair hk
        have hxx : xx = x := by rw [hkx] at hgn; injection hgn with hgn; injection hgn with h1 _; exact h1.symm
        rw [hxx] at hn0
        subst hAe
        have p0 : (wr.setCell ⟨g, q, none⟩ (.int .i64 (v - 1))).cell? ⟨w.heap.size, 0, none⟩ = some (.slice (some ⟨bn, on, none⟩) nn cn) := by
          have := (HR.out.2.2.1.far (p := ⟨g, q, none⟩) (by show w.heap.size ≠ g; omega) (.int .i64 (v - 1))).cell 0
          simpa using this
        have HB5 := Lib.hid (HBR.out.setCell (p := ⟨g, q, none⟩) (by show w.heap.size ≤ g; omega) (.int .i64 (v - 1)))
        have hbnw : bn < w.heap.size := by omega
        have hn5 : (wr.setCell ⟨g, q, none⟩ (.int .i64 (v - 1))).drew.cell? ⟨bn, on + k * 2, none⟩ = some (.int .i64 x) := (HB5.out.cell (p := ⟨bn, on + k * 2, none⟩) hbnw).trans ((HBR.out.cell (p := ⟨bn, on + k * 2, none⟩) hbnw).symm.trans hn0)
        have p0d : (wr.setCell ⟨g, q, none⟩ (.int .i64 (v - 1))).drew.cell? ⟨w.heap.size, 0, none⟩ = some (.slice (some ⟨bn, on, none⟩) nn cn) := p0
        have HBD := Lib.hid (up_drew HB5.out)
        have HKD := Lib.hid (HR.out.2.2.1.far (p := ⟨g, q, none⟩) (by show w.heap.size ≠ g; omega) (.int .i64 (v - 1))).drew
        have HRID := Lib.hid ((HR.out.2.2.2.2.setCell (p := ⟨g, q, none⟩) (.inl (by show g < w1.heap.size; omega)) (.int .i64 (v - 1))).keep (up_drew (Below.refl _ _)) (by simp [World.setCell]; omega))
        have hszd : w2.heap.size ≤ (wr.setCell ⟨g, q, none⟩ (.int .i64 (v - 1))).drew.heap.size := by simp [World.drew, World.setCell]; omega
        have hk1 : (k : Int) < (nn : Int) := by omega
        have hk0 : (0 : Int) ≤ (k : Int) := by omega
        have H0 := Lib.hid HR.out.2.1
        clear hst hvp hgn p0 hn0 HB5 HR
        go_wp2_with (fail)
        go_region
        all_goals
          have HSTD := Lib.hid (show (wr.setCell ⟨g, q, none⟩ (.int .i64 (v - 1))).drew.ownsRow (w.heap.size + 1) 3 1 (.slice (some ⟨g, 0, none⟩) n' cg) n' (ivs (bump (-1) ms (havingOf ms (ids.take (j + 1))))) from HST.out)
          clear HST
          generalize (wr.setCell ⟨g, q, none⟩ (.int .i64 (v - 1))).drew = wd at *
          by_cases hx : x = 8
          · have hx' : (x != 8) = false := by simpa using hx
            have HXX := Lib.hid hx
            clear hx
            go_wp2
            go_roundw
            case rel => exact ⟨j + 1, by omega, by go_num, ⟨HSTD.out, fun h => absurd HXX.out h, HKD.out, HBD.out, HRID.out⟩, hszd⟩
            case measure => simp [intOf]; omega
          · have hx' : (x != 8) = true := by simpa using hx
            have HT := Lib.hid (show takenOf x ms ids = havingOf ms (ids.take (j + 1)) by
              have h1 := HH.out
              rw [H0.out hx, List.nil_append] at h1
              rw [taken_first hx h1, h1])
            clear hx
            go_wp2
            go_ret
            refine ⟨g, cg, rfl, ?_, HBD.out⟩
            rw [HIDS.out, HT.out]
            exact own_base HSTD.out (by omega)
      · have hvp' : decide (0 < v) = false := decide_eq_false hvp
        have HH := Lib.hid (having_no HG.out (by rw [HMQ.out]; exact hvp))
        clear hvp
        go_wp2
        go_roundw
        case rel => exact ⟨j + 1, by omega, by go_num, by rw [HH.out]; exact HR, by omega⟩
        case measure => simp [intOf]; omega
    · obtain rfl : j = ids.length := by omega
      have HX := Lib.hid HR.out.2.1
      have HO := Lib.hid HR.out.1
      rw [List.take_length] at HX HO
      clear HR
      go_wp2
      go_ret
      refine ⟨g, cg, rfl, ?_, HBR.out⟩
      rw [HIDS.out]
      have he : takenOf x ms ids = havingOf ms ids := by
        by_cases hx : x = 8
        · subst hx; exact taken_join
        · rw [taken_none hx (HX.out hx), HX.out hx]
      rw [he]
      exact own_base HO.out (by omega)
end Go.Proofs.Ytonlkodenfiljaa
