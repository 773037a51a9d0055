/- spec.Reachable. -/
import Derived.Test.YthlcbdjjegageaaProcReachS
import Derived.Test.YthlcbdjjegageaaProcReachI
import Derived.Deep.RegionHeld3
import Derived.Maps.AppendAt
namespace Go.Proofs.Ythlcbdjjegageaa
open Go.RowKit

set_option maxRecDepth 100000 in
set_option maxHeartbeats 3200000 in
theorem ReachableS_any (lo hi nn cn : Nat) (An : Option Addr) (ns : List (Int × Int)) (lo' hi' n c : Nat) (A : Option Addr) (fs : List Flw) (w : World) (hrn : Rd w lo hi 2 An nn (pvs ns)) (hB : hi ≤ w.heap.size) (hnn : nn ≤ 1048576)
    (hr : Fls w lo' hi' A n fs) (hB' : hi' ≤ w.heap.size) (hn : n ≤ 1048576) :
    Calls Try.prog 28 #[.agg #[.slice An nn cn, .slice A n c]] w (Fresh (ivs (reachOf ns fs)) 1 (reachOf ns fs).length w) := by
  have e1 : (w.alloc (.cells #[.slice An nn cn, .slice A n c] 26)).heap.size = w.heap.size + 1 := by simp
  have hb1 := up_alloc (up_alloc (Below.refl _ w) (.cells #[.slice An nn cn, .slice A n c] 26)) (.cells #[] 3)
  have hbp := (Blk.new w 26 #[.slice An nn cn, .slice A n c]).alloc (.cells #[] 3)
  have hown0 := World.ownsRow_made (w.alloc (.cells #[.slice An nn cn, .slice A n c] 26)) (base := w.heap.size + 1) (e := 3) (size := 1) #[] 0 (by simp) (by unfold maxLen; omega) (by simp)
  rw [e1] at hown0
  have hs0 := hbp.lt
  have HF := Lib.hid hr.1
  have HL := Lib.hid hrn.len2
  have HO0 := Lib.hid hown0
  obtain ⟨i0, hi0, hz0, hz1, hz2⟩ := info_parts infoInt
  have HBP := Lib.hid hbp
  clear hbp hown0 e1
  go_enter Try.func28, Try.ntmps28
  go_wp2_with (fail)
  (with_reducible refine (validProcessS_any lo hi nn cn An ns lo' hi' n c A fs _ (hrn.keep hb1 hB) (Nat.le_trans hB hb1.size) hnn (hr.keep hb1 hB') (Nat.le_trans hB' hb1.size) hn).mono ?_)
  rintro e w1 ⟨rfl, hb2⟩
  have hbp2 := HBP.out.below hb2 hs0
  have hb02 := up hb1 hb2
  have hlt2 := hbp2.lt
  have HO1 := Lib.hid (own_keep HO0.out hb2)
  have hw12 : w.heap.size + 1 + 1 ≤ w1.heap.size := by have := hb2.size; simpa using this
  clear hb2 HO0
  by_cases hV : vProc ns fs = true
  · have HV := Lib.hid hV
    have hst := startAt_in hV
    have HU := Lib.hid (reachOf_yes hV)
    rw [hV]
    have hd0 : w1.cell? ⟨w.heap.size, 0, none⟩ = some (.slice An nn cn) := hbp2.cell 0
    have hd1 : w1.cell? ⟨w.heap.size, 1, none⟩ = some (.slice A n c) := hbp2.cell 1
    have HC := Lib.hid (startS_any lo hi nn cn An ns (.slice A n c) w1.drew (hrn.keep (up_drew hb02) hB) (Nat.le_trans hB hb02.size) hnn)
    generalize hsa : startAt ns 0 = sa at *
    obtain ⟨sa0, sa1⟩ := hst
    obtain ⟨a, rfl⟩ := Int.eq_ofNat_of_zero_le sa0
    have ha : a < nn := by have := HL.out; omega
    have HB2 := Lib.hid hb02
    clear hV hbp2 hb02 hsa
    go_wp2
    go_region_held3 (fun w' => w'.cell? ⟨w.heap.size, 0, none⟩ = some (.slice An nn cn) ∧ w'.cell? ⟨w.heap.size, 1, none⟩ = some (.slice A n c))
      (first
        | exact ⟨hd0, hd1⟩
        | exact ⟨(hb3.cell (by show w.heap.size < w1.heap.size; omega)).trans hd0, (hb3.cell (by show w.heap.size < w1.heap.size; omega)).trans hd1⟩
        | exact ⟨(hb4.cell (by show w.heap.size < w2.heap.size; omega)).trans ((hb3.cell (by show w.heap.size < w1.heap.size; omega)).trans hd0), (hb4.cell (by show w.heap.size < w2.heap.size; omega)).trans ((hb3.cell (by show w.heap.size < w1.heap.size; omega)).trans hd1)⟩)
      ((first
        | (go_at_call 62; refine HC.out.mono ?_; rintro e w2 ⟨rfl, hb3⟩; have hsz3 : w1.heap.size ≤ w2.heap.size := hb3.size)
        | (go_at_call 61; refine (reachS_any nn cn An lo' hi' n c A fs a w2 hnn (hr.keep (up (up_drew HB2.out) hb3) hB') (Nat.le_trans hB' (Nat.le_trans HB2.out.size hsz3)) hn (by rw [← HL.out]; exact vProc_inside HV.out) ha).mono ?_; rintro e w3 ⟨s, hsl, hsv, As, cs, rfl, hcs, hrs, _, hb4⟩)))
    all_goals
      have hb23 := up (up_drew (Below.refl _ w1)) (up hb3 hb4)
      have HB3 := Lib.hid (up HB2.out hb23)
      have HO3 := Lib.hid (own_keep HO1.out hb23)
      have HSV := Lib.hid hsv
      have HSL := Lib.hid hsl
      have hsz4 : w1.heap.size ≤ w3.heap.size := hb23.size
      have HRS := Lib.hid hrs
      clear hb3 hb4 hb23 hsv hsl hrs HO1 HC
      go_wp2
      go_loopw [3, 5] (fun ov iv wr => ∃ (k : Nat), k ≤ nn ∧ iv = .int .i64 k ∧ wr.ownsRow (w.heap.size + 1) 3 1 ov (reachUp fs a k).length (ivs (reachUp fs a k)) ∧ Rd wr w2.heap.size w3.heap.size 1 As nn (bls s) ∧ (∀ g, ov.ownBlock = some g → g = w.heap.size + 1 ∨ w3.heap.size ≤ g) ∧ w3.heap.size ≤ wr.heap.size ∧ Below w.heap.size w wr)
         (fun _ iv _ => nn - (intOf iv).toNat)
      case atStart => exact ⟨0, by omega, rfl, by simpa [reachUp, ivs] using HO3.out, HRS.out, fun g hg => .inl (by simpa [Value.ownBlock] using hg.symm), Nat.le_refl _, HB3.out⟩
      case round =>
        clear HO3 HRS HB3
        obtain ⟨k, hk, rfl, hown, hrs, hob, hsz, hbl⟩ := hrel
        have hul := reachUp_le fs a k
        by_cases hkn : k < nn
        · obtain ⟨b, off, bv, hAs, hbB, _, hgs, hcs2⟩ := hrs.val hkn
          subst hAs
          have hsk := HSV.out k hkn
          rw [bls_get hsk] at hgs
          injection hgs with hgs
          subst hgs
          have hlow : w.heap.size + 1 < w2.heap.size := by omega
          have HRS := Lib.hid hrs
          have HO := Lib.hid hown
          have HOB := Lib.hid hob
          cases hrv : rchB fs (a : Int) (k : Int) with
          | true =>
            have HU2 := Lib.hid (reachUp_yes hrv)
            rw [hrv] at hcs2
            clear hrv hsk hrs hown hob
            go_wp2_with (at_builtin; refine wpList_append_own_at _ rfl _ _ 29 rfl (w.heap.size + 1) 3 i0 (.int .i64 0) 1 8 Try.underlying29 hi0 hz0 hz1 hz2 rfl (by decide) _ _ _ rfl (HO.out.alloc _) ⟨wr.heap.size, 0, none⟩ 1 1 [.int .i64 (k : Int)] rfl rfl (cell_one_new _ _ _) ?c2 ?c3 ?c4 ?c5 ?_)
            case c2 => intro u hu; simp at hu; subst hu; rfl
            case c3 => unfold maxLen; omega
            case c4 => omega
            case c5 => simp; omega
            intro v' w4 hown4 hg4 _ hloc
            have hbl4 := (up_alloc hbl (.cells #[.int .i64 (k : Int)] 3)).grown hg4 (up_alloc hbl (.cells #[.int .i64 (k : Int)] 3)).size (fun j hj => by have := ((HO.out).lt j hj).1; omega)
            have hs4 : wr.heap.size + 1 ≤ w4.heap.size := by have := hg4.size; simpa using this
            have hrs4 := (HRS.out.keep (up_alloc (Below.refl _ wr) (.cells #[.int .i64 (k : Int)] 3)) hsz).far hg4 (by simp; omega) (fun g hg => by have := HOB.out g hg; omega)
            have HOB4 : Hid (∀ g, v'.ownBlock = some g → g = w.heap.size + 1 ∨ w3.heap.size ≤ g) := fun g hg => by
              rcases hloc with h1 | h1
              · rw [h1] at hg; exact HOB.out g hg
              · rw [h1] at hg
                simp at hg
                omega
            have HO4 := Lib.hid hown4
            have HRS4 := Lib.hid hrs4
            clear hown4 hg4 hbl HO hrs4 HRS HOB hloc
            go_wp2
            go_roundw
            case rel =>
              refine ⟨k + 1, by omega, by go_num, ?_, HRS4.out, HOB4.out, by omega, hbl4⟩
              rw [HU2.out, ivs_append, List.length_append]
              exact HO4.out
            case measure => simp [intOf]; omega
          | false =>
            have HU2 := Lib.hid (reachUp_no hrv)
            rw [hrv] at hcs2
            clear hrv hsk hrs hown hob
            go_wp2
            go_roundw
            case rel => exact ⟨k + 1, by omega, by go_num, by rw [HU2.out]; exact HO.out, HRS.out, HOB.out, hsz, hbl⟩
            case measure => simp [intOf]; omega
        · obtain rfl : k = nn := by omega
          have HO := Lib.hid hown
          clear hown hrs hob
          go_wp2
          go_ret
          rw [HU.out, HL.out]
          exact Fresh.of_base HO.out hbl (by omega)
  · have hV' : vProc ns fs = false := by simpa using hV
    have HU : Hid (reachOf ns fs = []) := by simp [Hid, reachOf, hV']
    rw [hV']; clear hV hV' hbp2
    go_wp2
    go_ret
    rw [HU.out]
    exact Fresh.nil 1 hb02
end Go.Proofs.Ythlcbdjjegageaa
