/- impl.Reachable, impl.HasCircle. -/
import Derived.Test.YthlcbdjjegageaaProcBehind
namespace Go.Proofs.Ythlcbdjjegageaa
open Go.RowKit

theorem startAt_in {ns : List (Int × Int)} {fs : List Flw} (h : vProc ns fs = true) : 0 ≤ startAt ns 0 ∧ startAt ns 0 < (ns.length : Int) := by
  obtain ⟨j, y, e, hs⟩ := startAt_spec ns 0 (by rw [vProc_starts h]; exact Nat.le_refl _)
  have := (List.getElem?_eq_some_iff.1 e).1
  omega
theorem rch_eq (fs : List Flw) (a : Int) (i : Int) : rchB fs a i = (i == a || rch1B fs a i) := by
  rw [Bool.eq_iff_iff]
  simp only [Bool.or_eq_true, beq_iff_eq, rchB_iff, rch1B_iff]
  constructor
  · intro h
    rcases h.cases' with h | h
    · exact .inl h.symm
    · exact .inr h
  · rintro (rfl | h)
    · exact .refl
    · exact h.rch

set_option maxRecDepth 100000 in
set_option maxHeartbeats 3200000 in
theorem ReachableI_any (lo hi nn cn : Nat) (An : Option Addr) (ns : List (Int × Int)) (lo' hi' n c : Nat) (A : Option Addr) (fs : List Flw) (w : World) (hrn : Rd w lo hi 2 An nn (pvs ns)) (hB : hi ≤ w.heap.size) (hnn : nn ≤ 1048576)
    (hr : Fls w lo' hi' A n fs) (hB' : hi' ≤ w.heap.size) (hn : n ≤ 1048576) :
    Calls Try.prog 27 #[.agg #[.slice An nn cn, .slice A n c]] w (Fresh (ivs (reachOf ns fs)) 1 (reachOf ns fs).length w) := by
  have hb1 := up_alloc (Below.refl _ w) (.cells #[.slice An nn cn, .slice A n c] 26)
  have hbp := Blk.new w 26 #[.slice An nn cn, .slice A n c]
  have hs0 := hbp.lt
  have HF := Lib.hid hr.1
  have HL := Lib.hid hrn.len2
  obtain ⟨i0, hi0, hz0, hz1, hz2⟩ := info_parts infoInt
  have HBP := Lib.hid hbp
  clear hbp
  go_enter Try.func27, Try.ntmps27
  go_wp2_with (fail)
  (with_reducible refine (ValidProcessI_any lo hi nn cn An ns lo' hi' n c A fs _ (hrn.keep hb1 hB) (Nat.le_trans hB hb1.size) hnn (hr.keep hb1 hB') (Nat.le_trans hB' hb1.size) hn).mono ?_)
  rintro e w1 ⟨rfl, hb2⟩
  have hbp2 := HBP.out.below hb2 hs0
  have hb02 := up hb1 hb2
  have hlt2 := hbp2.lt
  clear hb2
  by_cases hV : vProc ns fs = true
  · have HV := Lib.hid hV
    have hlen := vProc_len hV
    have h14 : n ≤ 14 := by have := HF.out; omega
    have hst := startAt_in hV
    have HU := Lib.hid (reachOf_yes hV)
    rw [hV]
    have hd0 : w1.cell? ⟨w.heap.size, 0, none⟩ = some (.slice An nn cn) := hbp2.cell 0
    have hd1 : w1.cell? ⟨w.heap.size, 1, none⟩ = some (.slice A n c) := hbp2.cell 1
    clear hV hlen
    go_wp2_with (fail)
    (with_reducible refine (startI_any lo hi nn cn An ns (.slice A n c) w1 (hrn.keep hb02 hB) (Nat.le_trans hB hb02.size) hnn).mono ?_)
    rintro e w2 ⟨rfl, hb3⟩
    have hb03 := up hb02 hb3
    have hbp3 := hbp2.below hb3 hlt2
    have hlt3 := hbp3.lt
    have e0 : w2.cell? ⟨w.heap.size, 0, none⟩ = some (.slice An nn cn) := hbp3.cell 0
    have e1 : w2.cell? ⟨w.heap.size, 1, none⟩ = some (.slice A n c) := hbp3.cell 1
    generalize hsa : startAt ns 0 = sa at *
    obtain ⟨sa0, sa1⟩ := hst
    clear hb3 hd0 hd1 hbp2 hb02
    go_wp2_with (fail)
    (with_reducible refine (nodesBehind_any nn cn An lo' hi' n c A fs sa ns.length w2 (by have := HL.out; omega) (hr.keep hb03 hB') (Nat.le_trans hB' hb03.size) h14 (vProc_inside HV.out) ⟨sa0, sa1⟩).mono ?_)
    rintro e w3 ⟨M, m, rfl, hMlo, hmap, hb4⟩
    have hb04 := up hb03 hb4
    have hbp4 := hbp3.below hb4 hlt3
    have hlt4 := hbp4.lt
    have e0 : w3.cell? ⟨w.heap.size, 0, none⟩ = some (.slice An nn cn) := hbp4.cell 0
    have hM3 := hmap.lt
    have hsz4 := hb03.size
    have HMAP := Lib.hid hmap
    have HB4 := Lib.hid hb04
    have hw3 := hb4.size
    clear hb4 hbp3 hb03 hmap hb04 hbp4
    go_wp2
    go_loopw [5, 18] (fun ov iv wr => ∃ (k : Nat), k ≤ nn ∧ iv = .int .i64 k ∧ wr.ownsRow w3.heap.size 3 1 ov (reachUp fs sa k).length (ivs (reachUp fs sa k)) ∧ Below w3.heap.size w3 wr)
       (fun _ iv _ => nn - (intOf iv).toNat)
    case atStart => exact ⟨0, by omega, rfl, World.ownsRow_nil _ _ _ _, Below.refl _ _⟩
    case round =>
      obtain ⟨k, hk, rfl, hown, hbl⟩ := hrel
      have hsz := hbl.size
      have hul := reachUp_le fs sa k
      by_cases hkn : k < nn
      · have hk64 : in64 (k : Int) := by unfold in64; omega
        have hlb := (HMAP.out.keep hbl hM3).look keyedInt Try.underlying3 Try.underlying72 (zeroBool wr) hk64 rfl
        rw [foundAt_get] at hlb
        have hre := rch_eq fs sa (k : Int)
        cases hrv : rchB fs sa (k : Int) with
        | true =>
          have HU2 := Lib.hid (reachUp_yes hrv)
          rw [hrv] at hre
          have HO := Lib.hid hown
          by_cases hks : (k : Int) = sa
          · have hks1 : ((k : Int) == sa) = true := by simpa using hks
            clear hre hrv hks hown hlb
            go_wp2_with (at_builtin; refine wpList_append_own _ rfl _ _ 29 rfl w3.heap.size 3 i0 (.int .i64 0) 1 8 Try.underlying29 hi0 hz0 hz1 hz2 rfl (by decide) _ _ _ rfl (HO.out.alloc _) _ 1 1 [.int .i64 k] rfl rfl (cell_one_new _ _ _) ?c2 ?c3 ?c4 ?c5 ?_)
            case c2 => intro u hu; simp at hu; subst hu; rfl
            case c3 => unfold maxLen; omega
            case c4 => omega
            case c5 => simp; omega
            intro v' w4 hown4 hg4 _
            have hbl4 := up_grown (up_alloc hbl _) (HO.out.alloc _) hg4 (Nat.le_refl _)
            have HO4 := Lib.hid hown4
            clear hown4 hg4 hbl HO
            go_wp2
            go_roundw
            case rel =>
              refine ⟨k + 1, by omega, by go_num, ?_, hbl4⟩
              rw [HU2.out, ivs_append, List.length_append]
              exact HO4.out
            case measure => simp [intOf]; omega
          · have hks1 : ((k : Int) == sa) = false := by simpa using hks
            have hr1 : rch1B fs sa (k : Int) = true := by rw [hks1] at hre; simpa using hre.symm
            rw [hr1] at hlb
            clear hre hrv hks hown hr1
            go_wp2_with (at_builtin; refine wpList_append_own _ rfl _ _ 29 rfl w3.heap.size 3 i0 (.int .i64 0) 1 8 Try.underlying29 hi0 hz0 hz1 hz2 rfl (by decide) _ _ _ rfl (HO.out.alloc _) _ 1 1 [.int .i64 k] rfl rfl (cell_one_new _ _ _) ?c2 ?c3 ?c4 ?c5 ?_)
            case c2 => intro u hu; simp at hu; subst hu; rfl
            case c3 => unfold maxLen; omega
            case c4 => omega
            case c5 => simp; omega
            intro v' w4 hown4 hg4 _
            have hbl4 := up_grown (up_alloc hbl _) (HO.out.alloc _) hg4 (Nat.le_refl _)
            have HO4 := Lib.hid hown4
            clear hown4 hg4 hbl HO
            go_wp2
            go_roundw
            case rel =>
              refine ⟨k + 1, by omega, by go_num, ?_, hbl4⟩
              rw [HU2.out, ivs_append, List.length_append]
              exact HO4.out
            case measure => simp [intOf]; omega
        | false =>
          have HU2 := Lib.hid (reachUp_no hrv)
          rw [hrv] at hre
          have HO := Lib.hid hown
          have hks1 : ((k : Int) == sa) = false := by
            cases hb : ((k : Int) == sa) with
            | false => rfl
            | true => rw [hb] at hre; simp at hre
          have hr1 : rch1B fs sa (k : Int) = false := by rw [hks1] at hre; simpa using hre.symm
          rw [hr1] at hlb
          clear hre hrv hown hr1
          go_wp2
          go_roundw
          case rel => exact ⟨k + 1, by omega, by go_num, by rw [HU2.out]; exact HO.out, hbl⟩
          case measure => simp [intOf]; omega
      · obtain rfl : k = nn := by omega
        have HO := Lib.hid hown
        clear hown
        go_wp2
        go_ret
        rw [HU.out, HL.out]
        exact Fresh.of_base HO.out (HB4.out.trans (hbl.mono (by omega))) (by omega)
  · have hV' : vProc ns fs = false := by simpa using hV
    have HU : Hid (reachOf ns fs = []) := by simp [Hid, reachOf, hV']
    rw [hV']; clear hV hV' hbp2
    go_wp2
    go_ret
    rw [HU.out]
    exact Fresh.nil 1 hb02

theorem circUp_no {fs : List Flw} {k : Nat} (h : circUp fs k = false) (hr : rch1B fs (k : Int) (k : Int) = false) : circUp fs (k + 1) = false := by
  unfold circUp at h ⊢
  rw [List.range_succ, List.any_append, h]
  simp [hr]
theorem circUp_yes {fs : List Flw} {k N : Nat} (hr : rch1B fs (k : Int) (k : Int) = true) (hk : k < N) : circUp fs N = true := by
  unfold circUp
  exact List.any_eq_true.2 ⟨k, List.mem_range.2 hk, hr⟩

set_option maxRecDepth 100000 in
set_option maxHeartbeats 3200000 in
theorem HasCircleI_any (lo hi nn cn : Nat) (An : Option Addr) (ns : List (Int × Int)) (lo' hi' n c : Nat) (A : Option Addr) (fs : List Flw) (w : World) (hrn : Rd w lo hi 2 An nn (pvs ns)) (hB : hi ≤ w.heap.size) (hnn : nn ≤ 1048576)
    (hr : Fls w lo' hi' A n fs) (hB' : hi' ≤ w.heap.size) (hn : n ≤ 1048576) :
    Calls Try.prog 31 #[.agg #[.slice An nn cn, .slice A n c]] w fun e w' => e = .returned (.bool (circOf ns fs)) ∧ Below w.heap.size w w' := by
  have hb1 := up_alloc (Below.refl _ w) (.cells #[.slice An nn cn, .slice A n c] 26)
  have hbp := Blk.new w 26 #[.slice An nn cn, .slice A n c]
  have hs0 := hbp.lt
  have HF := Lib.hid hr.1
  have HL := Lib.hid hrn.len2
  have HBP := Lib.hid hbp
  clear hbp
  go_enter Try.func31, Try.ntmps31
  go_wp2_with (fail)
  (with_reducible refine (ValidProcessI_any lo hi nn cn An ns lo' hi' n c A fs _ (hrn.keep hb1 hB) (Nat.le_trans hB hb1.size) hnn (hr.keep hb1 hB') (Nat.le_trans hB' hb1.size) hn).mono ?_)
  rintro e w1 ⟨rfl, hb2⟩
  have hbp2 := HBP.out.below hb2 hs0
  have hb02 := up hb1 hb2
  have hlt2 := hbp2.lt
  clear hb2
  by_cases hV : vProc ns fs = true
  · have HV := Lib.hid hV
    have h14 : n ≤ 14 := by have := HF.out; have := vProc_len hV; omega
    have HU : Hid (circOf ns fs = circUp fs nn) := by rw [Hid, circOf, hV, HL.out]; rfl
    rw [hV]
    have hd0 : w1.cell? ⟨w.heap.size, 0, none⟩ = some (.slice An nn cn) := hbp2.cell 0
    have HBP2 := Lib.hid hbp2
    have HB2 := Lib.hid hb02
    clear hV hbp2 hb02
    go_wp2
    go_loopw [10] (fun iv wr => ∃ (k : Nat), k ≤ nn ∧ iv = .int .i64 k ∧ Hid (circUp fs k = false) ∧ Blk wr w.heap.size 26 #[.slice An nn cn, .slice A n c] ∧ Below w.heap.size w wr)
       (fun iv _ => nn - (intOf iv).toNat)
    case atStart => exact ⟨0, by omega, rfl, rfl, HBP2.out, HB2.out⟩
    case round =>
      clear HBP2 HB2 hd0
      obtain ⟨k, hk, rfl, hS, hblk, hbl⟩ := hrel
      have hlt := hblk.lt
      by_cases hkn : k < nn
      · have hk64 : in64 (k : Int) := by unfold in64; omega
        have e0 : wr.cell? ⟨w.heap.size, 0, none⟩ = some (.slice An nn cn) := hblk.cell 0
        have e1 : wr.cell? ⟨w.heap.size, 1, none⟩ = some (.slice A n c) := hblk.cell 1
        go_wp2_with (fail)
        (with_reducible refine (nodesBehind_any nn cn An lo' hi' n c A fs (k : Int) nn wr hnn (hr.keep hbl hB') (Nat.le_trans hB' hbl.size) h14 (by rw [← HL.out]; exact vProc_inside HV.out) ⟨by omega, by omega⟩).mono ?_)
        rintro e w3 ⟨M, m, rfl, hMlo, hmap, hb4⟩
        have hlb := hmap.look keyedInt Try.underlying3 Try.underlying72 (zeroBool w3) hk64 rfl
        rw [foundAt_get] at hlb
        have HB := Lib.hid (up hbl hb4)
        have HK := Lib.hid (hblk.below hb4 hlt)
        clear hmap hb4 hblk hbl e0 e1
        cases hrv : rch1B fs (k : Int) (k : Int) with
        | true =>
          have HC := Lib.hid (circUp_yes hrv hkn)
          rw [hrv] at hlb
          clear hrv
          go_wp2
          go_ret
          exact ⟨ret_bool (by rw [HU.out, HC.out]), HB.out⟩
        | false =>
          have HC := Lib.hid (circUp_no hS.out hrv)
          rw [hrv] at hlb
          clear hrv hS
          go_wp2
          go_roundw
          case rel => exact ⟨k + 1, by omega, by go_num, HC, HK.out, HB.out⟩
          case measure => simp [intOf]; omega
      · obtain rfl : k = nn := by omega
        clear hblk
        go_wp2
        go_ret
        exact ⟨ret_bool (by rw [HU.out, hS.out]), hbl⟩
  · have hV' : vProc ns fs = false := by simpa using hV
    have HU : Hid (circOf ns fs = false) := by simp [Hid, circOf, hV']
    rw [hV']; clear hV hV' hbp2
    go_wp2
    go_ret
    exact ⟨ret_bool HU.out.symm, hb02⟩
end Go.Proofs.Ythlcbdjjegageaa
