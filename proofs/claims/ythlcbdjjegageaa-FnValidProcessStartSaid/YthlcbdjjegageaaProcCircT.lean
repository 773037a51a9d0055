/- spec.HasCircle. -/
import Derived.Test.YthlcbdjjegageaaProcReachS
import Derived.Test.YthlcbdjjegageaaProcReachI
import Derived.Deep.RegionLaw
namespace Go.Proofs.Ythlcbdjjegageaa
open Go.RowKit

theorem backUp_yes {fs : List Flw} {k : Nat} {f : Flw} (hg : fs[k]? = some f) (hr : rchB fs f.2.1 f.1 = true) : backUp fs fs.length = true := by
  unfold backUp
  rw [List.take_length]
  exact List.any_eq_true.2 ⟨f, List.mem_of_getElem? hg, hr⟩
theorem backUp_no {fs : List Flw} {k : Nat} {f : Flw} (hg : fs[k]? = some f) (h : backUp fs k = false) (hr : rchB fs f.2.1 f.1 = false) : backUp fs (k + 1) = false := by
  unfold backUp at h ⊢
  rw [take_snoc hg, List.any_append, h]
  simp [hr]

set_option maxRecDepth 100000 in
set_option maxHeartbeats 3200000 in
theorem HasCircleS_any (lo hi nn cn : Nat) (An : Option Addr) (ns : List (Int × Int)) (lo' hi' n c : Nat) (A : Option Addr) (fs : List Flw) (w : World) (hrn : Rd w lo hi 2 An nn (pvs ns)) (hB : hi ≤ w.heap.size) (hnn : nn ≤ 1048576)
    (hr : Fls w lo' hi' A n fs) (hB' : hi' ≤ w.heap.size) (hn : n ≤ 1048576) :
    Calls Try.prog 32 #[.agg #[.slice An nn cn, .slice A n c]] w fun e w' => e = .returned (.bool (circOf ns fs)) ∧ Below w.heap.size w w' := by
  have hb1 := up_alloc (Below.refl _ w) (.cells #[.slice An nn cn, .slice A n c] 26)
  have hbp := Blk.new w 26 #[.slice An nn cn, .slice A n c]
  have hs0 := hbp.lt
  have HF := Lib.hid hr.1
  have HL := Lib.hid hrn.len2
  have HBP := Lib.hid hbp
  clear hbp
  go_enter Try.func32, Try.ntmps32
  go_wp2_with (fail)
  (with_reducible refine (validProcessS_any lo hi nn cn An ns lo' hi' n c A fs _ (hrn.keep hb1 hB) (Nat.le_trans hB hb1.size) hnn (hr.keep hb1 hB') (Nat.le_trans hB' hb1.size) hn).mono ?_)
  rintro e w1 ⟨rfl, hb2⟩
  have hbp2 := HBP.out.below hb2 hs0
  have hb02 := up hb1 hb2
  clear hb2
  by_cases hV : vProc ns fs = true
  · have HV := Lib.hid hV
    have HU : Hid (circOf ns fs = backUp fs fs.length) := by rw [Hid, circOf, hV, circ_back (vProc_inside hV)]; rfl
    have HIN : Hid (Inside fs nn) := by have := vProc_inside hV; rw [HL.out] at this; exact this
    rw [hV]
    have HBP2 := Lib.hid hbp2
    have HB2 := Lib.hid hb02
    clear hV hbp2 hb02
    go_wp2
    go_loopw [3] (fun iv wr => ∃ (k : Nat), k ≤ n ∧ iv = .int .i64 k ∧ Hid (backUp fs k = false) ∧ Blk wr w.heap.size 26 #[.slice An nn cn, .slice A n c] ∧ Below w.heap.size w wr)
       (fun iv _ => n - (intOf iv).toNat)
    case atStart => exact ⟨0, by omega, rfl, rfl, HBP2.out, HB2.out⟩
    case round =>
      clear HBP2 HB2
      obtain ⟨k, hk, rfl, hS, hblk, hbl⟩ := hrel
      have hlt := hblk.lt
      have e0 : wr.cell? ⟨w.heap.size, 0, none⟩ = some (.slice An nn cn) := hblk.cell 0
      have e1 : wr.cell? ⟨w.heap.size, 1, none⟩ = some (.slice A n c) := hblk.cell 1
      by_cases hkn : k < n
      · obtain ⟨b, off, x, y, ps, A', m, c', hA, hbB, _, hg, hx, hy, hz, _, _⟩ := (hr.keep hbl hB').at hkn
        subst hA
        obtain ⟨hi1, hi2, hi3, hi4⟩ := HIN.out _ (List.mem_of_getElem? hg)
        simp only at hi1 hi2 hi3 hi4
        obtain ⟨kx, rfl⟩ := Int.eq_ofNat_of_zero_le hi1
        obtain ⟨ky, rfl⟩ := Int.eq_ofNat_of_zero_le hi3
        have hkx : kx < nn := by omega
        have hky : ky < nn := by omega
        have HC := Lib.hid (reachS_any nn cn An lo' hi' n c (some ⟨b, off, none⟩) fs ky wr.drew hnn (hr.keep (up_drew hbl) hB') (Nat.le_trans hB' hbl.size) hn HIN.out hky)
        have Hg := Lib.hid hg
        have hsz := hbl.size
        have hk0 : (0 : Int) ≤ (k : Int) := by omega
        have hk1 : (k : Int) < (n : Int) := by omega
        have hx0 : (0 : Int) ≤ (kx : Int) := by omega
        clear hg hz
        go_wp2
        have HX := Lib.hid (show ∀ w3 : World, Below wr.drew.heap.size wr.drew w3 → w3.cell? ⟨w.heap.size, 1, none⟩ = some (.slice (some ⟨b, off, none⟩) n c) ∧ w3.cell? ⟨b, off + k * 3, none⟩ = some (.int .i64 (kx : Int)) from
          fun w3 hb4 => ⟨(hb4.cell (p := ⟨w.heap.size, 1, none⟩) (by show w.heap.size < wr.heap.size; omega)).trans e1, (hb4.cell (p := ⟨b, off + k * 3, none⟩) (by show b < wr.heap.size; omega)).trans hx⟩)
        have HV3 := Lib.hid (show ∀ (s : List Bool) (As : Option Addr) (w3 : World), (∀ i : Nat, i < nn → s[i]? = some (rchB fs (ky : Int) (i : Int))) → Rd w3 wr.drew.heap.size w3.heap.size 1 As nn (bls s) → ∃ bs os, As = some ⟨bs, os, none⟩ ∧ w3.cell? ⟨bs, os + kx, none⟩ = some (.bool (rchB fs (ky : Int) (kx : Int))) from by
          intro s As w3 hsv hrs
          obtain ⟨bs, os, vs, hAs, _, _, hgs, hcc⟩ := hrs.val hkx
          rw [bls_get (hsv kx hkx)] at hgs
          have hvs := Option.some.inj hgs
          rw [← hvs] at hcc
          exact ⟨bs, os, hAs, hcc⟩)
        have hcap : (kx : Int) < (nn : Int) := by omega
        go_region_law (go_simp; refine HC.out.mono ?_; rintro e w3 ⟨s, _, hsv, As, cs, rfl, _, hrs, _, hb4⟩; obtain ⟨bs, os, rfl, hcc⟩ := HV3.out s As w3 hsv hrs; obtain ⟨g1, gx⟩ := HX.out w3 hb4)
        all_goals
          have HB4 := Lib.hid (up (up_drew hbl) hb4)
          have HK4 := Lib.hid (hblk.drew.below hb4 hlt)
          clear hb4 hblk
          cases hrv : rchB fs (ky : Int) (kx : Int) with
          | true =>
            have HC2 := Lib.hid (backUp_yes Hg.out hrv)
            clear hrv
            go_wp2
            go_ret
            exact ⟨ret_bool (by rw [HU.out, HC2.out]), HB4.out⟩
          | false =>
            have HC2 := Lib.hid (backUp_no Hg.out hS.out hrv)
            clear hrv hS
            go_wp2
            go_roundw
            case rel => exact ⟨k + 1, by omega, by go_num, HC2, HK4.out, HB4.out⟩
            case measure => simp [intOf]; omega
      · obtain rfl : k = n := by omega
        clear hblk
        go_wp2
        go_ret
        exact ⟨ret_bool (by rw [HU.out, HF.out, hS.out]), hbl⟩
  · have hV' : vProc ns fs = false := by simpa using hV
    have HU : Hid (circOf ns fs = false) := by simp [Hid, circOf, hV']
    rw [hV']; clear hV hV' hbp2
    go_wp2
    go_ret
    exact ⟨ret_bool HU.out.symm, hb02⟩
end Go.Proofs.Ythlcbdjjegageaa
