/- Merged: ProcReachS, ProcReachT, ProcCircT. -/
import Derived.Test.YtonlkodenfiljaaProcOutS
import Derived.Test.YtonlkodenfiljaaStartA
import Derived.Test.YtonlkodenfiljaaProcReachA
import Derived.Laws.OwnMore
import Derived.Deep.RegionHeld3
import Derived.Maps.AppendAt
import Derived.Deep.RegionLaw
/- spec.reach: which nodes flows lead to. -/
set_option linter.unusedSimpArgs false
set_option linter.unusedVariables false
namespace Go.Proofs.Ytonlkodenfiljaa
open Go.RowKit

theorem infoBool : (Try.prog.info? 4).map (fun i => (i.zero, i.size, i.bytes)) = some (some (.bool false), 1, 1) := by kernel_rfl
def bls (s : List Bool) : List Value := s.map Value.bool
theorem bls_length (s : List Bool) : (bls s).length = s.length := by simp [bls]
theorem bls_set (s : List Bool) (i : Nat) (b : Bool) : (bls s).set i (.bool b) = bls (s.set i b) := by simp [bls, List.map_set]
theorem bls_get {s : List Bool} {i : Nat} {b : Bool} (h : s[i]? = some b) : (bls s)[i]? = some (.bool b) := by simp [bls, h]
/-- A list of what is reachable from a, in memory of its own. -/
def Reached (fs : List Flw) (a : Int) (nn : Nat) (w : World) (e : Ending) (w' : World) : Prop :=
  ∃ s : List Bool, s.length = nn ∧ (∀ i : Nat, i < nn → s[i]? = some (rchB fs a (i : Int))) ∧ Fresh (bls s) 1 nn w e w'

set_option maxRecDepth 100000 in
set_option maxHeartbeats 1600000 in
theorem reachS_any (nn cn : Nat) (An : Option Addr) (lo' hi' n c : Nat) (A : Option Addr) (fs : List Flw) (a : Nat) (w : World) (hnn : nn ≤ 1048576)
    (hr : Fls w lo' hi' A n fs) (hB' : hi' ≤ w.heap.size) (hn : n ≤ 1048576) (hin : Inside fs nn) (ha : a < nn) :
    Calls Try.prog 42 #[.agg #[.slice An nn cn, .slice A n c], .int .i64 (a : Int)] w (Reached fs (a : Int) nn w) := by
  have HF := Lib.hid hr.1
  have HIN := Lib.hid hin
  have hb1 := up_alloc (Below.refl _ w) (.cells #[.slice An nn cn, .slice A n c] 26)
  have hblk1 := Blk.new w 26 #[.slice An nn cn, .slice A n c]
  have e1 : (w.alloc (.cells #[.slice An nn cn, .slice A n c] 26)).heap.size = w.heap.size + 1 := by simp
  obtain ⟨i0, hi0, hz0, hz1, hz2⟩ := info_parts infoBool
  obtain ⟨wm, hmk, hown, hgr⟩ := run_make_full (P := Try.prog) (w.alloc (.cells #[.slice An nn cn, .slice A n c] 26)) (w.heap.size + 1) 64 4 i0 _ 1 Try.underlying64 hi0 hz0 hz1 .i64 .i64 nn (by rw [hz2]; omega) (by unfold maxLen; omega) (by rw [e1]; exact Nat.le_refl _)
  have hbm := hb1.grown hgr (by rw [e1]; omega) (by simp)
  have hblkm := hblk1.grown hgr (by simp)
  rw [e1] at hown hmk
  have hsm : w.heap.size + 1 + 1 ≤ wm.heap.size := by
    rcases hown.2 with ⟨hv, _⟩ | ⟨g, cap, cur, hv, _, hh, _⟩
    · cases hv
    · injection hv with hv; injection hv with hv; injection hv with hv
      subst hv
      have := (Array.getElem?_eq_some_iff.1 hh).1
      omega
  have hcell0 : (madeCells (Value.bool false).cells (nn * 1)).toList = bls (List.replicate nn false) := by
    show (madeCells #[.bool false] (nn * 1)).toList = _
    rw [toList_madeCells_one, Nat.mul_one]; simp [bls]
  rw [hcell0] at hown
  clear hcell0 hgr hi0 hz0 hz1 hz2 e1 hblk1 hb1
  have hda := hown.cellAt a (by omega)
  rw [bls_get (b := false) (by rw [List.getElem?_replicate, if_pos ha])] at hda
  have hfa := hown.frozenAt a
  have hst := (hown.stored a (.bool true)).1
  rw [bls_set] at hst
  have hsw := Sweep.start (fs := fs) (a := (a : Int)) (N := nn) (by omega)
  rw [Int.toNat_natCast] at hsw
  have HST := Lib.hid hst
  have HSW := Lib.hid hsw
  have HBM := Lib.hid (hbm.setCell (p := ⟨w.heap.size + 1, a, none⟩) (by show _ ≤ w.heap.size + 1; omega) (.bool true))
  have HKM := Lib.hid (hblkm.far (p := ⟨w.heap.size + 1, a, none⟩) (by simp) (.bool true))
  have ha0 : (0 : Int) ≤ (a : Int) := by omega
  have han : (a : Int) < (nn : Int) := by omega
  clear hst hsw hbm hblkm hown hin
  go_enter Try.func42, Try.ntmps42
  go_wp2
  clear hmk hda hfa
  go_loopw [6] (fun rv wr => ∃ (k : Nat) (s : List Bool), k ≤ nn ∧ rv = .int .i64 k ∧ wr.ownsRow (w.heap.size + 1) 4 1 (.slice (some ⟨w.heap.size + 1, 0, none⟩) nn nn) nn (bls s) ∧ Sweep fs (a : Int) nn k 0 s ∧
       Blk wr w.heap.size 26 #[.slice An nn cn, .slice A n c] ∧ Below w.heap.size w wr)
     (fun rv _ => nn - (intOf rv).toNat)
  case atStart => exact ⟨0, _, by omega, rfl, HST.out, HSW.out, HKM.out, HBM.out⟩
  case round =>
    clear HST HSW HKM HBM
    obtain ⟨k, s, hk, rfl, hown, hsw, hblk, hbl⟩ := hrel
    have hszp := hblk.lt
    have hd0 : wr.cell? ⟨w.heap.size, 0, none⟩ = some (.slice An nn cn) := hblk.cell 0
    by_cases hkn : k < nn
    · have HO := Lib.hid hown
      have HW := Lib.hid hsw
      have HK := Lib.hid hblk
      clear hown hsw hblk
      go_wp2
      go_loopw [7] (fun iv wq => ∃ (j : Nat) (s : List Bool), j ≤ n ∧ iv = .int .i64 j ∧ wq.ownsRow (w.heap.size + 1) 4 1 (.slice (some ⟨w.heap.size + 1, 0, none⟩) nn nn) nn (bls s) ∧ Sweep fs (a : Int) nn k j s ∧
           Blk wq w.heap.size 26 #[.slice An nn cn, .slice A n c] ∧ Below w.heap.size w wq)
         (fun iv _ => n - (intOf iv).toNat)
      case atStart => exact ⟨0, s, by omega, rfl, HO.out, HW.out, HK.out, hbl⟩
      case round =>
        clear HO HW HK hbl hd0
        obtain ⟨j, s, hj, rfl, hown, hsw, hblk, hbl⟩ := hrel
        have hszq := hblk.lt
        have hd1 : wr.cell? ⟨w.heap.size, 1, none⟩ = some (.slice A n c) := hblk.cell 1
        by_cases hjn : j < n
        · obtain ⟨b, off, x, y, ps, A', m, c', hA, hbB, _, hg, hx, hy, hz, _, _⟩ := (hr.keep hbl hB').at hjn
          subst hA
          have hins := HIN.out _ (List.mem_of_getElem? hg)
          obtain ⟨hi1, hi2, hi3, hi4⟩ := hins
          simp only at hi1 hi2 hi3 hi4
          obtain ⟨kx, rfl⟩ := Int.eq_ofNat_of_zero_le hi1
          obtain ⟨ky, rfl⟩ := Int.eq_ofNat_of_zero_le hi3
          have hlen := hsw.len
          have hkx : kx < nn := by omega
          have hky : ky < nn := by omega
          have hne : b ≠ w.heap.size + 1 := by omega
          have hstep := hsw.step HIN.out hg
          obtain ⟨bx, hbx⟩ : ∃ bx, s[kx]? = some bx := ⟨_, List.getElem?_eq_getElem (by omega)⟩
          have hcx := hown.cellAt kx (by omega)
          rw [bls_get hbx] at hcx
          cases bx with
          | true =>
            have hrel : relax s ((kx : Int), (ky : Int), ps) = s.set ky true := by simp [relax, hbx]
            rw [hrel] at hstep
            obtain ⟨by', hby⟩ : ∃ by', s[ky]? = some by' := ⟨_, List.getElem?_eq_getElem (by omega)⟩
            have hcy := hown.cellAt ky (by omega)
            rw [bls_get hby] at hcy
            have hfy := hown.frozenAt ky
            have hst := (hown.stored ky (.bool true)).1
            rw [bls_set] at hst
            have HST := Lib.hid hst
            have HSW := Lib.hid hstep
            have HBM := Lib.hid (hbl.setCell (p := ⟨w.heap.size + 1, ky, none⟩) (by show _ ≤ w.heap.size + 1; omega) (.bool true))
            have HKM := Lib.hid (hblk.far (p := ⟨w.heap.size + 1, ky, none⟩) (by simp) (.bool true))
            clear hst hstep hrel hown hsw hblk hbl hg hbx hby hlen hz
            go_wp2
            go_roundw
            case rel => exact ⟨j + 1, _, by omega, by go_num, HST.out, HSW.out, HKM.out, HBM.out⟩
            case measure => simp [intOf]; omega
          | false =>
            have hrel : relax s ((kx : Int), (ky : Int), ps) = s := by simp [relax, hbx]
            rw [hrel] at hstep
            have HST := Lib.hid hown
            have HSW := Lib.hid hstep
            have HKM := Lib.hid hblk
            clear hstep hrel hown hsw hblk hg hbx hlen hz hy
            go_wp2
            go_roundw
            case rel => exact ⟨j + 1, _, by omega, by go_num, HST.out, HSW.out, HKM.out, hbl⟩
            case measure => simp [intOf]; omega
        · obtain rfl : j = n := by omega
          have hnext : Sweep fs (a : Int) nn (k + 1) 0 s := by
            have := hsw
            rw [← HF.out] at this
            exact this.round
          have HST := Lib.hid hown
          have HSW := Lib.hid hnext
          have HKM := Lib.hid hblk
          clear hown hsw hblk hnext
          go_wp2
          go_roundw
          case rel => exact ⟨k + 1, s, by omega, by go_num, HST.out, HSW.out, HKM.out, hbl⟩
          case measure => simp [intOf]; omega
    · obtain rfl : k = nn := by omega
      have HO := Lib.hid hown
      have HD : Hid (∀ i : Nat, i < k → s[i]? = some (rchB fs (a : Int) (i : Int))) := fun i hi => hsw.done HIN.out (by omega) hi
      have HLEN := Lib.hid hsw.len
      clear hown hsw hblk
      go_wp2
      go_ret
      refine ⟨s, HLEN.out, HD.out, ?_⟩
      exact ⟨_, _, rfl, Nat.le_refl _, (Rd.of_own HO.out).wide (by omega) (Nat.le_refl _), Soft.of_own HO.out, hbl⟩
end Go.Proofs.Ytonlkodenfiljaa


/- spec.Reachable. -/
namespace Go.Proofs.Ytonlkodenfiljaa
open Go.RowKit

end Go.Proofs.Ytonlkodenfiljaa


/- spec.HasCircle. -/
namespace Go.Proofs.Ytonlkodenfiljaa
open Go.RowKit

theorem backUp_yes {fs : List Flw} {k : Nat} {f : Flw} (hg : fs[k]? = some f) (hr : rchB fs f.2.1 f.1 = true) : backUp fs fs.length = true := by
  unfold backUp
  rw [List.take_length]
  exact List.any_eq_true.2 ⟨f, List.mem_of_getElem? hg, hr⟩
theorem backUp_no {fs : List Flw} {k : Nat} {f : Flw} (hg : fs[k]? = some f) (h : backUp fs k = false) (hr : rchB fs f.2.1 f.1 = false) : backUp fs (k + 1) = false := by
  unfold backUp at h ⊢
  rw [take_snoc hg, List.any_append, h]
  simp [hr]

set_option maxRecDepth 100000 in
set_option maxHeartbeats 3200000 in
theorem HasCircleS_any (lo hi nn cn : Nat) (An : Option Addr) (ns : List (Int × Int)) (lo' hi' n c : Nat) (A : Option Addr) (fs : List Flw) (w : World) (hrn : Rd w lo hi 2 An nn (pvs ns)) (hB : hi ≤ w.heap.size) (hnn : nn ≤ 1048576)
    (hr : Fls w lo' hi' A n fs) (hB' : hi' ≤ w.heap.size) (hn : n ≤ 1048576) :
    Calls Try.prog 21 #[.agg #[.slice An nn cn, .slice A n c]] w fun e w' => e = .returned (.bool (circOf ns fs)) ∧ Below w.heap.size w w' := by
  have hb1 := up_alloc (Below.refl _ w) (.cells #[.slice An nn cn, .slice A n c] 26)
  have hbp := Blk.new w 26 #[.slice An nn cn, .slice A n c]
  have hs0 := hbp.lt
  have HF := Lib.hid hr.1
  have HL := Lib.hid hrn.len2
  have HBP := Lib.hid hbp
  clear hbp
  go_enter Try.func21, Try.ntmps21
  go_wp2_with (fail)
  (with_reducible refine (validProcessS_any lo hi nn cn An ns lo' hi' n c A fs _ (hrn.keep hb1 hB) (Nat.le_trans hB hb1.size) hnn (hr.keep hb1 hB') (Nat.le_trans hB' hb1.size) hn).mono ?_)
  rintro e w1 ⟨rfl, hb2⟩
  have hbp2 := HBP.out.below hb2 hs0
  have hb02 := up hb1 hb2
  clear hb2
  by_cases hV : vProc ns fs = true
  · have HV := Lib.hid hV
    have HU : Hid (circOf ns fs = backUp fs fs.length) := by rw [Hid, circOf, hV, circ_back (vProc_inside hV)]; rfl
    have HIN : Hid (Inside fs nn) := by have := vProc_inside hV; rw [HL.out] at this; exact this
    rw [hV]
    have HBP2 := Lib.hid hbp2
    have HB2 := Lib.hid hb02
    clear hV hbp2 hb02
    go_wp2
    go_loopw [3] (fun iv wr => ∃ (k : Nat), k ≤ n ∧ iv = .int .i64 k ∧ Hid (backUp fs k = false) ∧ Blk wr w.heap.size 26 #[.slice An nn cn, .slice A n c] ∧ Below w.heap.size w wr)
       (fun iv _ => n - (intOf iv).toNat)
    case atStart => exact ⟨0, by omega, rfl, rfl, HBP2.out, HB2.out⟩
    case round =>
      clear HBP2 HB2
      obtain ⟨k, hk, rfl, hS, hblk, hbl⟩ := hrel
      have hlt := hblk.lt
      have e0 : wr.cell? ⟨w.heap.size, 0, none⟩ = some (.slice An nn cn) := hblk.cell 0
      have e1 : wr.cell? ⟨w.heap.size, 1, none⟩ = some (.slice A n c) := hblk.cell 1
      by_cases hkn : k < n
      · obtain ⟨b, off, x, y, ps, A', m, c', hA, hbB, _, hg, hx, hy, hz, _, _⟩ := (hr.keep hbl hB').at hkn
        subst hA
        obtain ⟨hi1, hi2, hi3, hi4⟩ := HIN.out _ (List.mem_of_getElem? hg)
        simp only at hi1 hi2 hi3 hi4
        obtain ⟨kx, rfl⟩ := Int.eq_ofNat_of_zero_le hi1
        obtain ⟨ky, rfl⟩ := Int.eq_ofNat_of_zero_le hi3
        have hkx : kx < nn := by omega
        have hky : ky < nn := by omega
        have HC := Lib.hid (reachS_any nn cn An lo' hi' n c (some ⟨b, off, none⟩) fs ky wr.drew hnn (hr.keep (up_drew hbl) hB') (Nat.le_trans hB' hbl.size) hn HIN.out hky)
        have Hg := Lib.hid hg
        have hsz := hbl.size
        have hk0 : (0 : Int) ≤ (k : Int) := by omega
        have hk1 : (k : Int) < (n : Int) := by omega
        have hx0 : (0 : Int) ≤ (kx : Int) := by omega
        clear hg hz
        go_wp2
        have HX := Lib.hid (show ∀ w3 : World, Below wr.drew.heap.size wr.drew w3 → w3.cell? ⟨w.heap.size, 1, none⟩ = some (.slice (some ⟨b, off, none⟩) n c) ∧ w3.cell? ⟨b, off + k * 3, none⟩ = some (.int .i64 (kx : Int)) from
          fun w3 hb4 => ⟨(hb4.cell (p := ⟨w.heap.size, 1, none⟩) (by show w.heap.size < wr.heap.size; omega)).trans e1, (hb4.cell (p := ⟨b, off + k * 3, none⟩) (by show b < wr.heap.size; omega)).trans hx⟩)
        have HV3 := Lib.hid (show ∀ (s : List Bool) (As : Option Addr) (w3 : World), (∀ i : Nat, i < nn → s[i]? = some (rchB fs (ky : Int) (i : Int))) → Rd w3 wr.drew.heap.size w3.heap.size 1 As nn (bls s) → ∃ bs os, As = some ⟨bs, os, none⟩ ∧ w3.cell? ⟨bs, os + kx, none⟩ = some (.bool (rchB fs (ky : Int) (kx : Int))) from by
          intro s As w3 hsv hrs
          obtain ⟨bs, os, vs, hAs, _, _, hgs, hcc⟩ := hrs.val hkx
          rw [bls_get (hsv kx hkx)] at hgs
          have hvs := Option.some.inj hgs
          rw [← hvs] at hcc
          exact ⟨bs, os, hAs, hcc⟩)
        have hcap : (kx : Int) < (nn : Int) := by omega
        go_region_law (go_simp; refine HC.out.mono ?_; rintro e w3 ⟨s, _, hsv, As, cs, rfl, _, hrs, _, hb4⟩; obtain ⟨bs, os, rfl, hcc⟩ := HV3.out s As w3 hsv hrs; obtain ⟨g1, gx⟩ := HX.out w3 hb4)
        all_goals
          have HB4 := Lib.hid (up (up_drew hbl) hb4)
          have HK4 := Lib.hid (hblk.drew.below hb4 hlt)
          clear hb4 hblk
          cases hrv : rchB fs (ky : Int) (kx : Int) with
          | true =>
            have HC2 := Lib.hid (backUp_yes Hg.out hrv)
            clear hrv
            go_wp2
            go_ret
            exact ⟨ret_bool (by rw [HU.out, HC2.out]), HB4.out⟩
          | false =>
            have HC2 := Lib.hid (backUp_no Hg.out hS.out hrv)
            clear hrv hS
            go_wp2
            go_roundw
            case rel => exact ⟨k + 1, by omega, by go_num, HC2, HK4.out, HB4.out⟩
            case measure => simp [intOf]; omega
      · obtain rfl : k = n := by omega
        clear hblk
        go_wp2
        go_ret
        exact ⟨ret_bool (by rw [HU.out, HF.out, hS.out]), hbl⟩
  · have hV' : vProc ns fs = false := by simpa using hV
    have HU : Hid (circOf ns fs = false) := by simp [Hid, circOf, hV']
    rw [hV']; clear hV hV' hbp2
    go_wp2
    go_ret
    exact ⟨ret_bool HU.out.symm, hb02⟩
end Go.Proofs.Ytonlkodenfiljaa

