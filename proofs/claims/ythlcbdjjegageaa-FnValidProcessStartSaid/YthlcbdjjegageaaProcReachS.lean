/- spec.reach: which nodes flows lead to. -/
import Derived.Test.YthlcbdjjegageaaProcOutS
import Derived.Test.YthlcbdjjegageaaStartMath
import Derived.Laws.OwnMore
namespace Go.Proofs.Ythlcbdjjegageaa
open Go.RowKit

theorem infoBool : (Try.prog.info? 4).map (fun i => (i.zero, i.size, i.bytes)) = some (some (.bool false), 1, 1) := by kernel_rfl
def bls (s : List Bool) : List Value := s.map Value.bool
theorem bls_length (s : List Bool) : (bls s).length = s.length := by simp [bls]
theorem bls_set (s : List Bool) (i : Nat) (b : Bool) : (bls s).set i (.bool b) = bls (s.set i b) := by simp [bls, List.map_set]
theorem bls_get {s : List Bool} {i : Nat} {b : Bool} (h : s[i]? = some b) : (bls s)[i]? = some (.bool b) := by simp [bls, h]
/-- A list of what is reachable from a, in memory of its own. -/
def Reached (fs : List Flw) (a : Int) (nn : Nat) (w : World) (e : Ending) (w' : World) : Prop :=
  ∃ s : List Bool, s.length = nn ∧ (∀ i : Nat, i < nn → s[i]? = some (rchB fs a (i : Int))) ∧ Fresh (bls s) 1 nn w e w'

set_option maxRecDepth 100000 in
set_option maxHeartbeats 1600000 in
theorem reachS_any (nn cn : Nat) (An : Option Addr) (lo' hi' n c : Nat) (A : Option Addr) (fs : List Flw) (a : Nat) (w : World) (hnn : nn ≤ 1048576)
    (hr : Fls w lo' hi' A n fs) (hB' : hi' ≤ w.heap.size) (hn : n ≤ 1048576) (hin : Inside fs nn) (ha : a < nn) :
    Calls Try.prog 61 #[.agg #[.slice An nn cn, .slice A n c], .int .i64 (a : Int)] w (Reached fs (a : Int) nn w) := by
  have HF := Lib.hid hr.1
  have HIN := Lib.hid hin
  have hb1 := up_alloc (Below.refl _ w) (.cells #[.slice An nn cn, .slice A n c] 26)
  have hblk1 := Blk.new w 26 #[.slice An nn cn, .slice A n c]
  have e1 : (w.alloc (.cells #[.slice An nn cn, .slice A n c] 26)).heap.size = w.heap.size + 1 := by simp
  obtain ⟨i0, hi0, hz0, hz1, hz2⟩ := info_parts infoBool
  obtain ⟨wm, hmk, hown, hgr⟩ := run_make_full (P := Try.prog) (w.alloc (.cells #[.slice An nn cn, .slice A n c] 26)) (w.heap.size + 1) 74 4 i0 _ 1 Try.underlying74 hi0 hz0 hz1 .i64 .i64 nn (by rw [hz2]; omega) (by unfold maxLen; omega) (by rw [e1]; exact Nat.le_refl _)
  have hbm := hb1.grown hgr (by rw [e1]; omega) (by simp)
  have hblkm := hblk1.grown hgr (by simp)
  rw [e1] at hown hmk
  have hsm : w.heap.size + 1 + 1 ≤ wm.heap.size := by
    rcases hown.2 with ⟨hv, _⟩ | ⟨g, cap, cur, hv, _, hh, _⟩
    · cases hv
    · injection hv with hv; injection hv with hv; injection hv with hv
      subst hv
      have := (Array.getElem?_eq_some_iff.1 hh).1
      omega
  have hcell0 : (madeCells (Value.bool false).cells (nn * 1)).toList = bls (List.replicate nn false) := by
    show (madeCells #[.bool false] (nn * 1)).toList = _
    rw [toList_madeCells_one, Nat.mul_one]; simp [bls]
  rw [hcell0] at hown
  clear hcell0 hgr hi0 hz0 hz1 hz2 e1 hblk1 hb1
  have hda := hown.cellAt a (by omega)
  rw [bls_get (b := false) (by rw [List.getElem?_replicate, if_pos ha])] at hda
  have hfa := hown.frozenAt a
  have hst := (hown.stored a (.bool true)).1
  rw [bls_set] at hst
  have hsw := Sweep.start (fs := fs) (a := (a : Int)) (N := nn) (by omega)
  rw [Int.toNat_natCast] at hsw
  have HST := Lib.hid hst
  have HSW := Lib.hid hsw
  have HBM := Lib.hid (hbm.setCell (p := ⟨w.heap.size + 1, a, none⟩) (by show _ ≤ w.heap.size + 1; omega) (.bool true))
  have HKM := Lib.hid (hblkm.far (p := ⟨w.heap.size + 1, a, none⟩) (by simp) (.bool true))
  have ha0 : (0 : Int) ≤ (a : Int) := by omega
  have han : (a : Int) < (nn : Int) := by omega
  clear hst hsw hbm hblkm hown hin
  go_enter Try.func61, Try.ntmps61
  go_wp2
  clear hmk hda hfa
  go_loopw [6] (fun rv wr => ∃ (k : Nat) (s : List Bool), k ≤ nn ∧ rv = .int .i64 k ∧ wr.ownsRow (w.heap.size + 1) 4 1 (.slice (some ⟨w.heap.size + 1, 0, none⟩) nn nn) nn (bls s) ∧ Sweep fs (a : Int) nn k 0 s ∧
       Blk wr w.heap.size 26 #[.slice An nn cn, .slice A n c] ∧ Below w.heap.size w wr)
     (fun rv _ => nn - (intOf rv).toNat)
  case atStart => exact ⟨0, _, by omega, rfl, HST.out, HSW.out, HKM.out, HBM.out⟩
  case round =>
    clear HST HSW HKM HBM
    obtain ⟨k, s, hk, rfl, hown, hsw, hblk, hbl⟩ := hrel
    have hszp := hblk.lt
    have hd0 : wr.cell? ⟨w.heap.size, 0, none⟩ = some (.slice An nn cn) := hblk.cell 0
    by_cases hkn : k < nn
    · have HO := Lib.hid hown
      have HW := Lib.hid hsw
      have HK := Lib.hid hblk
      clear hown hsw hblk
      go_wp2
      go_loopw [7] (fun iv wq => ∃ (j : Nat) (s : List Bool), j ≤ n ∧ iv = .int .i64 j ∧ wq.ownsRow (w.heap.size + 1) 4 1 (.slice (some ⟨w.heap.size + 1, 0, none⟩) nn nn) nn (bls s) ∧ Sweep fs (a : Int) nn k j s ∧
           Blk wq w.heap.size 26 #[.slice An nn cn, .slice A n c] ∧ Below w.heap.size w wq)
         (fun iv _ => n - (intOf iv).toNat)
      case atStart => exact ⟨0, s, by omega, rfl, HO.out, HW.out, HK.out, hbl⟩
      case round =>
        clear HO HW HK hbl hd0
        obtain ⟨j, s, hj, rfl, hown, hsw, hblk, hbl⟩ := hrel
        have hszq := hblk.lt
        have hd1 : wr.cell? ⟨w.heap.size, 1, none⟩ = some (.slice A n c) := hblk.cell 1
        by_cases hjn : j < n
        · obtain ⟨b, off, x, y, ps, A', m, c', hA, hbB, _, hg, hx, hy, hz, _, _⟩ := (hr.keep hbl hB').at hjn
          subst hA
          have hins := HIN.out _ (List.mem_of_getElem? hg)
          obtain ⟨hi1, hi2, hi3, hi4⟩ := hins
          simp only at hi1 hi2 hi3 hi4
          obtain ⟨kx, rfl⟩ := Int.eq_ofNat_of_zero_le hi1
          obtain ⟨ky, rfl⟩ := Int.eq_ofNat_of_zero_le hi3
          have hlen := hsw.len
          have hkx : kx < nn := by omega
          have hky : ky < nn := by omega
          have hne : b ≠ w.heap.size + 1 := by omega
          have hstep := hsw.step HIN.out hg
          obtain ⟨bx, hbx⟩ : ∃ bx, s[kx]? = some bx := ⟨_, List.getElem?_eq_getElem (by omega)⟩
          have hcx := hown.cellAt kx (by omega)
          rw [bls_get hbx] at hcx
          cases bx with
          | true =>
            have hrel : relax s ((kx : Int), (ky : Int), ps) = s.set ky true := by simp [relax, hbx]
            rw [hrel] at hstep
            obtain ⟨by', hby⟩ : ∃ by', s[ky]? = some by' := ⟨_, List.getElem?_eq_getElem (by omega)⟩
            have hcy := hown.cellAt ky (by omega)
            rw [bls_get hby] at hcy
            have hfy := hown.frozenAt ky
            have hst := (hown.stored ky (.bool true)).1
            rw [bls_set] at hst
            have HST := Lib.hid hst
            have HSW := Lib.hid hstep
            have HBM := Lib.hid (hbl.setCell (p := ⟨w.heap.size + 1, ky, none⟩) (by show _ ≤ w.heap.size + 1; omega) (.bool true))
            have HKM := Lib.hid (hblk.far (p := ⟨w.heap.size + 1, ky, none⟩) (by simp) (.bool true))
            clear hst hstep hrel hown hsw hblk hbl hg hbx hby hlen hz
            go_wp2
            go_roundw
            case rel => exact ⟨j + 1, _, by omega, by go_num, HST.out, HSW.out, HKM.out, HBM.out⟩
            case measure => simp [intOf]; omega
          | false =>
            have hrel : relax s ((kx : Int), (ky : Int), ps) = s := by simp [relax, hbx]
            rw [hrel] at hstep
            have HST := Lib.hid hown
            have HSW := Lib.hid hstep
            have HKM := Lib.hid hblk
            clear hstep hrel hown hsw hblk hg hbx hlen hz hy
            go_wp2
            go_roundw
            case rel => exact ⟨j + 1, _, by omega, by go_num, HST.out, HSW.out, HKM.out, hbl⟩
            case measure => simp [intOf]; omega
        · obtain rfl : j = n := by omega
          have hnext : Sweep fs (a : Int) nn (k + 1) 0 s := by
            have := hsw
            rw [← HF.out] at this
            exact this.round
          have HST := Lib.hid hown
          have HSW := Lib.hid hnext
          have HKM := Lib.hid hblk
          clear hown hsw hblk hnext
          go_wp2
          go_roundw
          case rel => exact ⟨k + 1, s, by omega, by go_num, HST.out, HSW.out, HKM.out, hbl⟩
          case measure => simp [intOf]; omega
    · obtain rfl : k = nn := by omega
      have HO := Lib.hid hown
      have HD : Hid (∀ i : Nat, i < k → s[i]? = some (rchB fs (a : Int) (i : Int))) := fun i hi => hsw.done HIN.out (by omega) hi
      have HLEN := Lib.hid hsw.len
      clear hown hsw hblk
      go_wp2
      go_ret
      refine ⟨s, HLEN.out, HD.out, ?_⟩
      exact ⟨_, _, rfl, Nat.le_refl _, (Rd.of_own HO.out).wide (by omega) (Nat.le_refl _), Soft.of_own HO.out, hbl⟩
end Go.Proofs.Ythlcbdjjegageaa
