/- Merged: CondSpec, CondUsedS. -/
import Derived.Test.YtknphikoikdcjaaGreatRows
import Derived.Test.YtknphikoikdcjaaGreatBase
import Derived.BigQuiet
import Derived.Deep.QuietTactic
import Derived.WalkLawsBesides
/- The specification's functions on conditions: what they return. -/
set_option linter.unusedSimpArgs false
set_option linter.unusedVariables false
namespace Go.Proofs.YtknphikoikdcjaaGreat
open Go.RowKit

theorem inRange_any (n lo hi : Int) (w : World) :
    Calls Tryz.prog 101 #[.int .i64 n, .int .i64 lo, .int .i64 hi] w fun e w' => e = .returned (.bool (inR n lo hi)) ∧ w = w' := by
  unfold inR
  by_cases h : lo ≤ n
  · have h' : decide (lo ≤ n) = true := by simpa using h
    go_enter Tryz.func101, Tryz.ntmps101
    go_wp2
    go_ret
    simp [h]
  · have h' : decide (lo ≤ n) = false := by simpa using h
    go_enter Tryz.func101, Tryz.ntmps101
    go_wp2
    go_ret
    simp

theorem validPart_any (k v : Int) (w : World) :
    Calls Tryz.prog 195 #[.agg #[.int .i64 k, .int .i64 v]] w fun e w' => e = .returned (.bool (vPart k v)) ∧ Below w.heap.size w w' := by
  by_cases h0 : k = 0
  · subst h0
    have hp : vPart 0 v = inR v (-9999) 9999 := by simp [vPart]
    rw [hp]; clear hp
    go_enter Tryz.func195, Tryz.ntmps195
    go_wp2_with (go_at_call 101; refine (inRange_any _ _ _ _).mono ?_; rintro e w' ⟨rfl, rfl⟩)
    go_ret
    exact ⟨rfl, up_alloc (Below.refl _ _) _⟩
  by_cases h1 : k = 1
  · subst h1
    have hp : vPart 1 v = inR v 0 3 := by simp [vPart]
    rw [hp]; clear hp
    go_enter Tryz.func195, Tryz.ntmps195
    go_wp2_with (go_at_call 101; refine (inRange_any _ _ _ _).mono ?_; rintro e w' ⟨rfl, rfl⟩)
    go_ret
    exact ⟨rfl, up_alloc (Below.refl _ _) _⟩
  have hp : vPart k v = (inR k 2 8 && decide (v = 0)) := by simp [vPart, h0, h1]
  rw [hp]; clear hp
  have g0 : (k == 0) = false := by simpa using h0
  have g1 : (k == 1) = false := by simpa using h1
  by_cases hr : inR k 2 8 = true
  · rw [hr]
    go_enter Tryz.func195, Tryz.ntmps195
    go_wp2_with (go_at_call 101; refine (inRange_any _ _ _ _).mono ?_; rintro e w' ⟨rfl, rfl⟩)
    go_ret
    exact ⟨by simp; rfl, up_alloc (Below.refl _ _) _⟩
  · have hr' : inR k 2 8 = false := by simpa using hr
    rw [hr']
    go_enter Tryz.func195, Tryz.ntmps195
    go_wp2_with (go_at_call 101; refine (inRange_any _ _ _ _).mono ?_; rintro e w' ⟨rfl, rfl⟩)
    go_ret
    exact ⟨by simp, up_alloc (Below.refl _ _) _⟩

theorem needs_any (k v : Int) (w : World) :
    Calls Tryz.prog 196 #[.agg #[.int .i64 k, .int .i64 v]] w fun e w' => e = .returned (.tuple #[.int .i64 (needs1 k), .int .i64 1]) ∧ Below w.heap.size w w' := by
  by_cases h0 : k = 0
  · subst h0
    have hp : needs1 0 = 0 := by simp [needs1]
    rw [hp]; clear hp
    go_enter Tryz.func196, Tryz.ntmps196
    go_wp2
    go_ret2
    exact ⟨rfl, up_alloc (Below.refl _ _) _⟩
  by_cases h1 : k = 1
  · subst h1
    have hp : needs1 1 = 0 := by simp [needs1]
    rw [hp]; clear hp
    go_enter Tryz.func196, Tryz.ntmps196
    go_wp2
    go_ret2
    exact ⟨rfl, up_alloc (Below.refl _ _) _⟩
  by_cases h2 : k = 2
  · subst h2
    have hp : needs1 2 = 1 := by simp [needs1]
    rw [hp]; clear hp
    go_enter Tryz.func196, Tryz.ntmps196
    go_wp2
    go_ret2
    exact ⟨rfl, up_alloc (Below.refl _ _) _⟩
  have hp : needs1 k = 2 := by simp [needs1, h0, h1, h2]
  rw [hp]; clear hp
  have g0 : (k == 0) = false := by simpa using h0
  have g1 : (k == 1) = false := by simpa using h1
  have g2 : (k == 2) = false := by simpa using h2
  go_enter Tryz.func196, Tryz.ntmps196
  go_wp2
  go_ret2
  exact ⟨rfl, up_alloc (Below.refl _ _) _⟩

set_option maxHeartbeats 400000 in
theorem validCondition_any (lo hi n c : Nat) (A : Option Addr) (ps : List (Int × Int)) (w : World) (hr : Rd w lo hi 2 A n (pvs ps)) (hB : hi ≤ w.heap.size) (hn : n ≤ 1048576) :
    Calls Tryz.prog 171 #[.slice A n c] w fun e w' => e = .returned (.bool (vCond ps)) ∧ Below w.heap.size w w' := by
  have HL := Lib.hid hr.len2
  go_enter Tryz.func171, Tryz.ntmps171
  go_wp2
  go_loopw [3, 4] (fun dv iv wr => ∃ (k : Nat) (d : Int), k ≤ n ∧ iv = .int .i64 k ∧ dv = .int .i64 d ∧ Hid (scanD ps 0 = scanD (ps.drop k) d) ∧ 0 ≤ d ∧ d ≤ k ∧ Below w.heap.size w wr)
     (fun _ iv _ => n - (intOf iv).toNat)
  case atStart => exact ⟨0, 0, by omega, rfl, rfl, rfl, by omega, by omega, Below.refl _ _⟩
  case round =>
    obtain ⟨k, d, hk, rfl, rfl, hS, hd0, hdk, hbl⟩ := hrel
    by_cases hlt : k < n
    · obtain ⟨b, off, x, y, rfl, hbB, _, hg, hc0, hc1⟩ := (hr.keep hbl hB).pair hlt
      have Hg := Lib.hid hg; clear hg
      have hnd := needs1_bd x
      go_wp2_with (fail)
      refine (validPart_any _ _ _).mono ?_
      rintro e w1 ⟨rfl, hb1⟩
      by_cases hv : vPart x y = true
      · have Hv := Lib.hid hv
        rw [hv]; clear hv
        have hc0' := (hb1.cell (p := ⟨b, off + k * 2, none⟩) (by show b < _; have := hbl.size; omega)).trans hc0
        have hc1' := (hb1.cell (p := ⟨b, off + k * 2 + 1, none⟩) (by show b < _; have := hbl.size; omega)).trans hc1
        go_wp2_with (fail)
        refine (needs_any _ _ _).mono ?_
        rintro e w2 ⟨rfl, hb2⟩
        by_cases hd : needs1 x ≤ d
        · go_wp2
          go_roundw
          case rel =>
            refine ⟨k + 1, d - needs1 x + 1, by omega, by go_num, by go_num, ?_, by omega, by omega, ?_⟩
            · exact hS.out.trans (scanD_step Hg.out Hv.out hd)
            · exact up (up hbl hb1) hb2
          case measure => simp [intOf]; omega
        · go_wp2
          go_ret
          exact ⟨ret_bool (vCond_none (hS.out.trans (scanD_bad Hg.out (fun h => by have := h.2; omega)))).symm, up (up hbl hb1) hb2⟩
      · have hv' : vPart x y = false := by simpa using hv
        rw [hv']
        go_wp2
        go_ret
        exact ⟨ret_bool (vCond_none (hS.out.trans (scanD_bad Hg.out (fun h => hv h.1)))).symm, up hbl hb1⟩
    · have HS : Hid (scanD ps 0 = some d) := by
        rw [Hid, hS.out, List.drop_of_length_le (by rw [HL.out]; omega)]; rfl
      by_cases hir : inR (n : Int) 1 12 = true
      · go_wp2_with (go_at_call 101; refine (inRange_any _ _ _ _).mono ?_; rintro e w' ⟨rfl, rfl⟩)
        go_ret
        exact ⟨ret_bool (by rw [vCond_some HS.out, HL.out, hir]; simp), hbl⟩
      · have hir' : inR (n : Int) 1 12 = false := by simpa using hir
        go_wp2_with (go_at_call 101; refine (inRange_any _ _ _ _).mono ?_; rintro e w' ⟨rfl, rfl⟩)
        go_ret
        exact ⟨ret_bool (by rw [vCond_some HS.out, HL.out, hir']; simp), hbl⟩

end Go.Proofs.YtknphikoikdcjaaGreat


/- spec.UsedVariables: the variables of a condition. -/
namespace Go.Proofs.YtknphikoikdcjaaGreat
open Go.RowKit

theorem infoInt : (Tryz.prog.info? 3).map (fun i => (i.zero, i.size, i.bytes)) = some (some (.int .i64 0), 1, 8) := by kernel_rfl

end Go.Proofs.YtknphikoikdcjaaGreat

