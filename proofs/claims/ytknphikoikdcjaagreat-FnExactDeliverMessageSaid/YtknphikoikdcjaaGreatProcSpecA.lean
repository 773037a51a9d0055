/- Merged: ProcSpecF, ProcFlowS. -/
import Derived.Test.YtknphikoikdcjaaGreatCondS
import Derived.Test.YtknphikoikdcjaaGreatBase
/- spec.flowsOf: the flows into or out of a node. -/
set_option linter.unusedSimpArgs false
set_option linter.unusedVariables false
namespace Go.Proofs.YtknphikoikdcjaaGreat
open Go.RowKit

theorem Blk.own_grown {w w' : World} {g : Nat} {t : TypeId} {cs : Array Value} {base : Nat} {e : TypeId} {size : Nat} {v : Value} {n : Nat} {xs : List Value} (h : Blk w g t cs) (ho : w.ownsRow base e size v n xs) (hg : w.grownBy w' v.ownBlock) (hb : g < base) : Blk w' g t cs :=
  h.grown hg (fun e => by
    have := (ho.lt g e.symm).1
    omega)
theorem Fresh.of_base {w w' : World} {ty : TypeId} {size base : Nat} {v : Value} {n : Nat} {xs : List Value} (h : w'.ownsRow base ty size v n xs) (hb : Below w.heap.size w w') (hw : w.heap.size ≤ base) : Fresh xs size n w (.returned v) w' := by
  obtain ⟨A, c, rfl, hc, hr, hs⟩ := own_form h
  exact ⟨A, c, rfl, hc, hr.wide hw (Nat.le_refl _), hs, hb⟩

set_option maxRecDepth 100000 in
set_option maxHeartbeats 1600000 in
theorem flowsOf_any (lo hi n c : Nat) (A : Option Addr) (vn : Value) (fs : List Flw) (node : Int) (out : Bool) (w : World) (hr : Fls w lo hi A n fs) (hB : hi ≤ w.heap.size) (hn : n ≤ 1048576) :
    Calls Tryz.prog 118 #[.agg #[vn, .slice A n c], .int .i64 node, .bool out] w (Fresh (ivs (flOf fs out node)) 1 (flOf fs out node).length w) := by
  have HL := Lib.hid hr.1
  obtain ⟨i0, hi0, hz0, hz1, hz2⟩ := info_parts infoInt
  cases out
  · have hown1 : ((w.alloc (.cells #[vn, .slice A n c] 40)).alloc (.cells #[] 3)).ownsRow (w.heap.size + 1) 3 1 (.slice (some ⟨w.heap.size + 1, 0, none⟩) 0 0) (flUp fs false node 0).length (ivs (flUp fs false node 0)) := by
        have := World.ownsRow_made (w.alloc (.cells #[vn, .slice A n c] 40)) (base := w.heap.size + 1) (e := 3) (size := 1) #[] 0 (by simp) (by unfold maxLen; omega) (by simp)
        simpa [flUp, ivs] using this
    have hblk1 := (Blk.new w 40 #[vn, .slice A n c]).alloc (.cells #[] 3)
    go_enter Tryz.func118, Tryz.ntmps118
    go_wp2
    go_loopw [7, 8] (fun ov iv wr => ∃ (k : Nat), k ≤ n ∧ iv = .int .i64 k ∧ wr.ownsRow (w.heap.size + 1) 3 1 ov (flUp fs false node k).length (ivs (flUp fs false node k)) ∧ Blk wr w.heap.size 40 #[vn, .slice A n c] ∧ Below w.heap.size w wr)
       (fun _ iv _ => n - (intOf iv).toNat)
    case atStart => exact ⟨0, by omega, rfl, hown1, hblk1, up_alloc (up_alloc (Below.refl _ _) _) _⟩
    case round =>
      clear hown1 hblk1
      obtain ⟨k, hk, rfl, hown, hblk, hbl⟩ := hrel
      have hsz := hblk.lt
      have hul := flUp_le fs false node k
      have hd1 : wr.cell? ⟨w.heap.size, 1, none⟩ = some (.slice A n c) := hblk.cell 1
      by_cases hkn : k < n
      · obtain ⟨b, off, x, y, ps, A', m, c', rfl, hbB, _, hg, hx, hy, hz, _, _⟩ := (hr.keep hbl hB).at hkn
        by_cases he : y = node
        · have HU := Lib.hid (flUp_yes (out := false) hg he)
          have he1 : (y == node) = true := by simpa using he
          clear hg he hz
          go_wp2_with (at_builtin; refine wpList_append_own _ rfl _ _ 26 rfl (w.heap.size + 1) 3 i0 (.int .i64 0) 1 8 Tryz.underlying26 hi0 hz0 hz1 hz2 rfl (by decide) _ _ _ rfl (hown.alloc _) _ 1 1 [.int .i64 k] rfl rfl (cell_one_new _ _ _) ?c2 ?c3 ?c4 ?c5 ?_)
          case c2 => intro u hu; simp at hu; subst hu; rfl
          case c3 => unfold maxLen; omega
          case c4 => omega
          case c5 => simp; omega
          intro v' w4 hown4 hg4 _
          have hbl4 := up_grown (up_alloc hbl _) (hown.alloc _) hg4 (by omega)
          have hblk4 := Blk.own_grown (hblk.alloc _) (hown.alloc _) hg4 (by omega)
          have HB4 := Lib.hid hblk4
          clear hown hg4 hbl hblk hblk4
          go_wp2
          go_roundw
          case rel =>
            refine ⟨k + 1, by omega, by go_num, ?_, HB4.out, hbl4⟩
            rw [HU.out, ivs_append, List.length_append]
            exact hown4
          case measure => simp [intOf]; omega
        · have HU := Lib.hid (flUp_no (out := false) hg he)
          have he1 : (y == node) = false := by simpa using he
          have HO := Lib.hid hown
          have HB4 := Lib.hid hblk
          clear hg he hz hown hblk
          go_wp2
          go_roundw
          case rel => exact ⟨k + 1, by omega, by go_num, by rw [HU.out]; exact HO.out, HB4.out, hbl⟩
          case measure => simp [intOf]; omega
      · obtain rfl : k = n := by omega
        have Ho := Lib.hid hown
        have HE : Hid (flOf fs false node = flUp fs false node k) := by rw [Hid, flOf, HL.out]
        clear hown hblk
        go_wp2
        go_ret
        rw [HE.out]
        exact Fresh.of_base Ho.out hbl (by omega)
  · have hown1 : ((w.alloc (.cells #[vn, .slice A n c] 40)).alloc (.cells #[] 3)).ownsRow (w.heap.size + 1) 3 1 (.slice (some ⟨w.heap.size + 1, 0, none⟩) 0 0) (flUp fs true node 0).length (ivs (flUp fs true node 0)) := by
        have := World.ownsRow_made (w.alloc (.cells #[vn, .slice A n c] 40)) (base := w.heap.size + 1) (e := 3) (size := 1) #[] 0 (by simp) (by unfold maxLen; omega) (by simp)
        simpa [flUp, ivs] using this
    have hblk1 := (Blk.new w 40 #[vn, .slice A n c]).alloc (.cells #[] 3)
    go_enter Tryz.func118, Tryz.ntmps118
    go_wp2
    go_loopw [7, 8] (fun ov iv wr => ∃ (k : Nat), k ≤ n ∧ iv = .int .i64 k ∧ wr.ownsRow (w.heap.size + 1) 3 1 ov (flUp fs true node k).length (ivs (flUp fs true node k)) ∧ Blk wr w.heap.size 40 #[vn, .slice A n c] ∧ Below w.heap.size w wr)
       (fun _ iv _ => n - (intOf iv).toNat)
    case atStart => exact ⟨0, by omega, rfl, hown1, hblk1, up_alloc (up_alloc (Below.refl _ _) _) _⟩
    case round =>
      clear hown1 hblk1
      obtain ⟨k, hk, rfl, hown, hblk, hbl⟩ := hrel
      have hsz := hblk.lt
      have hul := flUp_le fs true node k
      have hd1 : wr.cell? ⟨w.heap.size, 1, none⟩ = some (.slice A n c) := hblk.cell 1
      by_cases hkn : k < n
      · obtain ⟨b, off, x, y, ps, A', m, c', rfl, hbB, _, hg, hx, hy, hz, _, _⟩ := (hr.keep hbl hB).at hkn
        by_cases he : x = node
        · have HU := Lib.hid (flUp_yes (out := true) hg he)
          have he1 : (x == node) = true := by simpa using he
          clear hg he hz
          go_wp2_with (at_builtin; refine wpList_append_own _ rfl _ _ 26 rfl (w.heap.size + 1) 3 i0 (.int .i64 0) 1 8 Tryz.underlying26 hi0 hz0 hz1 hz2 rfl (by decide) _ _ _ rfl (hown.alloc _) _ 1 1 [.int .i64 k] rfl rfl (cell_one_new _ _ _) ?c2 ?c3 ?c4 ?c5 ?_)
          case c2 => intro u hu; simp at hu; subst hu; rfl
          case c3 => unfold maxLen; omega
          case c4 => omega
          case c5 => simp; omega
          intro v' w4 hown4 hg4 _
          have hbl4 := up_grown (up_alloc hbl _) (hown.alloc _) hg4 (by omega)
          have hblk4 := Blk.own_grown (hblk.alloc _) (hown.alloc _) hg4 (by omega)
          have HB4 := Lib.hid hblk4
          clear hown hg4 hbl hblk hblk4
          go_wp2
          go_roundw
          case rel =>
            refine ⟨k + 1, by omega, by go_num, ?_, HB4.out, hbl4⟩
            rw [HU.out, ivs_append, List.length_append]
            exact hown4
          case measure => simp [intOf]; omega
        · have HU := Lib.hid (flUp_no (out := true) hg he)
          have he1 : (x == node) = false := by simpa using he
          have HO := Lib.hid hown
          have HB4 := Lib.hid hblk
          clear hg he hz hown hblk
          go_wp2
          go_roundw
          case rel => exact ⟨k + 1, by omega, by go_num, by rw [HU.out]; exact HO.out, HB4.out, hbl⟩
          case measure => simp [intOf]; omega
      · obtain rfl : k = n := by omega
        have Ho := Lib.hid hown
        have HE : Hid (flOf fs true node = flUp fs true node k) := by rw [Hid, flOf, HL.out]
        clear hown hblk
        go_wp2
        go_ret
        rw [HE.out]
        exact Fresh.of_base Ho.out hbl (by omega)
end Go.Proofs.YtknphikoikdcjaaGreat


/- spec.validFlow, spec.validNode. -/
namespace Go.Proofs.YtknphikoikdcjaaGreat
open Go.RowKit

set_option maxHeartbeats 800000 in
theorem validFlowS_any (lo hi nn cn : Nat) (An : Option Addr) (ns : List (Int × Int)) (vf : Value) (x y : Int) (lo' hi' m c' : Nat) (A' : Option Addr) (ps : List (Int × Int)) (w : World) (hrn : Rd w lo hi 2 An nn (pvs ns)) (hB : hi ≤ w.heap.size) (hnn : nn ≤ 1048576)
    (hrp : Rd w lo' hi' 2 A' m (pvs ps)) (hB' : hi' ≤ w.heap.size) (hm : m ≤ 1048576) :
    Calls Tryz.prog 142 #[.agg #[.slice An nn cn, vf], .agg #[.int .i64 x, .int .i64 y, .slice A' m c']] w fun e w' => e = .returned (.bool (vFlow ns (x, y, ps))) ∧ Below w.heap.size w w' := by
  have hL := hrn.len2
  have hM := hrp.len2
  by_cases h1 : inR x 0 ((nn : Int) - 1) = true
  · by_cases h2 : inR y 0 ((nn : Int) - 1) = true
    · rcases Nat.eq_zero_or_pos m with rfl | hmp
      · have hp : ps = [] := List.eq_nil_of_length_eq_zero hM
        have hv : vFlow ns (x, y, ps) = true := by simp [vFlow, hL, h1, h2, hp]
        rw [hv]; clear hv hp hL hM
        go_enter Tryz.func142, Tryz.ntmps142
        go_wp2_with (go_at_call 101; refine (inRange_any _ _ _ _).mono ?_; rintro e w' ⟨rfl, rfl⟩)
        go_ret
        exact ⟨rfl, up_alloc (up_alloc (Below.refl _ _) _) _⟩
      · have hx := inR_iff.1 h1
        obtain ⟨hx0, hx1⟩ := hx
        obtain ⟨k, rfl⟩ := Int.eq_ofNat_of_zero_le hx0
        have hk : k < nn := by omega
        obtain ⟨b, off, kd, vl, rfl, hbB, _, hg, hc0, hc1⟩ := hrn.pair hk
        have hbw : b < w.heap.size := by omega
        have hm0 : (0 : Int) < (m : Int) := by omega
        have hk4 : (k : Int) < (nn : Int) := by omega
        have hpe : ps.isEmpty = false := by
          cases ps with
          | nil => simp at hM; omega
          | cons _ _ => rfl
        by_cases h5 : kd = 5
        · subst h5
          have hv : vFlow ns ((k : Int), y, ps) = vCond ps := by simp [vFlow, hL, h1, h2, hpe, hg]
          rw [hv]; clear hv hpe hg hL hM hx1 hk hmp hc1
          have hrq := (hrp.keep (up_alloc (up_alloc (Below.refl _ w) (.cells #[.slice (some ⟨b, off, none⟩) nn cn, vf] 40)) (.cells #[.int .i64 (k : Int), .int .i64 y, .slice A' m c'] 167)) hB')
          have HRQ := Lib.hid hrq
          clear hrq
          go_enter Tryz.func142, Tryz.ntmps142
          go_wp2_with (go_at_call 101; refine (inRange_any _ _ _ _).mono ?_; rintro e w' ⟨rfl, rfl⟩)
          (with_reducible refine (validCondition_any _ _ m c' A' ps _ HRQ.out (by simp; omega) hm).mono ?_)
          rintro e w2 ⟨rfl, hb2⟩
          have HB := Lib.hid (up (up_alloc (up_alloc (Below.refl _ _) _) _) hb2)
          clear hb2
          go_wp2
          go_ret
          exact ⟨rfl, HB.out⟩
        · have hv : vFlow ns ((k : Int), y, ps) = false := by simp [vFlow, hL, hpe, hg, h5]
          have h5' : (kd == 5) = false := by simpa using h5
          rw [hv]; clear hv hpe hg hL hM hx1 hk hmp hc1 h5
          go_enter Tryz.func142, Tryz.ntmps142
          go_wp2_with (go_at_call 101; refine (inRange_any _ _ _ _).mono ?_; rintro e w' ⟨rfl, rfl⟩)
          go_ret
          exact ⟨rfl, up_alloc (up_alloc (Below.refl _ _) _) _⟩
    · have h2' : inR y 0 ((nn : Int) - 1) = false := by simpa using h2
      have hv : vFlow ns (x, y, ps) = false := by simp [vFlow, hL, h2']
      rw [hv]; clear hv hL hM h2
      go_enter Tryz.func142, Tryz.ntmps142
      go_wp2_with (go_at_call 101; refine (inRange_any _ _ _ _).mono ?_; rintro e w' ⟨rfl, rfl⟩)
      go_ret
      exact ⟨rfl, up_alloc (up_alloc (Below.refl _ _) _) _⟩
  · have h1' : inR x 0 ((nn : Int) - 1) = false := by simpa using h1
    have hv : vFlow ns (x, y, ps) = false := by simp [vFlow, hL, h1']
    rw [hv]; clear hv hL hM h1
    go_enter Tryz.func142, Tryz.ntmps142
    go_wp2_with (go_at_call 101; refine (inRange_any _ _ _ _).mono ?_; rintro e w' ⟨rfl, rfl⟩)
    go_ret
    exact ⟨rfl, up_alloc (up_alloc (Below.refl _ _) _) _⟩
end Go.Proofs.YtknphikoikdcjaaGreat

