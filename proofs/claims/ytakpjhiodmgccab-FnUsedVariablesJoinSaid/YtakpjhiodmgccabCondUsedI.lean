/- impl.UsedVariables: the variables of a condition. -/
import Derived.Test.YtakpjhiodmgccabCondParts
namespace Go.Proofs.Ytakpjhiodmgccab
open Go.RowKit

theorem infoIntI : (Try.prog.info? 3).map (fun i => (i.zero, i.size, i.bytes)) = some (some (.int .i64 0), 1, 8) := by kernel_rfl

/-- The four cells of the array. -/
def four (f : Nat → Bool) : Array Value := #[.bool (f 0), .bool (f 1), .bool (f 2), .bool (f 3)]
theorem four_congr {f f' : Nat → Bool} (h : ∀ v, f v = f' v) : four f = four f' := by rw [show f = f' from funext h]

set_option maxRecDepth 100000 in
set_option maxHeartbeats 800000 in
theorem usedI_any (lo hi n c : Nat) (A : Option Addr) (ps : List (Int × Int)) (w : World) (hr : Rd w lo hi 2 A n (pvs ps)) (hB : hi ≤ w.heap.size) (hn : n ≤ 1048576) :
    Calls Try.prog 30 #[.slice A n c] w (Fresh (ivs (usedOf ps)) 1 (usedOf ps).length w) := by
  have HL := Lib.hid hr.len2
  obtain ⟨i0, hi0, hz0, hz1, hz2⟩ := info_parts infoIntI
  by_cases hV : vCond ps = true
  · have hU : usedOf ps = usedUp ps 4 := by simp [usedOf, hV]
    rw [hU]; clear hU
    have HV := Lib.hid hV
    go_enter Try.func30, Try.ntmps30
    go_wp2_with (fail)
    refine (ValidConditionI_any lo hi n c A ps _ hr hB hn).mono ?_
    rintro e w1 ⟨rfl, hb1⟩
    rw [hV]
    clear hV
    go_wp2
    have hF1 : Blk (w1.alloc (Obj.cells #[.bool false, .bool false, .bool false, .bool false] 87)) w1.heap.size 87 (four fun v => hasV (ps.take 0) v) := Blk.new _ _ _
    have hbl1 := up_alloc hb1 (Obj.cells #[.bool false, .bool false, .bool false, .bool false] 87)
    obtain ⟨g, hg⟩ : ∃ g, g = w1.heap.size := ⟨_, rfl⟩
    have Hg1 : Hid (w.heap.size ≤ g) := by have := hb1.size; rw [hg]; exact this
    rw [← hg]
    rw [← hg] at hF1
    clear hb1
    generalize w1.alloc (Obj.cells #[.bool false, .bool false, .bool false, .bool false] 87) = w2 at *
    clear hg
    go_loopw [14] (fun iv wr => ∃ (k : Nat), k ≤ n ∧ iv = .int .i64 k ∧ Blk wr g 87 (four fun v => hasV (ps.take k) v) ∧ Below w.heap.size w wr)
       (fun iv _ => n - (intOf iv).toNat)
    case atStart => exact ⟨0, by omega, rfl, hF1, hbl1⟩
    case round =>
      clear hF1 hbl1
      obtain ⟨k, hk, rfl, hF, hbl⟩ := hrel
      by_cases hkn : k < n
      · obtain ⟨bk, off, x, y, rfl, hbB, _, hg, hc0, hc1⟩ := (hr.keep hbl hB).pair hkn
        have HP := Lib.hid (vCond_parts HV.out hg)
        have HT := Lib.hid (fun v => hasV_take (v := v) hg)
        clear hg
        have HF := Lib.hid hF
        have hgl := hF.lt
        have f0 := hF.cell 0
        have f1 := hF.cell 1
        have f2 := hF.cell 2
        have f3 := hF.cell 3
        have z0 := hF.soft 0
        have z1 := hF.soft 1
        have z2 := hF.soft 2
        have z3 := hF.soft 3
        simp only [four] at f0 f1 f2 f3
        clear hF
        by_cases hx : x = 1
        · subst hx
          have hy := vPart_var HP.out
          rcases hy with rfl | rfl | rfl | rfl
          all_goals
            go_wp2
            go_roundw
            case rel =>
              refine ⟨k + 1, by omega, by go_num, ?_, up_alloc (hbl.setCell (p := ⟨g, _, none⟩) Hg1.out _) _⟩
              rw [four_congr fun v => HT.out v]
              refine Blk.alloc ?_ _
              first
              | (have h := HF.out.put 0 (.bool true); simpa [four] using h)
              | (have h := HF.out.put 1 (.bool true); simpa [four] using h)
              | (have h := HF.out.put 2 (.bool true); simpa [four] using h)
              | (have h := HF.out.put 3 (.bool true); simpa [four] using h)
            case measure => simp [intOf]; omega
        · have hx' : (x == 1) = false := by simpa using hx
          go_wp2
          go_roundw
          case rel =>
            refine ⟨k + 1, by omega, by go_num, ?_, up_alloc hbl _⟩
            rw [four_congr fun v => HT.out v]
            simpa [hx'] using HF.out.alloc _
          case measure => simp [intOf]; omega
      · obtain rfl : k = n := by omega
        have hall : ps.take k = ps := List.take_of_length_le (by rw [HL.out]; omega)
        rw [hall] at hF
        clear hall
        have f0 := hF.cell 0
        have f1 := hF.cell 1
        have f2 := hF.cell 2
        have f3 := hF.cell 3
        clear hF
        simp [four] at f0 f1 f2 f3
        generalize hb0 : hasV ps 0 = b0 at f0
        generalize hb1 : hasV ps 1 = b1 at f1
        generalize hb2 : hasV ps 2 = b2 at f2
        generalize hb3 : hasV ps 3 = b3 at f3
        have HB0 := Lib.hid hb0
        have HB1 := Lib.hid hb1
        have HB2 := Lib.hid hb2
        have HB3 := Lib.hid hb3
        clear hb0 hb1 hb2 hb3
        have j0 : ∀ w, (Instr.index 87 (.agg #[.bool b0, .bool b1, .bool b2, .bool b3]) (.int .i64 0)).run Try.prog w = .ok (.bool b0) w := fun _ => by kernel_rfl
        have j1 : ∀ w, (Instr.index 87 (.agg #[.bool b0, .bool b1, .bool b2, .bool b3]) (.int .i64 1)).run Try.prog w = .ok (.bool b1) w := fun _ => by kernel_rfl
        have j2 : ∀ w, (Instr.index 87 (.agg #[.bool b0, .bool b1, .bool b2, .bool b3]) (.int .i64 2)).run Try.prog w = .ok (.bool b2) w := fun _ => by kernel_rfl
        have j3 : ∀ w, (Instr.index 87 (.agg #[.bool b0, .bool b1, .bool b2, .bool b3]) (.int .i64 3)).run Try.prog w = .ok (.bool b3) w := fun _ => by kernel_rfl
        go_wp2
        go_loopw [6, 26] (fun ov vv wr => ∃ (v : Nat), v ≤ 4 ∧ vv = .int .i64 v ∧ wr.ownsRow w.heap.size 3 1 ov (usedUp ps v).length (ivs (usedUp ps v)) ∧ Below w.heap.size w wr)
           (fun _ vv _ => 4 - (intOf vv).toNat)
        case atStart => exact ⟨0, by omega, rfl, World.ownsRow_nil _ _ _ _, hbl⟩
        case round =>
          clear hbl
          obtain ⟨v, hv4, rfl, hown, hbl⟩ := hrel
          have hsz := hbl.size
          have hul := usedUp_le ps v
          rcases (show v = 0 ∨ v = 1 ∨ v = 2 ∨ v = 3 ∨ v = 4 by omega) with rfl | rfl | rfl | rfl | rfl
          · cases b0
            · have HU := Lib.hid (usedUp_no (k := 0) HB0.out)
              go_wp2
              go_roundw
              case rel => exact ⟨0 + 1, by omega, by first | rfl | go_num, by rw [HU.out]; exact hown, hbl⟩
              case measure => simp [intOf]
            · have HU := Lib.hid (usedUp_yes (k := 0) HB0.out)
              go_wp2_with (at_builtin; refine wpList_append_own _ rfl _ _ 29 rfl w.heap.size 3 i0 (.int .i64 0) 1 8 Try.underlying29 hi0 hz0 hz1 hz2 rfl (by decide) _ _ _ rfl (hown.alloc _) _ 1 1 [.int .i64 0] rfl rfl (cell_one_new _ _ _) ?c2 ?c3 ?c4 ?c5 ?_)
              case c2 => intro u hu; simp at hu; subst hu; rfl
              case c3 => unfold maxLen; omega
              case c4 => omega
              case c5 => simp; omega
              intro v' w4 hown4 hg4 _
              have hbl4 := up_grown (up_alloc hbl _) (hown.alloc _) hg4 (Nat.le_refl _)
              clear hown hg4 hbl
              go_wp2
              go_roundw
              case rel =>
                refine ⟨0 + 1, by omega, by first | rfl | go_num, ?_, hbl4⟩
                rw [HU.out, ivs_append, List.length_append]
                exact hown4
              case measure => simp [intOf]
          · cases b1
            · have HU := Lib.hid (usedUp_no (k := 1) HB1.out)
              go_wp2
              go_roundw
              case rel => exact ⟨1 + 1, by omega, by first | rfl | go_num, by rw [HU.out]; exact hown, hbl⟩
              case measure => simp [intOf]
            · have HU := Lib.hid (usedUp_yes (k := 1) HB1.out)
              go_wp2_with (at_builtin; refine wpList_append_own _ rfl _ _ 29 rfl w.heap.size 3 i0 (.int .i64 0) 1 8 Try.underlying29 hi0 hz0 hz1 hz2 rfl (by decide) _ _ _ rfl (hown.alloc _) _ 1 1 [.int .i64 1] rfl rfl (cell_one_new _ _ _) ?c2 ?c3 ?c4 ?c5 ?_)
              case c2 => intro u hu; simp at hu; subst hu; rfl
              case c3 => unfold maxLen; omega
              case c4 => omega
              case c5 => simp; omega
              intro v' w4 hown4 hg4 _
              have hbl4 := up_grown (up_alloc hbl _) (hown.alloc _) hg4 (Nat.le_refl _)
              clear hown hg4 hbl
              go_wp2
              go_roundw
              case rel =>
                refine ⟨1 + 1, by omega, by first | rfl | go_num, ?_, hbl4⟩
                rw [HU.out, ivs_append, List.length_append]
                exact hown4
              case measure => simp [intOf]
          · cases b2
            · have HU := Lib.hid (usedUp_no (k := 2) HB2.out)
              go_wp2
              go_roundw
              case rel => exact ⟨2 + 1, by omega, by first | rfl | go_num, by rw [HU.out]; exact hown, hbl⟩
              case measure => simp [intOf]
            · have HU := Lib.hid (usedUp_yes (k := 2) HB2.out)
              go_wp2_with (at_builtin; refine wpList_append_own _ rfl _ _ 29 rfl w.heap.size 3 i0 (.int .i64 0) 1 8 Try.underlying29 hi0 hz0 hz1 hz2 rfl (by decide) _ _ _ rfl (hown.alloc _) _ 1 1 [.int .i64 2] rfl rfl (cell_one_new _ _ _) ?c2 ?c3 ?c4 ?c5 ?_)
              case c2 => intro u hu; simp at hu; subst hu; rfl
              case c3 => unfold maxLen; omega
              case c4 => omega
              case c5 => simp; omega
              intro v' w4 hown4 hg4 _
              have hbl4 := up_grown (up_alloc hbl _) (hown.alloc _) hg4 (Nat.le_refl _)
              clear hown hg4 hbl
              go_wp2
              go_roundw
              case rel =>
                refine ⟨2 + 1, by omega, by first | rfl | go_num, ?_, hbl4⟩
                rw [HU.out, ivs_append, List.length_append]
                exact hown4
              case measure => simp [intOf]
          · cases b3
            · have HU := Lib.hid (usedUp_no (k := 3) HB3.out)
              go_wp2
              go_roundw
              case rel => exact ⟨3 + 1, by omega, by first | rfl | go_num, by rw [HU.out]; exact hown, hbl⟩
              case measure => simp [intOf]
            · have HU := Lib.hid (usedUp_yes (k := 3) HB3.out)
              go_wp2_with (at_builtin; refine wpList_append_own _ rfl _ _ 29 rfl w.heap.size 3 i0 (.int .i64 0) 1 8 Try.underlying29 hi0 hz0 hz1 hz2 rfl (by decide) _ _ _ rfl (hown.alloc _) _ 1 1 [.int .i64 3] rfl rfl (cell_one_new _ _ _) ?c2 ?c3 ?c4 ?c5 ?_)
              case c2 => intro u hu; simp at hu; subst hu; rfl
              case c3 => unfold maxLen; omega
              case c4 => omega
              case c5 => simp; omega
              intro v' w4 hown4 hg4 _
              have hbl4 := up_grown (up_alloc hbl _) (hown.alloc _) hg4 (Nat.le_refl _)
              clear hown hg4 hbl
              go_wp2
              go_roundw
              case rel =>
                refine ⟨3 + 1, by omega, by first | rfl | go_num, ?_, hbl4⟩
                rw [HU.out, ivs_append, List.length_append]
                exact hown4
              case measure => simp [intOf]
          · have Ho := Lib.hid hown
            go_wp2
            go_ret
            exact Fresh.of_own Ho.out hbl
  · have hV' : vCond ps = false := by simpa using hV
    have hU : usedOf ps = [] := by simp [usedOf, hV]
    rw [hU]
    go_enter Try.func30, Try.ntmps30
    go_wp2_with (fail)
    refine (ValidConditionI_any lo hi n c A ps _ hr hB hn).mono ?_
    rintro e w1 ⟨rfl, hb1⟩
    rw [hV']
    go_wp2
    go_ret
    exact Fresh.nil 1 hb1
end Go.Proofs.Ytakpjhiodmgccab
