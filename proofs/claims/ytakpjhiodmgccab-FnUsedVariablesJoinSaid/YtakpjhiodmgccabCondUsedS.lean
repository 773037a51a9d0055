/- spec.UsedVariables: the variables of a condition. -/
import Derived.Test.YtakpjhiodmgccabCondSpec
namespace Go.Proofs.Ytakpjhiodmgccab
open Go.RowKit

theorem infoInt : (Try.prog.info? 3).map (fun i => (i.zero, i.size, i.bytes)) = some (some (.int .i64 0), 1, 8) := by kernel_rfl

set_option maxRecDepth 100000 in
set_option maxHeartbeats 800000 in
theorem usedS_any (lo hi n c : Nat) (A : Option Addr) (ps : List (Int × Int)) (w : World) (hr : Rd w lo hi 2 A n (pvs ps)) (hB : hi ≤ w.heap.size) (hn : n ≤ 1048576) :
    Calls Try.prog 31 #[.slice A n c] w (Fresh (ivs (usedOf ps)) 1 (usedOf ps).length w) := by
  have HL := Lib.hid hr.len2
  obtain ⟨i0, hi0, hz0, hz1, hz2⟩ := info_parts infoInt
  by_cases hV : vCond ps = true
  · have hU : usedOf ps = usedUp ps 4 := by simp [usedOf, hV]
    rw [hU]
    have HV := Lib.hid hV
    go_enter Try.func31, Try.ntmps31
    go_wp2_with (fail)
    refine (validCondition_any lo hi n c A ps _ (hr.keep (up_alloc (Below.refl _ _) _) (by omega)) (by simp; omega) hn).mono ?_
    rintro e w1 ⟨rfl, hb1⟩
    rw [hV]
    clear hV
    have hown1 : w1.ownsRow w.heap.size 3 1 (.slice (some ⟨w.heap.size, 0, none⟩) 0 0) 0 [] := own_keep (World.ownsRow_made w #[] 0 (Nat.le_refl _) (by unfold maxLen; omega) (by simp)) hb1
    have hbl1 := up (up_alloc (Below.refl _ w) _) hb1
    clear hb1
    go_wp2
    go_loopw [3, 4] (fun ov vv wr => ∃ (v : Nat), v ≤ 4 ∧ vv = .int .i64 v ∧ wr.ownsRow w.heap.size 3 1 ov (usedUp ps v).length (ivs (usedUp ps v)) ∧ Below w.heap.size w wr)
       (fun _ vv _ => 4 - (intOf vv).toNat)
    case atStart => exact ⟨0, by omega, rfl, hown1, hbl1⟩
    case round =>
      clear hown1 hbl1
      obtain ⟨v, hv4, rfl, hown, hbl⟩ := hrel
      by_cases hlt : v < 4
      · go_wp2
        go_loopw [5, 6] (fun sv iv wq => ∃ (k : Nat) (b : Bool), k ≤ n ∧ iv = .int .i64 k ∧ sv = .bool b ∧ Hid (hasV ps v = (b || hasV (ps.drop k) v)) ∧ wq = wr)
           (fun _ iv _ => n - (intOf iv).toNat)
        case atStart => exact ⟨0, false, by omega, rfl, rfl, by simp [Hid], rfl⟩
        case round =>
          obtain ⟨k, b, hk, rfl, rfl, hS, rfl⟩ := hrel
          by_cases hkn : k < n
          · obtain ⟨bk, off, x, y, rfl, hbB, _, hg, hc0, hc1⟩ := (hr.keep hbl hB).pair hkn
            have HS := Lib.hid (hasV_step hg hS.out); clear hg
            cases b
            · by_cases hx : x = 1
              · subst hx
                go_wp2
                go_roundw
                case rel => exact ⟨k + 1, y == v, by omega, by go_num, by simp, (by have h := HS.out; rw [Hid]; simpa using h), (by first | rfl | trivial)⟩
                case measure => simp [intOf]; omega
              · have hx' : (x == 1) = false := by simpa using hx
                go_wp2
                go_roundw
                case rel => exact ⟨k + 1, false, by omega, by go_num, by simp, (by have h := HS.out; rw [Hid]; simpa [hx'] using h), (by first | rfl | trivial)⟩
                case measure => simp [intOf]; omega
            · go_wp2
              go_roundw
              case rel => exact ⟨k + 1, true, by omega, by go_num, by simp, (by have h := HS.out; rw [Hid]; simpa using h), (by first | rfl | trivial)⟩
              case measure => simp [intOf]; omega
          · obtain rfl : k = n := by omega
            have HB : Hid (hasV ps v = b) := by
              rw [Hid, hS.out, List.drop_of_length_le (by rw [HL.out]; omega)]; simp [hasV]
            clear hS
            have hsz := hbl.size
            have hul := usedUp_le ps v
            cases b
            · have HU := Lib.hid (usedUp_no HB.out)
              go_wp2
              go_roundw
              case rel => exact ⟨v + 1, by omega, by go_num, by rw [HU.out]; exact hown, hbl⟩
              case measure => simp [intOf]; omega
            · have HU := Lib.hid (usedUp_yes HB.out)
              go_wp2_with (at_builtin; refine wpList_append_own _ rfl _ _ 29 rfl w.heap.size 3 i0 (.int .i64 0) 1 8 Try.underlying29 hi0 hz0 hz1 hz2 rfl (by decide) _ _ _ rfl (hown.alloc _) _ 1 1 [.int .i64 v] rfl rfl (cell_one_new _ _ _) ?c2 ?c3 ?c4 ?c5 ?_)
              case c2 => intro u hu; simp at hu; subst hu; rfl
              case c3 => unfold maxLen; omega
              case c4 => omega
              case c5 => simp; omega
              intro v' w4 hown4 hg4 _
              have hbl4 := up_grown (up_alloc hbl _) (hown.alloc _) hg4 (Nat.le_refl _)
              clear hown hg4 hbl
              go_wp2
              go_roundw
              case rel =>
                refine ⟨v + 1, by omega, by go_num, ?_, hbl4⟩
                rw [HU.out, ivs_append, List.length_append]
                exact hown4
              case measure => simp [intOf]; omega
      · obtain rfl : v = 4 := by omega
        have Ho := Lib.hid hown
        go_wp2
        go_ret
        exact Fresh.of_own Ho.out hbl
  · have hV' : vCond ps = false := by simpa using hV
    have hU : usedOf ps = [] := by simp [usedOf, hV]
    rw [hU]
    go_enter Try.func31, Try.ntmps31
    go_wp2_with (fail)
    refine (validCondition_any lo hi n c A ps _ (hr.keep (up_alloc (Below.refl _ _) _) (by omega)) (by simp; omega) hn).mono ?_
    rintro e w1 ⟨rfl, hb1⟩
    rw [hV']
    go_wp2
    go_ret
    exact Fresh.nil 1 (up (up_alloc (Below.refl _ w) _) hb1)
end Go.Proofs.Ytakpjhiodmgccab
