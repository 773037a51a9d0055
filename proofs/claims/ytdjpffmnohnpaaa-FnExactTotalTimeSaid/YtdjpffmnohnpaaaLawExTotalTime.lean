/- The law FnExactTotalTime, walked: it returns true. -/
import Derived.Test.YtdjpffmnohnpaaaExProc
import Derived.Test.YtdjpffmnohnpaaaPlanC
import Derived.Test.YtdjpffmnohnpaaaPlanD
import Derived.Test.YtdjpffmnohnpaaaExInt
import Derived.Deep.RegionHeld3
set_option linter.unusedSimpArgs false
set_option linter.unusedVariables false
namespace Go.Proofs.Ytdjpffmnohnpaaa
open Go.RowKit

set_option maxRecDepth 100000 in
set_option maxHeartbeats 1600000 in
theorem exTotalTime_any (nn cn n c : Nat) (An A : Option Addr) (ns : List (Int × Int)) (fs : List Flw) (w : World) (hnn : nn ≤ 9223372036854775807) (hn : n ≤ 9223372036854775807) (hrn : Rd w 0 w.heap.size 2 An nn (pvs ns)) (hr : FlsU w 0 w.heap.size A n fs)
    (n' c' : Nat) (A' : Option Addr) (ys : List Int) (hn' : n' ≤ 9223372036854775807) (hr' : Rd w 0 w.heap.size 1 A' n' (ivs ys)) :
    Calls Try.prog 4 #[.agg #[.slice An nn cn, .slice A n c], .slice A' n' c'] w fun e w' => e = .returned (.bool true) ∧ Below w.heap.size w w' := by
  by_cases hbv : (1048576 : Int) < n'
  · go_enter Try.func4, Try.ntmps4
    go_wp2
    go_ret
    exact ⟨rfl, up_alloc (Below.refl _ _) _⟩
  have hn2 : n' ≤ 1048576 := by omega
  have hb0 := up_alloc (Below.refl _ w) (.cells #[.slice An nn cn, .slice A n c] 25)
  have hx0 := Blk.new w 25 #[.slice An nn cn, .slice A n c]
  have HX0 := Lib.hid hx0
  have hlt0 := hx0.lt
  have hlen := hrn.len2
  have HLN := Lib.hid hlen
  have HLF := Lib.hid hr.1
  clear hx0 hlen
  go_enter Try.func4, Try.ntmps4
  go_wp2_with (fail)
  (with_reducible refine (szProcess_any 0 w.heap.size nn cn An ns 0 w.heap.size n c A fs 1048576 _ (hrn.keep hb0 (Nat.le_refl _)) hb0.size hnn (hr.keep hb0 (Nat.le_refl _)) hb0.size hn (by omega) (by omega)).mono ?_)
  rintro e w1 ⟨hb1, he⟩
  have hb01 := up hb0 hb1
  have hx1 := HX0.out.below hb1 hlt0
  clear hb1
  rcases he with rfl | ⟨r, rfl, q0, _, q2, q3, q4⟩
  · have HB := Lib.hid hb01
    clear hb01 hx1
    go_wp2
    go_ret
    exact ⟨rfl, HB.out⟩
  have HS := Lib.hid (hr.small q4)
  clear q4 hr
  have hd0 : w1.cell? ⟨w.heap.size, 0, none⟩ = some (.slice An nn cn) := hx1.cell 0
  have hd1 : w1.cell? ⟨w.heap.size, 1, none⟩ = some (.slice A n c) := hx1.cell 1
  have hsz1 := hb01.size
  have hlt1 := hx1.lt
  go_wp2_with (fail)
  (with_reducible refine (toProcess_any 0 w.heap.size nn cn An ns 0 w.heap.size n c A fs w1 (hrn.keep hb01 (Nat.le_refl _)) hb01.size q2 (HS.out.keep hb01 (Nat.le_refl _)) hb01.size q3).mono ?_)
  rintro e w2 ⟨A2, c2, B2, d2, m2, rfl, hr2, _, hl2, hm2, hf2, hb2⟩
  have hb02 := up hb01 hb2
  have hx2 := hx1.below hb2 hlt1
  clear hb2 hx1 hd0 hd1
  have hsz2 := hb02.size
  go_wp2_with (fail)
  (with_reducible refine (toIntS_any 0 w.heap.size n' c' A' ys w2 (hr'.keep hb02 (Nat.le_refl _)) hb02.size hn2).mono ?_)
  rintro e w2b ⟨Av, cv, rfl, _, hrv, _, hbv2⟩
  have hx2b := hx2.below hbv2 hx2.lt
  have hsv := hbv2.size
  go_wp2_with (fail)
  (with_reducible refine (TotalTimeS_any w1.heap.size m2 ns.length c2 A2 ns m2 w2.heap.size fs.length d2 B2 fs w2.heap.size w2b.heap.size n' cv Av ys w2b (hr2.keep hbv2 (by omega)) (by omega) (by rw [HLN.out]; exact q2) ((hf2.fls (by omega) hm2).keep hbv2 (Nat.le_refl _)) (by omega) (by rw [HLF.out]; exact q3) hrv (Nat.le_refl _) hn2).mono ?_)
  rintro e w3 ⟨rfl, hb3⟩
  have hb03 := up (up hb02 hbv2) hb3
  have hx3 := hx2b.below hb3 hx2b.lt
  clear hb3 hx2 hx2b hr2 hf2 hb02 hbv2 hrv hsv
  have hd0 : w3.cell? ⟨w.heap.size, 0, none⟩ = some (.slice An nn cn) := hx3.cell 0
  have hd1 : w3.cell? ⟨w.heap.size, 1, none⟩ = some (.slice A n c) := hx3.cell 1
  have hlt3 := hx3.lt
  go_wp2_with (fail)
  (with_reducible refine (toProcess_any 0 w.heap.size nn cn An ns 0 w.heap.size n c A fs w3 (hrn.keep hb03 (Nat.le_refl _)) hb03.size q2 (HS.out.keep hb03 (Nat.le_refl _)) hb03.size q3).mono ?_)
  rintro e w4 ⟨A4, c4, B4, d4, m4, rfl, hr4, _, hl4, hm4, hf4, hb4⟩
  have hb04 := up hb03 hb4
  have hx4 := hx3.below hb4 hlt3
  clear hb4 hx3 hd0 hd1 hb03
  have hba := up_alloc (Below.refl _ w4) (.cells #[.slice A4 ns.length c4, .slice B4 fs.length d4] 32)
  have hp4 := Blk.new w4 32 #[.slice A4 ns.length c4, .slice B4 fs.length d4]
  have hx4a := hx4.alloc (.cells #[.slice A4 ns.length c4, .slice B4 fs.length d4] 32)
  have hr4a := hr4.keep hba (by omega)
  have hf4a := (hf4.fls (by omega) hm4).keep hba (Nat.le_refl _)
  have hb04a := up hb04 hba
  have hlt4 := hp4.lt
  have hsz4 := hba.size
  have hxl4 := hx4.lt
  clear hb04 hx4 hr4 hf4 hba
  have HP4 := Lib.hid hp4
  have HX4 := Lib.hid hx4a
  have HR4 := Lib.hid hr4a
  have HF4 := Lib.hid hf4a
  clear hp4 hx4a hr4a hf4a
  go_wp2_with (fail)
  (with_reducible refine (toIntS_any 0 w.heap.size n' c' A' ys _ (hr'.keep hb04a (Nat.le_refl _)) hb04a.size hn2).mono ?_)
  rintro e w4b ⟨Ax, cx, rfl, _, hrx, _, hbx⟩
  have hsx := hbx.size
  have HP4b := Lib.hid (HP4.out.below hbx hlt4)
  have HX4b := Lib.hid (HX4.out.below hbx (by omega))
  have HR4b := Lib.hid (HR4.out.keep hbx (by omega))
  have HF4b := Lib.hid (HF4.out.keep hbx hsz4)
  have HRX4 := Lib.hid (hrx.wide (Nat.zero_le _) (Nat.le_refl _))
  have hb04b := up hb04a hbx
  have hk4 : w4b.cell? ⟨w4.heap.size, 0, none⟩ = some (.slice A4 ns.length c4) := HP4b.out.cell 0
  have hk5 : w4b.cell? ⟨w4.heap.size, 1, none⟩ = some (.slice B4 fs.length d4) := HP4b.out.cell 1
  clear hrx hbx hb04a HP4 HX4 HR4 HF4
  go_wp2_with (fail)
  (with_reducible refine (TotalTimeI_any w3.heap.size m4 ns.length c4 A4 ns m4 w4.heap.size fs.length d4 B4 fs 0 w4b.heap.size n' cx Ax ys _ HR4b.out (by omega) (by rw [HLN.out]; exact q2) HF4b.out (by omega) (by rw [HLF.out]; exact q3) HRX4.out (Nat.le_refl _) hn2).mono ?_)
  rintro e w5 ⟨rfl, hb5⟩
  have hb05 := up hb04b hb5
  have hp5 := HP4b.out.below hb5 HP4b.out.lt
  have hx5 := HX4b.out.below hb5 HX4b.out.lt
  have HR5 := Lib.hid (HR4b.out.keep hb5 (by omega))
  have HF5 := Lib.hid (HF4b.out.keep hb5 (by omega))
  have HRX5 := Lib.hid (HRX4.out.keep hb5 (Nat.le_refl _))
  have hsz5 := hb5.size
  clear hb5 hb04b HP4b HX4b HR4b HF4b HRX4 hk4 hk5
  have k0 : w5.cell? ⟨w.heap.size, 0, none⟩ = some (.slice An nn cn) := hx5.cell 0
  have k1 : w5.cell? ⟨w.heap.size, 1, none⟩ = some (.slice A n c) := hx5.cell 1
  have k2 : w5.cell? ⟨w4.heap.size, 0, none⟩ = some (.slice A4 ns.length c4) := hp5.cell 0
  have k3 : w5.cell? ⟨w4.heap.size, 1, none⟩ = some (.slice B4 fs.length d4) := hp5.cell 1
  have hlx5 := hx5.lt
  have hlp5 := hp5.lt
  have HC := Lib.hid (toProcess_any 0 w.heap.size nn cn An ns 0 w.heap.size n c A fs w5.drew (hrn.keep (up_drew hb05) (Nat.le_refl _)) hb05.size q2 (HS.out.keep (up_drew hb05) (Nat.le_refl _)) hb05.size q3)
  clear hx5 hp5
  have HB5 := Lib.hid hb05
  clear hb05
  generalize totalR ns fs ys = mv
  have hmv : (mv != mv) = false := by simp
  all_goals
    go_wp2
    go_region_held3 (fun w' => w'.cell? ⟨w.heap.size, 0, none⟩ = some (.slice An nn cn) ∧ w'.cell? ⟨w.heap.size, 1, none⟩ = some (.slice A n c) ∧ w'.cell? ⟨w4.heap.size, 0, none⟩ = some (.slice A4 ns.length c4) ∧ w'.cell? ⟨w4.heap.size, 1, none⟩ = some (.slice B4 fs.length d4))
      (first
        | exact ⟨k0, k1, k2, k3⟩
        | exact ⟨(hb6.cell (by show w.heap.size < w5.heap.size; omega)).trans k0, (hb6.cell (by show w.heap.size < w5.heap.size; omega)).trans k1, (hb6.cell (by show w4.heap.size < w5.heap.size; omega)).trans k2, (hb6.cell (by show w4.heap.size < w5.heap.size; omega)).trans k3⟩
        | exact ⟨(hb7.cell (by show w.heap.size < w6.heap.size; omega)).trans ((hb6.cell (by show w.heap.size < w5.heap.size; omega)).trans k0), (hb7.cell (by show w.heap.size < w6.heap.size; omega)).trans ((hb6.cell (by show w.heap.size < w5.heap.size; omega)).trans k1), (hb7.cell (by show w4.heap.size < w6.heap.size; omega)).trans ((hb6.cell (by show w4.heap.size < w5.heap.size; omega)).trans k2), (hb7.cell (by show w4.heap.size < w6.heap.size; omega)).trans ((hb6.cell (by show w4.heap.size < w5.heap.size; omega)).trans k3)⟩)
      ((first
        | (go_at_call 17; refine HC.out.mono ?_; rintro e w6 ⟨A6, c6, B6, d6, m6, rfl, hr6, _, hl6, hm6, hf6, hb6⟩; have hs6 : w5.heap.size ≤ w6.heap.size := hb6.size; have hlx6 : w5.heap.size ≤ m6 := hl6)
        | (go_at_call 21; refine (eqProcess_same w3.heap.size m4 ns.length c4 _ m6 ns.length c6 A4 A6 ns m4 w4.heap.size fs.length d4 m6 w6.heap.size fs.length d6 B4 B6 fs w6 (HR5.out.keep (up (up_drew (Below.refl _ w5)) hb6) (by omega)) (by omega) (by rw [HLN.out]; exact q2) (HF5.out.keep (up (up_drew (Below.refl _ w5)) hb6) (by omega)) (by omega) (by rw [HLF.out]; exact q3) hr6 (by omega) (hf6.fls (by omega) hm6) (Nat.le_refl _)).mono ?_; rintro e w7 ⟨rfl, hb7⟩)))
    all_goals
      have HB7 := Lib.hid (up (up (up_drew HB5.out) hb6) hb7)
      have HRX7 := Lib.hid ((HRX5.out.keep (up_drew (Below.refl _ w5)) hsz5).keep (up hb6 hb7) hsz5)
      have hs7 : w5.heap.size ≤ w7.heap.size := (up hb6 hb7).size
      clear hb6 hb7
      go_wp2_with (fail)
      (with_reducible refine (toIntS_any 0 w.heap.size n' c' A' ys w7 (hr'.keep HB7.out (Nat.le_refl _)) HB7.out.size hn2).mono ?_)
      rintro e w8 ⟨Ay, cy, rfl, _, hry, _, hby⟩
      have HB8 := Lib.hid (up HB7.out hby)
      have HE := Lib.hid (eqIntS_any 0 w4b.heap.size n' cx w7.heap.size w8.heap.size n' cy Ax Ay ys ys w8 (HRX7.out.keep hby (by omega)) (by have := hby.size; omega) hn2 hry (Nat.le_refl _) hn2)
      clear hry hby
      go_wp2_with (fail)
      (with_reducible refine HE.out.mono ?_)
      rintro e w9 ⟨rfl, hb9⟩
      rw [beq_self_eq_true]
      have HB9 := Lib.hid (up HB8.out hb9)
      clear hb9
      go_wp2
      go_ret
      exact ⟨rfl, HB9.out⟩
end Go.Proofs.Ytdjpffmnohnpaaa
