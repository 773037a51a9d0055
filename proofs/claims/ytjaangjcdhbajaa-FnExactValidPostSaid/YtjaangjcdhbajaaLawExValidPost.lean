/- The law FnExactValidPost, walked: it returns true. -/
import Derived.Test.YtjaangjcdhbajaaExPost
import Derived.Test.YtjaangjcdhbajaaPostO
import Derived.Test.YtjaangjcdhbajaaPostS
import Derived.Deep.RegionHeld3
namespace Go.Proofs.Ytjaangjcdhbajaa
set_option linter.unusedSimpArgs false
set_option linter.unusedVariables false
open Go.RowKit

set_option maxRecDepth 100000 in
set_option maxHeartbeats 1600000 in
theorem exValidPost_any (nn cn n c : Nat) (An A : Option Addr) (ns fs : List Tri) (w : World) (hnn : nn ≤ 9223372036854775807) (hn : n ≤ 9223372036854775807) (hrn : Rd w 0 w.heap.size 3 An nn (tvs ns)) (hr : Rd w 0 w.heap.size 3 A n (tvs fs)) :
    Calls Try.prog 9 #[.agg #[.slice An nn cn, .slice A n c]] w fun e w' => e = .returned (.bool true) ∧ Below w.heap.size w w' := by
  have hb0 := up_alloc (Below.refl _ w) (.cells #[.slice An nn cn, .slice A n c] 68)
  have hx0 := Blk.new w 68 #[.slice An nn cn, .slice A n c]
  have HX0 := Lib.hid hx0
  have hlt0 := hx0.lt
  have hlen := hrn.len3
  have HLN := Lib.hid hlen
  have HLF := Lib.hid hr.len3
  clear hx0 hlen
  go_enter Try.func9, Try.ntmps9
  go_wp2_with (fail)
  (with_reducible refine (szPost_any 0 w.heap.size nn cn An ns 0 w.heap.size n c A fs 1048576 _ (hrn.keep hb0 (Nat.le_refl _)) hb0.size hnn (hr.keep hb0 (Nat.le_refl _)) hb0.size hn (by omega) (by omega)).mono ?_)
  rintro e w1 ⟨hb1, he⟩
  have hb01 := up hb0 hb1
  have hx1 := HX0.out.below hb1 hlt0
  clear hb1
  rcases he with rfl | ⟨r, rfl, q0, _, q2, q3⟩
  · have HB := Lib.hid hb01
    clear hb01 hx1
    go_wp2
    go_ret
    exact ⟨rfl, HB.out⟩
  have HS := Lib.hid hr
  clear hr
  have hd0 : w1.cell? ⟨w.heap.size, 0, none⟩ = some (.slice An nn cn) := hx1.cell 0
  have hd1 : w1.cell? ⟨w.heap.size, 1, none⟩ = some (.slice A n c) := hx1.cell 1
  have hsz1 := hb01.size
  have hlt1 := hx1.lt
  go_wp2_with (fail)
  (with_reducible refine (toPost_any 0 w.heap.size nn cn An ns 0 w.heap.size n c A fs w1 (hrn.keep hb01 (Nat.le_refl _)) hb01.size q2 (HS.out.keep hb01 (Nat.le_refl _)) hb01.size q3).mono ?_)
  rintro e w2 ⟨A2, c2, B2, d2, m2, rfl, hr2, _, hl2, hm2, hf2, _, hb2⟩
  have hb02 := up hb01 hb2
  have hx2 := hx1.below hb2 hlt1
  clear hb2 hx1 hd0 hd1
  have hsz2 := hb02.size
  go_wp2_with (fail)
  (with_reducible refine (ValidPostS_any w1.heap.size m2 ns.length c2 A2 ns m2 w2.heap.size fs.length d2 B2 fs w2 hr2 (by omega) (by rw [HLN.out]; exact q2) hf2 (Nat.le_refl _) (by rw [HLF.out]; exact q3)).mono ?_)
  rintro e w3 ⟨rfl, hb3⟩
  have hb03 := up hb02 hb3
  have hx3 := hx2.below hb3 hx2.lt
  clear hb3 hx2 hr2 hf2 hb02
  have hd0 : w3.cell? ⟨w.heap.size, 0, none⟩ = some (.slice An nn cn) := hx3.cell 0
  have hd1 : w3.cell? ⟨w.heap.size, 1, none⟩ = some (.slice A n c) := hx3.cell 1
  have hlt3 := hx3.lt
  go_wp2_with (fail)
  (with_reducible refine (toPost_any 0 w.heap.size nn cn An ns 0 w.heap.size n c A fs w3 (hrn.keep hb03 (Nat.le_refl _)) hb03.size q2 (HS.out.keep hb03 (Nat.le_refl _)) hb03.size q3).mono ?_)
  rintro e w4 ⟨A4, c4, B4, d4, m4, rfl, hr4, _, hl4, hm4, hf4, _, hb4⟩
  have hb04 := up hb03 hb4
  have hx4 := hx3.below hb4 hlt3
  clear hb4 hx3 hd0 hd1 hb03
  have hba := up_alloc (Below.refl _ w4) (.cells #[.slice A4 ns.length c4, .slice B4 fs.length d4] 74)
  have hp4 := Blk.new w4 74 #[.slice A4 ns.length c4, .slice B4 fs.length d4]
  have hx4a := hx4.alloc (.cells #[.slice A4 ns.length c4, .slice B4 fs.length d4] 74)
  have hr4a := hr4.keep hba (by omega)
  have hf4a := hf4.keep hba (Nat.le_refl _)
  have hb04a := up hb04 hba
  have hlt4 := hp4.lt
  have hsz4 := hba.size
  have hxl4 := hx4.lt
  clear hb04 hx4 hr4 hf4 hba
  have HP4 := Lib.hid hp4
  have HX4 := Lib.hid hx4a
  have HR4 := Lib.hid hr4a
  have HF4 := Lib.hid hf4a
  clear hp4 hx4a hr4a hf4a
  go_wp2_with (fail)
  (with_reducible refine (ValidPostI_any w3.heap.size m4 ns.length c4 A4 ns m4 w4.heap.size fs.length d4 B4 fs _ HR4.out (by omega) (by rw [HLN.out]; exact q2) HF4.out hsz4 (by rw [HLF.out]; exact q3)).mono ?_)
  rintro e w5 ⟨rfl, hb5⟩
  have hb05 := up hb04a hb5
  have hp5 := HP4.out.below hb5 hlt4
  have hx5 := HX4.out.below hb5 (by omega)
  have HR5 := Lib.hid (HR4.out.keep hb5 (by omega))
  have HF5 := Lib.hid (HF4.out.keep hb5 hsz4)
  have hsz5 := hb5.size
  clear hb5 hb04a HP4 HX4 HR4 HF4
  have k0 : w5.cell? ⟨w.heap.size, 0, none⟩ = some (.slice An nn cn) := hx5.cell 0
  have k1 : w5.cell? ⟨w.heap.size, 1, none⟩ = some (.slice A n c) := hx5.cell 1
  have k2 : w5.cell? ⟨w4.heap.size, 0, none⟩ = some (.slice A4 ns.length c4) := hp5.cell 0
  have k3 : w5.cell? ⟨w4.heap.size, 1, none⟩ = some (.slice B4 fs.length d4) := hp5.cell 1
  have hlx5 := hx5.lt
  have hlp5 := hp5.lt
  have HC := Lib.hid (toPost_any 0 w.heap.size nn cn An ns 0 w.heap.size n c A fs w5.drew (hrn.keep (up_drew hb05) (Nat.le_refl _)) hb05.size q2 (HS.out.keep (up_drew hb05) (Nat.le_refl _)) hb05.size q3)
  clear hx5 hp5
  have HB5 := Lib.hid hb05
  clear hb05
  generalize vPost ns fs = bb
  cases bb
  all_goals
    go_wp2
    go_region_held3 (fun w' => w'.cell? ⟨w.heap.size, 0, none⟩ = some (.slice An nn cn) ∧ w'.cell? ⟨w.heap.size, 1, none⟩ = some (.slice A n c) ∧ w'.cell? ⟨w4.heap.size, 0, none⟩ = some (.slice A4 ns.length c4) ∧ w'.cell? ⟨w4.heap.size, 1, none⟩ = some (.slice B4 fs.length d4))
      (first
        | exact ⟨k0, k1, k2, k3⟩
        | exact ⟨(hb6.cell (by show w.heap.size < w5.heap.size; omega)).trans k0, (hb6.cell (by show w.heap.size < w5.heap.size; omega)).trans k1, (hb6.cell (by show w4.heap.size < w5.heap.size; omega)).trans k2, (hb6.cell (by show w4.heap.size < w5.heap.size; omega)).trans k3⟩
        | exact ⟨(hb7.cell (by show w.heap.size < w6.heap.size; omega)).trans ((hb6.cell (by show w.heap.size < w5.heap.size; omega)).trans k0), (hb7.cell (by show w.heap.size < w6.heap.size; omega)).trans ((hb6.cell (by show w.heap.size < w5.heap.size; omega)).trans k1), (hb7.cell (by show w4.heap.size < w6.heap.size; omega)).trans ((hb6.cell (by show w4.heap.size < w5.heap.size; omega)).trans k2), (hb7.cell (by show w4.heap.size < w6.heap.size; omega)).trans ((hb6.cell (by show w4.heap.size < w5.heap.size; omega)).trans k3)⟩)
      ((first
        | (go_at_call 41; refine HC.out.mono ?_; rintro e w6 ⟨A6, c6, B6, d6, m6, rfl, hr6, _, hl6, hm6, hf6, _, hb6⟩; have hs6 : w5.heap.size ≤ w6.heap.size := hb6.size; have hlx6 : w5.heap.size ≤ m6 := hl6)
        | (go_at_call 43; refine (eqPost_same w3.heap.size m4 ns.length c4 _ m6 ns.length c6 A4 A6 ns m4 w4.heap.size fs.length d4 m6 w6.heap.size fs.length d6 B4 B6 fs w6 (HR5.out.keep (up (up_drew (Below.refl _ w5)) hb6) (by omega)) (by omega) (by rw [HLN.out]; exact q2) (HF5.out.keep (up (up_drew (Below.refl _ w5)) hb6) (by omega)) (by omega) (by rw [HLF.out]; exact q3) hr6 (by omega) hf6 (Nat.le_refl _)).mono ?_; rintro e w7 ⟨rfl, hb7⟩)))
    all_goals
      have HB7 := Lib.hid (up (up (up_drew HB5.out) hb6) hb7)
      clear hb6 hb7
      go_wp2
      go_ret
      exact ⟨rfl, HB7.out⟩
end Go.Proofs.Ytjaangjcdhbajaa
