/- The law FnExactFirstMarks, walked: it returns true. -/
import Derived.Test.YthlcbdjjegageaaExProc
import Derived.Test.YthlcbdjjegageaaTokFirstJ
import Derived.Test.YthlcbdjjegageaaTokFirstS
import Derived.Test.YthlcbdjjegageaaExInt
import Derived.Deep.RegionHeld3
namespace Go.Proofs.Ythlcbdjjegageaa
open Go.RowKit

set_option maxRecDepth 100000 in
set_option maxHeartbeats 3200000 in
theorem exFirstMarks_any (nn cn n c : Nat) (An A : Option Addr) (ns : List (Int × Int)) (fs : List Flw) (w : World) (hnn : nn ≤ 9223372036854775807) (hn : n ≤ 9223372036854775807) (hrn : Rd w 0 w.heap.size 2 An nn (pvs ns)) (hr : FlsU w 0 w.heap.size A n fs) :
    Calls Try.prog 11 #[.agg #[.slice An nn cn, .slice A n c]] w fun e w' => e = .returned (.bool true) ∧ Below w.heap.size w w' := by
  have hb0 := up_alloc (Below.refl _ w) (.cells #[.slice An nn cn, .slice A n c] 46)
  have hx0 := Blk.new w 46 #[.slice An nn cn, .slice A n c]
  have HX0 := Lib.hid hx0
  have hlt0 := hx0.lt
  have hlen := hrn.len2
  have HLN := Lib.hid hlen
  have HLF := Lib.hid hr.1
  clear hx0 hlen
  go_enter Try.func11, Try.ntmps11
  go_wp2_with (fail)
  (with_reducible refine (szProcess_any 0 w.heap.size nn cn An ns 0 w.heap.size n c A fs 1048576 _ (hrn.keep hb0 (Nat.le_refl _)) hb0.size hnn (hr.keep hb0 (Nat.le_refl _)) hb0.size hn (by omega) (by omega)).mono ?_)
  rintro e w1 ⟨hb1, he⟩
  have hb01 := up hb0 hb1
  have hx1 := HX0.out.below hb1 hlt0
  clear hb1
  rcases he with rfl | ⟨r, rfl, q0, _, q2, q3, q4⟩
  · have HB := Lib.hid hb01
    clear hb01 hx1
    go_wp2
    go_ret
    exact ⟨rfl, HB.out⟩
  have HS := Lib.hid (hr.small q4)
  clear q4 hr
  have hnn1 : ns.length ≤ 1048576 := by rw [HLN.out]; exact q2
  have hn1 : fs.length ≤ 1048576 := by rw [HLF.out]; exact q3
  have hul : (firstOf ns fs).length ≤ fs.length := by
    unfold firstOf
    split
    · simp
    · simp
  generalize hU : firstOf ns fs = us at hul
  have HU := Lib.hid hU
  have hul1 : us.length ≤ 1048576 := by omega
  clear hU hul
  have hd0 : w1.cell? ⟨w.heap.size, 0, none⟩ = some (.slice An nn cn) := hx1.cell 0
  have hd1 : w1.cell? ⟨w.heap.size, 1, none⟩ = some (.slice A n c) := hx1.cell 1
  have hsz1 := hb01.size
  have hlt1 := hx1.lt
  go_wp2_with (fail)
  (with_reducible refine (toProcess_any 0 w.heap.size nn cn An ns 0 w.heap.size n c A fs w1 (hrn.keep hb01 (Nat.le_refl _)) hb01.size q2 (HS.out.keep hb01 (Nat.le_refl _)) hb01.size q3).mono ?_)
  rintro e w2 ⟨A2, c2, B2, d2, m2, rfl, hr2, _, hl2, hm2, hf2, hb2⟩
  have hb02 := up hb01 hb2
  have hx2 := hx1.below hb2 hlt1
  clear hb2 hx1 hd0 hd1
  have hsz2 := hb02.size
  go_wp2_with (fail)
  (with_reducible refine (FirstMarksS_any w1.heap.size m2 ns.length c2 A2 ns m2 w2.heap.size fs.length d2 B2 fs w2 hr2 (by omega) hnn1 (hf2.fls (by omega) hm2) (Nat.le_refl _) hn1).mono ?_)
  rw [HU.out]
  rintro e w3 ⟨Aw, cw, rfl, _, hrw, _, hb3⟩
  have hb03 := up hb02 hb3
  have hsz23 := hb3.size
  have hx3 := hx2.below hb3 hx2.lt
  clear hb3 hx2 hr2 hf2 hb02
  have hd0 : w3.cell? ⟨w.heap.size, 0, none⟩ = some (.slice An nn cn) := hx3.cell 0
  have hd1 : w3.cell? ⟨w.heap.size, 1, none⟩ = some (.slice A n c) := hx3.cell 1
  have hlt3 := hx3.lt
  have hsz3 : w1.heap.size ≤ w3.heap.size := by omega
  go_wp2_with (fail)
  (with_reducible refine (toProcess_any 0 w.heap.size nn cn An ns 0 w.heap.size n c A fs w3 (hrn.keep hb03 (Nat.le_refl _)) hb03.size q2 (HS.out.keep hb03 (Nat.le_refl _)) hb03.size q3).mono ?_)
  rintro e w4 ⟨A4, c4, B4, d4, m4, rfl, hr4, hs4, hl4, hm4, hf4, hb4⟩
  have hb04 := up hb03 hb4
  have hx4 := hx3.below hb4 hlt3
  have hrw4 := hrw.keep hb4 (Nat.le_refl _)
  clear hb4 hx3 hd0 hd1 hb03 hrw
  have hba := up_alloc (Below.refl _ w4) (.cells #[.slice A4 ns.length c4, .slice B4 fs.length d4] 26)
  have hp4 := Blk.new w4 26 #[.slice A4 ns.length c4, .slice B4 fs.length d4]
  have hx4a := hx4.alloc (.cells #[.slice A4 ns.length c4, .slice B4 fs.length d4] 26)
  have hr4a := hr4.keep hba (by omega)
  have hs4a := hs4.kept hr4 hba (by omega)
  have hf4a := hf4.keep hba (by omega) (Nat.le_refl _)
  have hrw4a := hrw4.keep hba (by omega)
  have hb04a := up hb04 hba
  have hlt4 := hp4.lt
  have hsz4 := hba.size
  have hxl4 := hx4.lt
  clear hb04 hx4 hr4 hf4 hba hs4 hrw4
  have HP4 := Lib.hid hp4
  have HX4 := Lib.hid hx4a
  have HR4 := Lib.hid hr4a
  have HS4 := Lib.hid hs4a
  have HF4 := Lib.hid hf4a
  have HRW4 := Lib.hid hrw4a
  clear hp4 hx4a hr4a hf4a hs4a hrw4a
  go_wp2_with (fail)
  (with_reducible refine (FirstMarksI_any w3.heap.size m4 ns.length c4 A4 ns m4 w4.heap.size fs.length d4 B4 fs _ HR4.out (by omega) hnn1 (HF4.out.fls (by omega) hm4) hsz4 hn1).mono ?_)
  rw [HU.out]
  rintro e w5 ⟨Ag, cg, rfl, _, hrg, hsg, hb5⟩
  have hb05 := up hb04a hb5
  have hp5 := HP4.out.below hb5 hlt4
  have hx5 := HX4.out.below hb5 (by omega)
  have hr5 := HR4.out.keep hb5 (by omega)
  have hs5 := HS4.out.kept HR4.out hb5 (by omega)
  have hf5 := HF4.out.keep hb5 (by omega) hsz4
  have hrw5 := HRW4.out.keep hb5 (by omega)
  have hsz5 := hb5.size
  have hlog : w4.heap.size + 1 ≤ (w4.alloc (.cells #[.slice A4 ns.length c4, .slice B4 fs.length d4] 26)).heap.size := by simp
  have hrg5 := hrg.wide (lo' := w4.heap.size + 1) hlog (Nat.le_refl _)
  clear hb5 hb04a HP4 HX4 HR4 HF4 HS4 HRW4 hrg
  go_wp2_with (fail)
  (with_reducible refine (eqIntS_any _ _ us.length cg _ _ us.length cw Ag Aw us us w5 hrg5 (Nat.le_refl _) hul1 hrw5 (by omega) hul1).mono ?_)
  rintro e w6 ⟨rfl, hb6⟩
  rw [beq_self_eq_true]
  have hb06 := up hb05 hb6
  have hp6 := hp5.below hb6 hp5.lt
  have hx6 := hx5.below hb6 hx5.lt
  have HR6 := Lib.hid (hr5.keep hb6 (by omega))
  have HS6 := Lib.hid (hs5.kept hr5 hb6 (by omega))
  have HF6 := Lib.hid (hf5.keep hb6 (by omega) (by omega))
  have HRW6 := Lib.hid (hrw5.keep hb6 (by omega))
  have HRG6 := Lib.hid (hrg5.keep hb6 (Nat.le_refl _))
  have HSG6 := Lib.hid (hsg.kept hrg5 hb6 (Nat.le_refl _))
  have hsz6 := hb6.size
  clear hb05 hp5 hx5 hr5 hs5 hf5 hrw5 hrg5 hsg hb6
  have k0 : w6.cell? ⟨w.heap.size, 0, none⟩ = some (.slice An nn cn) := hx6.cell 0
  have k1 : w6.cell? ⟨w.heap.size, 1, none⟩ = some (.slice A n c) := hx6.cell 1
  have k2 : w6.cell? ⟨w4.heap.size, 0, none⟩ = some (.slice A4 ns.length c4) := hp6.cell 0
  have k3 : w6.cell? ⟨w4.heap.size, 1, none⟩ = some (.slice B4 fs.length d4) := hp6.cell 1
  have hlx6 := hx6.lt
  have hlp6 := hp6.lt
  have HC := Lib.hid (toProcess_any 0 w.heap.size nn cn An ns 0 w.heap.size n c A fs w6.drew (hrn.keep (up_drew hb06) (Nat.le_refl _)) hb06.size q2 (HS.out.keep (up_drew hb06) (Nat.le_refl _)) hb06.size q3)
  have HX6 := Lib.hid hx6
  have HP6 := Lib.hid hp6
  have HB6 := Lib.hid hb06
  clear hb06 hx6 hp6
  go_wp2
  go_region_held3 (fun w' => w'.cell? ⟨w.heap.size, 0, none⟩ = some (.slice An nn cn) ∧ w'.cell? ⟨w.heap.size, 1, none⟩ = some (.slice A n c) ∧ w'.cell? ⟨w4.heap.size, 0, none⟩ = some (.slice A4 ns.length c4) ∧ w'.cell? ⟨w4.heap.size, 1, none⟩ = some (.slice B4 fs.length d4))
    (first
      | exact ⟨k0, k1, k2, k3⟩
      | exact ⟨(hb7.cell (by show w.heap.size < w6.heap.size; omega)).trans k0, (hb7.cell (by show w.heap.size < w6.heap.size; omega)).trans k1, (hb7.cell (by show w4.heap.size < w6.heap.size; omega)).trans k2, (hb7.cell (by show w4.heap.size < w6.heap.size; omega)).trans k3⟩
      | exact ⟨(hb8.cell (by show w.heap.size < w7.heap.size; omega)).trans ((hb7.cell (by show w.heap.size < w6.heap.size; omega)).trans k0), (hb8.cell (by show w.heap.size < w7.heap.size; omega)).trans ((hb7.cell (by show w.heap.size < w6.heap.size; omega)).trans k1), (hb8.cell (by show w4.heap.size < w7.heap.size; omega)).trans ((hb7.cell (by show w4.heap.size < w6.heap.size; omega)).trans k2), (hb8.cell (by show w4.heap.size < w7.heap.size; omega)).trans ((hb7.cell (by show w4.heap.size < w6.heap.size; omega)).trans k3)⟩)
    ((first
      | (go_at_call 35; refine HC.out.mono ?_; rintro e w7 ⟨A7, c7, B7, d7, m7, rfl, hr7, _, hl7, hm7, hf7, hb7⟩; have hs7 : w6.heap.size ≤ w7.heap.size := hb7.size; have hlx7 : w6.heap.size ≤ m7 := hl7)
      | (go_at_call 38; refine (eqProcess_same w3.heap.size m4 ns.length c4 _ m7 ns.length c7 A4 A7 ns m4 w4.heap.size fs.length d4 m7 w7.heap.size fs.length d7 B4 B7 fs w7 (HR6.out.keep (up (up_drew (Below.refl _ w6)) hb7) (by omega)) (by omega) hnn1 ((HF6.out.fls (by omega) hm4).keep (up (up_drew (Below.refl _ w6)) hb7) (by omega)) (by omega) hn1 hr7 (by omega) (hf7.fls (by omega) hm7) (Nat.le_refl _)).mono ?_; rintro e w8 ⟨rfl, hb8⟩)))
  all_goals
    have hb68 := up (up (up_drew (Below.refl _ w6)) hb7) hb8
    have hb08 := up HB6.out hb68
    have hx8 := HX6.out.below hb68 hlx6
    have hp8 := HP6.out.below hb68 hlp6
    have hr8 := HR6.out.keep hb68 (by omega)
    have hs8 := HS6.out.kept HR6.out hb68 (by omega)
    have hf8 := HF6.out.keep hb68 (by omega) (by omega)
    have hrw8 := HRW6.out.keep hb68 (by omega)
    have hrg8 := HRG6.out.keep hb68 (by omega)
    have hsg8 := HSG6.out.kept HRG6.out hb68 (by omega)
    have hsz8 := hb68.size
    clear hb68 hb7 hb8 hr7 hf7 HX6 HP6 HR6 HS6 HF6 HRW6 HRG6 HSG6 HB6 HC
    have j0 : w8.cell? ⟨w.heap.size, 0, none⟩ = some (.slice An nn cn) := hx8.cell 0
    have j1 : w8.cell? ⟨w.heap.size, 1, none⟩ = some (.slice A n c) := hx8.cell 1
    have j2 : w8.cell? ⟨w4.heap.size, 0, none⟩ = some (.slice A4 ns.length c4) := hp8.cell 0
    have j3 : w8.cell? ⟨w4.heap.size, 1, none⟩ = some (.slice B4 fs.length d4) := hp8.cell 1
    go_wp2_with (fail)
    (with_reducible refine (markProcess_any w3.heap.size m4 w4.heap.size ns.length c4 fs.length d4 A4 B4 ns fs w8 hr8 hs8 hnn1 hf8 hl4 hm4 (by omega) hn1).mono ?_)
    rintro e w10 ⟨rk, w9, rfl, hrk, hb89, hwi⟩
    have hlx8 := hx8.lt
    have hb09 := up hb08 hb89
    have hb010 := Within.below hb09 hwi (by omega)
    have hsz9 := hb89.size
    have hsz10 := hwi.size
    have hx9 := hx8.below hb89 hlx8
    have hrw10 := (hrw8.keep hb89 (by omega)).within hwi (by omega) (.inl (Nat.le_refl _))
    have hrg9 := hrg8.keep hb89 (by omega)
    have hsg9 := hsg8.kept hrg8 hb89 (by omega)
    have hrg10 := hrg9.within hwi (by omega) (.inr (by omega))
    have hsg10 := hsg9.within hrg9 hwi (by omega) (.inr (by omega))
    have hx10 : Blk w10 w.heap.size 46 #[.slice An nn cn, .slice A n c] := (hwi.block w.heap.size (by omega) (.inl (by omega))).trans hx9
    have HX10 := Lib.hid hx10
    have HB10 := Lib.hid hb010
    clear hb08 hx8 hp8 hr8 hs8 hf8 hrw8 hrg8 hsg8 hb89 hwi hb09 hx9 hrg9 hsg9 j0 j1 j2 j3 hx10 hb010 k0 k1 k2 k3
    go_wp2_with (fail)
    (with_reducible refine (eqIntS_any _ _ us.length cg _ _ us.length cw Ag Aw us us w10 hrg10 (by omega) hul1 hrw10 (by omega) hul1).mono ?_)
    rintro e w11 ⟨rfl, hb11⟩
    rw [beq_self_eq_true]
    have hb011 := up HB10.out hb11
    have hx11 := HX10.out.below hb11 (by omega)
    have hrw11 := hrw10.keep hb11 (by omega)
    have hrg11 := hrg10.keep hb11 (by omega)
    have hsg11 := hsg10.kept hrg10 hb11 (by omega)
    have hsz11 := hb11.size
    clear hb11 hrw10 hrg10 hsg10 HX10 HB10
    go_wp2_with (fail)
    (with_reducible refine (markIntS_any _ _ us.length cg Ag _ 1 w11 hrg11 hsg11 hul1 (by omega) (by omega)).mono ?_)
    rintro e w12 ⟨rfl, hrg12, _, hin12⟩
    have hb012 := in_below hb011 hin12 hrg11 (by omega)
    have hrw12 := hrw11.other (by omega) hin12 hrg11 (.inl (by omega))
    have hx12 := hx11.grown hin12 (fun e => by have := in_row hrg11 _ e.symm; omega)
    have hsz12 := hin12.size
    clear hb011 hin12 hrg11 hrw11 hsg11 hx11
    go_wp2_with (fail)
    (with_reducible refine (heldIntS_any _ _ us.length cg Ag 1 w12 hrg12 hul1 (by omega) (by omega)).mono ?_)
    rintro e w13 ⟨rfl, rfl⟩
    have i0 : w12.cell? ⟨w.heap.size, 0, none⟩ = some (.slice An nn cn) := hx12.cell 0
    have i1 : w12.cell? ⟨w.heap.size, 1, none⟩ = some (.slice A n c) := hx12.cell 1
    go_wp2_with (fail)
    (with_reducible refine (toProcess_any 0 w.heap.size nn cn An ns 0 w.heap.size n c A fs w12 (hrn.keep hb012 (Nat.le_refl _)) hb012.size q2 (HS.out.keep hb012 (Nat.le_refl _)) hb012.size q3).mono ?_)
    rintro e w14 ⟨A14, c14, B14, d14, m14, rfl, hr14, _, hl14, hm14, hf14, hb14⟩
    have hsz14 := hb14.size
    go_wp2_with (fail)
    (with_reducible refine (FirstMarksI_any w12.heap.size m14 ns.length c14 A14 ns m14 w14.heap.size fs.length d14 B14 fs w14 hr14 (by omega) hnn1 (hf14.fls (by omega) hm14) (Nat.le_refl _) hn1).mono ?_)
    rw [HU.out]
    rintro e w15 ⟨Ah, ch, rfl, _, hrh, _, hb15⟩
    have hb1215 := up hb14 hb15
    have hsz15 := hb15.size
    go_wp2_with (fail)
    (with_reducible refine (eqIntS_any _ _ us.length ch _ _ us.length cw Ah Aw us us w15 hrh (by omega) hul1 (hrw12.keep hb1215 (by omega)) (by omega) hul1).mono ?_)
    rintro e w16 ⟨rfl, hb16⟩
    rw [beq_self_eq_true]
    have hb1216 := up hb1215 hb16
    go_wp2_with (fail)
    (with_reducible refine (heldIntS_any _ _ us.length cg Ag 1 w16 (hrg12.keep hb1216 (by omega)) hul1 (by omega) (by omega)).mono ?_)
    rintro e w17 ⟨rfl, rfl⟩
    have HBZ := Lib.hid (up hb012 hb1216)
    clear hb1216 hb1215 hb16 hb15 hb14
    go_wp2
    go_ret
    exact ⟨rfl, HBZ.out⟩
end Go.Proofs.Ythlcbdjjegageaa
