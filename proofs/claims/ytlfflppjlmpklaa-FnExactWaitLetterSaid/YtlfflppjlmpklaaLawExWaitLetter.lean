/- The law FnExactWaitLetter, walked: it returns true. (Written by gen/exsend.py.) -/
import Derived.Test.YtlfflppjlmpklaaExGot
import Derived.Test.YtlfflppjlmpklaaSendT
import Derived.Test.YtlfflppjlmpklaaSendI
import Derived.Deep.RegionHeld3
import Derived.Deep.CutRange
set_option linter.unusedSimpArgs false
set_option linter.unusedVariables false
namespace Go.Proofs.Ytlfflppjlmpklaa
open Go.RowKit

set_option maxRecDepth 100000 in
set_option maxHeartbeats 12800000 in
theorem exWaitLetter_any (nn cn n c : Nat) (An A : Option Addr) (ns fs : List Tri) (w : World) (hnn : nn ≤ 9223372036854775807) (hn : n ≤ 9223372036854775807) (hrn : Rd w 0 w.heap.size 3 An nn (tvs ns)) (hr : Rd w 0 w.heap.size 3 A n (tvs fs)) (x0 x1 x2 : Int) :
    Calls Try.prog 13 #[.agg #[.slice An nn cn, .slice A n c], .agg #[.int .i64 x0, .int .i64 x1, .int .i64 x2]] w fun e w' => e = .returned (.bool true) ∧ Below w.heap.size w w' := by
  have HLN := Lib.hid hrn.len3
  have HLF := Lib.hid hr.len3
  have hb0 := up_alloc (up_alloc (Below.refl _ w) (.cells #[.slice An nn cn, .slice A n c] 51)) (.cells #[.int .i64 x0, .int .i64 x1, .int .i64 x2] 58)
  have hx0 : Blk ((w.alloc (.cells #[.slice An nn cn, .slice A n c] 51)).alloc (.cells #[.int .i64 x0, .int .i64 x1, .int .i64 x2] 58)) w.heap.size 51 #[.slice An nn cn, .slice A n c] := (Blk.new w _ _).alloc _
  have hl0 : Blk ((w.alloc (.cells #[.slice An nn cn, .slice A n c] 51)).alloc (.cells #[.int .i64 x0, .int .i64 x1, .int .i64 x2] 58)) (w.heap.size + 1) 58 #[.int .i64 x0, .int .i64 x1, .int .i64 x2] := Blk.new2 (by simp)
  have hsz : w.heap.size + 1 + 1 ≤ ((w.alloc (.cells #[.slice An nn cn, .slice A n c] 51)).alloc (.cells #[.int .i64 x0, .int .i64 x1, .int .i64 x2] 58)).heap.size := by simp
  obtain ⟨d1, d2, k, b, hRR⟩ : ∃ d1 d2 k b, waitOf ns fs (x0, x1, x2) = ((d1, d2), k, b) := ⟨_, _, _, _, rfl⟩
  have hln := wait_lens ns fs (x0, x1, x2)
  rw [hRR] at hln
  obtain ⟨hd1, hd2⟩ : d1.length ≤ 10 ∧ d2.length ≤ 10 := hln
  have HRR := Lib.hid hRR
  clear hRR
  have hkk : (k != k) = false := by simp
  have hbb : (b != b) = false := by simp
  go_enter Try.func13, Try.ntmps13
  go_wp2_with (fail)
  generalize hw0 : ((w.alloc (.cells #[.slice An nn cn, .slice A n c] 51)).alloc (.cells #[.int .i64 x0, .int .i64 x1, .int .i64 x2] 58)) = w0 at *
  clear hw0
  have HRN0 := Lib.hid (hrn.keep hb0 (Nat.le_refl _))
  have HR0 := Lib.hid (hr.keep hb0 (Nat.le_refl _))
  have hB0 := hb0.size
  have HB0 := Lib.hid hb0
  have HX0 := Lib.hid hx0
  have HL0 := Lib.hid hl0
  have HRN := Lib.hid hrn
  have HR := Lib.hid hr
  clear hrn hr hb0 hx0 hl0
  (with_reducible refine (szPost_any 0 w.heap.size nn cn An ns 0 w.heap.size n c A fs 1048576 w0 HRN0.out hB0 hnn HR0.out hB0 hn (by omega) (by omega)).mono ?_)
  rintro e w1 ⟨hb1, he⟩
  have hz1 := hb1.size
  have HB1 := Lib.hid (up HB0.out hb1)
  have HX1 := Lib.hid (HX0.out.below hb1 (by omega))
  have HL1 := Lib.hid (HL0.out.below hb1 (by omega))
  clear hb1 HB0 HX0 HL0 HRN0 HR0
  rcases he with rfl | ⟨r, rfl, q0, _, q2, q3⟩
  · go_wp2
    go_ret
    exact ⟨rfl, HB1.out⟩
  have hnn1 : ns.length ≤ 1048576 := by rw [HLN.out]; exact q2
  have hfl1 : fs.length ≤ 1048576 := by rw [HLF.out]; exact q3
  have kc0 : w1.cell? ⟨w.heap.size, 0, none⟩ = some (.slice An nn cn) := HX1.out.cell 0
  have kc1 : w1.cell? ⟨w.heap.size, 1, none⟩ = some (.slice A n c) := HX1.out.cell 1
  have kc2 : w1.cell? ⟨w.heap.size + 1, 0, none⟩ = some (.int .i64 x0) := HL1.out.cell 0
  have kc3 : w1.cell? ⟨w.heap.size + 1, 1, none⟩ = some (.int .i64 x1) := HL1.out.cell 1
  have kc4 : w1.cell? ⟨w.heap.size + 1, 2, none⟩ = some (.int .i64 x2) := HL1.out.cell 2
  have HKC := Lib.hid (fun (u : World) (hu : Below w1.heap.size w1 u) => (⟨(hu.cell (by show w.heap.size < w1.heap.size; omega)).trans kc0, (hu.cell (by show w.heap.size < w1.heap.size; omega)).trans kc1, (hu.cell (by show w.heap.size + 1 < w1.heap.size; omega)).trans kc2, (hu.cell (by show w.heap.size + 1 < w1.heap.size; omega)).trans kc3, (hu.cell (by show w.heap.size + 1 < w1.heap.size; omega)).trans kc4⟩ : u.cell? ⟨w.heap.size, 0, none⟩ = some (.slice An nn cn) ∧ u.cell? ⟨w.heap.size, 1, none⟩ = some (.slice A n c) ∧ u.cell? ⟨w.heap.size + 1, 0, none⟩ = some (.int .i64 x0) ∧ u.cell? ⟨w.heap.size + 1, 1, none⟩ = some (.int .i64 x1) ∧ u.cell? ⟨w.heap.size + 1, 2, none⟩ = some (.int .i64 x2)))
  have HTP := Lib.hid (fun (u : World) (hu : Below w1.heap.size w1 u) => toPostC_any 0 w.heap.size nn cn An ns 0 w.heap.size n c A fs u (HRN.out.keep (up HB1.out hu) (Nat.le_refl _)) (Nat.le_trans HB1.out.size hu.size) q2 (HR.out.keep (up HB1.out hu) (Nat.le_refl _)) (Nat.le_trans HB1.out.size hu.size) q3)
  go_upto_region 5 with fail
  go_cut [6, 7, 8] from 24 to 32 (fun s6 s7 s8 wx => ∃ g A1 n1 c1 A2 n2 c2 lo hi, s6 = .pointer (some ⟨g, 0, none⟩) ∧ s7 = .bool k ∧ s8 = .bool b ∧ Hid (Got w1 d1 d2 g A1 n1 c1 A2 n2 c2 lo hi wx))
  case first =>
    go_region_held3 (fun w' => w'.cell? ⟨w.heap.size, 0, none⟩ = some (.slice An nn cn) ∧ w'.cell? ⟨w.heap.size, 1, none⟩ = some (.slice A n c) ∧ w'.cell? ⟨w.heap.size + 1, 0, none⟩ = some (.int .i64 x0) ∧ w'.cell? ⟨w.heap.size + 1, 1, none⟩ = some (.int .i64 x1) ∧ w'.cell? ⟨w.heap.size + 1, 2, none⟩ = some (.int .i64 x2))
      (first | exact ⟨kc0, kc1, kc2, kc3, kc4⟩ | exact HKC.out _ (up_drew (Below.refl _ _)) | exact HKC.out _ (up_drew (up_alloc (Below.refl _ _) _)) | exact HKC.out _ hBA | exact HKC.out _ (up_alloc hBA _) | exact HKC.out _ hBB | exact HKC.out _ (up_alloc hBB _) | exact HKC.out _ hBC | exact HKC.out _ (up_alloc hBC _) | (refine HKC.out _ (Below.setCell (Below.setCell hBC ?_ _) ?_ _) <;> first | exact Nat.le_refl _ | exact hyA | exact hyC))
      ((first
        | (go_at_call 30; (with_reducible refine (HTP.out _ (by repeat (first | (with_reducible exact Below.refl _ _) | (with_reducible refine up_drew ?_) | (with_reducible refine up_alloc ?_ _)))).mono ?_)
           rintro e wa ⟨Ana, cna, Bfa, dfa, mida, rfl, hrt, _, hlt, hmt, hft, _, hbt, hca, hcb⟩
           have hBA : Below w1.heap.size w1 wa := by first | exact up (up_drew (Below.refl _ w1)) hbt | exact up (up_drew (up_alloc (Below.refl _ w1) _)) hbt
           have hza := hbt.size
           have hyA := hBA.size
           first | (have hG1 := (Blk.new w1 26 #[.slice none 0 0, .slice none 0 0]).drew.below hbt (Blk.new w1 26 #[.slice none 0 0, .slice none 0 0]).drew.lt) | skip
           have HNa := hrt.wide (Nat.zero_le _) hmt
           have HFa := hft.wide (Nat.zero_le _) (Nat.le_refl _))
        | (go_at_call 35; (with_reducible refine (toSub_any x0 x1 x2 _).mono ?_)
           rintro e wb ⟨rfl, hbu⟩
           have hAB : Below wa.heap.size wa wb := by first | exact hbu | exact up (up_alloc (Below.refl _ wa) _) hbu
           have hBB : Below w1.heap.size w1 wb := up hBA hAB
           have hyB := hAB.size
           have hyC := hBB.size
           first | (have hG2 := hG1.below hbu hG1.lt) | (have hG2 := (Blk.new wa 26 #[.slice none 0 0, .slice none 0 0]).below hbu (Blk.new wa 26 #[.slice none 0 0, .slice none 0 0]).lt) | skip)
        | (go_at_call 25; (with_reducible refine ((fun (u : World) (hu : Below wa.heap.size wa u) => WaitLetterS_any 0 wa.heap.size ns.length cna Ana ns 0 wa.heap.size fs.length dfa Bfa fs x0 x1 x2 u (HNa.keep (B := wa.heap.size) hu (by omega)) (Nat.le_trans (by omega) hu.size) hnn1 (HFa.keep (B := wa.heap.size) hu (by omega)) (Nat.le_trans (by omega) hu.size) hfl1 hca hcb) _ (by first | (with_reducible exact hAB) | (with_reducible exact up_alloc hAB _))).mono ?_)
           rw [HRR.out]
           rintro e wc ⟨A1, n1, c1, A2, n2, c2, rfl, hcr, hbv⟩
           have hBC : Below w1.heap.size w1 wc := by first | exact up hBB hbv | exact up (up_alloc hBB _) hbv
           have hzc := hbv.size
           first | (have hG3 := hG2.below hbv hG2.lt) | (have hG3 := (Blk.new wb 26 #[.slice none 0 0, .slice none 0 0]).below hbv (Blk.new wb 26 #[.slice none 0 0, .slice none 0 0]).lt) | skip
           first | (have g0 := hG3.cell 0; have g1 := hG3.cell 1; have f0 := hG3.soft 0; have f1 := hG3.soft 1) | skip)))
    all_goals
      go_wp2_with fail
      go_meet
      first
        | exact ⟨_, A1, n1, c1, A2, n2, c2, _, _, rfl, rfl, rfl, Got.last hcr hyC hzc hBC⟩
        | exact ⟨_, A1, n1, c1, A2, n2, c2, _, _, rfl, rfl, rfl, Got.early hcr hG3 (Nat.le_refl _) hG2.lt hzc hBC⟩
        | exact ⟨_, A1, n1, c1, A2, n2, c2, _, _, rfl, rfl, rfl, Got.early hcr hG3 hyA hG2.lt hzc hBC⟩
        | exact ⟨_, A1, n1, c1, A2, n2, c2, _, _, rfl, rfl, rfl, Got.early hcr hG3 hyC (Blk.new wb 26 #[.slice none 0 0, .slice none 0 0]).lt hzc hBC⟩
  case rest =>
  obtain ⟨gs, A1s, n1s, c1s, A2s, n2s, c2s, los, his, rfl, rfl, rfl, HG⟩ := hcut
  clear HKC kc0 kc1 kc2 kc3 kc4 HTP
  generalize wc = ws at *
  have hcut := HG.out
  have hbs := hcut.bel
  have hzs := hbs.size
  have has := hcut.hlo
  have hhs := hcut.hhi
  have hls := hcut.hle
  have hos := hcut.hoff
  have hts := hcut.at_
  have HB_ws := Lib.hid (up HB1.out hbs)
  have HX_ws := Lib.hid (HX1.out.below hbs (by omega))
  have HL_ws := Lib.hid (HL1.out.below hbs (by omega))
  clear HB1 HX1 HL1
  have HYs := Lib.hid hcut.box
  have hps := hcut.box.lt
  obtain ⟨l1s, u1s, l2s, u2s, p1s, p2s, p3s, p4s, p5s, hr1, hs1, hr2, hs2⟩ := hcut.parts
  have HRAs := Lib.hid hr1
  have HSAs := Lib.hid hs1
  have HRBs := Lib.hid hr2
  have HSBs := Lib.hid hs2
  have hm1s : n1s ≤ 1048576 := by have := hr1.len3; omega
  have hm2s : n2s ≤ 1048576 := by have := hr2.len3; omega
  clear hr1 hs1 hr2 hs2 hcut HG hbs
  have kx0 : ws.cell? ⟨w.heap.size, 0, none⟩ = some (.slice An nn cn) := HX_ws.out.cell 0
  have kx1 : ws.cell? ⟨w.heap.size, 1, none⟩ = some (.slice A n c) := HX_ws.out.cell 1
  go_wp2_with (fail)
  (with_reducible refine (toPostC_any 0 w.heap.size nn cn An ns 0 w.heap.size n c A fs ws (HRN.out.keep HB_ws.out (Nat.le_refl _)) HB_ws.out.size q2 (HR.out.keep HB_ws.out (Nat.le_refl _)) HB_ws.out.size q3).mono ?_)
  rintro e wd ⟨Anb, cnb, Bfb, dfb, midb, rfl, hrt, hst, hltb, hmtb, hft, hgt, hbt, hcab, hcbb⟩
  have hzd := hbt.size
  clear kx0 kx1
  have HB_wd := Lib.hid (up HB_ws.out hbt)
  have HX_wd := Lib.hid (HX_ws.out.below hbt (by omega))
  have HL_wd := Lib.hid (HL_ws.out.below hbt (by omega))
  have HYs_wd := Lib.hid (HYs.out.below hbt (by omega))
  have RAs_wd := Lib.hid (HRAs.out.keep hbt (by omega))
  have SAs_wd := Lib.hid (HSAs.out.kept HRAs.out hbt (by omega))
  have RBs_wd := Lib.hid (HRBs.out.keep hbt (by omega))
  have SBs_wd := Lib.hid (HSBs.out.kept HRBs.out hbt (by omega))
  clear HB_ws HX_ws HL_ws HYs HRAs HSAs HRBs HSBs
  have HRAb := Lib.hid hrt
  have HSAb := Lib.hid hst
  have HRBb := Lib.hid hft
  have HSBb := Lib.hid hgt
  clear hrt hst hft hgt hbt
  have hba := up_alloc (Below.refl _ wd) (.cells #[.slice Anb ns.length cnb, .slice Bfb fs.length dfb] 26)
  have hp := Blk.new wd 26 #[.slice Anb ns.length cnb, .slice Bfb fs.length dfb]
  have hzz : wd.heap.size + 1 ≤ (wd.alloc (.cells #[.slice Anb ns.length cnb, .slice Bfb fs.length dfb] 26)).heap.size := by simp
  go_upto_region 7 with fail
  generalize hWe : (wd.alloc (.cells #[.slice Anb ns.length cnb, .slice Bfb fs.length dfb] 26)) = we at *
  clear hWe
  have HB_we := Lib.hid (up HB_wd.out hba)
  have HX_we := Lib.hid (HX_wd.out.below hba (by omega))
  have HL_we := Lib.hid (HL_wd.out.below hba (by omega))
  have HYs_we := Lib.hid (HYs_wd.out.below hba (by omega))
  have RAs_we := Lib.hid (RAs_wd.out.keep hba (by omega))
  have SAs_we := Lib.hid (SAs_wd.out.kept RAs_wd.out hba (by omega))
  have RBs_we := Lib.hid (RBs_wd.out.keep hba (by omega))
  have SBs_we := Lib.hid (SBs_wd.out.kept RBs_wd.out hba (by omega))
  have RAb_we := Lib.hid (HRAb.out.keep hba (by omega))
  have SAb_we := Lib.hid (HSAb.out.kept HRAb.out hba (by omega))
  have RBb_we := Lib.hid (HRBb.out.keep hba (by omega))
  have SBb_we := Lib.hid (HSBb.out.kept HRBb.out hba (by omega))
  clear HB_wd HX_wd HL_wd HYs_wd RAs_wd SAs_wd RBs_wd SBs_wd HRAb HSAb HRBb HSBb
  have HYb := Lib.hid hp
  clear hba hp
  have kc0 : we.cell? ⟨wd.heap.size, 0, none⟩ = some (.slice Anb ns.length cnb) := HYb.out.cell 0
  have kc1 : we.cell? ⟨wd.heap.size, 1, none⟩ = some (.slice Bfb fs.length dfb) := HYb.out.cell 1
  have kc2 : we.cell? ⟨w.heap.size + 1, 0, none⟩ = some (.int .i64 x0) := HL_we.out.cell 0
  have kc3 : we.cell? ⟨w.heap.size + 1, 1, none⟩ = some (.int .i64 x1) := HL_we.out.cell 1
  have kc4 : we.cell? ⟨w.heap.size + 1, 2, none⟩ = some (.int .i64 x2) := HL_we.out.cell 2
  have HKC := Lib.hid (fun (u : World) (hu : Below we.heap.size we u) => (⟨(hu.cell (by show wd.heap.size < we.heap.size; omega)).trans kc0, (hu.cell (by show wd.heap.size < we.heap.size; omega)).trans kc1, (hu.cell (by show w.heap.size + 1 < we.heap.size; omega)).trans kc2, (hu.cell (by show w.heap.size + 1 < we.heap.size; omega)).trans kc3, (hu.cell (by show w.heap.size + 1 < we.heap.size; omega)).trans kc4⟩ : u.cell? ⟨wd.heap.size, 0, none⟩ = some (.slice Anb ns.length cnb) ∧ u.cell? ⟨wd.heap.size, 1, none⟩ = some (.slice Bfb fs.length dfb) ∧ u.cell? ⟨w.heap.size + 1, 0, none⟩ = some (.int .i64 x0) ∧ u.cell? ⟨w.heap.size + 1, 1, none⟩ = some (.int .i64 x1) ∧ u.cell? ⟨w.heap.size + 1, 2, none⟩ = some (.int .i64 x2)))
  go_upto_region 7 with fail
  go_cut [10, 11, 12] from 35 to 42 (fun s10 s11 s12 wx => ∃ g A1 n1 c1 A2 n2 c2 lo hi, s10 = .pointer (some ⟨g, 0, none⟩) ∧ s11 = .bool k ∧ s12 = .bool b ∧ Hid (Got we d1 d2 g A1 n1 c1 A2 n2 c2 lo hi wx))
  case first =>
    go_region_held3 (fun w' => w'.cell? ⟨wd.heap.size, 0, none⟩ = some (.slice Anb ns.length cnb) ∧ w'.cell? ⟨wd.heap.size, 1, none⟩ = some (.slice Bfb fs.length dfb) ∧ w'.cell? ⟨w.heap.size + 1, 0, none⟩ = some (.int .i64 x0) ∧ w'.cell? ⟨w.heap.size + 1, 1, none⟩ = some (.int .i64 x1) ∧ w'.cell? ⟨w.heap.size + 1, 2, none⟩ = some (.int .i64 x2))
      (first | exact ⟨kc0, kc1, kc2, kc3, kc4⟩ | exact HKC.out _ (up_drew (Below.refl _ _)) | exact HKC.out _ (up_drew (up_alloc (Below.refl _ _) _)) | exact HKC.out _ hBA | exact HKC.out _ (up_alloc hBA _) | exact HKC.out _ hBB | exact HKC.out _ (up_alloc hBB _) | exact HKC.out _ hBC | exact HKC.out _ (up_alloc hBC _) | (refine HKC.out _ (Below.setCell (Below.setCell hBC ?_ _) ?_ _) <;> first | exact Nat.le_refl _ | exact hyA | exact hyC))
      ((first
        | (go_at_call 35; (with_reducible refine (toSub_any x0 x1 x2 _).mono ?_)
           rintro e wb ⟨rfl, hbu⟩
           have hAB : Below we.heap.size we wb := by first | exact up (up_drew (Below.refl _ we)) hbu | exact up (up_drew (up_alloc (Below.refl _ we) _)) hbu
           have hBB : Below we.heap.size we wb := hAB
           have hyB := hAB.size
           have hyC := hBB.size
           first | (have hG2 := hG1.below hbu hG1.lt) | (have hG2 := (Blk.new we 26 #[.slice none 0 0, .slice none 0 0]).drew.below hbu (Blk.new we 26 #[.slice none 0 0, .slice none 0 0]).drew.lt) | skip)
        | (go_at_call 23; (with_reducible refine ((fun (u : World) (hu : Below we.heap.size we u) => WaitLetterI_any ws.heap.size midb ns.length cnb Anb ns midb wd.heap.size fs.length dfb Bfb fs x0 x1 x2 u (RAb_we.out.keep (B := we.heap.size) hu (by omega)) (Nat.le_trans (by omega) hu.size) hnn1 (RBb_we.out.keep (B := we.heap.size) hu (by omega)) (Nat.le_trans (by omega) hu.size) hfl1) _ (by first | (with_reducible exact hAB) | (with_reducible exact up_alloc hAB _))).mono ?_)
           rw [HRR.out]
           rintro e wc ⟨A1, n1, c1, A2, n2, c2, rfl, hcr, hbv⟩
           have hBC : Below we.heap.size we wc := by first | exact up hBB hbv | exact up (up_alloc hBB _) hbv
           have hzc := hbv.size
           first | (have hG3 := hG2.below hbv hG2.lt) | (have hG3 := (Blk.new wb 26 #[.slice none 0 0, .slice none 0 0]).below hbv (Blk.new wb 26 #[.slice none 0 0, .slice none 0 0]).lt) | skip
           first | (have g0 := hG3.cell 0; have g1 := hG3.cell 1; have f0 := hG3.soft 0; have f1 := hG3.soft 1) | skip)))
    all_goals
      go_wp2_with fail
      go_meet
      first
        | exact ⟨_, A1, n1, c1, A2, n2, c2, _, _, rfl, rfl, rfl, Got.last hcr hyC hzc hBC⟩
        | exact ⟨_, A1, n1, c1, A2, n2, c2, _, _, rfl, rfl, rfl, Got.early hcr hG3 (Nat.le_refl _) hG2.lt hzc hBC⟩
        | exact ⟨_, A1, n1, c1, A2, n2, c2, _, _, rfl, rfl, rfl, Got.early hcr hG3 hyA hG2.lt hzc hBC⟩
        | exact ⟨_, A1, n1, c1, A2, n2, c2, _, _, rfl, rfl, rfl, Got.early hcr hG3 hyC (Blk.new wb 26 #[.slice none 0 0, .slice none 0 0]).lt hzc hBC⟩
  case rest =>
  obtain ⟨gi, A1i, n1i, c1i, A2i, n2i, c2i, loi, hii, rfl, rfl, rfl, HG⟩ := hcut
  clear HKC kc0 kc1 kc2 kc3 kc4
  generalize wc = wi at *
  have hcut := HG.out
  have hbi := hcut.bel
  have hzi := hbi.size
  have hai := hcut.hlo
  have hhi := hcut.hhi
  have hli := hcut.hle
  have hoi := hcut.hoff
  have hti := hcut.at_
  have HB_wi := Lib.hid (up HB_we.out hbi)
  have HX_wi := Lib.hid (HX_we.out.below hbi (by omega))
  have HL_wi := Lib.hid (HL_we.out.below hbi (by omega))
  have HYs_wi := Lib.hid (HYs_we.out.below hbi (by omega))
  have RAs_wi := Lib.hid (RAs_we.out.keep hbi (by omega))
  have SAs_wi := Lib.hid (SAs_we.out.kept RAs_we.out hbi (by omega))
  have RBs_wi := Lib.hid (RBs_we.out.keep hbi (by omega))
  have SBs_wi := Lib.hid (SBs_we.out.kept RBs_we.out hbi (by omega))
  have RAb_wi := Lib.hid (RAb_we.out.keep hbi (by omega))
  have SAb_wi := Lib.hid (SAb_we.out.kept RAb_we.out hbi (by omega))
  have RBb_wi := Lib.hid (RBb_we.out.keep hbi (by omega))
  have SBb_wi := Lib.hid (SBb_we.out.kept RBb_we.out hbi (by omega))
  have HYb_wi := Lib.hid (HYb.out.below hbi (by omega))
  clear HB_we HX_we HL_we HYs_we RAs_we SAs_we RBs_we SBs_we RAb_we SAb_we RBb_we SBb_we HYb
  have HYi := Lib.hid hcut.box
  have hpi := hcut.box.lt
  obtain ⟨l1i, u1i, l2i, u2i, p1i, p2i, p3i, p4i, p5i, hr1, hs1, hr2, hs2⟩ := hcut.parts
  have HRAi := Lib.hid hr1
  have HSAi := Lib.hid hs1
  have HRBi := Lib.hid hr2
  have HSBi := Lib.hid hs2
  have hm1i : n1i ≤ 1048576 := by have := hr1.len3; omega
  have hm2i : n2i ≤ 1048576 := by have := hr2.len3; omega
  clear hr1 hs1 hr2 hs2 hcut HG hbi
  have kq1 : wi.cell? ⟨gi, 0, none⟩ = some (.slice A1i n1i c1i) := HYi.out.cell 0
  have kq2 : wi.cell? ⟨gi, 1, none⟩ = some (.slice A2i n2i c2i) := HYi.out.cell 1
  have kq3 : wi.cell? ⟨gs, 0, none⟩ = some (.slice A1s n1s c1s) := HYs_wi.out.cell 0
  have kq4 : wi.cell? ⟨gs, 1, none⟩ = some (.slice A2s n2s c2s) := HYs_wi.out.cell 1
  go_wp2_with (fail)
  (with_reducible refine (eqPost_same l1i u1i n1i c1i l1s u1s n1s c1s A1i A1s d1 l2i u2i n2i c2i l2s u2s n2s c2s A2i A2s d2 _ HRAi.out (by omega) hm1i HRBi.out (by omega) hm2i RAs_wi.out (by omega) RBs_wi.out (by omega)).mono ?_)
  rintro e wf ⟨rfl, hbt⟩
  have hzwf := hbt.size
  clear kq1 kq2 kq3 kq4
  have HB_wf := Lib.hid (up HB_wi.out hbt)
  have HX_wf := Lib.hid (HX_wi.out.below hbt (by omega))
  have HL_wf := Lib.hid (HL_wi.out.below hbt (by omega))
  have HYs_wf := Lib.hid (HYs_wi.out.below hbt (by omega))
  have RAs_wf := Lib.hid (RAs_wi.out.keep hbt (by omega))
  have SAs_wf := Lib.hid (SAs_wi.out.kept RAs_wi.out hbt (by omega))
  have RBs_wf := Lib.hid (RBs_wi.out.keep hbt (by omega))
  have SBs_wf := Lib.hid (SBs_wi.out.kept RBs_wi.out hbt (by omega))
  have RAb_wf := Lib.hid (RAb_wi.out.keep hbt (by omega))
  have SAb_wf := Lib.hid (SAb_wi.out.kept RAb_wi.out hbt (by omega))
  have RBb_wf := Lib.hid (RBb_wi.out.keep hbt (by omega))
  have SBb_wf := Lib.hid (SBb_wi.out.kept RBb_wi.out hbt (by omega))
  have HYb_wf := Lib.hid (HYb_wi.out.below hbt (by omega))
  have HYi_wf := Lib.hid (HYi.out.below hbt (by omega))
  have RAi_wf := Lib.hid (HRAi.out.keep hbt (by omega))
  have SAi_wf := Lib.hid (HSAi.out.kept HRAi.out hbt (by omega))
  have RBi_wf := Lib.hid (HRBi.out.keep hbt (by omega))
  have SBi_wf := Lib.hid (HSBi.out.kept HRBi.out hbt (by omega))
  clear HB_wi HX_wi HL_wi HYs_wi RAs_wi SAs_wi RBs_wi SBs_wi RAb_wi SAb_wi RBb_wi SBb_wi HYb_wi HYi HRAi HSAi HRBi HSBi
  clear hbt
  have kc0 : wf.cell? ⟨wd.heap.size, 0, none⟩ = some (.slice Anb ns.length cnb) := HYb_wf.out.cell 0
  have kc1 : wf.cell? ⟨wd.heap.size, 1, none⟩ = some (.slice Bfb fs.length dfb) := HYb_wf.out.cell 1
  have kc2 : wf.cell? ⟨w.heap.size, 0, none⟩ = some (.slice An nn cn) := HX_wf.out.cell 0
  have kc3 : wf.cell? ⟨w.heap.size, 1, none⟩ = some (.slice A n c) := HX_wf.out.cell 1
  have HC := Lib.hid (toPostC_any 0 w.heap.size nn cn An ns 0 w.heap.size n c A fs wf.drew (HRN.out.keep (up_drew HB_wf.out) (Nat.le_refl _)) HB_wf.out.size q2 (HR.out.keep (up_drew HB_wf.out) (Nat.le_refl _)) HB_wf.out.size q3)
  go_wp2_with (fail)
  go_region_held3 (fun w' => w'.cell? ⟨wd.heap.size, 0, none⟩ = some (.slice Anb ns.length cnb) ∧ w'.cell? ⟨wd.heap.size, 1, none⟩ = some (.slice Bfb fs.length dfb) ∧ w'.cell? ⟨w.heap.size, 0, none⟩ = some (.slice An nn cn) ∧ w'.cell? ⟨w.heap.size, 1, none⟩ = some (.slice A n c))
    (first | exact ⟨kc0, kc1, kc2, kc3⟩ | exact ⟨(hb7.cell (by show wd.heap.size < wf.heap.size; omega)).trans kc0, (hb7.cell (by show wd.heap.size < wf.heap.size; omega)).trans kc1, (hb7.cell (by show w.heap.size < wf.heap.size; omega)).trans kc2, (hb7.cell (by show w.heap.size < wf.heap.size; omega)).trans kc3⟩ | exact ⟨(hb8.cell (by show wd.heap.size < w7.heap.size; omega)).trans ((hb7.cell (by show wd.heap.size < wf.heap.size; omega)).trans kc0), (hb8.cell (by show wd.heap.size < w7.heap.size; omega)).trans ((hb7.cell (by show wd.heap.size < wf.heap.size; omega)).trans kc1), (hb8.cell (by show w.heap.size < w7.heap.size; omega)).trans ((hb7.cell (by show w.heap.size < wf.heap.size; omega)).trans kc2), (hb8.cell (by show w.heap.size < w7.heap.size; omega)).trans ((hb7.cell (by show w.heap.size < wf.heap.size; omega)).trans kc3)⟩)
    ((first
      | (go_at_call 30; refine HC.out.mono ?_; rintro e w7 ⟨A7, c7, B7, d7, m7, rfl, hr7, _, hl7, hm7, hf7, _, hb7, _, _⟩; have hs7 : wf.heap.size ≤ w7.heap.size := hb7.size; have hlx7 : wf.heap.size ≤ m7 := hl7)
      | (go_at_call 32; refine (eqPost_same ws.heap.size midb ns.length cnb _ m7 ns.length c7 Anb A7 ns midb wd.heap.size fs.length dfb m7 w7.heap.size fs.length d7 Bfb B7 fs w7 (RAb_wf.out.keep (up (up_drew (Below.refl _ wf)) hb7) (by omega)) (by omega) hnn1 (RBb_wf.out.keep (up (up_drew (Below.refl _ wf)) hb7) (by omega)) (by omega) hfl1 hr7 (by omega) hf7 (Nat.le_refl _)).mono ?_; rintro e w8 ⟨rfl, hb8⟩)))
  all_goals
    have hbt := up (up (up_drew (Below.refl _ wf)) hb7) hb8
    have hzw8 : wf.heap.size ≤ w8.heap.size := hbt.size
    clear HC kc0 kc1 kc2 kc3
    have HB_w8 := Lib.hid (up HB_wf.out hbt)
    have HX_w8 := Lib.hid (HX_wf.out.below hbt (by omega))
    have HL_w8 := Lib.hid (HL_wf.out.below hbt (by omega))
    have HYs_w8 := Lib.hid (HYs_wf.out.below hbt (by omega))
    have RAs_w8 := Lib.hid (RAs_wf.out.keep hbt (by omega))
    have SAs_w8 := Lib.hid (SAs_wf.out.kept RAs_wf.out hbt (by omega))
    have RBs_w8 := Lib.hid (RBs_wf.out.keep hbt (by omega))
    have SBs_w8 := Lib.hid (SBs_wf.out.kept RBs_wf.out hbt (by omega))
    have RAb_w8 := Lib.hid (RAb_wf.out.keep hbt (by omega))
    have SAb_w8 := Lib.hid (SAb_wf.out.kept RAb_wf.out hbt (by omega))
    have RBb_w8 := Lib.hid (RBb_wf.out.keep hbt (by omega))
    have SBb_w8 := Lib.hid (SBb_wf.out.kept RBb_wf.out hbt (by omega))
    have HYb_w8 := Lib.hid (HYb_wf.out.below hbt (by omega))
    have HYi_w8 := Lib.hid (HYi_wf.out.below hbt (by omega))
    have RAi_w8 := Lib.hid (RAi_wf.out.keep hbt (by omega))
    have SAi_w8 := Lib.hid (SAi_wf.out.kept RAi_wf.out hbt (by omega))
    have RBi_w8 := Lib.hid (RBi_wf.out.keep hbt (by omega))
    have SBi_w8 := Lib.hid (SBi_wf.out.kept RBi_wf.out hbt (by omega))
    clear HB_wf HX_wf HL_wf HYs_wf RAs_wf SAs_wf RBs_wf SBs_wf RAb_wf SAb_wf RBb_wf SBb_wf HYb_wf HYi_wf RAi_wf SAi_wf RBi_wf SBi_wf
    clear hbt hb7 hb8 hr7 hf7
    have kq5 : w8.cell? ⟨wd.heap.size, 0, none⟩ = some (.slice Anb ns.length cnb) := HYb_w8.out.cell 0
    have kq6 : w8.cell? ⟨wd.heap.size, 1, none⟩ = some (.slice Bfb fs.length dfb) := HYb_w8.out.cell 1
    go_wp2_with (fail)
    (with_reducible refine (markPost_any ws.heap.size wd.heap.size ws.heap.size midb midb wd.heap.size ns.length cnb fs.length dfb Anb Bfb _ _ 1 _ RAb_w8.out SAb_w8.out hnn1 RBb_w8.out SBb_w8.out hfl1 (by omega) (by omega) (by omega) (by omega) (by omega) (by omega) (by omega) (by omega)).mono ?_)
    rintro e wg ⟨rfl, hrt, hft, wgx, hbt, hwt⟩
    have hzwgx := hbt.size
    have hzwg := hwt.size
    clear kq5 kq6
    clear SAb_w8
    clear SBb_w8
    clear RAb_w8
    clear RBb_w8
    have HB_wgx := Lib.hid (up HB_w8.out hbt)
    have HX_wgx := Lib.hid (HX_w8.out.below hbt (by omega))
    have HL_wgx := Lib.hid (HL_w8.out.below hbt (by omega))
    have HYs_wgx := Lib.hid (HYs_w8.out.below hbt (by omega))
    have RAs_wgx := Lib.hid (RAs_w8.out.keep hbt (by omega))
    have SAs_wgx := Lib.hid (SAs_w8.out.kept RAs_w8.out hbt (by omega))
    have RBs_wgx := Lib.hid (RBs_w8.out.keep hbt (by omega))
    have SBs_wgx := Lib.hid (SBs_w8.out.kept RBs_w8.out hbt (by omega))
    have HYb_wgx := Lib.hid (HYb_w8.out.below hbt (by omega))
    have HYi_wgx := Lib.hid (HYi_w8.out.below hbt (by omega))
    have RAi_wgx := Lib.hid (RAi_w8.out.keep hbt (by omega))
    have SAi_wgx := Lib.hid (SAi_w8.out.kept RAi_w8.out hbt (by omega))
    have RBi_wgx := Lib.hid (RBi_w8.out.keep hbt (by omega))
    have SBi_wgx := Lib.hid (SBi_w8.out.kept RBi_w8.out hbt (by omega))
    clear HB_w8 HX_w8 HL_w8 HYs_w8 RAs_w8 SAs_w8 RBs_w8 SBs_w8 HYb_w8 HYi_w8 RAi_w8 SAi_w8 RBi_w8 SBi_w8
    have HB_wg := Lib.hid (Within.below HB_wgx.out hwt (by omega))
    have HX_wg := Lib.hid (show Blk wg _ _ _ from (hwt.block _ (by omega) (by omega)).trans HX_wgx.out)
    have HL_wg := Lib.hid (show Blk wg _ _ _ from (hwt.block _ (by omega) (by omega)).trans HL_wgx.out)
    have HYs_wg := Lib.hid (show Blk wg _ _ _ from (hwt.block _ (by omega) (by omega)).trans HYs_wgx.out)
    have RAs_wg := Lib.hid (RAs_wgx.out.within hwt (by omega) (by omega))
    have SAs_wg := Lib.hid (SAs_wgx.out.within RAs_wgx.out hwt (by omega) (by omega))
    have RBs_wg := Lib.hid (RBs_wgx.out.within hwt (by omega) (by omega))
    have SBs_wg := Lib.hid (SBs_wgx.out.within RBs_wgx.out hwt (by omega) (by omega))
    have HYb_wg := Lib.hid (show Blk wg _ _ _ from (hwt.block _ (by omega) (by omega)).trans HYb_wgx.out)
    have HYi_wg := Lib.hid (show Blk wg _ _ _ from (hwt.block _ (by omega) (by omega)).trans HYi_wgx.out)
    have RAi_wg := Lib.hid (RAi_wgx.out.within hwt (by omega) (by omega))
    have SAi_wg := Lib.hid (SAi_wgx.out.within RAi_wgx.out hwt (by omega) (by omega))
    have RBi_wg := Lib.hid (RBi_wgx.out.within hwt (by omega) (by omega))
    have SBi_wg := Lib.hid (SBi_wgx.out.within RBi_wgx.out hwt (by omega) (by omega))
    clear HB_wgx HX_wgx HL_wgx HYs_wgx RAs_wgx SAs_wgx RBs_wgx SBs_wgx HYb_wgx HYi_wgx RAi_wgx SAi_wgx RBi_wgx SBi_wgx
    clear hbt hwt
    clear HYb_wg
    have hrkd : decide ((1 : Int) + 3 * (ns.length : Int) + 3 * (fs.length : Int) < 0) = false := decide_eq_false (by omega)
    clear hrt hft
    have kq7 : wg.cell? ⟨gi, 0, none⟩ = some (.slice A1i n1i c1i) := HYi_wg.out.cell 0
    have kq8 : wg.cell? ⟨gi, 1, none⟩ = some (.slice A2i n2i c2i) := HYi_wg.out.cell 1
    have kq9 : wg.cell? ⟨gs, 0, none⟩ = some (.slice A1s n1s c1s) := HYs_wg.out.cell 0
    have kq10 : wg.cell? ⟨gs, 1, none⟩ = some (.slice A2s n2s c2s) := HYs_wg.out.cell 1
    go_wp2_with (fail)
    (with_reducible refine (eqPost_same l1i u1i n1i c1i l1s u1s n1s c1s A1i A1s d1 l2i u2i n2i c2i l2s u2s n2s c2s A2i A2s d2 _ RAi_wg.out (by omega) hm1i RBi_wg.out (by omega) hm2i RAs_wg.out (by omega) RBs_wg.out (by omega)).mono ?_)
    rintro e wh ⟨rfl, hbt⟩
    have hzwh := hbt.size
    clear kq7 kq8 kq9 kq10
    have HB_wh := Lib.hid (up HB_wg.out hbt)
    have HX_wh := Lib.hid (HX_wg.out.below hbt (by omega))
    have HL_wh := Lib.hid (HL_wg.out.below hbt (by omega))
    have HYs_wh := Lib.hid (HYs_wg.out.below hbt (by omega))
    have RAs_wh := Lib.hid (RAs_wg.out.keep hbt (by omega))
    have SAs_wh := Lib.hid (SAs_wg.out.kept RAs_wg.out hbt (by omega))
    have RBs_wh := Lib.hid (RBs_wg.out.keep hbt (by omega))
    have SBs_wh := Lib.hid (SBs_wg.out.kept RBs_wg.out hbt (by omega))
    have HYi_wh := Lib.hid (HYi_wg.out.below hbt (by omega))
    have RAi_wh := Lib.hid (RAi_wg.out.keep hbt (by omega))
    have SAi_wh := Lib.hid (SAi_wg.out.kept RAi_wg.out hbt (by omega))
    have RBi_wh := Lib.hid (RBi_wg.out.keep hbt (by omega))
    have SBi_wh := Lib.hid (SBi_wg.out.kept RBi_wg.out hbt (by omega))
    clear HB_wg HX_wg HL_wg HYs_wg RAs_wg SAs_wg RBs_wg SBs_wg HYi_wg RAi_wg SAi_wg RBi_wg SBi_wg
    clear hbt
    have kq11 : wh.cell? ⟨gi, 0, none⟩ = some (.slice A1i n1i c1i) := HYi_wh.out.cell 0
    have kq12 : wh.cell? ⟨gi, 1, none⟩ = some (.slice A2i n2i c2i) := HYi_wh.out.cell 1
    go_wp2_with (fail)
    (with_reducible refine (markPost_any loi hii l1i u1i l2i u2i n1i c1i n2i c2i A1i A2i _ _ 1 _ RAi_wh.out SAi_wh.out hm1i RBi_wh.out SBi_wh.out hm2i (by omega) (by omega) (by omega) (by omega) (by omega) (by omega) (by omega) (by omega)).mono ?_)
    rintro e wi2 ⟨rfl, hrt, hft, wi2x, hbt, hwt⟩
    have hzwi2x := hbt.size
    have hzwi2 := hwt.size
    clear kq11 kq12
    clear SAi_wh
    clear SBi_wh
    clear RAi_wh
    clear RBi_wh
    have HB_wi2x := Lib.hid (up HB_wh.out hbt)
    have HX_wi2x := Lib.hid (HX_wh.out.below hbt (by omega))
    have HL_wi2x := Lib.hid (HL_wh.out.below hbt (by omega))
    have HYs_wi2x := Lib.hid (HYs_wh.out.below hbt (by omega))
    have RAs_wi2x := Lib.hid (RAs_wh.out.keep hbt (by omega))
    have SAs_wi2x := Lib.hid (SAs_wh.out.kept RAs_wh.out hbt (by omega))
    have RBs_wi2x := Lib.hid (RBs_wh.out.keep hbt (by omega))
    have SBs_wi2x := Lib.hid (SBs_wh.out.kept RBs_wh.out hbt (by omega))
    have HYi_wi2x := Lib.hid (HYi_wh.out.below hbt (by omega))
    clear HB_wh HX_wh HL_wh HYs_wh RAs_wh SAs_wh RBs_wh SBs_wh HYi_wh
    have HB_wi2 := Lib.hid (Within.below HB_wi2x.out hwt (by omega))
    have HX_wi2 := Lib.hid (show Blk wi2 _ _ _ from (hwt.block _ (by omega) (by omega)).trans HX_wi2x.out)
    have HL_wi2 := Lib.hid (show Blk wi2 _ _ _ from (hwt.block _ (by omega) (by omega)).trans HL_wi2x.out)
    have HYs_wi2 := Lib.hid (show Blk wi2 _ _ _ from (hwt.block _ (by omega) (by omega)).trans HYs_wi2x.out)
    have RAs_wi2 := Lib.hid (RAs_wi2x.out.within hwt (by omega) (by omega))
    have SAs_wi2 := Lib.hid (SAs_wi2x.out.within RAs_wi2x.out hwt (by omega) (by omega))
    have RBs_wi2 := Lib.hid (RBs_wi2x.out.within hwt (by omega) (by omega))
    have SBs_wi2 := Lib.hid (SBs_wi2x.out.within RBs_wi2x.out hwt (by omega) (by omega))
    have HYi_wi2 := Lib.hid (show Blk wi2 _ _ _ from (hwt.block _ (by omega) (by omega)).trans HYi_wi2x.out)
    clear HB_wi2x HX_wi2x HL_wi2x HYs_wi2x RAs_wi2x SAs_wi2x RBs_wi2x SBs_wi2x HYi_wi2x
    clear hbt hwt
    have HQ1 := Lib.hid hrt
    have HQ2 := Lib.hid hft
    clear hrt hft
    have kq13 : wi2.cell? ⟨gi, 0, none⟩ = some (.slice A1i n1i c1i) := HYi_wi2.out.cell 0
    have kq14 : wi2.cell? ⟨gi, 1, none⟩ = some (.slice A2i n2i c2i) := HYi_wi2.out.cell 1
    go_wp2_with (fail)
    (with_reducible refine (heldPost_any l1i u1i l2i u2i n1i c1i n2i c2i A1i A2i 1 _ HQ1.out hm1i HQ2.out hm2i (by omega) (by omega) (by omega) (by omega)).mono ?_)
    rintro e wj2 ⟨rfl, hbt⟩
    have hzwj2 := hbt.size
    clear kq13 kq14
    have HB_wj2 := Lib.hid (up HB_wi2.out hbt)
    have HX_wj2 := Lib.hid (HX_wi2.out.below hbt (by omega))
    have HL_wj2 := Lib.hid (HL_wi2.out.below hbt (by omega))
    have HYs_wj2 := Lib.hid (HYs_wi2.out.below hbt (by omega))
    have RAs_wj2 := Lib.hid (RAs_wi2.out.keep hbt (by omega))
    have SAs_wj2 := Lib.hid (SAs_wi2.out.kept RAs_wi2.out hbt (by omega))
    have RBs_wj2 := Lib.hid (RBs_wi2.out.keep hbt (by omega))
    have SBs_wj2 := Lib.hid (SBs_wi2.out.kept RBs_wi2.out hbt (by omega))
    have HYi_wj2 := Lib.hid (HYi_wi2.out.below hbt (by omega))
    have RQ1_wj2 := Lib.hid (HQ1.out.keep hbt (by omega))
    have RQ2_wj2 := Lib.hid (HQ2.out.keep hbt (by omega))
    clear HB_wi2 HX_wi2 HL_wi2 HYs_wi2 RAs_wi2 SAs_wi2 RBs_wi2 SBs_wi2 HYi_wi2 HQ1 HQ2
    clear hbt
    have hrke : decide ((1 : Int) + 3 * (n1i : Int) + 3 * (n2i : Int) < 0) = false := decide_eq_false (by omega)
    have kc0 : wj2.cell? ⟨w.heap.size, 0, none⟩ = some (.slice An nn cn) := HX_wj2.out.cell 0
    have kc1 : wj2.cell? ⟨w.heap.size, 1, none⟩ = some (.slice A n c) := HX_wj2.out.cell 1
    have kc2 : wj2.cell? ⟨w.heap.size + 1, 0, none⟩ = some (.int .i64 x0) := HL_wj2.out.cell 0
    have kc3 : wj2.cell? ⟨w.heap.size + 1, 1, none⟩ = some (.int .i64 x1) := HL_wj2.out.cell 1
    have kc4 : wj2.cell? ⟨w.heap.size + 1, 2, none⟩ = some (.int .i64 x2) := HL_wj2.out.cell 2
    have HKC := Lib.hid (fun (u : World) (hu : Below wj2.heap.size wj2 u) => (⟨(hu.cell (by show w.heap.size < wj2.heap.size; omega)).trans kc0, (hu.cell (by show w.heap.size < wj2.heap.size; omega)).trans kc1, (hu.cell (by show w.heap.size + 1 < wj2.heap.size; omega)).trans kc2, (hu.cell (by show w.heap.size + 1 < wj2.heap.size; omega)).trans kc3, (hu.cell (by show w.heap.size + 1 < wj2.heap.size; omega)).trans kc4⟩ : u.cell? ⟨w.heap.size, 0, none⟩ = some (.slice An nn cn) ∧ u.cell? ⟨w.heap.size, 1, none⟩ = some (.slice A n c) ∧ u.cell? ⟨w.heap.size + 1, 0, none⟩ = some (.int .i64 x0) ∧ u.cell? ⟨w.heap.size + 1, 1, none⟩ = some (.int .i64 x1) ∧ u.cell? ⟨w.heap.size + 1, 2, none⟩ = some (.int .i64 x2)))
    have HTP := Lib.hid (fun (u : World) (hu : Below wj2.heap.size wj2 u) => toPostC_any 0 w.heap.size nn cn An ns 0 w.heap.size n c A fs u (HRN.out.keep (up HB_wj2.out hu) (Nat.le_refl _)) (Nat.le_trans HB_wj2.out.size hu.size) q2 (HR.out.keep (up HB_wj2.out hu) (Nat.le_refl _)) (Nat.le_trans HB_wj2.out.size hu.size) q3)
    go_upto_region 24 with fail
    go_cut [16, 17, 18] from 94 to 102 (fun s16 s17 s18 wx => ∃ g A1 n1 c1 A2 n2 c2 lo hi, s16 = .pointer (some ⟨g, 0, none⟩) ∧ s17 = .bool k ∧ s18 = .bool b ∧ Hid (Got wj2 d1 d2 g A1 n1 c1 A2 n2 c2 lo hi wx))
    case first =>
      go_region_held3 (fun w' => w'.cell? ⟨w.heap.size, 0, none⟩ = some (.slice An nn cn) ∧ w'.cell? ⟨w.heap.size, 1, none⟩ = some (.slice A n c) ∧ w'.cell? ⟨w.heap.size + 1, 0, none⟩ = some (.int .i64 x0) ∧ w'.cell? ⟨w.heap.size + 1, 1, none⟩ = some (.int .i64 x1) ∧ w'.cell? ⟨w.heap.size + 1, 2, none⟩ = some (.int .i64 x2))
        (first | exact ⟨kc0, kc1, kc2, kc3, kc4⟩ | exact HKC.out _ (up_drew (Below.refl _ _)) | exact HKC.out _ (up_drew (up_alloc (Below.refl _ _) _)) | exact HKC.out _ hBA | exact HKC.out _ (up_alloc hBA _) | exact HKC.out _ hBB | exact HKC.out _ (up_alloc hBB _) | exact HKC.out _ hBC | exact HKC.out _ (up_alloc hBC _) | (refine HKC.out _ (Below.setCell (Below.setCell hBC ?_ _) ?_ _) <;> first | exact Nat.le_refl _ | exact hyA | exact hyC))
        ((first
          | (go_at_call 30; (with_reducible refine (HTP.out _ (by repeat (first | (with_reducible exact Below.refl _ _) | (with_reducible refine up_drew ?_) | (with_reducible refine up_alloc ?_ _)))).mono ?_)
             rintro e wa ⟨Ana, cna, Bfa, dfa, mida, rfl, hrt, _, hlt, hmt, hft, _, hbt, hca, hcb⟩
             have hBA : Below wj2.heap.size wj2 wa := by first | exact up (up_drew (Below.refl _ wj2)) hbt | exact up (up_drew (up_alloc (Below.refl _ wj2) _)) hbt
             have hza := hbt.size
             have hyA := hBA.size
             first | (have hG1 := (Blk.new wj2 26 #[.slice none 0 0, .slice none 0 0]).drew.below hbt (Blk.new wj2 26 #[.slice none 0 0, .slice none 0 0]).drew.lt) | skip
             have HNa := hrt.wide (Nat.zero_le _) hmt
             have HFa := hft.wide (Nat.zero_le _) (Nat.le_refl _))
          | (go_at_call 35; (with_reducible refine (toSub_any x0 x1 x2 _).mono ?_)
             rintro e wb ⟨rfl, hbu⟩
             have hAB : Below wa.heap.size wa wb := by first | exact hbu | exact up (up_alloc (Below.refl _ wa) _) hbu
             have hBB : Below wj2.heap.size wj2 wb := up hBA hAB
             have hyB := hAB.size
             have hyC := hBB.size
             first | (have hG2 := hG1.below hbu hG1.lt) | (have hG2 := (Blk.new wa 26 #[.slice none 0 0, .slice none 0 0]).below hbu (Blk.new wa 26 #[.slice none 0 0, .slice none 0 0]).lt) | skip)
          | (go_at_call 23; (with_reducible refine ((fun (u : World) (hu : Below wa.heap.size wa u) => WaitLetterI_any 0 wa.heap.size ns.length cna Ana ns 0 wa.heap.size fs.length dfa Bfa fs x0 x1 x2 u (HNa.keep (B := wa.heap.size) hu (by omega)) (Nat.le_trans (by omega) hu.size) hnn1 (HFa.keep (B := wa.heap.size) hu (by omega)) (Nat.le_trans (by omega) hu.size) hfl1) _ (by first | (with_reducible exact hAB) | (with_reducible exact up_alloc hAB _))).mono ?_)
             rw [HRR.out]
             rintro e wc ⟨A1, n1, c1, A2, n2, c2, rfl, hcr, hbv⟩
             have hBC : Below wj2.heap.size wj2 wc := by first | exact up hBB hbv | exact up (up_alloc hBB _) hbv
             have hzc := hbv.size
             first | (have hG3 := hG2.below hbv hG2.lt) | (have hG3 := (Blk.new wb 26 #[.slice none 0 0, .slice none 0 0]).below hbv (Blk.new wb 26 #[.slice none 0 0, .slice none 0 0]).lt) | skip
             first | (have g0 := hG3.cell 0; have g1 := hG3.cell 1; have f0 := hG3.soft 0; have f1 := hG3.soft 1) | skip)))
      all_goals
        go_wp2_with fail
        go_meet
        first
          | exact ⟨_, A1, n1, c1, A2, n2, c2, _, _, rfl, rfl, rfl, Got.last hcr hyC hzc hBC⟩
          | exact ⟨_, A1, n1, c1, A2, n2, c2, _, _, rfl, rfl, rfl, Got.early hcr hG3 (Nat.le_refl _) hG2.lt hzc hBC⟩
          | exact ⟨_, A1, n1, c1, A2, n2, c2, _, _, rfl, rfl, rfl, Got.early hcr hG3 hyA hG2.lt hzc hBC⟩
          | exact ⟨_, A1, n1, c1, A2, n2, c2, _, _, rfl, rfl, rfl, Got.early hcr hG3 hyC (Blk.new wb 26 #[.slice none 0 0, .slice none 0 0]).lt hzc hBC⟩
    case rest =>
    obtain ⟨gv, A1v, n1v, c1v, A2v, n2v, c2v, lov, hiv, rfl, rfl, rfl, HG⟩ := hcut
    clear HKC kc0 kc1 kc2 kc3 kc4 HTP
    generalize wc = wv at *
    have hcut := HG.out
    have hbv := hcut.bel
    have hzv := hbv.size
    have hav := hcut.hlo
    have hhv := hcut.hhi
    have hlv := hcut.hle
    have hov := hcut.hoff
    have htv := hcut.at_
    have HB_wv := Lib.hid (up HB_wj2.out hbv)
    have HX_wv := Lib.hid (HX_wj2.out.below hbv (by omega))
    have HL_wv := Lib.hid (HL_wj2.out.below hbv (by omega))
    have HYs_wv := Lib.hid (HYs_wj2.out.below hbv (by omega))
    have RAs_wv := Lib.hid (RAs_wj2.out.keep hbv (by omega))
    have SAs_wv := Lib.hid (SAs_wj2.out.kept RAs_wj2.out hbv (by omega))
    have RBs_wv := Lib.hid (RBs_wj2.out.keep hbv (by omega))
    have SBs_wv := Lib.hid (SBs_wj2.out.kept RBs_wj2.out hbv (by omega))
    have HYi_wv := Lib.hid (HYi_wj2.out.below hbv (by omega))
    have RQ1_wv := Lib.hid (RQ1_wj2.out.keep hbv (by omega))
    have RQ2_wv := Lib.hid (RQ2_wj2.out.keep hbv (by omega))
    clear HB_wj2 HX_wj2 HL_wj2 HYs_wj2 RAs_wj2 SAs_wj2 RBs_wj2 SBs_wj2 HYi_wj2 RQ1_wj2 RQ2_wj2
    have HYv := Lib.hid hcut.box
    have hpv := hcut.box.lt
    obtain ⟨l1v, u1v, l2v, u2v, p1v, p2v, p3v, p4v, p5v, hr1, hs1, hr2, hs2⟩ := hcut.parts
    have HRAv := Lib.hid hr1
    have HSAv := Lib.hid hs1
    have HRBv := Lib.hid hr2
    have HSBv := Lib.hid hs2
    have hm1v : n1v ≤ 1048576 := by have := hr1.len3; omega
    have hm2v : n2v ≤ 1048576 := by have := hr2.len3; omega
    clear hr1 hs1 hr2 hs2 hcut HG hbv
    have kq15 : wv.cell? ⟨gv, 0, none⟩ = some (.slice A1v n1v c1v) := HYv.out.cell 0
    have kq16 : wv.cell? ⟨gv, 1, none⟩ = some (.slice A2v n2v c2v) := HYv.out.cell 1
    have kq17 : wv.cell? ⟨gs, 0, none⟩ = some (.slice A1s n1s c1s) := HYs_wv.out.cell 0
    have kq18 : wv.cell? ⟨gs, 1, none⟩ = some (.slice A2s n2s c2s) := HYs_wv.out.cell 1
    go_wp2_with (fail)
    (with_reducible refine (eqPost_same l1v u1v n1v c1v l1s u1s n1s c1s A1v A1s d1 l2v u2v n2v c2v l2s u2s n2s c2s A2v A2s d2 _ HRAv.out (by omega) hm1v HRBv.out (by omega) hm2v RAs_wv.out (by omega) RBs_wv.out (by omega)).mono ?_)
    rintro e wk ⟨rfl, hbt⟩
    have hzwk := hbt.size
    clear kq15 kq16 kq17 kq18
    have HB_wk := Lib.hid (up HB_wv.out hbt)
    have HX_wk := Lib.hid (HX_wv.out.below hbt (by omega))
    have HL_wk := Lib.hid (HL_wv.out.below hbt (by omega))
    have HYs_wk := Lib.hid (HYs_wv.out.below hbt (by omega))
    have RAs_wk := Lib.hid (RAs_wv.out.keep hbt (by omega))
    have SAs_wk := Lib.hid (SAs_wv.out.kept RAs_wv.out hbt (by omega))
    have RBs_wk := Lib.hid (RBs_wv.out.keep hbt (by omega))
    have SBs_wk := Lib.hid (SBs_wv.out.kept RBs_wv.out hbt (by omega))
    have HYi_wk := Lib.hid (HYi_wv.out.below hbt (by omega))
    have RQ1_wk := Lib.hid (RQ1_wv.out.keep hbt (by omega))
    have RQ2_wk := Lib.hid (RQ2_wv.out.keep hbt (by omega))
    have HYv_wk := Lib.hid (HYv.out.below hbt (by omega))
    have RAv_wk := Lib.hid (HRAv.out.keep hbt (by omega))
    have SAv_wk := Lib.hid (HSAv.out.kept HRAv.out hbt (by omega))
    have RBv_wk := Lib.hid (HRBv.out.keep hbt (by omega))
    have SBv_wk := Lib.hid (HSBv.out.kept HRBv.out hbt (by omega))
    clear HB_wv HX_wv HL_wv HYs_wv RAs_wv SAs_wv RBs_wv SBs_wv HYi_wv RQ1_wv RQ2_wv HYv HRAv HSAv HRBv HSBv
    clear hbt
    have kq19 : wk.cell? ⟨gi, 0, none⟩ = some (.slice A1i n1i c1i) := HYi_wk.out.cell 0
    have kq20 : wk.cell? ⟨gi, 1, none⟩ = some (.slice A2i n2i c2i) := HYi_wk.out.cell 1
    go_wp2_with (fail)
    (with_reducible refine (heldPost_any l1i u1i l2i u2i n1i c1i n2i c2i A1i A2i 1 _ RQ1_wk.out hm1i RQ2_wk.out hm2i (by omega) (by omega) (by omega) (by omega)).mono ?_)
    rintro e wl ⟨rfl, hbt⟩
    have hzwl := hbt.size
    clear kq19 kq20
    have HB_wl := Lib.hid (up HB_wk.out hbt)
    have HX_wl := Lib.hid (HX_wk.out.below hbt (by omega))
    have HL_wl := Lib.hid (HL_wk.out.below hbt (by omega))
    have HYs_wl := Lib.hid (HYs_wk.out.below hbt (by omega))
    have RAs_wl := Lib.hid (RAs_wk.out.keep hbt (by omega))
    have SAs_wl := Lib.hid (SAs_wk.out.kept RAs_wk.out hbt (by omega))
    have RBs_wl := Lib.hid (RBs_wk.out.keep hbt (by omega))
    have SBs_wl := Lib.hid (SBs_wk.out.kept RBs_wk.out hbt (by omega))
    have HYi_wl := Lib.hid (HYi_wk.out.below hbt (by omega))
    have RQ1_wl := Lib.hid (RQ1_wk.out.keep hbt (by omega))
    have RQ2_wl := Lib.hid (RQ2_wk.out.keep hbt (by omega))
    have HYv_wl := Lib.hid (HYv_wk.out.below hbt (by omega))
    have RAv_wl := Lib.hid (RAv_wk.out.keep hbt (by omega))
    have SAv_wl := Lib.hid (SAv_wk.out.kept RAv_wk.out hbt (by omega))
    have RBv_wl := Lib.hid (RBv_wk.out.keep hbt (by omega))
    have SBv_wl := Lib.hid (SBv_wk.out.kept RBv_wk.out hbt (by omega))
    clear HB_wk HX_wk HL_wk HYs_wk RAs_wk SAs_wk RBs_wk SBs_wk HYi_wk RQ1_wk RQ2_wk HYv_wk RAv_wk SAv_wk RBv_wk SBv_wk
    clear hbt
    go_wp2
    go_ret
    exact ⟨rfl, HB_wl.out⟩
end Go.Proofs.Ytlfflppjlmpklaa
