/- impl.ValidProcess. -/
import Derived.Test.YtknphikoikdcjaaProcMapsI
import Derived.Test.YtknphikoikdcjaaProcLeafA
import Derived.Test.YtknphikoikdcjaaBase
import Derived.Deep.RegionLaw
set_option linter.unusedSimpArgs false
set_option linter.unusedVariables false
namespace Go.Proofs.Ytknphikoikdcjaa
open Go.RowKit

theorem inside_in64 {fs : List Flw} {N : Nat} (h : Inside fs N) (hN : N ≤ 1048576) : ∀ f ∈ fs, in64 f.1 ∧ in64 f.2.1 := fun f hf => by
  have := h f hf
  unfold in64
  omega
theorem all_inside {ns : List (Int × Int)} {fs : List Flw} (h : fs.all (vFlow ns) = true) : Inside fs ns.length := by
  intro f hf
  have h1 := List.all_eq_true.1 h f hf
  simp only [vFlow, Bool.and_eq_true] at h1
  have a := inR_iff.1 h1.1.1
  have b := inR_iff.1 h1.1.2
  omega

set_option maxRecDepth 100000 in
set_option maxHeartbeats 3200000 in
theorem ValidProcessI_any (lo hi nn cn : Nat) (An : Option Addr) (ns : List (Int × Int)) (lo' hi' n c : Nat) (A : Option Addr) (fs : List Flw) (w : World) (hrn : Rd w lo hi 2 An nn (pvs ns)) (hB : hi ≤ w.heap.size) (hnn : nn ≤ 1048576)
    (hr : Fls w lo' hi' A n fs) (hB' : hi' ≤ w.heap.size) (hn : n ≤ 1048576) :
    Calls Try.prog 74 #[.agg #[.slice An nn cn, .slice A n c]] w fun e w' => e = .returned (.bool (vProc ns fs)) ∧ Below w.heap.size w w' := by
  have HL := Lib.hid hrn.len2
  have HF := Lib.hid hr.1
  have hblk1 := Blk.new w 36 #[.slice An nn cn, .slice A n c]
  have hb1 := up_alloc (Below.refl _ w) (.cells #[.slice An nn cn, .slice A n c] 36)
  by_cases h2 : (nn : Int) < 2
  · have hv : Hid (vProc ns fs = false) := by simp [Hid, vProc, HL.out, inR]; omega
    go_enter Try.func74, Try.ntmps74
    go_wp2
    go_ret
    exact ⟨ret_bool hv.out.symm, hb1⟩
  by_cases h10 : (10 : Int) < nn
  · have hv : Hid (vProc ns fs = false) := by simp [Hid, vProc, HL.out, inR]; omega
    go_enter Try.func74, Try.ntmps74
    go_wp2
    go_ret
    exact ⟨ret_bool hv.out.symm, hb1⟩
  by_cases h14 : (14 : Int) < n
  · have hv : Hid (vProc ns fs = false) := by simp [Hid, vProc, HF.out]; omega
    go_enter Try.func74, Try.ntmps74
    go_wp2
    go_ret
    exact ⟨ret_bool hv.out.symm, hb1⟩
  have hv : Hid (vProc ns fs = (fs.all (vFlow ns) && vNodesR fs ns 0 && decide (nStarts ns = 1))) := by
    have h1 : inR (nn : Int) 2 10 = true := inR_iff.2 (by omega)
    simp [Hid, vProc, HF.out, HL.out, h1, show n ≤ 14 by omega]
  go_enter Try.func74, Try.ntmps74
  go_wp2
  go_loopw [28] (fun iv wr => ∃ (k : Nat), k ≤ n ∧ iv = .int .i64 k ∧ Hid (fs.all (vFlow ns) = (fs.drop k).all (vFlow ns)) ∧ Blk wr w.heap.size 36 #[.slice An nn cn, .slice A n c] ∧ Below w.heap.size w wr)
     (fun iv _ => n - (intOf iv).toNat)
  case atStart => exact ⟨0, by omega, rfl, rfl, hblk1, hb1⟩
  case round =>
    clear hblk1 hb1
    obtain ⟨k, hk, rfl, hS, hblk, hbl⟩ := hrel
    have hsz := hblk.lt
    have hd0 : wr.cell? ⟨w.heap.size, 0, none⟩ = some (.slice An nn cn) := hblk.cell 0
    have hd1 : wr.cell? ⟨w.heap.size, 1, none⟩ = some (.slice A n c) := hblk.cell 1
    by_cases hkn : k < n
    · obtain ⟨b, off, x, y, ps, A', m, c', hA, hbB, _, hg, hx, hy, hz, hrp, hm⟩ := (hr.keep hbl hB').at hkn
      subst hA
      have hba := up_alloc hbl (.cells #[.int .i64 x, .int .i64 y, .slice A' m c'] 83)
      have hKa := hblk.alloc (.cells #[.int .i64 x, .int .i64 y, .slice A' m c'] 83)
      have hrpa := hrp.keep (up_alloc (Below.refl _ wr) (.cells #[.int .i64 x, .int .i64 y, .slice A' m c'] 83)) (Nat.le_trans hB' hbl.size)
      have hsza : (wr.alloc (.cells #[.int .i64 x, .int .i64 y, .slice A' m c'] 83)).heap.size = wr.heap.size + 1 := by simp
      have HRP := Lib.hid hrpa
      have Hg := Lib.hid hg
      have HSA := Lib.hid hsza
      clear hrp hrpa hg hsza
      go_wp2_with (fail)
      (with_reducible refine (validFlowI_any lo hi nn cn An ns x y lo' hi' m c' A' ps _ (hrn.keep hba hB) (Nat.le_trans hB hba.size) hnn HRP.out (Nat.le_trans hB' hba.size) hm).mono ?_)
      rintro e w2 ⟨rfl, hb2⟩
      have HB := Lib.hid (up hba hb2)
      have HK := Lib.hid (hKa.below hb2 (Nat.lt_of_lt_of_le hsz (by rw [HSA.out]; omega)))
      clear hb2 hba hKa hblk hbl
      by_cases hf : vFlow ns (x, y, ps) = true
      · have HS := Lib.hid (hS.out.trans (flw_hit Hg.out hf))
        rw [hf]
        clear hf hS
        go_wp2
        go_roundw
        case rel => exact ⟨k + 1, by omega, by go_num, HS, HK.out, HB.out⟩
        case measure => simp [intOf]; omega
      · have hf' : vFlow ns (x, y, ps) = false := by simpa using hf
        have HS : Hid (vProc ns fs = false) := by rw [Hid, hv.out, hS.out, flw_miss Hg.out hf']; rfl
        rw [hf']
        clear hf hf' hS
        go_wp2
        go_ret
        exact ⟨ret_bool HS.out.symm, HB.out⟩
    · obtain rfl : k = n := by omega
      have hS0 : fs.all (vFlow ns) = true := by
        rw [hS.out, List.drop_of_length_le (by rw [HF.out]; omega)]; rfl
      have hin := all_inside hS0
      have HIN := Lib.hid hin
      have hv2 : Hid (vProc ns fs = (vNodesR fs ns 0 && decide (nStarts ns = 1))) := by
        rw [Hid, hv.out, hS0]; rfl
      have HI64 := Lib.hid (inside_in64 hin (by rw [HL.out]; exact hnn))
      have HRN := Lib.hid (hrn.keep hbl hB)
      clear hS hv hS0 hin
      go_wp2_with (fail)
      (with_reducible refine (mapFlows_any lo' hi' k c A fs wr (hr.keep hbl hB') (Nat.le_trans hB' hbl.size) (by omega) HI64.out).mono ?_)
      rintro e w1 ⟨bo, bi, rfl, hmo, hmi, hb1⟩
      have hbl1 := up hbl hb1
      have hblk1 := hblk.below hb1 hsz
      have hsz1 := hb1.size
      have hm1 := Blk.new w1 57 #[.map (some bo), .map (some bi)]
      have hbl2 := up_alloc hbl1 (.cells #[.map (some bo), .map (some bi)] 57)
      have hblk2 := hblk1.alloc (.cells #[.map (some bo), .map (some bi)] 57)
      have hmo2 := hmo.keep (up_alloc (Below.refl _ w1) (.cells #[.map (some bo), .map (some bi)] 57)) (Nat.le_refl _)
      have hmi2 := hmi.keep (up_alloc (Below.refl _ w1) (.cells #[.map (some bo), .map (some bi)] 57)) (Nat.le_refl _)
      have HRN1 := Lib.hid (HRN.out.keep hb1 (Nat.le_trans hB hbl.size))
      clear hb1 hbl1 hblk1 hmo hmi HRN hd0 hd1 hblk hbl
      have hd0 : (w1.alloc (.cells #[.map (some bo), .map (some bi)] 57)).cell? ⟨w.heap.size, 0, none⟩ = some (.slice An nn cn) := hblk2.cell 0
      have hd0' : w1.cell? ⟨w.heap.size, 0, none⟩ = some (.slice An nn cn) := by
        have := (up_alloc (Below.refl _ w1) (.cells #[.map (some bo), .map (some bi)] 57)).cell (p := ⟨w.heap.size, 0, none⟩) (by show w.heap.size < w1.heap.size; omega)
        rw [← this]; exact hd0
      have HM1 := Lib.hid hm1
      have HK2 := Lib.hid hblk2
      have HB2 := Lib.hid hbl2
      have HMO := Lib.hid (hmo2.wide (Nat.zero_le _) (Nat.le_refl _))
      have HMI := Lib.hid (hmi2.wide (Nat.zero_le _) (Nat.le_refl _))
      have HRN2 := Lib.hid (HRN1.out.keep (up_alloc (Below.refl _ w1) (.cells #[.map (some bo), .map (some bi)] 57)) (Nat.le_trans hB (Nat.le_trans (by omega) hsz1)))
      clear hm1 hbl2 hblk2 hmo2 hmi2
      have hwlt : w.heap.size < w1.heap.size := Nat.lt_of_lt_of_le hsz hsz1
      have hhi : hi ≤ w1.heap.size := by omega
      go_wp2
      generalize hH : w1.heap.size = H1 at *
      generalize hw0 : w1.alloc (.cells #[.map (some bo), .map (some bi)] 57) = w0 at *
      clear hw0 hd0' HRN1 hH hsz1 HI64
      go_loopw [6, 44] (fun sv iv wr => ∃ (j s : Nat), j ≤ nn ∧ iv = .int .i64 j ∧ sv = .int .i64 s ∧ s ≤ j ∧ Hid (vNodesR fs ns 0 = vNodesR fs (ns.drop j) j) ∧ Hid (nStarts ns = s + nStarts (ns.drop j)) ∧ Blk wr w.heap.size 36 #[.slice An nn cn, .slice A k c] ∧
           Blk wr H1 57 #[.map (some bo), .map (some bi)] ∧ Rd wr lo hi 2 An nn (pvs ns) ∧ RowMap Try.prog 3 wr 0 H1 bo (fun z => flOf fs true z) ∧ RowMap Try.prog 3 wr 0 H1 bi (fun z => flOf fs false z) ∧ Below w.heap.size w wr)
         (fun _ iv _ => nn - (intOf iv).toNat)
      case atStart => exact ⟨0, 0, by omega, rfl, rfl, Nat.le_refl _, rfl, by simp [Hid], HK2.out, HM1.out, HRN2.out, HMO.out, HMI.out, HB2.out⟩
      case round =>
        clear HK2 HM1 HRN2 HMO HMI HB2 hd0
        obtain ⟨j, s, hj, rfl, rfl, hsj, hN, hT, hblk, hmb, hrd, hmo, hmi, hbl⟩ := hrel
        have hszp := hblk.lt
        have hszm := hmb.lt
        have hd0 : wr.cell? ⟨w.heap.size, 0, none⟩ = some (.slice An nn cn) := hblk.cell 0
        by_cases hjn : j < nn
        · obtain ⟨b, off, kd, vl, hA, hbB, _, hg, hc0, hc1⟩ := hrd.pair hjn
          subst hA
          have hka := Blk.new wr 87 #[.int .i64 kd, .int .i64 vl]
          have hba := up_alloc hbl (.cells #[.int .i64 kd, .int .i64 vl] 87)
          have hbw := up_alloc (Below.refl _ wr) (.cells #[.int .i64 kd, .int .i64 vl] 87)
          have Hg := Lib.hid hg
          clear hg
          go_wp2_with (fail)
          (with_reducible refine (fitsValue_any kd vl _).mono ?_)
          rintro e w3 ⟨rfl, hb3⟩
          have hbr := up hbw hb3
          have hbl3 := up hba hb3
          have hblk3 := hblk.below hbr hszp
          have hmb3 := hmb.below hbr hszm
          have hrd3 := hrd.keep hbr (by omega)
          have hmo3 := hmo.keep hbr (by omega)
          have hmi3 := hmi.keep hbr (by omega)
          have hka3 := hka.below hb3 hka.lt
          have HSZ3 : Hid (wr.heap.size + 1 ≤ w3.heap.size) := by
            have := hb3.size
            simpa [Hid] using this
          have hd3 : w3.cell? ⟨w.heap.size, 0, none⟩ = some (.slice (some ⟨b, off, none⟩) nn cn) := hblk3.cell 0
          have hm30 : w3.cell? ⟨H1, 0, none⟩ = some (.map (some bo)) := hmb3.cell 0
          have hm31 : w3.cell? ⟨H1, 1, none⟩ = some (.map (some bi)) := hmb3.cell 1
          have hn30 : w3.cell? ⟨wr.heap.size, 0, none⟩ = some (.int .i64 kd) := hka3.cell 0
          have HBW := Lib.hid hbl3
          have HBK := Lib.hid hblk3
          have HMB := Lib.hid hmb3
          have HRD := Lib.hid hrd3
          have HMO3 := Lib.hid hmo3
          have HMI3 := Lib.hid hmi3
          have hj64 : in64 (j : Int) := by unfold in64; omega
          obtain ⟨Ao, co, hlo, hco, _, _⟩ := hmo3.look keyedInt Try.underlying3 Try.underlying55 zeroInts hj64
          obtain ⟨Ai, ci, hli, hci, _, _⟩ := hmi3.look keyedInt Try.underlying3 Try.underlying55 zeroInts hj64
          clear hb3 hbr hbl3 hblk3 hmb3 hrd3 hmo3 hmi3 hka3 hka hba hbw hblk hmb hrd hmo hmi hbl hd0 hc0 hc1
          by_cases hvv : vVal kd vl = true
          · rw [hvv]
            by_cases hvk : vKind kd (flOf fs false j).length (flOf fs true j).length = true
            · have hnode : vNode kd vl (flOf fs false j).length (flOf fs true j).length = true := by simp [vNode, hvv, hvk]
              have HN := Lib.hid (hN.out.trans (node_hit Hg.out hnode))
              have HVK := Lib.hid hvk
              clear hvv hvk hN hnode
              by_cases h0 : kd = 0
              · subst h0
                have HT : Hid (nStarts ns = (s + 1) + nStarts (ns.drop (j + 1))) := by rw [Hid, hT.out, start_hit Hg.out]; omega
                clear hT
                go_wp2_with (go_at_call 82; refine (fitsKind_any _ _ _ _).mono ?_; rw [HVK.out]; rintro e w' ⟨rfl, rfl⟩)
                go_roundw
                case rel => exact ⟨j + 1, s + 1, by omega, by go_num, by go_num, by omega, HN, HT, HBK.out, HMB.out, HRD.out, HMO3.out, HMI3.out, HBW.out⟩
                case measure => simp [intOf]; omega
              · have HT : Hid (nStarts ns = s + nStarts (ns.drop (j + 1))) := by rw [Hid, hT.out, start_miss Hg.out h0]
                have h0' : (kd == 0) = false := by simpa using h0
                clear hT h0
                go_wp2_with (go_at_call 82; refine (fitsKind_any _ _ _ _).mono ?_; rw [HVK.out]; rintro e w' ⟨rfl, rfl⟩)
                go_roundw
                case rel => exact ⟨j + 1, s, by omega, by go_num, by go_num, by omega, HN, HT, HBK.out, HMB.out, HRD.out, HMO3.out, HMI3.out, HBW.out⟩
                case measure => simp [intOf]; omega
            · have hvk' : vKind kd (flOf fs false j).length (flOf fs true j).length = false := by simpa using hvk
              have hnode : vNode kd vl (flOf fs false j).length (flOf fs true j).length = false := by simp [vNode, hvk']
              have HS : Hid (vProc ns fs = false) := by rw [Hid, hv2.out, hN.out, node_miss Hg.out hnode]; rfl
              have HVK := Lib.hid hvk'
              clear hvv hvk hvk' hN hT hnode
              go_wp2_with (go_at_call 82; refine (fitsKind_any _ _ _ _).mono ?_; rw [HVK.out]; rintro e w' ⟨rfl, rfl⟩)
              go_ret
              exact ⟨ret_bool HS.out.symm, HBW.out⟩
          · have hvv' : vVal kd vl = false := by simpa using hvv
            have hnode : vNode kd vl (flOf fs false j).length (flOf fs true j).length = false := by simp [vNode, hvv']
            have HS : Hid (vProc ns fs = false) := by rw [Hid, hv2.out, hN.out, node_miss Hg.out hnode]; rfl
            rw [hvv']
            clear hvv hvv' hN hT hnode
            go_wp2
            go_ret
            exact ⟨ret_bool HS.out.symm, HBW.out⟩
        · obtain rfl : j = nn := by omega
          have HS : Hid (vProc ns fs = ((s : Int) == 1)) := by
            rw [Hid, hv2.out, hN.out, hT.out, List.drop_of_length_le (by rw [HL.out]; omega)]
            simp [vNodesR, nStarts]
            by_cases hs1 : s = 1
            · subst hs1; rfl
            · have : ((s : Int) == 1) = false := by simp; omega
              rw [this]; exact decide_eq_false hs1
          have HB := Lib.hid hbl
          clear hN hT hblk hbl hmb hrd hmo hmi
          go_wp2
          go_ret
          exact ⟨ret_bool HS.out.symm, HB.out⟩
end Go.Proofs.Ytknphikoikdcjaa
