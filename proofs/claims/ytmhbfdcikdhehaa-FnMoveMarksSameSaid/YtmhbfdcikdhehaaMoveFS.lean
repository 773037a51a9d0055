/- Faithful maps: the mathematics, and the reference's side. -/
import Derived.Test.YtmhbfdcikdhehaaMoveS
import Derived.Laws.StructEq
set_option linter.unusedSimpArgs false
set_option linter.unusedVariables false
namespace Go.Proofs.Ytmhbfdcikdhehaa
open Go.RowKit Go.Lib

/-- The node to which a flow leads. -/
def stopAt (ns : List (Int × Int)) (fs : List Flw) (i : Nat) : Int × Int := ns.getD ((fs.getD i (0, 0, [])).2.1).toNat (0, 0)
def keepsAt (ns : List (Int × Int)) (fs : List Flw) (nsq : List (Int × Int)) (gs : List Flw) (fl : List Int) (i : Nat) : Bool :=
  decide (fl.getD i 0 < 0) || (stopAt ns fs i == stopAt nsq gs (fl.getD i 0).toNat)
def keepsUp (ns : List (Int × Int)) (fs : List Flw) (nsq : List (Int × Int)) (gs : List Flw) (fl : List Int) (k : Nat) : Bool := (List.range k).all (keepsAt ns fs nsq gs fl)
/-- What IsFaithful answers. -/
def faithOf (ns : List (Int × Int)) (fs : List Flw) (nsq : List (Int × Int)) (gs : List Flw) (fl : List Int) : Bool :=
  (vProc ns fs && vProc nsq gs && vMap fs gs fl) && keepsUp ns fs nsq gs fl fl.length
theorem stop_is {ns : List (Int × Int)} {fs : List Flw} {i : Nat} {a x y : Int} {b : Nat} {ps : List (Int × Int)} (hf : fs[i]? = some (a, (b : Int), ps)) (hn : ns[b]? = some (x, y)) : stopAt ns fs i = (x, y) := by
  unfold stopAt
  rw [List.getD_eq_getElem?_getD (l := fs), hf]
  show ns.getD ((b : Int)).toNat (0, 0) = _
  rw [Int.toNat_natCast, List.getD_eq_getElem?_getD, hn]; rfl
theorem keepsUp_step {ns : List (Int × Int)} {fs : List Flw} {nsq : List (Int × Int)} {gs : List Flw} {fl : List Int} {k : Nat} (h : keepsUp ns fs nsq gs fl k = true) (hk : keepsAt ns fs nsq gs fl k = true) : keepsUp ns fs nsq gs fl (k + 1) = true := by
  unfold keepsUp at *
  rw [List.range_succ, List.all_append, h]; simp [hk]
theorem keepsUp_bad {ns : List (Int × Int)} {fs : List Flw} {nsq : List (Int × Int)} {gs : List Flw} {fl : List Int} {k n : Nat} (hn : k < n) (hk : keepsAt ns fs nsq gs fl k = false) : keepsUp ns fs nsq gs fl n = false := by
  unfold keepsUp
  rw [Bool.eq_false_iff]; intro ha
  rw [List.all_eq_true.1 ha k (List.mem_range.2 hn)] at hk; cases hk
/-- A flow of a valid process leads to a node. -/
theorem stop_get {ns : List (Int × Int)} {fs : List Flw} (hV : vProc ns fs = true) {i : Nat} {a b : Int} {ps : List (Int × Int)} (hf : fs[i]? = some (a, b, ps)) : ∃ (k : Nat) (x y : Int), b = (k : Int) ∧ k < ns.length ∧ ns[k]? = some (x, y) ∧ stopAt ns fs i = (x, y) := by
  have hin := vProc_inside hV _ (List.mem_of_getElem? hf)
  simp only at hin
  obtain ⟨k, rfl⟩ : ∃ k : Nat, b = (k : Int) := ⟨b.toNat, by omega⟩
  have hk : k < ns.length := by omega
  exact ⟨k, ns[k].1, ns[k].2, rfl, hk, List.getElem?_eq_getElem hk, stop_is hf (List.getElem?_eq_getElem hk)⟩
theorem eql_node (x y u v : Int) (w : World) : (binOp .eql 42 (.agg #[.int .i64 x, .int .i64 y]) (.agg #[.int .i64 u, .int .i64 v])).run Try.prog w = .ok (.bool (x == u && y == v)) w := by
  have u3 := Try.underlying3
  have hS : Try.prog.underlying 42 = some (.struct (Try.prog.fieldsOf 42)) := by kernel_rfl
  have hp : Try.prog.stoodInHeld 42 = false := by kernel_rfl
  rw [run_eql_struct, show (10000 : Nat) = 9999 + 1 from rfl, run_equalIn_agg w 9999 42 _ _ hS hp]
  simp only [Program.fieldsOf, Try.underlying42]
  go_simp
  by_cases h1 : x = u <;> by_cases h2 : y = v <;> simp [h1, h2]
set_option maxRecDepth 100000 in
set_option maxHeartbeats 1600000 in
theorem sameStops_any (lo hi nn cn : Nat) (An : Option Addr) (ns : List (Int × Int)) (lo1 hi1 lf cf : Nat) (Af : Option Addr) (fs : List Flw) (lo2 hi2 nq cq : Nat) (Aq : Option Addr) (nsq : List (Int × Int)) (lo3 hi3 lg cg : Nat) (Ag : Option Addr) (gs : List Flw) (i j : Nat) (w : World)
    (hrn : Rd w lo hi 2 An nn (pvs ns)) (hB : hi ≤ w.heap.size) (hnn : nn ≤ 1048576) (hr : Fls w lo1 hi1 Af lf fs) (hB1 : hi1 ≤ w.heap.size) (hn : lf ≤ 1048576)
    (hrq : Rd w lo2 hi2 2 Aq nq (pvs nsq)) (hB2 : hi2 ≤ w.heap.size) (hnq : nq ≤ 1048576) (hrg : Fls w lo3 hi3 Ag lg gs) (hB3 : hi3 ≤ w.heap.size) (hng : lg ≤ 1048576)
    (hV : vProc ns fs = true) (hVQ : vProc nsq gs = true) (hi_ : i < lf) (hj : j < lg) :
    Calls Try.prog 45 #[.agg #[.slice An nn cn, .slice Af lf cf], .int .i64 (i : Int), .agg #[.slice Aq nq cq, .slice Ag lg cg], .int .i64 (j : Int)] w fun e w' => e = .returned (.bool (stopAt ns fs i == stopAt nsq gs j)) ∧ Below w.heap.size w w' := by
  have hb1 := up_alloc (up_alloc (Below.refl _ w) (.cells #[.slice An nn cn, .slice Af lf cf] 26)) (.cells #[.slice Aq nq cq, .slice Ag lg cg] 26)
  have hp1 := (Blk.new w 26 #[.slice An nn cn, .slice Af lf cf]).alloc (.cells #[.slice Aq nq cq, .slice Ag lg cg] 26)
  have hq1 := Blk.new (w.alloc (.cells #[.slice An nn cn, .slice Af lf cf] 26)) 26 #[.slice Aq nq cq, .slice Ag lg cg]
  have hs0 : (w.alloc (.cells #[.slice An nn cn, .slice Af lf cf] 26)).heap.size = w.heap.size + 1 := by simp
  rw [hs0] at hq1
  have HB := Lib.hid hb1
  have HL := Lib.hid hrn.len2
  have HLQ := Lib.hid hrq.len2
  have k0 := hp1.cell 0
  have k1 := hp1.cell 1
  have q0 := hq1.cell 0
  have q1 := hq1.cell 1
  simp only [List.getElem?_toArray, List.getElem?_cons_zero, List.getElem?_cons_succ] at k0 k1 q0 q1
  obtain ⟨bf, of, a, b, ps, A', m', c', hAf, _, _, hgf, hc0, hc1, hc2, _⟩ := (hr.keep hb1 hB1).at hi_
  obtain ⟨bg, og, a2, b2, ps2, A2', m2', c2', hAg, _, _, hgg, hd0, hd1, hd2, _⟩ := (hrg.keep hb1 hB3).at hj
  obtain ⟨k, x, y, rfl, hk, hnk, hst⟩ := stop_get hV hgf
  obtain ⟨k2, x2, y2, rfl, hk2, hnk2, hst2⟩ := stop_get hVQ hgg
  obtain ⟨bn, on, x', y', hAn, _, _, hgn, he0, he1⟩ := (hrn.keep hb1 hB).pair (show k < nn by rw [← HL.out]; exact hk)
  obtain ⟨bm, om, x2', y2', hAq, _, _, hgm, hg0, hg1⟩ := (hrq.keep hb1 hB2).pair (show k2 < nq by rw [← HLQ.out]; exact hk2)
  rw [hnk] at hgn; injection hgn with hgn; injection hgn with h1 h2; subst h1; subst h2
  rw [hnk2] at hgm; injection hgm with hgm; injection hgm with h3 h4; subst h3; subst h4
  subst hAf; subst hAg; subst hAn; subst hAq
  rw [hst, hst2]
  have hkn : (k : Int) < (nn : Int) := by have := HL.out; omega
  have hkq : (k2 : Int) < (nq : Int) := by have := HLQ.out; omega
  have hin : (i : Int) < (lf : Int) := by omega
  have hjn : (j : Int) < (lg : Int) := by omega
  have hi0 : (0 : Int) ≤ (i : Int) := by omega
  have hj0 : (0 : Int) ≤ (j : Int) := by omega
  have hk0 : (0 : Int) ≤ (k : Int) := by omega
  have hk20 : (0 : Int) ≤ (k2 : Int) := by omega
  clear hb1 hp1 hq1 hgf hgg hnk hnk2 hst hst2 hV hVQ hrn hr hrq hrg hs0
  go_enter Try.func45, Try.ntmps45
  go_wp2_with (fail)
  have heq := eql_node x y x2 y2
  go_quiet (fail)
  go_wp2
  go_ret
  exact ⟨rfl, up_drewN HB.out _⟩
set_option maxRecDepth 100000 in
set_option maxHeartbeats 3200000 in
theorem IsFaithfulS_any (lo hi nn cn : Nat) (An : Option Addr) (ns : List (Int × Int)) (lo1 hi1 lf cf : Nat) (Af : Option Addr) (fs : List Flw) (lo2 hi2 nq cq : Nat) (Aq : Option Addr) (nsq : List (Int × Int)) (lo3 hi3 lg cg : Nat) (Ag : Option Addr) (gs : List Flw)
    (lo4 hi4 n4 c4 : Nat) (A4 : Option Addr) (fl : List Int) (w : World)
    (hrn : Rd w lo hi 2 An nn (pvs ns)) (hB : hi ≤ w.heap.size) (hnn : nn ≤ 1048576) (hr : Fls w lo1 hi1 Af lf fs) (hB1 : hi1 ≤ w.heap.size) (hn : lf ≤ 1048576)
    (hrq : Rd w lo2 hi2 2 Aq nq (pvs nsq)) (hB2 : hi2 ≤ w.heap.size) (hnq : nq ≤ 1048576) (hrg : Fls w lo3 hi3 Ag lg gs) (hB3 : hi3 ≤ w.heap.size) (hng : lg ≤ 1048576)
    (h4 : Rd w lo4 hi4 1 A4 n4 (ivs fl)) (hB4 : hi4 ≤ w.heap.size) (hn4 : n4 ≤ 1048576) :
    Calls Try.prog 19 #[.agg #[.slice An nn cn, .slice Af lf cf], .agg #[.slice Aq nq cq, .slice Ag lg cg], .slice A4 n4 c4] w fun e w' => e = .returned (.bool (faithOf ns fs nsq gs fl)) ∧ Below w.heap.size w w' := by
  have hb1 := up_alloc (up_alloc (Below.refl _ w) (.cells #[.slice An nn cn, .slice Af lf cf] 26)) (.cells #[.slice Aq nq cq, .slice Ag lg cg] 26)
  have hp1 := (Blk.new w 26 #[.slice An nn cn, .slice Af lf cf]).alloc (.cells #[.slice Aq nq cq, .slice Ag lg cg] 26)
  have hq1 := Blk.new (w.alloc (.cells #[.slice An nn cn, .slice Af lf cf] 26)) 26 #[.slice Aq nq cq, .slice Ag lg cg]
  have hs0 : (w.alloc (.cells #[.slice An nn cn, .slice Af lf cf] 26)).heap.size = w.heap.size + 1 := by simp
  rw [hs0] at hq1
  have hs1 : ((w.alloc (.cells #[.slice An nn cn, .slice Af lf cf] 26)).alloc (.cells #[.slice Aq nq cq, .slice Ag lg cg] 26)).heap.size = w.heap.size + 1 + 1 := by simp
  have HL := Lib.hid hrn.len2
  have HF := Lib.hid hr.1
  have HG := Lib.hid hrg.1
  have HL4 := Lib.hid h4.len1
  have HC := Lib.hid (validProcessS_any lo hi nn cn An ns lo1 hi1 lf cf Af fs _ (hrn.keep hb1 hB) (by omega) hnn (hr.keep hb1 hB1) (by omega) hn)
  go_enter Try.func19, Try.ntmps19
  go_wp2_with (fail)
  (with_reducible refine HC.out.mono ?_)
  clear HC
  rintro e w1 ⟨rfl, hb2⟩
  have HB := Lib.hid (up hb1 hb2)
  have hs2 := hb2.size
  rw [hs1] at hs2
  have HP := Lib.hid (hp1.below hb2 (by omega))
  have HQ := Lib.hid (hq1.below hb2 (by omega))
  clear hb1 hb2 hp1 hq1 hs0 hs1
  have k0 : w1.cell? ⟨w.heap.size, 0, none⟩ = some (.slice An nn cn) := HP.out.cell 0
  have k1 : w1.cell? ⟨w.heap.size, 1, none⟩ = some (.slice Af lf cf) := HP.out.cell 1
  have q0 : w1.cell? ⟨w.heap.size + 1, 0, none⟩ = some (.slice Aq nq cq) := HQ.out.cell 0
  have q1 : w1.cell? ⟨w.heap.size + 1, 1, none⟩ = some (.slice Ag lg cg) := HQ.out.cell 1
  cases hV : vProc ns fs with
  | false =>
    have HX := Lib.hid (show faithOf ns fs nsq gs fl = false by unfold faithOf; rw [hV]; rfl)
    clear hV
    go_wp2
    go_ret
    exact ⟨ret_bool HX.out.symm, HB.out⟩
  | true =>
  have HC := Lib.hid (validProcessS_any lo2 hi2 nq cq Aq nsq lo3 hi3 lg cg Ag gs w1 (hrq.keep HB.out hB2) (Nat.le_trans hB2 HB.out.size) hnq (hrg.keep HB.out hB3) (Nat.le_trans hB3 HB.out.size) hng)
  have HV := Lib.hid hV
  clear hV
  go_wp2_with (fail)
  (with_reducible refine HC.out.mono ?_)
  clear HC
  rintro e w2 ⟨rfl, hb2⟩
  have HB2 := Lib.hid (up HB.out hb2)
  have HP2 := Lib.hid (HP.out.below hb2 (by omega))
  have HQ2 := Lib.hid (HQ.out.below hb2 (by omega))
  have hs3 := hb2.size
  clear hb2 HP HQ k0 k1 q0 q1 HB
  have k0 : w2.cell? ⟨w.heap.size, 0, none⟩ = some (.slice An nn cn) := HP2.out.cell 0
  have k1 : w2.cell? ⟨w.heap.size, 1, none⟩ = some (.slice Af lf cf) := HP2.out.cell 1
  have q0 : w2.cell? ⟨w.heap.size + 1, 0, none⟩ = some (.slice Aq nq cq) := HQ2.out.cell 0
  have q1 : w2.cell? ⟨w.heap.size + 1, 1, none⟩ = some (.slice Ag lg cg) := HQ2.out.cell 1
  cases hV : vProc nsq gs with
  | false =>
    have HX := Lib.hid (show faithOf ns fs nsq gs fl = false by unfold faithOf; rw [hV]; simp)
    clear hV
    go_wp2
    go_ret
    exact ⟨ret_bool HX.out.symm, HB2.out⟩
  | true =>
  have HVQ := Lib.hid hV
  clear hV
  have HC := Lib.hid (validMap_any (.slice An nn cn) (.slice Aq nq cq) lf cf lg cg lo4 hi4 n4 c4 Af Ag A4 fs gs fl w2 HF.out HG.out hng (h4.keep HB2.out hB4) (Nat.le_trans hB4 HB2.out.size) hn4)
  go_wp2_with (fail)
  (with_reducible refine HC.out.mono ?_)
  clear HC
  rintro e w3 ⟨rfl, hb2⟩
  have HB3 := Lib.hid (up HB2.out hb2)
  have HP3 := Lib.hid (HP2.out.below hb2 (by omega))
  have HQ3 := Lib.hid (HQ2.out.below hb2 (by omega))
  have hs4 := hb2.size
  clear hb2 HP2 HQ2 k0 k1 q0 q1 HB2
  cases hV : vMap fs gs fl with
  | false =>
    have HX := Lib.hid (show faithOf ns fs nsq gs fl = false by unfold faithOf; rw [hV]; simp)
    clear hV
    go_wp2
    go_ret
    exact ⟨ret_bool HX.out.symm, HB3.out⟩
  | true =>
  have HVM := Lib.hid (vMap_iff.1 hV)
  have HX := Lib.hid (show faithOf ns fs nsq gs fl = keepsUp ns fs nsq gs fl fl.length by unfold faithOf; rw [hV, HV.out, HVQ.out]; rfl)
  clear hV
  go_wp2
  go_loopw [7] (fun iv wr => ∃ (k : Nat), k ≤ n4 ∧ iv = .int .i64 k ∧ Hid (keepsUp ns fs nsq gs fl k = true) ∧ Below w.heap.size w wr ∧ Blk wr w.heap.size 26 #[.slice An nn cn, .slice Af lf cf] ∧ Blk wr (w.heap.size + 1) 26 #[.slice Aq nq cq, .slice Ag lg cg])
     (fun iv _ => n4 - (intOf iv).toNat)
  case atStart => exact ⟨0, by omega, rfl, rfl, HB3.out, HP3.out, HQ3.out⟩
  case round =>
    clear HB3 HP3 HQ3 hs4 hs3 hs2
    obtain ⟨k, hk, rfl, hK, hb, hp, hq⟩ := hrel
    by_cases hkn : k < n4
    · obtain ⟨b4, o4, f, rfl, _, _, hgf, hcf⟩ := (h4.keep hb hB4).one hkn
      have hkn1 : (k : Int) < (n4 : Int) := by omega
      have hkn0 : (0 : Int) ≤ (k : Int) := by omega
      have hfm := HVM.out.2 f (List.mem_of_getElem? hgf)
      have hlen := HVM.out.1
      have hkf : k < lf := by have := HL4.out; have := HF.out; omega
      have hgd : fl.getD k 0 = f := by rw [List.getD_eq_getElem?_getD, hgf]; rfl
      have hpl := hp.lt
      have hql := hq.lt
      by_cases hf0 : f < 0
      · have hfd : decide (0 ≤ f) = false := decide_eq_false (by omega)
        have hfd2 : (0 ≤ f) = False := eq_false (by omega)
        have HK := Lib.hid (keepsUp_step hK.out (show keepsAt ns fs nsq gs fl k = true by unfold keepsAt; rw [hgd, decide_eq_true hf0]; rfl))
        have HB := Lib.hid hb
        have HP := Lib.hid hp
        have HQ := Lib.hid hq
        have k0 := hp.cell 0
        have k1 := hp.cell 1
        have q0 := hq.cell 0
        have q1 := hq.cell 1
        simp only [List.getElem?_toArray, List.getElem?_cons_zero, List.getElem?_cons_succ] at k0 k1 q0 q1
        clear hgf hfm hlen hgd hb hp hq hK hf0
        go_wp2_with (fail)
        go_quiet (fail)
        go_wp2
        go_roundw
        case rel => exact ⟨k + 1, by omega, by go_num, HK, up_drewN HB.out _, HP.out.drewN _, HQ.out.drewN _⟩
        case measure => simp [intOf]; omega
      · obtain ⟨j, rfl⟩ : ∃ j : Nat, f = (j : Int) := ⟨f.toNat, by omega⟩
        have hjg : j < lg := by have := HG.out; omega
        have hfd : decide ((0 : Int) ≤ (j : Int)) = true := decide_eq_true (by omega)
        have hfd2 : (0 : Int) ≤ (j : Int) := by omega
        have HC : Hid (∀ wx : World, Below wr.heap.size wr wx → Calls Try.prog 45 #[.agg #[.slice An nn cn, .slice Af lf cf], .int .i64 (k : Int), .agg #[.slice Aq nq cq, .slice Ag lg cg], .int .i64 (j : Int)] wx fun e w' => e = .returned (.bool (stopAt ns fs k == stopAt nsq gs j)) ∧ Below wx.heap.size wx w') := fun wx hbx =>
          sameStops_any lo hi nn cn An ns lo1 hi1 lf cf Af fs lo2 hi2 nq cq Aq nsq lo3 hi3 lg cg Ag gs k j wx (hrn.keep (up hb hbx) hB) (Nat.le_trans hB (up hb hbx).size) hnn (hr.keep (up hb hbx) hB1) (Nat.le_trans hB1 (up hb hbx).size) hn (hrq.keep (up hb hbx) hB2) (Nat.le_trans hB2 (up hb hbx).size) hnq (hrg.keep (up hb hbx) hB3) (Nat.le_trans hB3 (up hb hbx).size) hng HV.out HVQ.out hkf hjg
        have HKX := Lib.hid (show keepsAt ns fs nsq gs fl k = (stopAt ns fs k == stopAt nsq gs j) by unfold keepsAt; rw [hgd, decide_eq_false (by omega), Int.toNat_natCast]; rfl)
        have hkl : k < fl.length := by have := HL4.out; omega
        have HKL := Lib.hid hkl
        have HB := Lib.hid hb
        have HP := Lib.hid hp
        have HQ := Lib.hid hq
        have HSW : Hid (∀ wx : World, Below wr.heap.size wr wx → wx.cell? ⟨w.heap.size, 0, none⟩ = some (.slice An nn cn) ∧ wx.cell? ⟨w.heap.size, 1, none⟩ = some (.slice Af lf cf) ∧ wx.cell? ⟨w.heap.size + 1, 0, none⟩ = some (.slice Aq nq cq) ∧ wx.cell? ⟨w.heap.size + 1, 1, none⟩ = some (.slice Ag lg cg) ∧ wx.cell? ⟨b4, o4 + k, none⟩ = some (.int .i64 (j : Int))) := fun wx hbx =>
          ⟨(HP.out.below hbx hpl).cell 0, (HP.out.below hbx hpl).cell 1, (HQ.out.below hbx hql).cell 0, (HQ.out.below hbx hql).cell 1, (hbx.cell (p := ⟨b4, o4 + k, none⟩) (by show b4 < wr.heap.size; have := hb.size; omega)).trans hcf⟩
        generalize (stopAt ns fs k == stopAt nsq gs j) = sb at *
        clear hgf hfm hlen hgd hb hp hq hcf
        cases sb with
        | true =>
          have HK := Lib.hid (keepsUp_step hK.out HKX.out)
          clear HKX hK
          go_wp2_with (fail)
          go_region_held3 (fun w' => w'.cell? ⟨w.heap.size, 0, none⟩ = some (.slice An nn cn) ∧ w'.cell? ⟨w.heap.size, 1, none⟩ = some (.slice Af lf cf) ∧ w'.cell? ⟨w.heap.size + 1, 0, none⟩ = some (.slice Aq nq cq) ∧ w'.cell? ⟨w.heap.size + 1, 1, none⟩ = some (.slice Ag lg cg) ∧ w'.cell? ⟨b4, o4 + k, none⟩ = some (.int .i64 (j : Int)))
            (first | exact HSW.out _ (Below.refl _ _) | exact HSW.out _ (up_drew (Below.refl _ _)) | exact HSW.out _ HB7.out)
            ((first
              | (go_at_call 45; (with_reducible refine (HC.out _ (up_drew (Below.refl _ _))).mono ?_); rintro e w7 ⟨rfl, hb7⟩; have HB7 := Lib.hid (up (up_drew (Below.refl _ wr)) hb7))))
          all_goals
            go_wp2
            go_roundw
            case rel => exact ⟨k + 1, by omega, by go_num, HK, up HB.out HB7.out, HP.out.below HB7.out hpl, HQ.out.below HB7.out hql⟩
            case measure => simp [intOf]; omega
        | false =>
          have HX2 := Lib.hid (HX.out.trans (keepsUp_bad HKL.out HKX.out))
          clear HKX hK HX
          go_wp2_with (fail)
          go_region_held3 (fun w' => w'.cell? ⟨w.heap.size, 0, none⟩ = some (.slice An nn cn) ∧ w'.cell? ⟨w.heap.size, 1, none⟩ = some (.slice Af lf cf) ∧ w'.cell? ⟨w.heap.size + 1, 0, none⟩ = some (.slice Aq nq cq) ∧ w'.cell? ⟨w.heap.size + 1, 1, none⟩ = some (.slice Ag lg cg) ∧ w'.cell? ⟨b4, o4 + k, none⟩ = some (.int .i64 (j : Int)))
            (first | exact HSW.out _ (Below.refl _ _) | exact HSW.out _ (up_drew (Below.refl _ _)) | exact HSW.out _ HB7.out)
            ((first
              | (go_at_call 45; (with_reducible refine (HC.out _ (up_drew (Below.refl _ _))).mono ?_); rintro e w7 ⟨rfl, hb7⟩; have HB7 := Lib.hid (up (up_drew (Below.refl _ wr)) hb7))))
          all_goals
            go_wp2
            go_ret
            exact ⟨ret_bool HX2.out.symm, up HB.out HB7.out⟩
    · obtain rfl : n4 = k := by omega
      have HX2 := Lib.hid (show faithOf ns fs nsq gs fl = true by rw [HX.out, HL4.out]; exact hK.out)
      have HB := Lib.hid hb
      clear hb hp hq hK HX
      go_wp2
      go_ret
      exact ⟨ret_bool HX2.out.symm, HB.out⟩
end Go.Proofs.Ytmhbfdcikdhehaa
