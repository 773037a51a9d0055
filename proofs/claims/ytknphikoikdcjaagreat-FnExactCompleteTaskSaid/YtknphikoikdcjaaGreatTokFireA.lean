/- Merged: TokFireI, TokFireJ, TokFireK. -/
import Derived.Test.YtknphikoikdcjaaGreatTokFireAA
import Derived.Test.YtknphikoikdcjaaGreatTokSumA
import Derived.Test.YtknphikoikdcjaaGreatTokReadyI
import Derived.Test.YtknphikoikdcjaaGreatTokChooseI
import Derived.Test.YtknphikoikdcjaaGreatTokList
/- impl.putsOn, impl.after, impl.FireNode. -/
set_option linter.unusedSimpArgs false
set_option linter.unusedVariables false
namespace Go.Proofs.YtknphikoikdcjaaGreat
open Go.RowKit Go.Maps

set_option maxRecDepth 100000 in
set_option maxHeartbeats 1600000 in
theorem putsOn_any (An : Option Addr) (nn cn lo hi : Nat) (ns : List (Int × Int)) (lo1 hi1 lf cf bo bi : Nat) (Af : Option Addr) (fs : List Flw) (k lo2 hi2 lo' hi' n' c' : Nat) (A' : Option Addr) (vs : List Int) (x y : Int) (w : World)
    (hrn : Rd w lo hi 2 An nn (pvs ns)) (hB : hi ≤ w.heap.size) (hr : Fls w lo1 hi1 Af lf fs) (hB1 : hi1 ≤ w.heap.size) (hn : lf ≤ 1048576) (hm : RowMap Tryz.prog 3 w lo2 hi2 bo (fun z => flOf fs true z)) (hB2 : hi2 ≤ w.heap.size)
    (hv : Rd w lo' hi' 1 A' n' (ivs vs)) (hB' : hi' ≤ w.heap.size) (hn' : n' ≤ 1048576) (hk : k < nn) (hnn : nn ≤ 1048576) (hkx : ns[k]? = some (x, y)) :
    Calls Tryz.prog 200 #[.agg #[.slice An nn cn, .slice Af lf cf, .map (some bo), .map (some bi)], .int .i64 (k : Int), .slice A' n' c'] w fun e w' => ∃ Ao co lo3 hi3, e = .returned (.tuple #[.slice Ao (putsOf x fs vs (k : Int)).length co, .bool (!(x == 5 && decide (chooseR fs vs (flOf fs true (k : Int)) (-1) < 0)))]) ∧
      Rd w' lo3 hi3 1 Ao (putsOf x fs vs (k : Int)).length (ivs (putsOf x fs vs (k : Int))) ∧ hi3 ≤ w'.heap.size ∧ Below w.heap.size w w' := by
  have hk64 : in64 (k : Int) := by unfold in64; omega
  have hb1 := up_alloc (Below.refl _ w) (.cells #[.slice An nn cn, .slice Af lf cf, .map (some bo), .map (some bi)] 104)
  have hbk := Blk.new w 104 #[.slice An nn cn, .slice Af lf cf, .map (some bo), .map (some bi)]
  have hs1 := hb1.size
  have n0 := hbk.cell 0
  have n1 := hbk.cell 1
  have n2 := hbk.cell 2
  have n3 := hbk.cell 3
  simp at n0 n1 n2 n3
  obtain ⟨bz, oz, x', y', hAe, _, _, hkx', hz0, hz1⟩ := (hrn.keep hb1 hB).pair hk
  rw [hkx] at hkx'
  obtain ⟨rfl, rfl⟩ : x = x' ∧ y = y' := by injection hkx' with h; injection h with h1 h2; exact ⟨h1, h2⟩
  clear hkx'
  have hkn : (k : Int) < (nn : Int) := by omega
  have hk0 : (0 : Int) ≤ (k : Int) := by omega
  by_cases hx : x = 5
  · subst hx
    have HP := Lib.hid (show putsOf 5 fs vs (k : Int) = [chooseR fs vs (flOf fs true (k : Int)) (-1)] by simp [putsOf])
    rw [HP.out]
    have hC := chosen_any An nn cn lo1 hi1 lf cf bo bi Af fs (k : Int) lo2 hi2 lo' hi' n' c' A' vs _ (hr.keep hb1 hB1) (Nat.le_trans hB1 hs1) hn (hm.keep hb1 hB2) (Nat.le_trans hB2 hs1) hk64 (hv.keep hb1 hB') (Nat.le_trans hB' hs1) (by omega)
    unfold netV at hC
    have HC := Lib.hid hC
    clear hC
    subst hAe
    go_enter Tryz.func200, Tryz.ntmps200
    go_wp2_with (fail)
    (with_reducible refine HC.out.mono ?_)
    clear HC
    rintro e w2 ⟨rfl, hb2⟩
    have HB := Lib.hid (up hb1 hb2)
    generalize hq : chooseR fs vs (flOf fs true (k : Int)) (-1) = q at *
    have HQE := Lib.hid hq
    clear hq
    have HQ := Lib.hid (show (!((5 : Int) == 5 && decide (q < 0))) = decide (0 ≤ q) by
      by_cases h : q < 0
      · rw [decide_eq_true h, decide_eq_false (by omega)]; rfl
      · rw [decide_eq_false h, decide_eq_true (by omega)]; rfl)
    clear hb2 hb1
    go_wp2
    refine bodyPost_ret (v := .tuple #[.slice (some ⟨w2.heap.size, 0, none⟩) 1 1, .bool (decide (0 ≤ q))]) (by simp [results, Tryz.results200, go_sem]) rfl ?_
    rw [HQE.out, HQ.out]
    refine ⟨_, _, w2.heap.size, w2.heap.size + 1, rfl, ⟨rfl, fun _ => ⟨_, _, rfl, Nat.le_refl _, by omega, fun j u hj => ?_⟩⟩, by simp, up_alloc HB.out _⟩
    rw [(Blk.new w2 3 #[.int .i64 q]).cell (0 + j)]
    simpa [ivs] using hj
  · have HP := Lib.hid (show putsOf x fs vs (k : Int) = flOf fs true (k : Int) by simp [putsOf, hx])
    rw [HP.out]
    have hx' : (x != 5) = true := by simpa using hx
    have HQ := Lib.hid (show (!(x == 5 && decide (chooseR fs vs (flOf fs true (k : Int)) (-1) < 0))) = true by
      have : (x == 5) = false := by simpa using hx
      rw [this]; rfl)
    rw [HQ.out]
    obtain ⟨Ao, co, hlo, hco, hro, _⟩ := (hm.keep hb1 hB2).look keyedInt Tryz.underlying3 Tryz.underlying100 zeroInts hk64
    have HB := Lib.hid hb1
    have HRO := Lib.hid hro
    subst hAe
    clear hb1 hbk hro
    go_enter Tryz.func200, Tryz.ntmps200
    go_wp2
    refine bodyPost_ret (v := .tuple #[.slice Ao (flOf fs true (k : Int)).length co, .bool true]) (by simp [results, Tryz.results200, go_sem]) rfl ?_
    exact ⟨_, _, lo2, hi2, rfl, HRO.out, Nat.le_trans hB2 hs1, HB.out⟩
theorem canFire_ready {x : Int} {fs : List Flw} {ms vs : List Int} {node : Int} (h : readyB x ms (flOf fs false node) = false) : canFire x fs ms vs node = false := by simp [canFire, h]
theorem canFire_puts {x : Int} {fs : List Flw} {ms vs : List Int} {node : Int} (h : (!(x == 5 && decide (chooseR fs vs (flOf fs true node) (-1) < 0))) = false) : canFire x fs ms vs node = false := by
  unfold canFire; rw [h]; simp
theorem canFire_rest {x : Int} {fs : List Flw} {ms vs : List Int} {node : Int} (h1 : readyB x ms (flOf fs false node) = true) (h2 : (!(x == 5 && decide (chooseR fs vs (flOf fs true node) (-1) < 0))) = true) : canFire x fs ms vs node = (behindOf x fs ms vs node).all (fun m => inR m 0 3) := by
  unfold canFire; rw [h1, h2]; simp
theorem behind_nonneg {x : Int} {fs : List Flw} {ms vs : List Int} {node : Int} (h : ∀ z ∈ ms, 0 ≤ z) : ∀ z ∈ behindOf x fs ms vs node, 0 ≤ z := by
  unfold behindOf
  refine bump_up_nonneg _ _ (bump_down_nonneg _ _ h (fun q hq => ?_) ?_)
  · have := (List.mem_filter.1 ((takes_sub x ms _).subset hq)).2
    exact of_decide_eq_true this
  · have hs := (takes_sub x ms (flOf fs false node)).trans (having_sub ms _)
    have hp := (flOf_sorted fs false node).sublist hs
    rw [List.Nodup, List.pairwise_map]
    refine (List.Pairwise.and_mem.1 hp).imp (fun {a b} hab => ?_)
    obtain ⟨ha, hb, hl⟩ := hab
    obtain ⟨p, f, rfl, _⟩ := flOf_mem.1 (hs.subset ha)
    obtain ⟨q, f, rfl, _⟩ := flOf_mem.1 (hs.subset hb)
    simp; omega
theorem behind_most {x : Int} {fs : List Flw} {ms vs : List Int} {node : Int} (h : ∀ z ∈ ms, 0 ≤ z) : (behindOf x fs ms vs node).all (fun m => inR m 0 3) = decide (maxOf (behindOf x fs ms vs node) ≤ 3) := by
  have h0 := behind_nonneg (x := x) (fs := fs) (vs := vs) (node := node) h
  by_cases hm : maxOf (behindOf x fs ms vs node) ≤ 3
  · rw [decide_eq_true hm, List.all_eq_true]
    exact fun z hz => inR_iff.2 ⟨h0 z hz, (maxOf_le (by omega)).1 hm z hz⟩
  · rw [decide_eq_false hm, Bool.eq_false_iff]
    exact fun ha => hm ((maxOf_le (by omega)).2 fun z hz => (inR_iff.1 (List.all_eq_true.1 ha z hz)).2)
end Go.Proofs.YtknphikoikdcjaaGreat


/- impl.after, impl.FireNode. -/
namespace Go.Proofs.YtknphikoikdcjaaGreat
open Go.RowKit Go.Maps

theorem chooseR_mem (fs : List Flw) (vs : List Int) : ∀ (is : List Int) (rest : Int), chooseR fs vs is rest = rest ∨ chooseR fs vs is rest ∈ is
  | [], _ => .inl rfl
  | i :: is, rest => by
    rw [chooseR]
    split
    · exact .inr (by simp)
    · rcases chooseR_mem fs vs is (if (fs.getD i.toNat (0, 0, [])).2.2 = [] ∧ rest < 0 then i else rest) with h | h
      · rw [h]
        split
        · exact .inr (by simp)
        · exact .inl rfl
      · exact .inr (List.mem_cons_of_mem _ h)
theorem puts_mem {x : Int} {fs : List Flw} {vs : List Int} {node : Int} (h : (!(x == 5 && decide (chooseR fs vs (flOf fs true node) (-1) < 0))) = true) : ∀ z ∈ putsOf x fs vs node, ∃ q : Nat, z = (q : Int) ∧ q < fs.length := by
  have hmem : ∀ z ∈ flOf fs true node, ∃ q : Nat, z = (q : Int) ∧ q < fs.length := fun z hz => by
    obtain ⟨q, f, rfl, hf, _⟩ := flOf_mem.1 hz
    exact ⟨q, rfl, (List.getElem?_eq_some_iff.1 hf).1⟩
  intro z hz
  unfold putsOf at hz
  split at hz
  · rename_i hx
    simp at hz
    subst hz
    rw [hx] at h
    rcases chooseR_mem fs vs (flOf fs true node) (-1) with h1 | h1
    · rw [h1] at h; simp at h
    · exact hmem _ h1
  · exact hmem z hz
theorem puts_le (x : Int) (fs : List Flw) (vs : List Int) (node : Int) (h14 : fs.length ≤ 14) : (putsOf x fs vs node).length ≤ 14 := by
  unfold putsOf
  split
  · simp
  · exact Nat.le_trans (flUp_le fs true node fs.length) h14

set_option maxRecDepth 100000 in
set_option maxHeartbeats 800000 in
theorem isReady_no (An : Option Addr) (nn cn : Nat) (Af : Option Addr) (lf cf bo bi mb : Nat) (node : Int) (w : World) (hin : inR node 0 ((nn : Int) - 1) = false) :
    Calls Tryz.prog 154 #[.agg #[.slice An nn cn, .slice Af lf cf, .map (some bo), .map (some bi)], .map (some mb), .int .i64 node] w fun e w' => e = .returned (.bool false) ∧ Below w.heap.size w w' := by
  have hb1 := up_alloc (Below.refl _ w) (.cells #[.slice An nn cn, .slice Af lf cf, .map (some bo), .map (some bi)] 104)
  go_enter Tryz.func154, Tryz.ntmps154
  go_wp2_with (fail)
  (with_reducible refine (isNode_any An nn cn node _).mono ?_)
  rintro e w2 ⟨rfl, rfl⟩
  rw [hin]
  have HB := Lib.hid hb1
  clear hin hb1
  go_wp2
  go_ret
  exact ⟨rfl, HB.out⟩
theorem after_no (An : Option Addr) (nn cn : Nat) (Af : Option Addr) (lf cf bo bi mb : Nat) (node : Int) (A' : Option Addr) (n' c' : Nat) (w : World) (hin : inR node 0 ((nn : Int) - 1) = false) :
    Calls Tryz.prog 178 #[.agg #[.slice An nn cn, .slice Af lf cf, .map (some bo), .map (some bi)], .map (some mb), .int .i64 node, .slice A' n' c'] w fun e w' => e = .returned (.tuple #[.map none, .bool false]) ∧ Below w.heap.size w w' := by
  have hb1 := up_alloc (Below.refl _ w) (.cells #[.slice An nn cn, .slice Af lf cf, .map (some bo), .map (some bi)] 104)
  have HR := Lib.hid (isReady_no An nn cn Af lf cf bo bi mb node (w.alloc (.cells #[.slice An nn cn, .slice Af lf cf, .map (some bo), .map (some bi)] 104)) hin)
  go_enter Tryz.func178, Tryz.ntmps178
  go_wp2_with (fail)
  (with_reducible refine HR.out.mono ?_)
  rintro e w2 ⟨rfl, hb2⟩
  have HB := Lib.hid (up hb1 hb2)
  clear hb1 hb2
  go_wp2
  exact bodyPost_ret (v := .tuple #[.map none, .bool false]) (by simp [results, Tryz.results178, go_sem]) rfl ⟨rfl, HB.out⟩

def AfterPost (x : Int) (fs : List Flw) (ms vs : List Int) (node : Int) (w : World) (e : Ending) (w' : World) : Prop :=
  (canFire x fs ms vs node = false ∧ e = .returned (.tuple #[.map none, .bool false]) ∧ Below w.heap.size w w') ∨
  (canFire x fs ms vs node = true ∧ ∃ mb2 m2, e = .returned (.tuple #[.map (some mb2), .bool true]) ∧ MkM Tryz.prog 3 w' mb2 m2 (markAt (behindOf x fs ms vs node)) ∧ w.heap.size ≤ mb2 ∧ Below w.heap.size w w')

set_option maxRecDepth 100000 in
set_option maxHeartbeats 1600000 in
theorem after_any (An : Option Addr) (nn cn lo hi : Nat) (ns : List (Int × Int)) (lo1 hi1 lf cf bo bi : Nat) (Af : Option Addr) (fs : List Flw) (lo2 hi2 lo4 hi4 mb m : Nat) (ms : List Int) (k : Nat) (lo' hi' n' c' : Nat) (A' : Option Addr) (vs : List Int) (x y : Int) (w : World)
    (hrn : Rd w lo hi 2 An nn (pvs ns)) (hB : hi ≤ w.heap.size) (hr : Fls w lo1 hi1 Af lf fs) (hB1 : hi1 ≤ w.heap.size) (hn : lf ≤ 1048576) (hmo : RowMap Tryz.prog 3 w lo4 hi4 bo (fun z => flOf fs true z)) (hB4 : hi4 ≤ w.heap.size)
    (hmi : RowMap Tryz.prog 3 w lo2 hi2 bi (fun z => flOf fs false z)) (hB2 : hi2 ≤ w.heap.size) (hc : MkM Tryz.prog 3 w mb m (markAt ms)) (hlen : ms.length = fs.length) (h14 : fs.length ≤ 14) (hm14 : m ≤ 14) (h03 : ∀ z ∈ ms, 0 ≤ z ∧ z ≤ 3)
    (hv : Rd w lo' hi' 1 A' n' (ivs vs)) (hB' : hi' ≤ w.heap.size) (hn' : n' ≤ 1048576) (hk : k < nn) (hnn : nn ≤ 1048576) (hkx : ns[k]? = some (x, y)) :
    Calls Tryz.prog 178 #[.agg #[.slice An nn cn, .slice Af lf cf, .map (some bo), .map (some bi)], .map (some mb), .int .i64 (k : Int), .slice A' n' c'] w (AfterPost x fs ms vs (k : Int) w) := by
  have hb1 := up_alloc (Below.refl _ w) (.cells #[.slice An nn cn, .slice Af lf cf, .map (some bo), .map (some bi)] 104)
  have hbk := Blk.new w 104 #[.slice An nn cn, .slice Af lf cf, .map (some bo), .map (some bi)]
  have hs1 := hb1.size
  have hmb := hc.lt
  have hblt := hbk.lt
  have HK := Lib.hid hbk
  have HRD := Lib.hid (isReady_any An nn cn lo hi ns Af lf cf bo bi fs lo2 hi2 mb m ms k x y _ (hrn.keep hb1 hB) (Nat.le_trans hB hs1) (hmi.keep hb1 hB2) (Nat.le_trans hB2 hs1) (hc.keep hb1 hmb) hlen h14 hk hnn hkx)
  clear hbk
  go_enter Tryz.func178, Tryz.ntmps178
  go_wp2_with (fail)
  (with_reducible refine HRD.out.mono ?_)
  clear HRD
  rintro e w1 ⟨rfl, hb2⟩
  have HB := Lib.hid (up hb1 hb2)
  have HK1 := Lib.hid (HK.out.below hb2 hblt)
  have hs2 := Nat.lt_of_lt_of_le hblt hb2.size
  clear hb1 hb2 HK hs1 hblt
  cases hrb : readyB x ms (flOf fs false (k : Int)) with
  | false =>
    have HX := Lib.hid (canFire_ready (vs := vs) hrb)
    clear hrb
    go_wp2
    exact bodyPost_ret (v := .tuple #[.map none, .bool false]) (by simp [results, Tryz.results178, go_sem]) rfl (.inl ⟨HX.out, rfl, HB.out⟩)
  | true =>
  have HRB := Lib.hid hrb
  clear hrb
  have n0 : w1.cell? ⟨w.heap.size, 0, none⟩ = some (.slice An nn cn) := HK1.out.cell 0
  have n1 : w1.cell? ⟨w.heap.size, 1, none⟩ = some (.slice Af lf cf) := HK1.out.cell 1
  have n2 : w1.cell? ⟨w.heap.size, 2, none⟩ = some (.map (some bo)) := HK1.out.cell 2
  have n3 : w1.cell? ⟨w.heap.size, 3, none⟩ = some (.map (some bi)) := HK1.out.cell 3
  have HP := Lib.hid (putsOn_any An nn cn lo hi ns lo1 hi1 lf cf bo bi Af fs k lo4 hi4 lo' hi' n' c' A' vs x y w1 (hrn.keep HB.out hB) (Nat.le_trans hB HB.out.size) (hr.keep HB.out hB1) (Nat.le_trans hB1 HB.out.size) hn (hmo.keep HB.out hB4) (Nat.le_trans hB4 HB.out.size) (hv.keep HB.out hB') (Nat.le_trans hB' HB.out.size) hn' hk hnn hkx)
  go_wp2_with (fail)
  (with_reducible refine HP.out.mono ?_)
  clear HP
  rintro e w2 ⟨Ao, co, lo3, hi3, rfl, hro, hi3b, hb3⟩
  have HB2 := Lib.hid (up HB.out hb3)
  have HK2 := Lib.hid (HK1.out.below hb3 hs2)
  have hs3 := Nat.lt_of_lt_of_le hs2 hb3.size
  have HRO := Lib.hid hro
  clear hb3 hro HK1 n0 n1 n2 n3
  cases hpb : (!(x == 5 && decide (chooseR fs vs (flOf fs true (k : Int)) (-1) < 0))) with
  | false =>
    have HX := Lib.hid (canFire_puts (ms := ms) hpb)
    clear hpb
    go_wp2
    exact bodyPost_ret (v := .tuple #[.map none, .bool false]) (by simp [results, Tryz.results178, go_sem]) rfl (.inl ⟨HX.out, rfl, HB2.out⟩)
  | true =>
  have HX := Lib.hid ((canFire_rest HRB.out hpb).trans (behind_most (fun z hz => (h03 z hz).1)))
  have n0 : w2.cell? ⟨w.heap.size, 0, none⟩ = some (.slice An nn cn) := HK2.out.cell 0
  have n1 : w2.cell? ⟨w.heap.size, 1, none⟩ = some (.slice Af lf cf) := HK2.out.cell 1
  have n2 : w2.cell? ⟨w.heap.size, 2, none⟩ = some (.map (some bo)) := HK2.out.cell 2
  have n3 : w2.cell? ⟨w.heap.size, 3, none⟩ = some (.map (some bi)) := HK2.out.cell 3
  have HBH := Lib.hid (behind_any An nn cn lo hi ns Af lf cf bo bi fs lo2 hi2 mb m ms k x y lo3 hi3 _ co Ao _ w2 (hrn.keep HB2.out hB) (Nat.le_trans hB HB2.out.size) (hmi.keep HB2.out hB2) (Nat.le_trans hB2 HB2.out.size) (hc.keep HB2.out hmb) hlen h14 hk hnn hkx hm14 h03 HRO.out hi3b (puts_le x fs vs (k : Int) h14) (fun z hz => by rw [hlen]; exact puts_mem hpb z hz))
  generalize (putsOf x fs vs (k : Int)).length = pn at *
  clear hpb HRB HRO
  go_wp2_with (fail)
  (with_reducible refine HBH.out.mono ?_)
  clear HBH
  rintro e w3 ⟨mb2, m2, rfl, him, hm42, hmb2, hb4⟩
  have HB3 := Lib.hid (up HB2.out hb4)
  have HIM := Lib.hid (show MkM Tryz.prog 3 w3 mb2 m2 (markAt (behindOf x fs ms vs (k : Int))) from him)
  have hs4 := HB2.out.size
  clear hb4 him n0 n1 n2 n3
  go_wp2_with (fail)
  (with_reducible refine (mostI_any mb2 m2 (behindOf x fs ms vs (k : Int)) w3 HIM.out).mono ?_)
  rintro e w4 ⟨rfl, hb5⟩
  have HB4 := Lib.hid (up HB3.out hb5)
  have HIM4 := Lib.hid (HIM.out.keep hb5 HIM.out.lt)
  clear hb5
  by_cases hmx : maxOf (behindOf x fs ms vs (k : Int)) ≤ 3
  · have HY := Lib.hid (show canFire x fs ms vs (k : Int) = true by rw [HX.out]; exact decide_eq_true hmx)
    have hmx' : decide ((3 : Int) < maxOf (behindOf x fs ms vs (k : Int))) = false := decide_eq_false (by omega)
    go_wp2
    exact bodyPost_ret (v := .tuple #[.map (some mb2), .bool true]) (by simp [results, Tryz.results178, go_sem]) rfl (.inr ⟨HY.out, mb2, m2, rfl, HIM4.out, by omega, HB4.out⟩)
  · have HY := Lib.hid (show canFire x fs ms vs (k : Int) = false by rw [HX.out]; exact decide_eq_false hmx)
    have hmx' : decide ((3 : Int) < maxOf (behindOf x fs ms vs (k : Int))) = true := decide_eq_true (by omega)
    go_wp2
    exact bodyPost_ret (v := .tuple #[.map none, .bool false]) (by simp [results, Tryz.results178, go_sem]) rfl (.inl ⟨HY.out, rfl, HB4.out⟩)
end Go.Proofs.YtknphikoikdcjaaGreat


/- impl.FireNode. -/
namespace Go.Proofs.YtknphikoikdcjaaGreat
open Go.RowKit Go.Maps

/-- What FireNode answers; none: nil and false. -/
def fireOf (ns : List (Int × Int)) (fs : List Flw) (ms : List Int) (node : Int) (vs : List Int) : Option (List Int) :=
  if vProc ns fs && vMarks fs ms && inR node 0 ((ns.length : Int) - 1) && vVals vs && canFire (kindAt ns node.toNat) fs ms vs node then some (behindOf (kindAt ns node.toNat) fs ms vs node) else none
/-- A list and true, or nil and false. -/
def MarksPost (r : Option (List Int)) (w : World) (e : Ending) (w' : World) : Prop :=
  (r = none ∧ e = .returned (.tuple #[.slice none 0 0, .bool false]) ∧ Below w.heap.size w w') ∨
  (∃ l A c, r = some l ∧ e = .returned (.tuple #[.slice A l.length c, .bool true]) ∧ l.length ≤ c ∧ Rd w' w.heap.size w'.heap.size 1 A l.length (ivs l) ∧ Soft w' 1 A l.length ∧ Below w.heap.size w w')
theorem fireOf_no {ns : List (Int × Int)} {fs : List Flw} {ms : List Int} {node : Int} {vs : List Int} (h : (vProc ns fs && vMarks fs ms) = false ∨ inR node 0 ((ns.length : Int) - 1) = false ∨ vVals vs = false) : fireOf ns fs ms node vs = none := by
  unfold fireOf
  rcases h with h | h | h <;> simp [h]
theorem fireOf_yes {ns : List (Int × Int)} {fs : List Flw} {ms : List Int} {k : Nat} {x y : Int} {vs : List Int} (h1 : vProc ns fs = true) (h2 : vMarks fs ms = true) (hk : ns[k]? = some (x, y)) (h3 : inR (k : Int) 0 ((ns.length : Int) - 1) = true) (h4 : vVals vs = true) :
    fireOf ns fs ms (k : Int) vs = if canFire x fs ms vs (k : Int) then some (behindOf x fs ms vs (k : Int)) else none := by
  unfold fireOf
  rw [h1, h2, h3, h4, Int.toNat_natCast, kindAt_is hk]
  simp
theorem range_getD (l : List Int) : (List.range l.length).map (fun i => l.getD i 0) = l := by
  apply List.ext_getElem?
  intro i
  by_cases hi : i < l.length
  · rw [List.getElem?_map, List.getElem?_range hi]
    show some (l.getD i 0) = l[i]?
    rw [List.getD_eq_getElem?_getD, List.getElem?_eq_getElem hi]; rfl
  · rw [List.getElem?_eq_none (by simp; omega), List.getElem?_eq_none (by omega)]
theorem behind_len (x : Int) (fs : List Flw) (ms vs : List Int) (node : Int) : (behindOf x fs ms vs node).length = ms.length := by
  unfold behindOf; rw [bump_len, bump_len]

end Go.Proofs.YtknphikoikdcjaaGreat

