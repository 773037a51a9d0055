/- Merged: RunC, RunD, RunE. -/
import Derived.Test.YtknphikoikdcjaaGreatRunAA
import Derived.Test.YtknphikoikdcjaaGreatTimA
import Derived.Test.YtknphikoikdcjaaGreatTokCountA
import Derived.Test.YtknphikoikdcjaaGreatEvalB
import Derived.Deep.RegionHeld3
/- The program: which node goes on by itself; are timers sorted? (Written by gen/runc.py.) -/
set_option linter.unusedSimpArgs false
set_option linter.unusedVariables false
namespace Go.Proofs.YtknphikoikdcjaaGreat
open Go.RowKit

/-- A kind that waits. -/
def waitB (k : Int) : Bool := k == 2 || k == 3 || k == 4
def readyK (ns : List (Int × Int)) (fs : List Flw) (ms : List Int) (k : Nat) : List Nat := (List.range k).filter fun (i : Nat) => readyB (kindAt ns i) ms (flOf fs false (i : Int))
theorem readyUp_eq (ns : List (Int × Int)) (fs : List Flw) (ms : List Int) (k : Nat) : readyUp ns fs ms k = (readyK ns fs ms k).map fun (i : Nat) => (i : Int) := rfl
theorem find_filter {p q : Nat → Bool} : ∀ l : List Nat, l.find? (fun k => q k && p k) = (l.filter p).find? q
  | [] => rfl
  | a :: l => by
    rw [List.find?_cons]
    by_cases hp : p a = true
    · rw [List.filter_cons_of_pos hp, List.find?_cons, hp, Bool.and_true, find_filter l]
    · rw [Bool.not_eq_true] at hp
      rw [List.filter_cons_of_neg (by simp [hp]), hp, Bool.and_false, find_filter l]
theorem find_same {p q : Nat → Bool} : ∀ {l : List Nat}, (∀ x ∈ l, p x = q x) → l.find? p = l.find? q
  | [], _ => rfl
  | a :: l, h => by
    rw [List.find?_cons, List.find?_cons, h a (List.mem_cons_self ..), find_same (fun x hx => h x (List.mem_cons_of_mem _ hx))]
theorem kind_wait {ns : List (Int × Int)} {fs : List Flw} {ms : List Int} (hV : vProc ns fs = true) {k : Nat} (hk : k < ns.length) (hr : readyB (kindAt ns k) ms (flOf fs false (k : Int)) = true) : autoB (kindAt ns k) = !waitB (kindAt ns k) := by
  have hg : ns[k]? = some (ns[k].1, ns[k].2) := List.getElem?_eq_getElem hk
  have hn := vProc_node hV hg
  rw [kindAt_is hg] at hr ⊢
  generalize ns[k].1 = x at *
  have hn1 := hn.1
  have hn2 := hn.2
  have h0 : x ≠ 0 := by
    intro h
    subst h
    simp [vKind] at hn2
    simp [readyB, hn2] at hr
  have hx : 0 ≤ x ∧ x ≤ 8 := by
    unfold vKind at hn2
    repeat' split at hn2
    all_goals first | omega | cases hn2
  rw [Bool.eq_iff_iff]
  simp only [autoB, waitB, Bool.or_eq_true, decide_eq_true_eq, Bool.not_eq_true', Bool.or_eq_false_iff, beq_eq_false_iff_ne]
  omega
theorem firstAuto_eq {ns : List (Int × Int)} {fs : List Flw} (hV : vProc ns fs = true) (ms : List Int) : firstAuto ns fs ms = (readyK ns fs ms ns.length).find? fun k => !waitB (kindAt ns k) := by
  have h1 : firstAuto ns fs ms = (readyK ns fs ms ns.length).find? (fun k => autoB (kindAt ns k)) := find_filter (List.range ns.length)
  rw [h1]
  refine find_same fun k hk => ?_
  unfold readyK at hk
  rw [List.mem_filter, List.mem_range] at hk
  exact kind_wait hV hk.1 hk.2
theorem find_first {p : Nat → Bool} {l : List Nat} {j k : Nat} (h : l[j]? = some k) (hb : (l.take j).all (fun x => !p x) = true) (hp : p k = true) : l.find? p = some k := by
  obtain ⟨hj, hk⟩ := List.getElem?_eq_some_iff.1 h
  have : l = l.take j ++ k :: l.drop (j + 1) := by rw [← hk]; simp
  rw [this, List.find?_append, List.find?_cons, hp]
  rw [show (l.take j).find? p = none from List.find?_eq_none.2 fun x hx => by simpa using (List.all_eq_true.1 hb) x hx]
  rfl
theorem find_never {p : Nat → Bool} {l : List Nat} (hb : l.all (fun x => !p x) = true) : l.find? p = none :=
  List.find?_eq_none.2 fun x hx => by simpa using (List.all_eq_true.1 hb) x hx
set_option maxRecDepth 100000 in
set_option maxHeartbeats 3200000 in
theorem moving_any (An : Option Addr) (nn cn : Nat) (ns : List (Int × Int)) (Af : Option Addr) (lf cf : Nat) (fs : List Flw) (bo bi mb m : Nat) (ms : List Int) (Av : Option Addr) (nv cv : Nat) (cl : Int) (At : Option Addr) (nt ct : Nat) (w : World) (hN : NetM w ns fs ms An nn Af lf bo bi mb m) (hnn : nn ≤ 1048576) :
    Calls Tryz.prog 123 #[.agg #[.slice An nn cn, .slice Af lf cf, .map (some bo), .map (some bi), .map (some mb), .slice Av nv cv, .int .i64 cl, .slice At nt ct]] w fun e w' => e = .returned (.tuple #[.int .i64 (((firstAuto ns fs ms).getD 0 : Nat) : Int), .bool (firstAuto ns fs ms).isSome]) ∧ Below w.heap.size w w' := by
  have hb1 := up_alloc (Below.refl _ w) (.cells #[.slice An nn cn, .slice Af lf cf, .map (some bo), .map (some bi), .map (some mb), .slice Av nv cv, .int .i64 cl, .slice At nt ct] 114)
  have HK := Lib.hid (Blk.new w 114 #[.slice An nn cn, .slice Af lf cf, .map (some bo), .map (some bi), .map (some mb), .slice Av nv cv, .int .i64 cl, .slice At nt ct])
  have HN1 := Lib.hid (hN.keep hb1)
  have HB := Lib.hid hb1
  have hz : (w.alloc (.cells #[.slice An nn cn, .slice Af lf cf, .map (some bo), .map (some bi), .map (some mb), .slice Av nv cv, .int .i64 cl, .slice At nt ct] 114)).heap.size = w.heap.size + 1 := by simp
  have HFA := Lib.hid (firstAuto_eq hN.vp ms)
  have HNL := Lib.hid hN.nl
  clear hb1 hN
  have HC := Lib.hid (readyI_any An nn cn 0 _ ns Af lf cf bo bi fs 0 _ mb m ms (w.alloc (.cells #[.slice An nn cn, .slice Af lf cf, .map (some bo), .map (some bi), .map (some mb), .slice Av nv cv, .int .i64 cl, .slice At nt ct] 114)) HN1.out.nodes (Nat.le_refl _) HN1.out.im (Nat.le_refl _) HN1.out.cm (vMarks_lenR HN1.out.vm) (vProc_len HN1.out.vp).2.2 hnn)
  have c0 : (w.alloc (.cells #[.slice An nn cn, .slice Af lf cf, .map (some bo), .map (some bi), .map (some mb), .slice Av nv cv, .int .i64 cl, .slice At nt ct] 114)).cell? ⟨w.heap.size, 0, none⟩ = some (.slice An nn cn) := HK.out.cell 0
  have c1 : (w.alloc (.cells #[.slice An nn cn, .slice Af lf cf, .map (some bo), .map (some bi), .map (some mb), .slice Av nv cv, .int .i64 cl, .slice At nt ct] 114)).cell? ⟨w.heap.size, 1, none⟩ = some (.slice Af lf cf) := HK.out.cell 1
  have c2 : (w.alloc (.cells #[.slice An nn cn, .slice Af lf cf, .map (some bo), .map (some bi), .map (some mb), .slice Av nv cv, .int .i64 cl, .slice At nt ct] 114)).cell? ⟨w.heap.size, 2, none⟩ = some (.map (some bo)) := HK.out.cell 2
  have c3 : (w.alloc (.cells #[.slice An nn cn, .slice Af lf cf, .map (some bo), .map (some bi), .map (some mb), .slice Av nv cv, .int .i64 cl, .slice At nt ct] 114)).cell? ⟨w.heap.size, 3, none⟩ = some (.map (some bi)) := HK.out.cell 3
  have c4 : (w.alloc (.cells #[.slice An nn cn, .slice Af lf cf, .map (some bo), .map (some bi), .map (some mb), .slice Av nv cv, .int .i64 cl, .slice At nt ct] 114)).cell? ⟨w.heap.size, 4, none⟩ = some (.map (some mb)) := HK.out.cell 4
  rw [readyUp_eq] at HC
  go_enter Tryz.func123, Tryz.ntmps123
  go_wp2_with (fail)
  (with_reducible refine HC.out.mono ?_)
  rintro e w1 ⟨A1, k1, rfl, _, hr1, _, hb1⟩
  clear c0 c1 c2 c3 c4 HC
  have HB1 := Lib.hid (up HB.out hb1)
  have HK1 := Lib.hid (HK.out.below hb1 (by omega))
  have HD1 := Lib.hid (HN1.out.nodes.keep hb1 (Nat.le_refl _))
  have hLn : ∀ k ∈ readyK ns fs ms nn, k < nn := fun k hk => by
    unfold readyK at hk
    rw [List.mem_filter, List.mem_range] at hk
    exact hk.1
  have HLN := Lib.hid hLn
  have HF2 := Lib.hid (show firstAuto ns fs ms = (readyK ns fs ms nn).find? fun k => !waitB (kindAt ns k) by rw [HFA.out, HNL.out])
  have hll : (readyK ns fs ms nn).length ≤ nn := by
    unfold readyK
    exact Nat.le_trans (List.length_filter_le _ _) (by simp)
  rw [List.length_map] at hr1
  try rw [List.length_map]
  have c0 : w1.cell? ⟨w.heap.size, 0, none⟩ = some (.slice An nn cn) := HK1.out.cell 0
  have HR1 := Lib.hid hr1
  clear hb1 hr1 HN1 HK HB HFA HNL hLn HK1
  generalize readyK ns fs ms nn = L at *
  generalize hll2 : L.length = nl at *
  have HLL := Lib.hid hll2
  clear hll2
  go_wp2
  go_loop [12] (fun iv => ∃ (j : Nat), j ≤ nl ∧ iv = .int .i64 j ∧ Hid ((L.take j).all (fun k => !(!waitB (kindAt ns k))) = true))
     (fun iv => nl - (intOf iv).toNat)
  case atStart => exact ⟨0, by omega, rfl, rfl⟩
  case round =>
    obtain ⟨j, hj, rfl, HS⟩ := hrel
    by_cases hlt : j < nl
    · obtain ⟨b, off, z, hA, _, _, hg, hc0⟩ := HR1.out.one hlt
      rw [List.getElem?_map] at hg
      obtain ⟨k, hk, hkz⟩ := Option.map_eq_some_iff.1 hg
      subst hkz
      subst hA
      have hkn := HLN.out k (List.mem_of_getElem? hk)
      obtain ⟨b2, off2, x, y, hA2, _, _, hkx, hd0, _⟩ := HD1.out.pair hkn
      subst hA2
      have HX := Lib.hid (kindAt_is hkx)
      have HG := Lib.hid hk
      have hj1 : (j : Int) < (nl : Int) := by omega
      have hj0 : (0 : Int) ≤ (j : Int) := by omega
      have hk1 : (k : Int) < (nn : Int) := by omega
      have hk0 : (0 : Int) ≤ (k : Int) := by omega
      clear hg hk hkx
      by_cases hw : x = 2 ∨ x = 3 ∨ x = 4
      · have HS2 := Lib.hid (show (L.take (j + 1)).all (fun k => !(!waitB (kindAt ns k))) = true by
          rw [take_snoc HG.out, List.all_append, HS.out]
          simp only [List.all_cons, List.all_nil, HX.out, waitB]
          rcases hw with rfl | rfl | rfl <;> rfl)
        rcases hw with rfl | rfl | rfl
        all_goals
          go_wp2
          go_round
          case rel => exact ⟨j + 1, by omega, by go_num, HS2⟩
          case measure => simp [intOf]; omega
      · have HF3 := Lib.hid (HF2.out.trans (find_first HG.out HS.out (by rw [HX.out]; simp [waitB]; omega)))
        have x2 : (x == 2) = false := by rw [beq_eq_false_iff_ne]; omega
        have x3 : (x == 3) = false := by rw [beq_eq_false_iff_ne]; omega
        have x4 : (x == 4) = false := by rw [beq_eq_false_iff_ne]; omega
        clear hw
        go_wp2
        exact bodyPost_ret (v := .tuple #[.int .i64 (k : Int), .bool true]) (by simp [results, Tryz.results123, go_sem]) rfl ⟨by rw [HF3.out]; rfl, HB1.out⟩
    · obtain rfl : j = nl := by omega
      have HF3 := Lib.hid (HF2.out.trans (find_never (by have := HS.out; rwa [List.take_of_length_le (by rw [HLL.out]; exact Nat.le_refl _)] at this)))
      go_wp2
      exact bodyPost_ret (v := .tuple #[.int .i64 0, .bool false]) (by simp [results, Tryz.results123, go_sem]) rfl ⟨by rw [HF3.out]; rfl, HB1.out⟩
/-- From k on no timer comes before the one ahead of it. -/
def sortFrom (ts : List Tm) (k : Nat) : Prop := ∀ i, k < i → i < ts.length → tlt (ts.getD i (0, 0)) (ts.getD (i - 1) (0, 0)) = false
theorem sort_all {ts : List Tm} (h : sortFrom ts 0) : tSortB ts = true := by
  unfold tSortB
  rw [List.all_eq_true]
  intro i hi
  rw [List.mem_range] at hi
  rcases Nat.eq_zero_or_pos i with rfl | h0
  · rfl
  · rw [h i h0 hi]; simp
theorem sort_not {ts : List Tm} {i : Nat} (h0 : 0 < i) (hi : i < ts.length) (h : tlt (ts.getD i (0, 0)) (ts.getD (i - 1) (0, 0)) = true) : tSortB ts = false := by
  unfold tSortB
  rw [List.all_eq_false]
  refine ⟨i, List.mem_range.2 hi, ?_⟩
  rw [h]
  simp
  omega
theorem tgdR {ts : List Tm} {i : Nat} {t : Tm} (h : ts[i]? = some t) : ts.getD i (0, 0) = t := by rw [List.getD_eq_getElem?_getD, h]; rfl
set_option maxRecDepth 100000 in
set_option maxHeartbeats 3200000 in
theorem isSortedT_any (lo hi n c : Nat) (A : Option Addr) (ts : List (Int × Int)) (w : World) (hr : Rd w lo hi 2 A n (pvs ts)) (hB : hi ≤ w.heap.size) (hn : n ≤ 1048576) :
    Calls Tryz.prog 165 #[.slice A n c, .func (.func 135) #[] #[]] w fun e w' => e = .returned (.bool (tSortB ts)) ∧ Below w.heap.size w w' := by
  have HL := Lib.hid hr.len2
  have HR := Lib.hid hr
  clear hr
  have hcall : ∀ (args : Array Value) (w : World), (callFunc 135 args).run Tryz.prog w = .ok (.enter 135 args) w := enters_of Tryz.func135 (by kernel_rfl) rfl
  by_cases hn0 : n = 0
  · subst hn0
    have HX := Lib.hid (show tSortB ts = true from sort_all (fun i h0 hi => by rw [HL.out] at hi; omega))
    go_enter Tryz.func165, Tryz.ntmps165
    go_wp2
    go_loop [5] (fun iv => iv = .int .i64 (-1)) (fun _ => 0)
    case atStart => rfl
    case round =>
      subst hrel
      go_wp2
      go_ret
      exact ⟨by rw [HX.out]; rfl, Below.refl _ _⟩
  obtain ⟨n1, hn1⟩ : ∃ n1, n = n1 + 1 := ⟨n - 1, by omega⟩
  have HN1 := Lib.hid hn1
  have hw1 : IntKind.i64.wrap ((n : Int) - 1) = (n1 : Int) := by rw [IntWalk.i64_in _ (by omega)]; omega
  clear hn1 hn0
  go_enter Tryz.func165, Tryz.ntmps165
  go_wp2
  go_loopw [5] (fun iv wr => ∃ (k : Nat), k < n ∧ iv = .int .i64 k ∧ Hid (sortFrom ts k) ∧ Hid (Below w.heap.size w wr))
     (fun iv _ => (intOf iv).toNat)
  case atStart => exact ⟨n1, by have := HN1.out; omega, rfl, fun i h0 hi => by have h1 := HN1.out; have h2 := HL.out; omega, Below.refl _ _⟩
  case round =>
    clear hw1
    obtain ⟨k, hk, rfl, HS, HB⟩ := hrel
    by_cases hk0 : 0 < k
    · obtain ⟨j, hj⟩ : ∃ j, k = j + 1 := ⟨k - 1, by omega⟩
      obtain ⟨b, off, x, y, hA, _, _, hg, hc0, hc1⟩ := (HR.out.keep HB.out hB).pair hk
      obtain ⟨b', off', x', y', hA', _, _, hg', hd0, hd1⟩ := (HR.out.keep HB.out hB).pair (k := j) (by omega)
      have hAA : b' = b ∧ off' = off := by rw [hA] at hA'; injection hA' with h; injection h with h1 h2; exact ⟨h1.symm, h2.symm⟩
      obtain ⟨rfl, rfl⟩ := hAA
      clear hA'
      have HG := Lib.hid hg
      have HG' := Lib.hid hg'
      have HJ := Lib.hid hj
      have hwj : IntKind.i64.wrap ((k : Int) - 1) = (j : Int) := by rw [IntWalk.i64_in _ (by omega)]; omega
      have hk1 : (k : Int) < (n : Int) := by omega
      have hkz : (0 : Int) ≤ (k : Int) := by omega
      have hj1 : (j : Int) < (n : Int) := by omega
      have hjz : (0 : Int) ≤ (j : Int) := by omega
      have d0 : decide ((0 : Int) < (k : Int)) = true := decide_eq_true (by omega)
      have d00 : decide (0 < k) = true := decide_eq_true hk0
      have HSW := Lib.hid (show ∀ wx, Below wr.heap.size wr wx → wx.cell? ⟨b', off' + k * 2, none⟩ = some (.int .i64 x) ∧ wx.cell? ⟨b', off' + k * 2 + 1, none⟩ = some (.int .i64 y) ∧ wx.cell? ⟨b', off' + j * 2, none⟩ = some (.int .i64 x') ∧ wx.cell? ⟨b', off' + j * 2 + 1, none⟩ = some (.int .i64 y') from by
        intro wx hb
        have hlt : b' < wr.heap.size := World.block_lt_of_cell? wr _ hc0
        exact ⟨(hb.cell (by exact hlt)).trans hc0, (hb.cell (by exact hlt)).trans hc1, (hb.cell (by exact hlt)).trans hd0, (hb.cell (by exact hlt)).trans hd1⟩)
      have HCT := Lib.hid (show ∀ wx, Below wr.heap.size wr wx → Calls Tryz.prog 135 #[.agg #[.int .i64 x, .int .i64 y], .agg #[.int .i64 x', .int .i64 y']] wx fun e w' => e = .returned (.int .i64 (cmpT (x, y) (x', y'))) ∧ Below wr.heap.size wr w' from fun wx hb => (compareTimers_any x y x' y' wx).mono fun e w' h => ⟨h.1, up hb h.2⟩)
      have hlt := cmpT_lt (x, y) (x', y')
      generalize cmpT (x, y) (x', y') = z at *
      subst hA
      clear hc0 hc1 hd0 hd1 hg hg' hj
      cases hb : tlt (x, y) (x', y') with
      | true =>
        rw [hb] at hlt
        have HX := Lib.hid (sort_not (ts := ts) (i := k) hk0 (by rw [HL.out]; exact hk) (by rw [tgdR HG.out, show k - 1 = j by have := HJ.out; omega, tgdR HG'.out]; exact hb))
        clear hb
        go_wp2_with (fail)
        go_region_held3 (fun wx => wx.cell? ⟨b', off' + k * 2, none⟩ = some (.int .i64 x) ∧ wx.cell? ⟨b', off' + k * 2 + 1, none⟩ = some (.int .i64 y) ∧ wx.cell? ⟨b', off' + j * 2, none⟩ = some (.int .i64 x') ∧ wx.cell? ⟨b', off' + j * 2 + 1, none⟩ = some (.int .i64 y'))
          (first | with_reducible exact HSW.out _ (Below.refl _ _) | with_reducible exact HSW.out _ (up_drew (Below.refl _ _)) | with_reducible exact HSW.out _ HX1.out)
          ((first
            | (go_at_call 135; (with_reducible refine (HCT.out _ (up_drew (Below.refl _ _))).mono ?_); rintro e w1 ⟨rfl, hb1⟩; have HX1 := Lib.hid hb1; clear hb1)
            | fail "no arm"))
        all_goals
          have HB1 := Lib.hid (up HB.out HX1.out)
          go_wp2
          go_ret
          exact ⟨by rw [HX.out]; rfl, HB1.out⟩
      | false =>
        rw [hb] at hlt
        have HS2 := Lib.hid (show sortFrom ts j from fun i h0 hi => by
          by_cases e : i = k
          · subst e
            rw [tgdR HG.out, show i - 1 = j by have := HJ.out; omega, tgdR HG'.out]
            exact hb
          · exact HS.out i (by have := HJ.out; omega) hi)
        clear hb
        go_wp2_with (fail)
        go_region_held3 (fun wx => wx.cell? ⟨b', off' + k * 2, none⟩ = some (.int .i64 x) ∧ wx.cell? ⟨b', off' + k * 2 + 1, none⟩ = some (.int .i64 y) ∧ wx.cell? ⟨b', off' + j * 2, none⟩ = some (.int .i64 x') ∧ wx.cell? ⟨b', off' + j * 2 + 1, none⟩ = some (.int .i64 y'))
          (first | with_reducible exact HSW.out _ (Below.refl _ _) | with_reducible exact HSW.out _ (up_drew (Below.refl _ _)) | with_reducible exact HSW.out _ HX1.out)
          ((first
            | (go_at_call 135; (with_reducible refine (HCT.out _ (up_drew (Below.refl _ _))).mono ?_); rintro e w1 ⟨rfl, hb1⟩; have HX1 := Lib.hid hb1; clear hb1)
            | fail "no arm"))
        all_goals
          have HB1 := Lib.hid (up HB.out HX1.out)
          clear HSW HCT
          go_wp2
          go_roundw
          case rel => exact ⟨j, by omega, by first | rfl | go_num, HS2, HB1⟩
          case measure => have := HJ.out; simp [intOf]; omega
    · obtain rfl : k = 0 := by omega
      have HX := Lib.hid (sort_all HS.out)
      go_wp2
      go_ret
      exact ⟨by rw [HX.out]; rfl, HB.out⟩
end Go.Proofs.YtknphikoikdcjaaGreat


/- The program: does an instance have its timers? (Written by gen/rund.py.) -/
namespace Go.Proofs.YtknphikoikdcjaaGreat
open Go.RowKit

theorem has_no1 {ns : List (Int × Int)} {fs : List Flw} {ms : List Int} {cl : Int} {ts : List Tm} {k : Nat} {t : Tm} (hg : ts[k]? = some t) (h : tmI ns fs ms cl t = false) : hasT ns fs ms cl ts = false := by
  have : ts.all (tmI ns fs ms cl) = false := List.all_eq_false.2 ⟨t, List.mem_of_getElem? hg, by simp [h]⟩
  unfold hasT
  rw [this]; rfl
theorem has_no2 {ns : List (Int × Int)} {fs : List Flw} {ms : List Int} {cl : Int} {ts : List Tm} {k : Nat} (hk : k < ns.length) (h : lackAt ns fs ms ts k = true) : hasT ns fs ms cl ts = false := by
  have : (List.range ns.length).all (fun k => !lackAt ns fs ms ts k) = false := List.all_eq_false.2 ⟨k, List.mem_range.2 hk, by simp [h]⟩
  unfold hasT
  rw [this, Bool.and_false]; rfl
theorem has_yes {ns : List (Int × Int)} {fs : List Flw} {ms : List Int} {cl : Int} {ts : List Tm} (h1 : ts.all (tmI ns fs ms cl) = true) (h2 : (List.range ns.length).all (fun k => !lackAt ns fs ms ts k) = true) : hasT ns fs ms cl ts = tSortB ts := by
  unfold hasT
  rw [h1, h2]; rfl
theorem tmI_in {ns : List (Int × Int)} {fs : List Flw} {ms : List Int} {cl : Int} {t : Tm} (h : tmI ns fs ms cl t = true) : 0 ≤ t.1 ∧ t.1 < (ns.length : Int) := by
  unfold tmI at h
  simp only [Bool.and_eq_true] at h
  have := inR_iff.1 h.1.1.1.1
  omega
set_option maxRecDepth 100000 in
set_option maxHeartbeats 6400000 in
theorem hasItsTimers_any (An : Option Addr) (nn cn : Nat) (ns : List (Int × Int)) (Af : Option Addr) (lf cf : Nat) (fs : List Flw) (bo bi mb m : Nat) (ms : List Int) (Av : Option Addr) (nv cv : Nat) (cl : Int) (At : Option Addr) (nt ct : Nat) (ts : List (Int × Int)) (w : World) (hN : NetM w ns fs ms An nn Af lf bo bi mb m) (hnn : nn ≤ 1048576) (ht : Rd w 0 w.heap.size 2 At nt (pvs ts)) (hnt : nt ≤ 1048576) :
    Calls Tryz.prog 124 #[.agg #[.slice An nn cn, .slice Af lf cf, .map (some bo), .map (some bi), .map (some mb), .slice Av nv cv, .int .i64 cl, .slice At nt ct]] w fun e w' => e = .returned (.bool (hasT ns fs ms cl ts)) ∧ Below w.heap.size w w' := by
  have HL := Lib.hid ht.len2
  have HNL := Lib.hid hN.nl
  have hb1 := up_alloc (Below.refl _ w) (.cells #[.slice An nn cn, .slice Af lf cf, .map (some bo), .map (some bi), .map (some mb), .slice Av nv cv, .int .i64 cl, .slice At nt ct] 114)
  have HK := Lib.hid (Blk.new w 114 #[.slice An nn cn, .slice Af lf cf, .map (some bo), .map (some bi), .map (some mb), .slice Av nv cv, .int .i64 cl, .slice At nt ct])
  have HN := Lib.hid (hN.keep hb1)
  have HT := Lib.hid (rd_up ht hb1)
  have HB := Lib.hid hb1
  have hz : (w.alloc (.cells #[.slice An nn cn, .slice Af lf cf, .map (some bo), .map (some bi), .map (some mb), .slice Av nv cv, .int .i64 cl, .slice At nt ct] 114)).heap.size = w.heap.size + 1 := by simp
  clear hb1 hN ht
  have c0 : (w.alloc (.cells #[.slice An nn cn, .slice Af lf cf, .map (some bo), .map (some bi), .map (some mb), .slice Av nv cv, .int .i64 cl, .slice At nt ct] 114)).cell? ⟨w.heap.size, 0, none⟩ = some (.slice An nn cn) := HK.out.cell 0
  have c1 : (w.alloc (.cells #[.slice An nn cn, .slice Af lf cf, .map (some bo), .map (some bi), .map (some mb), .slice Av nv cv, .int .i64 cl, .slice At nt ct] 114)).cell? ⟨w.heap.size, 1, none⟩ = some (.slice Af lf cf) := HK.out.cell 1
  have c2 : (w.alloc (.cells #[.slice An nn cn, .slice Af lf cf, .map (some bo), .map (some bi), .map (some mb), .slice Av nv cv, .int .i64 cl, .slice At nt ct] 114)).cell? ⟨w.heap.size, 2, none⟩ = some (.map (some bo)) := HK.out.cell 2
  have c3 : (w.alloc (.cells #[.slice An nn cn, .slice Af lf cf, .map (some bo), .map (some bi), .map (some mb), .slice Av nv cv, .int .i64 cl, .slice At nt ct] 114)).cell? ⟨w.heap.size, 3, none⟩ = some (.map (some bi)) := HK.out.cell 3
  have c4 : (w.alloc (.cells #[.slice An nn cn, .slice Af lf cf, .map (some bo), .map (some bi), .map (some mb), .slice Av nv cv, .int .i64 cl, .slice At nt ct] 114)).cell? ⟨w.heap.size, 4, none⟩ = some (.map (some mb)) := HK.out.cell 4
  have c5 : (w.alloc (.cells #[.slice An nn cn, .slice Af lf cf, .map (some bo), .map (some bi), .map (some mb), .slice Av nv cv, .int .i64 cl, .slice At nt ct] 114)).cell? ⟨w.heap.size, 5, none⟩ = some (.slice Av nv cv) := HK.out.cell 5
  have c6 : (w.alloc (.cells #[.slice An nn cn, .slice Af lf cf, .map (some bo), .map (some bi), .map (some mb), .slice Av nv cv, .int .i64 cl, .slice At nt ct] 114)).cell? ⟨w.heap.size, 6, none⟩ = some (.int .i64 cl) := HK.out.cell 6
  have c7 : (w.alloc (.cells #[.slice An nn cn, .slice Af lf cf, .map (some bo), .map (some bi), .map (some mb), .slice Av nv cv, .int .i64 cl, .slice At nt ct] 114)).cell? ⟨w.heap.size, 7, none⟩ = some (.slice At nt ct) := HK.out.cell 7
  go_enter Tryz.func124, Tryz.ntmps124
  go_wp2
  clear c0 c1 c2 c3 c4 c5 c6 c7
  generalize w.alloc (.cells #[.slice An nn cn, .slice Af lf cf, .map (some bo), .map (some bi), .map (some mb), .slice Av nv cv, .int .i64 cl, .slice At nt ct] 114) = w1 at *
  go_loopw [11] (fun iv wr => ∃ (k : Nat), k ≤ nt ∧ iv = .int .i64 k ∧ Hid ((ts.take k).all (tmI ns fs ms cl) = true) ∧ Hid (Below w1.heap.size w1 wr))
     (fun iv _ => nt - (intOf iv).toNat)
  case atStart => exact ⟨0, by omega, rfl, rfl, Below.refl _ _⟩
  case round =>
    obtain ⟨k, hk, rfl, HS, HBR⟩ := hrel
    have hsr := HBR.out.size
    by_cases hlt : k < nt
    · obtain ⟨b, off, x, y, hA, _, _, hg, hc0, hc1⟩ := (rd_up HT.out HBR.out).pair hlt
      subst hA
      have HG := Lib.hid hg
      have hb2 := up_alloc (Below.refl _ wr) (.cells #[.int .i64 x, .int .i64 y] 96)
      have HB2 := Lib.hid (up HBR.out hb2)
      have HK2 := Lib.hid (HK.out.below HB2.out (by omega))
      have HV2 := Lib.hid (Blk.new wr 96 #[.int .i64 x, .int .i64 y])
      have HW := Lib.hid (waitsAt_any An nn cn ns Af lf cf fs bo bi mb m ms Av nv cv cl (some ⟨b, off, none⟩) nt ct x 3 _ (HN.out.keep HB2.out) hnn)
      have htm : tmI ns fs ms cl (x, y) = ((inR x 0 ((nn : Int) - 1) && readyB (kindAt ns x.toNat) ms (flOf fs false x) && (kindAt ns x.toNat == 3)) && decide (cl < y) && decide (y ≤ 10099)) := by
        unfold tmI
        rw [HNL.out]
      generalize (inR x 0 ((nn : Int) - 1) && readyB (kindAt ns x.toNat) ms (flOf fs false x) && (kindAt ns x.toNat == 3)) = bw at *
      have hk1 : (k : Int) < (nt : Int) := by omega
      have hk0 : (0 : Int) ≤ (k : Int) := by omega
      have c0 : (wr.alloc (.cells #[.int .i64 x, .int .i64 y] 96)).cell? ⟨w.heap.size, 0, none⟩ = some (.slice An nn cn) := HK2.out.cell 0
      have c1 : (wr.alloc (.cells #[.int .i64 x, .int .i64 y] 96)).cell? ⟨w.heap.size, 1, none⟩ = some (.slice Af lf cf) := HK2.out.cell 1
      have c2 : (wr.alloc (.cells #[.int .i64 x, .int .i64 y] 96)).cell? ⟨w.heap.size, 2, none⟩ = some (.map (some bo)) := HK2.out.cell 2
      have c3 : (wr.alloc (.cells #[.int .i64 x, .int .i64 y] 96)).cell? ⟨w.heap.size, 3, none⟩ = some (.map (some bi)) := HK2.out.cell 3
      have c4 : (wr.alloc (.cells #[.int .i64 x, .int .i64 y] 96)).cell? ⟨w.heap.size, 4, none⟩ = some (.map (some mb)) := HK2.out.cell 4
      have c5 : (wr.alloc (.cells #[.int .i64 x, .int .i64 y] 96)).cell? ⟨w.heap.size, 5, none⟩ = some (.slice Av nv cv) := HK2.out.cell 5
      have c6 : (wr.alloc (.cells #[.int .i64 x, .int .i64 y] 96)).cell? ⟨w.heap.size, 6, none⟩ = some (.int .i64 cl) := HK2.out.cell 6
      have c7 : (wr.alloc (.cells #[.int .i64 x, .int .i64 y] 96)).cell? ⟨w.heap.size, 7, none⟩ = some (.slice (some ⟨b, off, none⟩) nt ct) := HK2.out.cell 7
      clear hg hb2
      go_wp2_with (fail)
      (with_reducible refine HW.out.mono ?_)
      rintro e w3 ⟨rfl, hb3⟩
      have HB3 := Lib.hid (up HB2.out hb3)
      have HB1 := Lib.hid (up HB.out HB3.out)
      have v0 : w3.cell? ⟨wr.heap.size, 0, none⟩ = some (.int .i64 x) := (HV2.out.below hb3 HV2.out.lt).cell 0
      have v1 : w3.cell? ⟨wr.heap.size, 1, none⟩ = some (.int .i64 y) := (HV2.out.below hb3 HV2.out.lt).cell 1
      have k6 : w3.cell? ⟨w.heap.size, 6, none⟩ = some (.int .i64 cl) := (HK2.out.below hb3 HK2.out.lt).cell 6
      clear hb3 HW c0 c1 c2 c3 c4 c5 c6 c7 hc0 hc1
      cases bw with
      | false =>
        have HX := Lib.hid (has_no1 HG.out (show tmI ns fs ms cl (x, y) = false by rw [htm]; rfl))
        clear htm
        go_wp2
        go_ret
        exact ⟨by rw [HX.out]; rfl, HB1.out⟩
      | true =>
        by_cases h1 : y ≤ cl
        · have HX := Lib.hid (has_no1 HG.out (show tmI ns fs ms cl (x, y) = false by rw [htm, decide_eq_false (show ¬ cl < y by omega)]; rfl))
          have d1 : decide (y ≤ cl) = true := decide_eq_true h1
          clear htm h1
          go_wp2
          go_ret
          exact ⟨by rw [HX.out]; rfl, HB1.out⟩
        · by_cases h2 : 10099 < y
          · have HX := Lib.hid (has_no1 HG.out (show tmI ns fs ms cl (x, y) = false by rw [htm, decide_eq_false (show ¬ y ≤ 10099 by omega), Bool.and_false]))
            have d1 : decide (y ≤ cl) = false := decide_eq_false h1
            have d2 : decide (10099 < y) = true := decide_eq_true h2
            clear htm h1 h2
            go_wp2
            go_ret
            exact ⟨by rw [HX.out]; rfl, HB1.out⟩
          · have HY := Lib.hid (show tmI ns fs ms cl (x, y) = true by rw [htm, decide_eq_true (show cl < y by omega), decide_eq_true (show y ≤ 10099 by omega)]; rfl)
            have HS2 := Lib.hid (show (ts.take (k + 1)).all (tmI ns fs ms cl) = true by rw [take_snoc HG.out, List.all_append, HS.out]; simp [HY.out])
            have d1 : decide (y ≤ cl) = false := decide_eq_false h1
            have d2 : decide (10099 < y) = false := decide_eq_false h2
            clear htm h1 h2
            go_wp2
            go_roundw
            case rel => exact ⟨k + 1, by omega, by go_num, HS2, HB3⟩
            case measure => simp [intOf]; omega
    · obtain rfl : k = nt := by omega
      have HA := Lib.hid (show ts.all (tmI ns fs ms cl) = true by have := HS.out; rwa [List.take_of_length_le (by rw [HL.out]; exact Nat.le_refl _)] at this)
      have HN2 := Lib.hid (HN.out.keep HBR.out)
      have HT2 := Lib.hid (rd_up HT.out HBR.out)
      have HK2 := Lib.hid (HK.out.below HBR.out (by omega))
      have HC := Lib.hid (timersByNode_any An nn cn ns Af lf cf fs bo bi mb m ms Av nv cv cl At k ct ts wr HT2.out hnt (fun t h => by have := tmI_in ((List.all_eq_true.1 HA.out) t h); have := HNL.out; unfold in64; omega))
      have c0 : wr.cell? ⟨w.heap.size, 0, none⟩ = some (.slice An nn cn) := HK2.out.cell 0
      have c1 : wr.cell? ⟨w.heap.size, 1, none⟩ = some (.slice Af lf cf) := HK2.out.cell 1
      have c2 : wr.cell? ⟨w.heap.size, 2, none⟩ = some (.map (some bo)) := HK2.out.cell 2
      have c3 : wr.cell? ⟨w.heap.size, 3, none⟩ = some (.map (some bi)) := HK2.out.cell 3
      have c4 : wr.cell? ⟨w.heap.size, 4, none⟩ = some (.map (some mb)) := HK2.out.cell 4
      have c5 : wr.cell? ⟨w.heap.size, 5, none⟩ = some (.slice Av nv cv) := HK2.out.cell 5
      have c6 : wr.cell? ⟨w.heap.size, 6, none⟩ = some (.int .i64 cl) := HK2.out.cell 6
      have c7 : wr.cell? ⟨w.heap.size, 7, none⟩ = some (.slice At k ct) := HK2.out.cell 7
      go_wp2_with (fail)
      (with_reducible refine HC.out.mono ?_)
      rintro e w3 ⟨hbk, rfl, him, hmb, hb3⟩
      clear c0 c1 c2 c3 c4 c5 c6 c7 HC
      have HN3 := Lib.hid (HN2.out.keep hb3)
      have HT3 := Lib.hid (rd_up HT2.out hb3)
      have HK3 := Lib.hid (HK2.out.below hb3 HK2.out.lt)
      have HB3 := Lib.hid (up HB.out (up HBR.out hb3))
      have HM3 := Lib.hid him
      have hkl := HK3.out.lt
      clear him hb3 HN HT HK HB HN2 HT2 HK2 HBR HS
      have c0 : w3.cell? ⟨w.heap.size, 0, none⟩ = some (.slice An nn cn) := HK3.out.cell 0
      have c1 : w3.cell? ⟨w.heap.size, 1, none⟩ = some (.slice Af lf cf) := HK3.out.cell 1
      have c2 : w3.cell? ⟨w.heap.size, 2, none⟩ = some (.map (some bo)) := HK3.out.cell 2
      have c3 : w3.cell? ⟨w.heap.size, 3, none⟩ = some (.map (some bi)) := HK3.out.cell 3
      have c4 : w3.cell? ⟨w.heap.size, 4, none⟩ = some (.map (some mb)) := HK3.out.cell 4
      have c5 : w3.cell? ⟨w.heap.size, 5, none⟩ = some (.slice Av nv cv) := HK3.out.cell 5
      have c6 : w3.cell? ⟨w.heap.size, 6, none⟩ = some (.int .i64 cl) := HK3.out.cell 6
      have c7 : w3.cell? ⟨w.heap.size, 7, none⟩ = some (.slice At k ct) := HK3.out.cell 7
      go_wp2
      clear c0 c1 c2 c3 c4 c5 c6 c7
      go_loopw [40] (fun iv wr => ∃ (j : Nat), j ≤ nn ∧ iv = .int .i64 j ∧ Hid ((List.range j).all (fun k => !lackAt ns fs ms ts k) = true) ∧ Hid (Below w3.heap.size w3 wr))
         (fun iv _ => nn - (intOf iv).toNat)
      case atStart => exact ⟨0, by omega, rfl, rfl, Below.refl _ _⟩
      case round =>
        obtain ⟨j, hj, rfl, HS, HBQ⟩ := hrel
        have hsq := HBQ.out.size
        by_cases hlt : j < nn
        · obtain ⟨b, off, x, y, hA, _, _, hg, hc0, hc1⟩ := (HN3.out.keep HBQ.out).nodes.pair hlt
          subst hA
          have HG := Lib.hid hg
          have HX0 := Lib.hid (kindAt_is hg)
          have hb2 := up_alloc (Below.refl _ wr) (.cells #[.int .i64 x, .int .i64 y] 137)
          have HB2 := Lib.hid (up HBQ.out hb2)
          have HK2 := Lib.hid (HK3.out.below HB2.out HK3.out.lt)
          have HV2 := Lib.hid (Blk.new wr 137 #[.int .i64 x, .int .i64 y])
          have HBW := Lib.hid (up HB3.out HB2.out)
          have hj1 : (j : Int) < (nn : Int) := by omega
          have hj0 : (0 : Int) ≤ (j : Int) := by omega
          have hk64 : in64 (j : Int) := by unfold in64; omega
          clear hg
          by_cases hx : x = 3
          · subst hx
            have HN4 := Lib.hid (HN3.out.keep HB2.out)
            have HM4 := Lib.hid (HM3.out.keep HB2.out HM3.out.lt)
            have hwl : (wr.alloc (.cells #[.int .i64 3, .int .i64 y] 137)).heap.size = wr.heap.size + 1 := by simp
            have HLA := Lib.hid (show lackAt ns fs ms ts j = !((tAt ts (j : Int) : Int) == waitAt fs ms (j : Int)) by unfold lackAt; rw [HX0.out]; rfl)
            go_wp2_with (fail)
            generalize wr.alloc (.cells #[.int .i64 3, .int .i64 y] 137) = w4 at *
            have HCW := Lib.hid (show ∀ wx, Below w4.heap.size w4 wx → Calls Tryz.prog 164 #[.agg #[.slice (some ⟨b, off, none⟩) nn cn, .slice Af lf cf, .map (some bo), .map (some bi), .map (some mb), .slice Av nv cv, .int .i64 cl, .slice At k ct], .int .i64 (j : Int)] wx fun e w' => e = .returned (.int .i64 (waitAt fs ms (j : Int))) ∧ Below w4.heap.size w4 w' from fun wx hb => (waiting_any (some ⟨b, off, none⟩) nn cn ns Af lf cf fs bo bi mb m ms Av nv cv cl At k ct j 3 y wx (HN4.out.keep hb) HG.out (.inr (.inl rfl)) (by omega)).mono fun e w' h => ⟨h.1, up hb h.2⟩)
            have HSW := Lib.hid (show ∀ wx, Below w4.heap.size w4 wx → ((wx.cell? ⟨w.heap.size, 0, none⟩ = some (.slice (some ⟨b, off, none⟩) nn cn) ∧ wx.cell? ⟨w.heap.size, 1, none⟩ = some (.slice Af lf cf) ∧ wx.cell? ⟨w.heap.size, 2, none⟩ = some (.map (some bo)) ∧ wx.cell? ⟨w.heap.size, 3, none⟩ = some (.map (some bi)) ∧ wx.cell? ⟨w.heap.size, 4, none⟩ = some (.map (some mb)) ∧ wx.cell? ⟨w.heap.size, 5, none⟩ = some (.slice Av nv cv) ∧ wx.cell? ⟨w.heap.size, 6, none⟩ = some (.int .i64 cl) ∧ wx.cell? ⟨w.heap.size, 7, none⟩ = some (.slice At k ct)) ∧ wx.cell? ⟨wr.heap.size, 0, none⟩ = some (.int .i64 3) ∧ (Instr.lookup 105 (.map (some hbk)) (.int .i64 (j : Int)) false).run Tryz.prog wx = .ok (.int .i64 (tAt ts (j : Int) : Nat)) wx) from fun wx hb => ⟨⟨(HK2.out.below hb HK2.out.lt).cell 0, (HK2.out.below hb HK2.out.lt).cell 1, (HK2.out.below hb HK2.out.lt).cell 2, (HK2.out.below hb HK2.out.lt).cell 3, (HK2.out.below hb HK2.out.lt).cell 4, (HK2.out.below hb HK2.out.lt).cell 5, (HK2.out.below hb HK2.out.lt).cell 6, (HK2.out.below hb HK2.out.lt).cell 7⟩, (HV2.out.below hb HV2.out.lt).cell 0, by
              have := (HM4.out.keep hb HM4.out.lt).look keyedInt Tryz.underlying3 Tryz.underlying105 (zeroIntR wx) hk64 rfl
              rwa [cntAt_get] at this⟩)
            generalize waitAt fs ms (j : Int) = wa at *
            generalize tAt ts (j : Int) = ta at *
            by_cases hne : (ta : Int) = wa
            · have HS2 := Lib.hid (all_snoc HS.out (show (!lackAt ns fs ms ts j) = true by rw [HLA.out]; simp [hne]))
              have dn : ((ta : Int) != wa) = false := by simp [hne]
              clear hne
              obtain ⟨⟨e0, e1, e2, e3, e4, e5, e6, e7⟩, n0, l0⟩ := HSW.out _ (Below.refl _ _)
              clear e0 e1 e2 e3 e4 e5 e6 e7 n0 l0
              go_region_held3 (fun wx => (wx.cell? ⟨w.heap.size, 0, none⟩ = some (.slice (some ⟨b, off, none⟩) nn cn) ∧ wx.cell? ⟨w.heap.size, 1, none⟩ = some (.slice Af lf cf) ∧ wx.cell? ⟨w.heap.size, 2, none⟩ = some (.map (some bo)) ∧ wx.cell? ⟨w.heap.size, 3, none⟩ = some (.map (some bi)) ∧ wx.cell? ⟨w.heap.size, 4, none⟩ = some (.map (some mb)) ∧ wx.cell? ⟨w.heap.size, 5, none⟩ = some (.slice Av nv cv) ∧ wx.cell? ⟨w.heap.size, 6, none⟩ = some (.int .i64 cl) ∧ wx.cell? ⟨w.heap.size, 7, none⟩ = some (.slice At k ct)) ∧ wx.cell? ⟨wr.heap.size, 0, none⟩ = some (.int .i64 3) ∧ (Instr.lookup 105 (.map (some hbk)) (.int .i64 (j : Int)) false).run Tryz.prog wx = .ok (.int .i64 (ta : Nat)) wx)
                (first | with_reducible exact HSW.out _ (Below.refl _ _) | with_reducible exact HSW.out _ (up_drew (Below.refl _ _)) | with_reducible exact HSW.out _ HX1.out)
                ((first
                  | (go_at_call 164; (with_reducible refine (HCW.out _ (up_drew (Below.refl _ _))).mono ?_); rintro e x1 ⟨rfl, hbx⟩; have HX1 := Lib.hid hbx; clear hbx)
                  | (go_at_call 164; (with_reducible refine (HCW.out _ (Below.refl _ _)).mono ?_); rintro e x1 ⟨rfl, hbx⟩; have HX1 := Lib.hid hbx; clear hbx)
                  | fail "no arm"))
              all_goals
                have HB5 := Lib.hid (up HB2.out HX1.out)
                clear HSW HCW
                go_wp2
                go_roundw
                case rel => exact ⟨j + 1, by omega, by go_num, HS2, HB5⟩
                case measure => simp [intOf]; omega
            · have HX := Lib.hid (has_no2 (cl := cl) (by rw [HNL.out]; exact hlt) (show lackAt ns fs ms ts j = true by rw [HLA.out]; simp [hne]))
              have dn : ((ta : Int) != wa) = true := by simpa using hne
              clear hne
              obtain ⟨⟨e0, e1, e2, e3, e4, e5, e6, e7⟩, n0, l0⟩ := HSW.out _ (Below.refl _ _)
              clear e0 e1 e2 e3 e4 e5 e6 e7 n0 l0
              go_region_held3 (fun wx => (wx.cell? ⟨w.heap.size, 0, none⟩ = some (.slice (some ⟨b, off, none⟩) nn cn) ∧ wx.cell? ⟨w.heap.size, 1, none⟩ = some (.slice Af lf cf) ∧ wx.cell? ⟨w.heap.size, 2, none⟩ = some (.map (some bo)) ∧ wx.cell? ⟨w.heap.size, 3, none⟩ = some (.map (some bi)) ∧ wx.cell? ⟨w.heap.size, 4, none⟩ = some (.map (some mb)) ∧ wx.cell? ⟨w.heap.size, 5, none⟩ = some (.slice Av nv cv) ∧ wx.cell? ⟨w.heap.size, 6, none⟩ = some (.int .i64 cl) ∧ wx.cell? ⟨w.heap.size, 7, none⟩ = some (.slice At k ct)) ∧ wx.cell? ⟨wr.heap.size, 0, none⟩ = some (.int .i64 3) ∧ (Instr.lookup 105 (.map (some hbk)) (.int .i64 (j : Int)) false).run Tryz.prog wx = .ok (.int .i64 (ta : Nat)) wx)
                (first | with_reducible exact HSW.out _ (Below.refl _ _) | with_reducible exact HSW.out _ (up_drew (Below.refl _ _)) | with_reducible exact HSW.out _ HX1.out)
                ((first
                  | (go_at_call 164; (with_reducible refine (HCW.out _ (up_drew (Below.refl _ _))).mono ?_); rintro e x1 ⟨rfl, hbx⟩; have HX1 := Lib.hid hbx; clear hbx)
                  | (go_at_call 164; (with_reducible refine (HCW.out _ (Below.refl _ _)).mono ?_); rintro e x1 ⟨rfl, hbx⟩; have HX1 := Lib.hid hbx; clear hbx)
                  | fail "no arm"))
              all_goals
                have HB5 := Lib.hid (up HBW.out HX1.out)
                clear HSW HCW
                go_wp2
                go_ret
                exact ⟨by rw [HX.out]; rfl, HB5.out⟩
          · have HS2 := Lib.hid (all_snoc HS.out (show (!lackAt ns fs ms ts j) = true by unfold lackAt; rw [HX0.out]; simp [hx]))
            have dx : (x == 3) = false := by simpa using hx
            clear hx
            go_wp2_with (fail)
            generalize wr.alloc (.cells #[.int .i64 x, .int .i64 y] 137) = w4 at *
            have n0 : w4.cell? ⟨wr.heap.size, 0, none⟩ = some (.int .i64 x) := HV2.out.cell 0
            go_quiet (fail)
            have HB5 := Lib.hid (up_drewN HB2.out)
            go_wp2
            go_roundw
            case rel => exact ⟨j + 1, by omega, by go_num, HS2, HB5.out _⟩
            case measure => simp [intOf]; omega
        · obtain rfl : j = nn := by omega
          have HX := Lib.hid (has_yes HA.out (show (List.range ns.length).all (fun k => !lackAt ns fs ms ts k) = true by rw [HNL.out]; exact HS.out))
          have HC := Lib.hid (isSortedT_any 0 _ k ct At ts wr (rd_up HT3.out HBQ.out) (Nat.le_refl _) hnt)
          have HK4 := Lib.hid (HK3.out.below HBQ.out hkl)
          have c7 : wr.cell? ⟨w.heap.size, 7, none⟩ = some (.slice At k ct) := HK4.out.cell 7
          go_wp2_with (fail)
          (with_reducible refine HC.out.mono ?_)
          rintro e w5 ⟨rfl, hb5⟩
          have HB5 := Lib.hid (up HB3.out (up HBQ.out hb5))
          clear hb5 HC c7
          go_wp2
          go_ret
          exact ⟨by rw [HX.out]; rfl, HB5.out⟩
end Go.Proofs.YtknphikoikdcjaaGreat


/- The program: a valid instance of a valid process, as it runs. (Written by gen/rune.py.) -/
namespace Go.Proofs.YtknphikoikdcjaaGreat
open Go.RowKit

theorem Blk.newAtR {w : World} {t : TypeId} {cs : Array Value} {g : Nat} (h : w.heap.size = g) : Blk (w.alloc (.cells cs t)) g t cs := h ▸ Blk.new w t cs
theorem imap_set {P : Program} {kt : TypeId} {w : World} {b n : Nat} {g : Int → Option Value} (h : IMap P kt w b n g) {p : Addr} (hp : b ≠ p.block) (u : Value) : IMap P kt (w.setCell p u) b n g := h.same (Below.heap_setCell w p u b hp)
/-- What runningOf answers. -/
def RunPost (ns : List (Int × Int)) (fs : List Flw) (ms vs : List Int) (cl : Int) (ts : List Tm) (An : Option Addr) (nn cn : Nat) (Af : Option Addr) (lf cf : Nat) (Av : Option Addr) (nv cv : Nat) (At : Option Addr) (nt ct : Nat) (w : World) (e : Ending) (w' : World) : Prop :=
  ((vProc ns fs && vInst ns fs ms vs cl ts) = false ∧ e = .returned (.tuple #[.agg #[.slice none 0 0, .slice none 0 0, .map none, .map none, .map none, .slice none 0 0, .int .i64 0, .slice none 0 0], .bool false]) ∧ Below w.heap.size w w') ∨
  (vProc ns fs = true ∧ vInst ns fs ms vs cl ts = true ∧ ∃ bo bi mb m, e = .returned (.tuple #[.agg #[.slice An nn cn, .slice Af lf cf, .map (some bo), .map (some bi), .map (some mb), .slice Av nv cv, .int .i64 cl, .slice At nt ct], .bool true]) ∧ NetM w' ns fs ms An nn Af lf bo bi mb m ∧ w.heap.size ≤ mb ∧ Below w.heap.size w w')
section
variable {ns : List (Int × Int)} {fs : List Flw} {ms vs : List Int} {cl : Int} {ts : List Tm} {An : Option Addr} {nn cn : Nat} {Af : Option Addr} {lf cf : Nat} {Av : Option Addr} {nv cv : Nat} {At : Option Addr} {nt ct : Nat} {w w' : World}
theorem RunPost.no (h : (vProc ns fs && vInst ns fs ms vs cl ts) = false) (hb : Below w.heap.size w w') : RunPost ns fs ms vs cl ts An nn cn Af lf cf Av nv cv At nt ct w (.returned (.tuple #[.agg #[.slice none 0 0, .slice none 0 0, .map none, .map none, .map none, .slice none 0 0, .int .i64 0, .slice none 0 0], .bool false])) w' := .inl ⟨h, rfl, hb⟩
theorem RunPost.yes {bo bi mb m : Nat} (h : vInst ns fs ms vs cl ts = true) (hN : NetM w' ns fs ms An nn Af lf bo bi mb m) (hmb : w.heap.size ≤ mb) (hb : Below w.heap.size w w') : RunPost ns fs ms vs cl ts An nn cn Af lf cf Av nv cv At nt ct w (.returned (.tuple #[.agg #[.slice An nn cn, .slice Af lf cf, .map (some bo), .map (some bi), .map (some mb), .slice Av nv cv, .int .i64 cl, .slice At nt ct], .bool true])) w' := .inr ⟨hN.vp, h, bo, bi, mb, m, rfl, hN, hmb, hb⟩
end
theorem run_no {ns : List (Int × Int)} {fs : List Flw} {ms vs : List Int} {cl : Int} {ts : List Tm} (h : (vProc ns fs && vMarks fs ms) = false ∨ vVals vs = false ∨ inR cl 0 9999 = false ∨ (firstAuto ns fs ms).isSome = true ∨ hasT ns fs ms cl ts = false) : (vProc ns fs && vInst ns fs ms vs cl ts) = false := by
  cases hV : vProc ns fs with
  | false => rfl
  | true =>
    rw [Bool.true_and, vInst_is hV]
    rcases h with h | h | h | h | h
    · rw [hV, Bool.true_and] at h; rw [h]; rfl
    · rw [h]; simp
    · rw [h]; simp
    · cases hf : firstAuto ns fs ms with
      | none => rw [hf] at h; cases h
      | some k => simp
    · rw [h]; simp
theorem run_yes {ns : List (Int × Int)} {fs : List Flw} {ms vs : List Int} {cl : Int} {ts : List Tm} (hV : vProc ns fs = true) (h1 : vMarks fs ms = true) (h2 : vVals vs = true) (h3 : inR cl 0 9999 = true) (h4 : (firstAuto ns fs ms).isSome = false) (h5 : hasT ns fs ms cl ts = true) : vInst ns fs ms vs cl ts = true := by
  rw [vInst_is hV, h1, h2, h3, h5]
  cases hf : firstAuto ns fs ms with
  | none => rfl
  | some k => rw [hf] at h4; cases h4
set_option maxRecDepth 100000 in
set_option maxHeartbeats 6400000 in
theorem runningOf_any (lo hi nn cn : Nat) (An : Option Addr) (ns : List (Int × Int)) (lo1 hi1 lf cf : Nat) (Af : Option Addr) (fs : List Flw) (lom him nm cm : Nat) (Am : Option Addr) (ms : List Int) (lov hiv nv cv : Nat) (Av : Option Addr) (vs : List Int) (cl : Int) (lot hit nt ct : Nat) (At : Option Addr) (ts : List Tm) (w : World)
    (hrn : Rd w lo hi 2 An nn (pvs ns)) (hB : hi ≤ w.heap.size) (hnn : nn ≤ 1048576) (hr : Fls w lo1 hi1 Af lf fs) (hB1 : hi1 ≤ w.heap.size) (hn : lf ≤ 1048576)
    (hm : Rd w lom him 1 Am nm (ivs ms)) (hBm : him ≤ w.heap.size) (hnm : nm ≤ 1048576) (hv : Rd w lov hiv 1 Av nv (ivs vs)) (hBv : hiv ≤ w.heap.size) (hnv : nv ≤ 1048576) (ht : Rd w lot hit 2 At nt (pvs ts)) (hBt : hit ≤ w.heap.size) (hnt : nt ≤ 1048576) :
    Calls Tryz.prog 69 #[.agg #[.slice An nn cn, .slice Af lf cf], .agg #[.slice Am nm cm, .slice Av nv cv, .int .i64 cl, .slice At nt ct]] w (RunPost ns fs ms vs cl ts An nn cn Af lf cf Av nv cv At nt ct w) := by
  have hb0 := up_alloc (up_alloc (up_alloc (Below.refl _ w) (.cells #[.slice An nn cn, .slice Af lf cf] 40)) (.cells #[.slice Am nm cm, .slice Av nv cv, .int .i64 cl, .slice At nt ct] 34)) (.cells #[.slice none 0 0, .slice none 0 0, .map none, .map none, .map none, .slice none 0 0, .int .i64 0, .slice none 0 0] 114)
  have HP := Lib.hid (((Blk.new w 40 #[.slice An nn cn, .slice Af lf cf]).alloc (.cells #[.slice Am nm cm, .slice Av nv cv, .int .i64 cl, .slice At nt ct] 34)).alloc (.cells #[.slice none 0 0, .slice none 0 0, .map none, .map none, .map none, .slice none 0 0, .int .i64 0, .slice none 0 0] 114))
  have HX := Lib.hid (show Blk (((w.alloc (.cells #[.slice An nn cn, .slice Af lf cf] 40)).alloc (.cells #[.slice Am nm cm, .slice Av nv cv, .int .i64 cl, .slice At nt ct] 34)).alloc (.cells #[.slice none 0 0, .slice none 0 0, .map none, .map none, .map none, .slice none 0 0, .int .i64 0, .slice none 0 0] 114)) (w.heap.size + 1) 34 #[.slice Am nm cm, .slice Av nv cv, .int .i64 cl, .slice At nt ct] from (Blk.newAtR (by simp)).alloc _)
  have HQ := Lib.hid (show Blk (((w.alloc (.cells #[.slice An nn cn, .slice Af lf cf] 40)).alloc (.cells #[.slice Am nm cm, .slice Av nv cv, .int .i64 cl, .slice At nt ct] 34)).alloc (.cells #[.slice none 0 0, .slice none 0 0, .map none, .map none, .map none, .slice none 0 0, .int .i64 0, .slice none 0 0] 114)) (w.heap.size + 1 + 1) 114 #[.slice none 0 0, .slice none 0 0, .map none, .map none, .map none, .slice none 0 0, .int .i64 0, .slice none 0 0] from Blk.newAtR (by simp))
  have hz : (((w.alloc (.cells #[.slice An nn cn, .slice Af lf cf] 40)).alloc (.cells #[.slice Am nm cm, .slice Av nv cv, .int .i64 cl, .slice At nt ct] 34)).alloc (.cells #[.slice none 0 0, .slice none 0 0, .map none, .map none, .map none, .slice none 0 0, .int .i64 0, .slice none 0 0] 114)).heap.size = w.heap.size + 1 + 1 + 1 := by simp
  have HB := Lib.hid hb0
  clear hb0
  go_enter Tryz.func69, Tryz.ntmps69
  go_wp2_with (fail)
  generalize (((w.alloc (.cells #[.slice An nn cn, .slice Af lf cf] 40)).alloc (.cells #[.slice Am nm cm, .slice Av nv cv, .int .i64 cl, .slice At nt ct] 34)).alloc (.cells #[.slice none 0 0, .slice none 0 0, .map none, .map none, .map none, .slice none 0 0, .int .i64 0, .slice none 0 0] 114)) = w0 at *
  have HRN := Lib.hid (hrn.keep HB.out hB)
  have HRF := Lib.hid (hr.keep HB.out hB1)
  (with_reducible refine (countersOf_any lo hi nn cn An ns lo1 hi1 lf cf Af fs lom him nm cm Am ms w0 HRN.out (by omega) hnn HRF.out (by omega) hn (hm.keep HB.out hBm) (by omega) hnm).mono ?_)
  rintro e w1 (⟨hno, rfl, hb1⟩ | ⟨hV, hM, bo, bi, mb, m, rfl, hmo, hmi, hc, hm14, hmb, hb1⟩)
  · have hs1 := hb1.size
    have HB1 := Lib.hid (up HB.out hb1)
    have HQ1 := Lib.hid ((HQ.out.below hb1 (by omega)).alloc (.cells #[.slice none 0 0, .slice none 0 0, .map none, .map none] 104))
    have HB2 := Lib.hid (up_alloc HB1.out (.cells #[.slice none 0 0, .slice none 0 0, .map none, .map none] 104))
    clear hb1 HB HP HX HQ HRN HRF
    have HNO := Lib.hid (run_no (vs := vs) (cl := cl) (ts := ts) (.inl hno))
    have q0 : (w1.alloc (.cells #[.slice none 0 0, .slice none 0 0, .map none, .map none] 104)).cell? ⟨w.heap.size + 1 + 1, 0, none⟩ = some (.slice none 0 0) := HQ1.out.cell 0
    have q1 : (w1.alloc (.cells #[.slice none 0 0, .slice none 0 0, .map none, .map none] 104)).cell? ⟨w.heap.size + 1 + 1, 1, none⟩ = some (.slice none 0 0) := HQ1.out.cell 1
    have q2 : (w1.alloc (.cells #[.slice none 0 0, .slice none 0 0, .map none, .map none] 104)).cell? ⟨w.heap.size + 1 + 1, 2, none⟩ = some (.map none) := HQ1.out.cell 2
    have q3 : (w1.alloc (.cells #[.slice none 0 0, .slice none 0 0, .map none, .map none] 104)).cell? ⟨w.heap.size + 1 + 1, 3, none⟩ = some (.map none) := HQ1.out.cell 3
    have q4 : (w1.alloc (.cells #[.slice none 0 0, .slice none 0 0, .map none, .map none] 104)).cell? ⟨w.heap.size + 1 + 1, 4, none⟩ = some (.map none) := HQ1.out.cell 4
    have q5 : (w1.alloc (.cells #[.slice none 0 0, .slice none 0 0, .map none, .map none] 104)).cell? ⟨w.heap.size + 1 + 1, 5, none⟩ = some (.slice none 0 0) := HQ1.out.cell 5
    have q6 : (w1.alloc (.cells #[.slice none 0 0, .slice none 0 0, .map none, .map none] 104)).cell? ⟨w.heap.size + 1 + 1, 6, none⟩ = some (.int .i64 0) := HQ1.out.cell 6
    have q7 : (w1.alloc (.cells #[.slice none 0 0, .slice none 0 0, .map none, .map none] 104)).cell? ⟨w.heap.size + 1 + 1, 7, none⟩ = some (.slice none 0 0) := HQ1.out.cell 7
    have fq0 := HQ1.out.soft 0
    have fq1 := HQ1.out.soft 1
    have fq2 := HQ1.out.soft 2
    have fq3 := HQ1.out.soft 3
    have fq4 := HQ1.out.soft 4
    have fq5 := HQ1.out.soft 5
    have fq6 := HQ1.out.soft 6
    have fq7 := HQ1.out.soft 7
    have hzz := ((((((((HQ1.out.put 0 (.slice none 0 0)).put 1 (.slice none 0 0)).put 2 (.map none)).put 3 (.map none)).put 4 (.map none)).put 5 (.slice none 0 0)).put 6 (.int .i64 0)).put 7 (.slice none 0 0))
    have z0 := hzz.cell 0
    have z1 := hzz.cell 1
    have z2 := hzz.cell 2
    have z3 := hzz.cell 3
    have z4 := hzz.cell 4
    have z5 := hzz.cell 5
    have z6 := hzz.cell 6
    have z7 := hzz.cell 7
    simp at z0 z1 z2 z3 z4 z5 z6 z7
    have HBZ := Lib.hid ((((((((HB2.out.setCell (p := ⟨w.heap.size + 1 + 1, 0, none⟩) (by show w.heap.size ≤ w.heap.size + 1 + 1; omega) (.slice none 0 0)).setCell (p := ⟨w.heap.size + 1 + 1, 1, none⟩) (by show w.heap.size ≤ w.heap.size + 1 + 1; omega) (.slice none 0 0)).setCell (p := ⟨w.heap.size + 1 + 1, 2, none⟩) (by show w.heap.size ≤ w.heap.size + 1 + 1; omega) (.map none)).setCell (p := ⟨w.heap.size + 1 + 1, 3, none⟩) (by show w.heap.size ≤ w.heap.size + 1 + 1; omega) (.map none)).setCell (p := ⟨w.heap.size + 1 + 1, 4, none⟩) (by show w.heap.size ≤ w.heap.size + 1 + 1; omega) (.map none)).setCell (p := ⟨w.heap.size + 1 + 1, 5, none⟩) (by show w.heap.size ≤ w.heap.size + 1 + 1; omega) (.slice none 0 0)).setCell (p := ⟨w.heap.size + 1 + 1, 6, none⟩) (by show w.heap.size ≤ w.heap.size + 1 + 1; omega) (.int .i64 0)).setCell (p := ⟨w.heap.size + 1 + 1, 7, none⟩) (by show w.heap.size ≤ w.heap.size + 1 + 1; omega) (.slice none 0 0))
    clear hzz
    go_wp2
    exact bodyPost_ret (v := .tuple #[.agg #[.slice none 0 0, .slice none 0 0, .map none, .map none, .map none, .slice none 0 0, .int .i64 0, .slice none 0 0], .bool false]) (by simp [results, Tryz.results69, go_sem, z0, z1, z2, z3, z4, z5, z6, z7]) rfl (RunPost.no HNO.out HBZ.out)
  have hs1 := hb1.size
  have HN1 := Lib.hid (show NetM w1 ns fs ms An nn Af lf bo bi mb m from ⟨(HRN.out.keep hb1 (by omega)).wide (Nat.zero_le _) (by omega), (HRF.out.keep hb1 (by omega)).wide (Nat.zero_le _) (by omega), hmo.wide (Nat.zero_le _) (Nat.le_refl _), hmi.wide (Nat.zero_le _) (Nat.le_refl _), hc.part, hm14, hV, hM⟩)
  have HB1 := Lib.hid (up HB.out hb1)
  have HX1 := Lib.hid (HX.out.below hb1 (by omega))
  have HQ1 := Lib.hid (HQ.out.below hb1 (by omega))
  have hb2 := up_alloc (Below.refl _ w1) (.cells #[.slice An nn cn, .slice Af lf cf, .map (some bo), .map (some bi)] 104)
  have HT2 := Lib.hid (Blk.new w1 104 #[.slice An nn cn, .slice Af lf cf, .map (some bo), .map (some bi)])
  have HN2 := Lib.hid (HN1.out.keep hb2)
  have HB2 := Lib.hid (up HB1.out hb2)
  have HX2 := Lib.hid (HX1.out.below hb2 HX1.out.lt)
  have HQ2 := Lib.hid (HQ1.out.below hb2 HQ1.out.lt)
  have hs2 := hb2.size
  have HMO1 := Lib.hid hmo
  have HMI1 := Lib.hid hmi
  have HC1 := Lib.hid hc
  have HBC2 := Lib.hid hb2
  clear hb1 hb2 hmo hmi hc HB HP HX HQ HRN HRF HN1 HB1 HX1 HQ1
  have hmb2 : w.heap.size ≤ mb := by omega
  have x1 : (w1.alloc (.cells #[.slice An nn cn, .slice Af lf cf, .map (some bo), .map (some bi)] 104)).cell? ⟨w.heap.size + 1, 1, none⟩ = some (.slice Av nv cv) := HX2.out.cell 1
  go_wp2_with (fail)
  generalize w1.alloc (.cells #[.slice An nn cn, .slice Af lf cf, .map (some bo), .map (some bi)] 104) = w2 at *
  have hxl := HX2.out.lt
  have hql := HQ2.out.lt
  (with_reducible refine (validValuesI_any lov hiv nv cv Av vs w2 (hv.keep HB2.out hBv) (by omega)).mono ?_)
  rintro e w3 ⟨rfl, hw3⟩
  obtain rfl : w3 = w2 := by first | exact hw3 | exact hw3.symm
  clear hw3 x1
  have x2 : w3.cell? ⟨w.heap.size + 1, 2, none⟩ = some (.int .i64 cl) := HX2.out.cell 2
  cases hvv : vVals vs with
  | false =>
    have HNO := Lib.hid (run_no (ns := ns) (fs := fs) (ms := ms) (cl := cl) (ts := ts) (.inr (.inl hvv)))
    have q0 : w3.cell? ⟨w.heap.size + 1 + 1, 0, none⟩ = some (.slice none 0 0) := HQ2.out.cell 0
    have q1 : w3.cell? ⟨w.heap.size + 1 + 1, 1, none⟩ = some (.slice none 0 0) := HQ2.out.cell 1
    have q2 : w3.cell? ⟨w.heap.size + 1 + 1, 2, none⟩ = some (.map none) := HQ2.out.cell 2
    have q3 : w3.cell? ⟨w.heap.size + 1 + 1, 3, none⟩ = some (.map none) := HQ2.out.cell 3
    have q4 : w3.cell? ⟨w.heap.size + 1 + 1, 4, none⟩ = some (.map none) := HQ2.out.cell 4
    have q5 : w3.cell? ⟨w.heap.size + 1 + 1, 5, none⟩ = some (.slice none 0 0) := HQ2.out.cell 5
    have q6 : w3.cell? ⟨w.heap.size + 1 + 1, 6, none⟩ = some (.int .i64 0) := HQ2.out.cell 6
    have q7 : w3.cell? ⟨w.heap.size + 1 + 1, 7, none⟩ = some (.slice none 0 0) := HQ2.out.cell 7
    have fq0 := HQ2.out.soft 0
    have fq1 := HQ2.out.soft 1
    have fq2 := HQ2.out.soft 2
    have fq3 := HQ2.out.soft 3
    have fq4 := HQ2.out.soft 4
    have fq5 := HQ2.out.soft 5
    have fq6 := HQ2.out.soft 6
    have fq7 := HQ2.out.soft 7
    have hzz := ((((((((HQ2.out.put 0 (.slice none 0 0)).put 1 (.slice none 0 0)).put 2 (.map none)).put 3 (.map none)).put 4 (.map none)).put 5 (.slice none 0 0)).put 6 (.int .i64 0)).put 7 (.slice none 0 0))
    have z0 := hzz.cell 0
    have z1 := hzz.cell 1
    have z2 := hzz.cell 2
    have z3 := hzz.cell 3
    have z4 := hzz.cell 4
    have z5 := hzz.cell 5
    have z6 := hzz.cell 6
    have z7 := hzz.cell 7
    simp at z0 z1 z2 z3 z4 z5 z6 z7
    have HBZ := Lib.hid ((((((((HB2.out.setCell (p := ⟨w.heap.size + 1 + 1, 0, none⟩) (by show w.heap.size ≤ w.heap.size + 1 + 1; omega) (.slice none 0 0)).setCell (p := ⟨w.heap.size + 1 + 1, 1, none⟩) (by show w.heap.size ≤ w.heap.size + 1 + 1; omega) (.slice none 0 0)).setCell (p := ⟨w.heap.size + 1 + 1, 2, none⟩) (by show w.heap.size ≤ w.heap.size + 1 + 1; omega) (.map none)).setCell (p := ⟨w.heap.size + 1 + 1, 3, none⟩) (by show w.heap.size ≤ w.heap.size + 1 + 1; omega) (.map none)).setCell (p := ⟨w.heap.size + 1 + 1, 4, none⟩) (by show w.heap.size ≤ w.heap.size + 1 + 1; omega) (.map none)).setCell (p := ⟨w.heap.size + 1 + 1, 5, none⟩) (by show w.heap.size ≤ w.heap.size + 1 + 1; omega) (.slice none 0 0)).setCell (p := ⟨w.heap.size + 1 + 1, 6, none⟩) (by show w.heap.size ≤ w.heap.size + 1 + 1; omega) (.int .i64 0)).setCell (p := ⟨w.heap.size + 1 + 1, 7, none⟩) (by show w.heap.size ≤ w.heap.size + 1 + 1; omega) (.slice none 0 0))
    clear hzz
    go_wp2
    exact bodyPost_ret (v := .tuple #[.agg #[.slice none 0 0, .slice none 0 0, .map none, .map none, .map none, .slice none 0 0, .int .i64 0, .slice none 0 0], .bool false]) (by simp [results, Tryz.results69, go_sem, z0, z1, z2, z3, z4, z5, z6, z7]) rfl (RunPost.no HNO.out HBZ.out)
  | true =>
  by_cases h0 : cl < 0
  · have hin : inR cl 0 9999 = false := by rw [← Bool.not_eq_true, inR_iff]; omega
    have d0 : decide (cl < 0) = true := decide_eq_true h0
    clear h0
    have HNO := Lib.hid (run_no (ns := ns) (fs := fs) (ms := ms) (vs := vs) (ts := ts) (.inr (.inr (.inl hin))))
    have q0 : w3.cell? ⟨w.heap.size + 1 + 1, 0, none⟩ = some (.slice none 0 0) := HQ2.out.cell 0
    have q1 : w3.cell? ⟨w.heap.size + 1 + 1, 1, none⟩ = some (.slice none 0 0) := HQ2.out.cell 1
    have q2 : w3.cell? ⟨w.heap.size + 1 + 1, 2, none⟩ = some (.map none) := HQ2.out.cell 2
    have q3 : w3.cell? ⟨w.heap.size + 1 + 1, 3, none⟩ = some (.map none) := HQ2.out.cell 3
    have q4 : w3.cell? ⟨w.heap.size + 1 + 1, 4, none⟩ = some (.map none) := HQ2.out.cell 4
    have q5 : w3.cell? ⟨w.heap.size + 1 + 1, 5, none⟩ = some (.slice none 0 0) := HQ2.out.cell 5
    have q6 : w3.cell? ⟨w.heap.size + 1 + 1, 6, none⟩ = some (.int .i64 0) := HQ2.out.cell 6
    have q7 : w3.cell? ⟨w.heap.size + 1 + 1, 7, none⟩ = some (.slice none 0 0) := HQ2.out.cell 7
    have fq0 := HQ2.out.soft 0
    have fq1 := HQ2.out.soft 1
    have fq2 := HQ2.out.soft 2
    have fq3 := HQ2.out.soft 3
    have fq4 := HQ2.out.soft 4
    have fq5 := HQ2.out.soft 5
    have fq6 := HQ2.out.soft 6
    have fq7 := HQ2.out.soft 7
    have hzz := ((((((((HQ2.out.put 0 (.slice none 0 0)).put 1 (.slice none 0 0)).put 2 (.map none)).put 3 (.map none)).put 4 (.map none)).put 5 (.slice none 0 0)).put 6 (.int .i64 0)).put 7 (.slice none 0 0))
    have z0 := hzz.cell 0
    have z1 := hzz.cell 1
    have z2 := hzz.cell 2
    have z3 := hzz.cell 3
    have z4 := hzz.cell 4
    have z5 := hzz.cell 5
    have z6 := hzz.cell 6
    have z7 := hzz.cell 7
    simp at z0 z1 z2 z3 z4 z5 z6 z7
    have HBZ := Lib.hid ((((((((HB2.out.setCell (p := ⟨w.heap.size + 1 + 1, 0, none⟩) (by show w.heap.size ≤ w.heap.size + 1 + 1; omega) (.slice none 0 0)).setCell (p := ⟨w.heap.size + 1 + 1, 1, none⟩) (by show w.heap.size ≤ w.heap.size + 1 + 1; omega) (.slice none 0 0)).setCell (p := ⟨w.heap.size + 1 + 1, 2, none⟩) (by show w.heap.size ≤ w.heap.size + 1 + 1; omega) (.map none)).setCell (p := ⟨w.heap.size + 1 + 1, 3, none⟩) (by show w.heap.size ≤ w.heap.size + 1 + 1; omega) (.map none)).setCell (p := ⟨w.heap.size + 1 + 1, 4, none⟩) (by show w.heap.size ≤ w.heap.size + 1 + 1; omega) (.map none)).setCell (p := ⟨w.heap.size + 1 + 1, 5, none⟩) (by show w.heap.size ≤ w.heap.size + 1 + 1; omega) (.slice none 0 0)).setCell (p := ⟨w.heap.size + 1 + 1, 6, none⟩) (by show w.heap.size ≤ w.heap.size + 1 + 1; omega) (.int .i64 0)).setCell (p := ⟨w.heap.size + 1 + 1, 7, none⟩) (by show w.heap.size ≤ w.heap.size + 1 + 1; omega) (.slice none 0 0))
    clear hzz
    go_wp2
    exact bodyPost_ret (v := .tuple #[.agg #[.slice none 0 0, .slice none 0 0, .map none, .map none, .map none, .slice none 0 0, .int .i64 0, .slice none 0 0], .bool false]) (by simp [results, Tryz.results69, go_sem, z0, z1, z2, z3, z4, z5, z6, z7]) rfl (RunPost.no HNO.out HBZ.out)
  by_cases h9 : 9999 < cl
  · have hin : inR cl 0 9999 = false := by rw [← Bool.not_eq_true, inR_iff]; omega
    have d0 : decide (cl < 0) = false := decide_eq_false h0
    have d9 : decide (9999 < cl) = true := decide_eq_true h9
    clear h0 h9
    have HNO := Lib.hid (run_no (ns := ns) (fs := fs) (ms := ms) (vs := vs) (ts := ts) (.inr (.inr (.inl hin))))
    have q0 : w3.cell? ⟨w.heap.size + 1 + 1, 0, none⟩ = some (.slice none 0 0) := HQ2.out.cell 0
    have q1 : w3.cell? ⟨w.heap.size + 1 + 1, 1, none⟩ = some (.slice none 0 0) := HQ2.out.cell 1
    have q2 : w3.cell? ⟨w.heap.size + 1 + 1, 2, none⟩ = some (.map none) := HQ2.out.cell 2
    have q3 : w3.cell? ⟨w.heap.size + 1 + 1, 3, none⟩ = some (.map none) := HQ2.out.cell 3
    have q4 : w3.cell? ⟨w.heap.size + 1 + 1, 4, none⟩ = some (.map none) := HQ2.out.cell 4
    have q5 : w3.cell? ⟨w.heap.size + 1 + 1, 5, none⟩ = some (.slice none 0 0) := HQ2.out.cell 5
    have q6 : w3.cell? ⟨w.heap.size + 1 + 1, 6, none⟩ = some (.int .i64 0) := HQ2.out.cell 6
    have q7 : w3.cell? ⟨w.heap.size + 1 + 1, 7, none⟩ = some (.slice none 0 0) := HQ2.out.cell 7
    have fq0 := HQ2.out.soft 0
    have fq1 := HQ2.out.soft 1
    have fq2 := HQ2.out.soft 2
    have fq3 := HQ2.out.soft 3
    have fq4 := HQ2.out.soft 4
    have fq5 := HQ2.out.soft 5
    have fq6 := HQ2.out.soft 6
    have fq7 := HQ2.out.soft 7
    have hzz := ((((((((HQ2.out.put 0 (.slice none 0 0)).put 1 (.slice none 0 0)).put 2 (.map none)).put 3 (.map none)).put 4 (.map none)).put 5 (.slice none 0 0)).put 6 (.int .i64 0)).put 7 (.slice none 0 0))
    have z0 := hzz.cell 0
    have z1 := hzz.cell 1
    have z2 := hzz.cell 2
    have z3 := hzz.cell 3
    have z4 := hzz.cell 4
    have z5 := hzz.cell 5
    have z6 := hzz.cell 6
    have z7 := hzz.cell 7
    simp at z0 z1 z2 z3 z4 z5 z6 z7
    have HBZ := Lib.hid ((((((((HB2.out.setCell (p := ⟨w.heap.size + 1 + 1, 0, none⟩) (by show w.heap.size ≤ w.heap.size + 1 + 1; omega) (.slice none 0 0)).setCell (p := ⟨w.heap.size + 1 + 1, 1, none⟩) (by show w.heap.size ≤ w.heap.size + 1 + 1; omega) (.slice none 0 0)).setCell (p := ⟨w.heap.size + 1 + 1, 2, none⟩) (by show w.heap.size ≤ w.heap.size + 1 + 1; omega) (.map none)).setCell (p := ⟨w.heap.size + 1 + 1, 3, none⟩) (by show w.heap.size ≤ w.heap.size + 1 + 1; omega) (.map none)).setCell (p := ⟨w.heap.size + 1 + 1, 4, none⟩) (by show w.heap.size ≤ w.heap.size + 1 + 1; omega) (.map none)).setCell (p := ⟨w.heap.size + 1 + 1, 5, none⟩) (by show w.heap.size ≤ w.heap.size + 1 + 1; omega) (.slice none 0 0)).setCell (p := ⟨w.heap.size + 1 + 1, 6, none⟩) (by show w.heap.size ≤ w.heap.size + 1 + 1; omega) (.int .i64 0)).setCell (p := ⟨w.heap.size + 1 + 1, 7, none⟩) (by show w.heap.size ≤ w.heap.size + 1 + 1; omega) (.slice none 0 0))
    clear hzz
    go_wp2
    exact bodyPost_ret (v := .tuple #[.agg #[.slice none 0 0, .slice none 0 0, .map none, .map none, .map none, .slice none 0 0, .int .i64 0, .slice none 0 0], .bool false]) (by simp [results, Tryz.results69, go_sem, z0, z1, z2, z3, z4, z5, z6, z7]) rfl (RunPost.no HNO.out HBZ.out)
  have hin : inR cl 0 9999 = true := inR_iff.2 (by omega)
  have d0 : decide (cl < 0) = false := decide_eq_false h0
  have d9 : decide (9999 < cl) = false := decide_eq_false h9
  clear h0 h9
  have x1 : w3.cell? ⟨w.heap.size + 1, 1, none⟩ = some (.slice Av nv cv) := HX2.out.cell 1
  have x3 : w3.cell? ⟨w.heap.size + 1, 3, none⟩ = some (.slice At nt ct) := HX2.out.cell 3
  have t0 : w3.cell? ⟨w1.heap.size, 0, none⟩ = some (.slice An nn cn) := HT2.out.cell 0
  have t1 : w3.cell? ⟨w1.heap.size, 1, none⟩ = some (.slice Af lf cf) := HT2.out.cell 1
  have t2 : w3.cell? ⟨w1.heap.size, 2, none⟩ = some (.map (some bo)) := HT2.out.cell 2
  have t3 : w3.cell? ⟨w1.heap.size, 3, none⟩ = some (.map (some bi)) := HT2.out.cell 3
  have hb4 := up_alloc (Below.refl _ w3) (.cells #[.slice An nn cn, .slice Af lf cf, .map (some bo), .map (some bi), .map (some mb), .slice Av nv cv, .int .i64 cl, .slice At nt ct] 114)
  have HR4 := Lib.hid (Blk.new w3 114 #[.slice An nn cn, .slice Af lf cf, .map (some bo), .map (some bi), .map (some mb), .slice Av nv cv, .int .i64 cl, .slice At nt ct])
  have HN4 := Lib.hid (HN2.out.keep hb4)
  have HB4 := Lib.hid (up HB2.out hb4)
  have HQ4 := Lib.hid (HQ2.out.below hb4 hql)
  have HBC4 := Lib.hid (up HBC2.out hb4)
  have hs4 := hb4.size
  have HIN := Lib.hid hin
  have HVV := Lib.hid hvv
  clear hb4 hin hvv HN2 HB2 HQ2 HX2 HT2
  go_wp2_with (fail)
  generalize w3.alloc (.cells #[.slice An nn cn, .slice Af lf cf, .map (some bo), .map (some bi), .map (some mb), .slice Av nv cv, .int .i64 cl, .slice At nt ct] 114) = w4 at *
  clear x1 x2 x3 t0 t1 t2 t3
  (with_reducible refine (moving_any An nn cn ns Af lf cf fs bo bi mb m ms Av nv cv cl At nt ct w4 HN4.out hnn).mono ?_)
  rintro e w5 ⟨rfl, hb5⟩
  have HR5 := Lib.hid (HR4.out.below hb5 HR4.out.lt)
  have HN5 := Lib.hid (HN4.out.keep hb5)
  have HB5 := Lib.hid (up HB4.out hb5)
  have HQ5 := Lib.hid (HQ4.out.below hb5 (by omega))
  have hs5 := hb5.size
  have HBC5 := Lib.hid (up HBC4.out hb5)
  have hrl := HR5.out.lt
  clear hb5 HR4 HN4 HB4 HQ4
  cases hfa : (firstAuto ns fs ms).isSome with
  | true =>
    have hmv : (true : Bool) = true := rfl
    have HNO := Lib.hid (run_no (vs := vs) (cl := cl) (ts := ts) (.inr (.inr (.inr (.inl hfa)))))
    have q0 : w5.cell? ⟨w.heap.size + 1 + 1, 0, none⟩ = some (.slice none 0 0) := HQ5.out.cell 0
    have q1 : w5.cell? ⟨w.heap.size + 1 + 1, 1, none⟩ = some (.slice none 0 0) := HQ5.out.cell 1
    have q2 : w5.cell? ⟨w.heap.size + 1 + 1, 2, none⟩ = some (.map none) := HQ5.out.cell 2
    have q3 : w5.cell? ⟨w.heap.size + 1 + 1, 3, none⟩ = some (.map none) := HQ5.out.cell 3
    have q4 : w5.cell? ⟨w.heap.size + 1 + 1, 4, none⟩ = some (.map none) := HQ5.out.cell 4
    have q5 : w5.cell? ⟨w.heap.size + 1 + 1, 5, none⟩ = some (.slice none 0 0) := HQ5.out.cell 5
    have q6 : w5.cell? ⟨w.heap.size + 1 + 1, 6, none⟩ = some (.int .i64 0) := HQ5.out.cell 6
    have q7 : w5.cell? ⟨w.heap.size + 1 + 1, 7, none⟩ = some (.slice none 0 0) := HQ5.out.cell 7
    have fq0 := HQ5.out.soft 0
    have fq1 := HQ5.out.soft 1
    have fq2 := HQ5.out.soft 2
    have fq3 := HQ5.out.soft 3
    have fq4 := HQ5.out.soft 4
    have fq5 := HQ5.out.soft 5
    have fq6 := HQ5.out.soft 6
    have fq7 := HQ5.out.soft 7
    have hzz := ((((((((HQ5.out.put 0 (.slice none 0 0)).put 1 (.slice none 0 0)).put 2 (.map none)).put 3 (.map none)).put 4 (.map none)).put 5 (.slice none 0 0)).put 6 (.int .i64 0)).put 7 (.slice none 0 0))
    have z0 := hzz.cell 0
    have z1 := hzz.cell 1
    have z2 := hzz.cell 2
    have z3 := hzz.cell 3
    have z4 := hzz.cell 4
    have z5 := hzz.cell 5
    have z6 := hzz.cell 6
    have z7 := hzz.cell 7
    simp at z0 z1 z2 z3 z4 z5 z6 z7
    have HBZ := Lib.hid ((((((((HB5.out.setCell (p := ⟨w.heap.size + 1 + 1, 0, none⟩) (by show w.heap.size ≤ w.heap.size + 1 + 1; omega) (.slice none 0 0)).setCell (p := ⟨w.heap.size + 1 + 1, 1, none⟩) (by show w.heap.size ≤ w.heap.size + 1 + 1; omega) (.slice none 0 0)).setCell (p := ⟨w.heap.size + 1 + 1, 2, none⟩) (by show w.heap.size ≤ w.heap.size + 1 + 1; omega) (.map none)).setCell (p := ⟨w.heap.size + 1 + 1, 3, none⟩) (by show w.heap.size ≤ w.heap.size + 1 + 1; omega) (.map none)).setCell (p := ⟨w.heap.size + 1 + 1, 4, none⟩) (by show w.heap.size ≤ w.heap.size + 1 + 1; omega) (.map none)).setCell (p := ⟨w.heap.size + 1 + 1, 5, none⟩) (by show w.heap.size ≤ w.heap.size + 1 + 1; omega) (.slice none 0 0)).setCell (p := ⟨w.heap.size + 1 + 1, 6, none⟩) (by show w.heap.size ≤ w.heap.size + 1 + 1; omega) (.int .i64 0)).setCell (p := ⟨w.heap.size + 1 + 1, 7, none⟩) (by show w.heap.size ≤ w.heap.size + 1 + 1; omega) (.slice none 0 0))
    clear hzz
    go_wp2
    exact bodyPost_ret (v := .tuple #[.agg #[.slice none 0 0, .slice none 0 0, .map none, .map none, .map none, .slice none 0 0, .int .i64 0, .slice none 0 0], .bool false]) (by simp [results, Tryz.results69, go_sem, z0, z1, z2, z3, z4, z5, z6, z7]) rfl (RunPost.no HNO.out HBZ.out)
  | false =>
  have HFA := Lib.hid hfa
  clear hfa
  have r0 : w5.cell? ⟨w3.heap.size, 0, none⟩ = some (.slice An nn cn) := HR5.out.cell 0
  have r1 : w5.cell? ⟨w3.heap.size, 1, none⟩ = some (.slice Af lf cf) := HR5.out.cell 1
  have r2 : w5.cell? ⟨w3.heap.size, 2, none⟩ = some (.map (some bo)) := HR5.out.cell 2
  have r3 : w5.cell? ⟨w3.heap.size, 3, none⟩ = some (.map (some bi)) := HR5.out.cell 3
  have r4 : w5.cell? ⟨w3.heap.size, 4, none⟩ = some (.map (some mb)) := HR5.out.cell 4
  have r5 : w5.cell? ⟨w3.heap.size, 5, none⟩ = some (.slice Av nv cv) := HR5.out.cell 5
  have r6 : w5.cell? ⟨w3.heap.size, 6, none⟩ = some (.int .i64 cl) := HR5.out.cell 6
  have r7 : w5.cell? ⟨w3.heap.size, 7, none⟩ = some (.slice At nt ct) := HR5.out.cell 7
  go_wp2_with (fail)
  (with_reducible refine (hasItsTimers_any An nn cn ns Af lf cf fs bo bi mb m ms Av nv cv cl At nt ct ts w5 HN5.out hnn ((ht.keep HB5.out hBt).wide (Nat.zero_le _) (Nat.le_trans hBt HB5.out.size)) hnt).mono ?_)
  rintro e w6 ⟨rfl, hb6⟩
  clear r0 r1 r2 r3 r4 r5 r6 r7
  have HR6 := Lib.hid (HR5.out.below hb6 hrl)
  have HN6 := Lib.hid (HN5.out.keep hb6)
  have HB6 := Lib.hid (up HB5.out hb6)
  have HQ6 := Lib.hid (HQ5.out.below hb6 (by omega))
  have hs6 := hb6.size
  have HBC6 := Lib.hid (up HBC5.out hb6)
  clear hb6 HR5 HN5 HB5 HQ5
  cases hht : hasT ns fs ms cl ts with
  | false =>
    have HNO := Lib.hid (run_no (vs := vs) (.inr (.inr (.inr (.inr hht)))))
    have q0 : w6.cell? ⟨w.heap.size + 1 + 1, 0, none⟩ = some (.slice none 0 0) := HQ6.out.cell 0
    have q1 : w6.cell? ⟨w.heap.size + 1 + 1, 1, none⟩ = some (.slice none 0 0) := HQ6.out.cell 1
    have q2 : w6.cell? ⟨w.heap.size + 1 + 1, 2, none⟩ = some (.map none) := HQ6.out.cell 2
    have q3 : w6.cell? ⟨w.heap.size + 1 + 1, 3, none⟩ = some (.map none) := HQ6.out.cell 3
    have q4 : w6.cell? ⟨w.heap.size + 1 + 1, 4, none⟩ = some (.map none) := HQ6.out.cell 4
    have q5 : w6.cell? ⟨w.heap.size + 1 + 1, 5, none⟩ = some (.slice none 0 0) := HQ6.out.cell 5
    have q6 : w6.cell? ⟨w.heap.size + 1 + 1, 6, none⟩ = some (.int .i64 0) := HQ6.out.cell 6
    have q7 : w6.cell? ⟨w.heap.size + 1 + 1, 7, none⟩ = some (.slice none 0 0) := HQ6.out.cell 7
    have fq0 := HQ6.out.soft 0
    have fq1 := HQ6.out.soft 1
    have fq2 := HQ6.out.soft 2
    have fq3 := HQ6.out.soft 3
    have fq4 := HQ6.out.soft 4
    have fq5 := HQ6.out.soft 5
    have fq6 := HQ6.out.soft 6
    have fq7 := HQ6.out.soft 7
    have hzz := ((((((((HQ6.out.put 0 (.slice none 0 0)).put 1 (.slice none 0 0)).put 2 (.map none)).put 3 (.map none)).put 4 (.map none)).put 5 (.slice none 0 0)).put 6 (.int .i64 0)).put 7 (.slice none 0 0))
    have z0 := hzz.cell 0
    have z1 := hzz.cell 1
    have z2 := hzz.cell 2
    have z3 := hzz.cell 3
    have z4 := hzz.cell 4
    have z5 := hzz.cell 5
    have z6 := hzz.cell 6
    have z7 := hzz.cell 7
    simp at z0 z1 z2 z3 z4 z5 z6 z7
    have HBZ := Lib.hid ((((((((HB6.out.setCell (p := ⟨w.heap.size + 1 + 1, 0, none⟩) (by show w.heap.size ≤ w.heap.size + 1 + 1; omega) (.slice none 0 0)).setCell (p := ⟨w.heap.size + 1 + 1, 1, none⟩) (by show w.heap.size ≤ w.heap.size + 1 + 1; omega) (.slice none 0 0)).setCell (p := ⟨w.heap.size + 1 + 1, 2, none⟩) (by show w.heap.size ≤ w.heap.size + 1 + 1; omega) (.map none)).setCell (p := ⟨w.heap.size + 1 + 1, 3, none⟩) (by show w.heap.size ≤ w.heap.size + 1 + 1; omega) (.map none)).setCell (p := ⟨w.heap.size + 1 + 1, 4, none⟩) (by show w.heap.size ≤ w.heap.size + 1 + 1; omega) (.map none)).setCell (p := ⟨w.heap.size + 1 + 1, 5, none⟩) (by show w.heap.size ≤ w.heap.size + 1 + 1; omega) (.slice none 0 0)).setCell (p := ⟨w.heap.size + 1 + 1, 6, none⟩) (by show w.heap.size ≤ w.heap.size + 1 + 1; omega) (.int .i64 0)).setCell (p := ⟨w.heap.size + 1 + 1, 7, none⟩) (by show w.heap.size ≤ w.heap.size + 1 + 1; omega) (.slice none 0 0))
    clear hzz
    go_wp2
    exact bodyPost_ret (v := .tuple #[.agg #[.slice none 0 0, .slice none 0 0, .map none, .map none, .map none, .slice none 0 0, .int .i64 0, .slice none 0 0], .bool false]) (by simp [results, Tryz.results69, go_sem, z0, z1, z2, z3, z4, z5, z6, z7]) rfl (RunPost.no HNO.out HBZ.out)
  | true =>
  have HYES := Lib.hid (run_yes HN6.out.vp HN6.out.vm HVV.out HIN.out HFA.out hht)
  clear hht
  have r0 : w6.cell? ⟨w3.heap.size, 0, none⟩ = some (.slice An nn cn) := HR6.out.cell 0
  have r1 : w6.cell? ⟨w3.heap.size, 1, none⟩ = some (.slice Af lf cf) := HR6.out.cell 1
  have r2 : w6.cell? ⟨w3.heap.size, 2, none⟩ = some (.map (some bo)) := HR6.out.cell 2
  have r3 : w6.cell? ⟨w3.heap.size, 3, none⟩ = some (.map (some bi)) := HR6.out.cell 3
  have r4 : w6.cell? ⟨w3.heap.size, 4, none⟩ = some (.map (some mb)) := HR6.out.cell 4
  have r5 : w6.cell? ⟨w3.heap.size, 5, none⟩ = some (.slice Av nv cv) := HR6.out.cell 5
  have r6 : w6.cell? ⟨w3.heap.size, 6, none⟩ = some (.int .i64 cl) := HR6.out.cell 6
  have r7 : w6.cell? ⟨w3.heap.size, 7, none⟩ = some (.slice At nt ct) := HR6.out.cell 7
  have q0 : w6.cell? ⟨w.heap.size + 1 + 1, 0, none⟩ = some (.slice none 0 0) := HQ6.out.cell 0
  have q1 : w6.cell? ⟨w.heap.size + 1 + 1, 1, none⟩ = some (.slice none 0 0) := HQ6.out.cell 1
  have q2 : w6.cell? ⟨w.heap.size + 1 + 1, 2, none⟩ = some (.map none) := HQ6.out.cell 2
  have q3 : w6.cell? ⟨w.heap.size + 1 + 1, 3, none⟩ = some (.map none) := HQ6.out.cell 3
  have q4 : w6.cell? ⟨w.heap.size + 1 + 1, 4, none⟩ = some (.map none) := HQ6.out.cell 4
  have q5 : w6.cell? ⟨w.heap.size + 1 + 1, 5, none⟩ = some (.slice none 0 0) := HQ6.out.cell 5
  have q6 : w6.cell? ⟨w.heap.size + 1 + 1, 6, none⟩ = some (.int .i64 0) := HQ6.out.cell 6
  have q7 : w6.cell? ⟨w.heap.size + 1 + 1, 7, none⟩ = some (.slice none 0 0) := HQ6.out.cell 7
  have fq0 := HQ6.out.soft 0
  have fq1 := HQ6.out.soft 1
  have fq2 := HQ6.out.soft 2
  have fq3 := HQ6.out.soft 3
  have fq4 := HQ6.out.soft 4
  have fq5 := HQ6.out.soft 5
  have fq6 := HQ6.out.soft 6
  have fq7 := HQ6.out.soft 7
  have hzz := ((((((((HQ6.out.put 0 (.slice An nn cn)).put 1 (.slice Af lf cf)).put 2 (.map (some bo))).put 3 (.map (some bi))).put 4 (.map (some mb))).put 5 (.slice Av nv cv)).put 6 (.int .i64 cl)).put 7 (.slice At nt ct))
  have z0 := hzz.cell 0
  have z1 := hzz.cell 1
  have z2 := hzz.cell 2
  have z3 := hzz.cell 3
  have z4 := hzz.cell 4
  have z5 := hzz.cell 5
  have z6 := hzz.cell 6
  have z7 := hzz.cell 7
  simp at z0 z1 z2 z3 z4 z5 z6 z7
  have HBZ := Lib.hid ((((((((HB6.out.setCell (p := ⟨w.heap.size + 1 + 1, 0, none⟩) (by show w.heap.size ≤ w.heap.size + 1 + 1; omega) (.slice An nn cn)).setCell (p := ⟨w.heap.size + 1 + 1, 1, none⟩) (by show w.heap.size ≤ w.heap.size + 1 + 1; omega) (.slice Af lf cf)).setCell (p := ⟨w.heap.size + 1 + 1, 2, none⟩) (by show w.heap.size ≤ w.heap.size + 1 + 1; omega) (.map (some bo))).setCell (p := ⟨w.heap.size + 1 + 1, 3, none⟩) (by show w.heap.size ≤ w.heap.size + 1 + 1; omega) (.map (some bi))).setCell (p := ⟨w.heap.size + 1 + 1, 4, none⟩) (by show w.heap.size ≤ w.heap.size + 1 + 1; omega) (.map (some mb))).setCell (p := ⟨w.heap.size + 1 + 1, 5, none⟩) (by show w.heap.size ≤ w.heap.size + 1 + 1; omega) (.slice Av nv cv)).setCell (p := ⟨w.heap.size + 1 + 1, 6, none⟩) (by show w.heap.size ≤ w.heap.size + 1 + 1; omega) (.int .i64 cl)).setCell (p := ⟨w.heap.size + 1 + 1, 7, none⟩) (by show w.heap.size ≤ w.heap.size + 1 + 1; omega) (.slice At nt ct))
  have hzs : ((((((((w6.setCell ⟨w.heap.size + 1 + 1, 0, none⟩ (.slice An nn cn)).setCell ⟨w.heap.size + 1 + 1, 1, none⟩ (.slice Af lf cf)).setCell ⟨w.heap.size + 1 + 1, 2, none⟩ (.map (some bo))).setCell ⟨w.heap.size + 1 + 1, 3, none⟩ (.map (some bi))).setCell ⟨w.heap.size + 1 + 1, 4, none⟩ (.map (some mb))).setCell ⟨w.heap.size + 1 + 1, 5, none⟩ (.slice Av nv cv)).setCell ⟨w.heap.size + 1 + 1, 6, none⟩ (.int .i64 cl)).setCell ⟨w.heap.size + 1 + 1, 7, none⟩ (.slice At nt ct)).heap.size = w6.heap.size := by simp
  have hqlt : w.heap.size + 1 + 1 < w0.heap.size := by omega
  have hqmb : mb ≠ w.heap.size + 1 + 1 := by omega
  have HNZ := Lib.hid (show NetM ((((((((w6.setCell ⟨w.heap.size + 1 + 1, 0, none⟩ (.slice An nn cn)).setCell ⟨w.heap.size + 1 + 1, 1, none⟩ (.slice Af lf cf)).setCell ⟨w.heap.size + 1 + 1, 2, none⟩ (.map (some bo))).setCell ⟨w.heap.size + 1 + 1, 3, none⟩ (.map (some bi))).setCell ⟨w.heap.size + 1 + 1, 4, none⟩ (.map (some mb))).setCell ⟨w.heap.size + 1 + 1, 5, none⟩ (.slice Av nv cv)).setCell ⟨w.heap.size + 1 + 1, 6, none⟩ (.int .i64 cl)).setCell ⟨w.heap.size + 1 + 1, 7, none⟩ (.slice At nt ct)) ns fs ms An nn Af lf bo bi mb m from ⟨(hrn.keep HBZ.out hB).wide (Nat.zero_le _) (Nat.le_trans hB HBZ.out.size), (hr.keep HBZ.out hB1).wide (Nat.zero_le _) (Nat.le_trans hB1 HBZ.out.size), (((((((((HMO1.out.keep HBC6.out (Nat.le_refl _)).set (p := ⟨w.heap.size + 1 + 1, 0, none⟩) hqlt (.slice An nn cn)).set (p := ⟨w.heap.size + 1 + 1, 1, none⟩) hqlt (.slice Af lf cf)).set (p := ⟨w.heap.size + 1 + 1, 2, none⟩) hqlt (.map (some bo))).set (p := ⟨w.heap.size + 1 + 1, 3, none⟩) hqlt (.map (some bi))).set (p := ⟨w.heap.size + 1 + 1, 4, none⟩) hqlt (.map (some mb))).set (p := ⟨w.heap.size + 1 + 1, 5, none⟩) hqlt (.slice Av nv cv)).set (p := ⟨w.heap.size + 1 + 1, 6, none⟩) hqlt (.int .i64 cl)).set (p := ⟨w.heap.size + 1 + 1, 7, none⟩) hqlt (.slice At nt ct)).wide (Nat.zero_le _) (by omega), (((((((((HMI1.out.keep HBC6.out (Nat.le_refl _)).set (p := ⟨w.heap.size + 1 + 1, 0, none⟩) hqlt (.slice An nn cn)).set (p := ⟨w.heap.size + 1 + 1, 1, none⟩) hqlt (.slice Af lf cf)).set (p := ⟨w.heap.size + 1 + 1, 2, none⟩) hqlt (.map (some bo))).set (p := ⟨w.heap.size + 1 + 1, 3, none⟩) hqlt (.map (some bi))).set (p := ⟨w.heap.size + 1 + 1, 4, none⟩) hqlt (.map (some mb))).set (p := ⟨w.heap.size + 1 + 1, 5, none⟩) hqlt (.slice Av nv cv)).set (p := ⟨w.heap.size + 1 + 1, 6, none⟩) hqlt (.int .i64 cl)).set (p := ⟨w.heap.size + 1 + 1, 7, none⟩) hqlt (.slice At nt ct)).wide (Nat.zero_le _) (by omega), (imap_set (imap_set (imap_set (imap_set (imap_set (imap_set (imap_set (imap_set (HC1.out.keep HBC6.out HC1.out.lt) (p := ⟨w.heap.size + 1 + 1, 0, none⟩) hqmb (.slice An nn cn)) (p := ⟨w.heap.size + 1 + 1, 1, none⟩) hqmb (.slice Af lf cf)) (p := ⟨w.heap.size + 1 + 1, 2, none⟩) hqmb (.map (some bo))) (p := ⟨w.heap.size + 1 + 1, 3, none⟩) hqmb (.map (some bi))) (p := ⟨w.heap.size + 1 + 1, 4, none⟩) hqmb (.map (some mb))) (p := ⟨w.heap.size + 1 + 1, 5, none⟩) hqmb (.slice Av nv cv)) (p := ⟨w.heap.size + 1 + 1, 6, none⟩) hqmb (.int .i64 cl)) (p := ⟨w.heap.size + 1 + 1, 7, none⟩) hqmb (.slice At nt ct)).part, HN6.out.mm, HN6.out.vp, HN6.out.vm⟩)
  clear hzz
  go_wp2
  exact bodyPost_ret (v := .tuple #[.agg #[.slice An nn cn, .slice Af lf cf, .map (some bo), .map (some bi), .map (some mb), .slice Av nv cv, .int .i64 cl, .slice At nt ct], .bool true]) (by simp [results, Tryz.results69, go_sem, z0, z1, z2, z3, z4, z5, z6, z7]) rfl (RunPost.yes HYES.out HNZ.out hmb2 HBZ.out)
end Go.Proofs.YtknphikoikdcjaaGreat

