/- The program: which node goes on by itself; are timers sorted? (Written by gen/runc.py.) -/
import Derived.Test.YtknphikoikdcjaaRunB
import Derived.Test.YtknphikoikdcjaaTimJ
set_option linter.unusedSimpArgs false
set_option linter.unusedVariables false
namespace Go.Proofs.Ytknphikoikdcjaa
open Go.RowKit

/-- A kind that waits. -/
def waitB (k : Int) : Bool := k == 2 || k == 3 || k == 4
def readyK (ns : List (Int × Int)) (fs : List Flw) (ms : List Int) (k : Nat) : List Nat := (List.range k).filter fun (i : Nat) => readyB (kindAt ns i) ms (flOf fs false (i : Int))
theorem readyUp_eq (ns : List (Int × Int)) (fs : List Flw) (ms : List Int) (k : Nat) : readyUp ns fs ms k = (readyK ns fs ms k).map fun (i : Nat) => (i : Int) := rfl
theorem find_filter {p q : Nat → Bool} : ∀ l : List Nat, l.find? (fun k => q k && p k) = (l.filter p).find? q
  | [] => rfl
  | a :: l => by
    rw [List.find?_cons]
    by_cases hp : p a = true
    · rw [List.filter_cons_of_pos hp, List.find?_cons, hp, Bool.and_true, find_filter l]
    · rw [Bool.not_eq_true] at hp
      rw [List.filter_cons_of_neg (by simp [hp]), hp, Bool.and_false, find_filter l]
theorem find_same {p q : Nat → Bool} : ∀ {l : List Nat}, (∀ x ∈ l, p x = q x) → l.find? p = l.find? q
  | [], _ => rfl
  | a :: l, h => by
    rw [List.find?_cons, List.find?_cons, h a (List.mem_cons_self ..), find_same (fun x hx => h x (List.mem_cons_of_mem _ hx))]
theorem kind_wait {ns : List (Int × Int)} {fs : List Flw} {ms : List Int} (hV : vProc ns fs = true) {k : Nat} (hk : k < ns.length) (hr : readyB (kindAt ns k) ms (flOf fs false (k : Int)) = true) : autoB (kindAt ns k) = !waitB (kindAt ns k) := by
  have hg : ns[k]? = some (ns[k].1, ns[k].2) := List.getElem?_eq_getElem hk
  have hn := vProc_node hV hg
  rw [kindAt_is hg] at hr ⊢
  generalize ns[k].1 = x at *
  have hn1 := hn.1
  have hn2 := hn.2
  have h0 : x ≠ 0 := by
    intro h
    subst h
    simp [vKind] at hn2
    simp [readyB, hn2] at hr
  have hx : 0 ≤ x ∧ x ≤ 8 := by
    unfold vKind at hn2
    repeat' split at hn2
    all_goals first | omega | cases hn2
  rw [Bool.eq_iff_iff]
  simp only [autoB, waitB, Bool.or_eq_true, decide_eq_true_eq, Bool.not_eq_true', Bool.or_eq_false_iff, beq_eq_false_iff_ne]
  omega
theorem firstAuto_eq {ns : List (Int × Int)} {fs : List Flw} (hV : vProc ns fs = true) (ms : List Int) : firstAuto ns fs ms = (readyK ns fs ms ns.length).find? fun k => !waitB (kindAt ns k) := by
  have h1 : firstAuto ns fs ms = (readyK ns fs ms ns.length).find? (fun k => autoB (kindAt ns k)) := find_filter (List.range ns.length)
  rw [h1]
  refine find_same fun k hk => ?_
  unfold readyK at hk
  rw [List.mem_filter, List.mem_range] at hk
  exact kind_wait hV hk.1 hk.2
theorem find_first {p : Nat → Bool} {l : List Nat} {j k : Nat} (h : l[j]? = some k) (hb : (l.take j).all (fun x => !p x) = true) (hp : p k = true) : l.find? p = some k := by
  obtain ⟨hj, hk⟩ := List.getElem?_eq_some_iff.1 h
  have : l = l.take j ++ k :: l.drop (j + 1) := by rw [← hk]; simp
  rw [this, List.find?_append, List.find?_cons, hp]
  rw [show (l.take j).find? p = none from List.find?_eq_none.2 fun x hx => by simpa using (List.all_eq_true.1 hb) x hx]
  rfl
theorem find_never {p : Nat → Bool} {l : List Nat} (hb : l.all (fun x => !p x) = true) : l.find? p = none :=
  List.find?_eq_none.2 fun x hx => by simpa using (List.all_eq_true.1 hb) x hx
set_option maxRecDepth 100000 in
set_option maxHeartbeats 3200000 in
theorem moving_any (An : Option Addr) (nn cn : Nat) (ns : List (Int × Int)) (Af : Option Addr) (lf cf : Nat) (fs : List Flw) (bo bi mb m : Nat) (ms : List Int) (Av : Option Addr) (nv cv : Nat) (cl : Int) (At : Option Addr) (nt ct : Nat) (w : World) (hN : NetM w ns fs ms An nn Af lf bo bi mb m) (hnn : nn ≤ 1048576) :
    Calls Try.prog 52 #[.agg #[.slice An nn cn, .slice Af lf cf, .map (some bo), .map (some bi), .map (some mb), .slice Av nv cv, .int .i64 cl, .slice At nt ct]] w fun e w' => e = .returned (.tuple #[.int .i64 (((firstAuto ns fs ms).getD 0 : Nat) : Int), .bool (firstAuto ns fs ms).isSome]) ∧ Below w.heap.size w w' := by
  have hb1 := up_alloc (Below.refl _ w) (.cells #[.slice An nn cn, .slice Af lf cf, .map (some bo), .map (some bi), .map (some mb), .slice Av nv cv, .int .i64 cl, .slice At nt ct] 64)
  have HK := Lib.hid (Blk.new w 64 #[.slice An nn cn, .slice Af lf cf, .map (some bo), .map (some bi), .map (some mb), .slice Av nv cv, .int .i64 cl, .slice At nt ct])
  have HN1 := Lib.hid (hN.keep hb1)
  have HB := Lib.hid hb1
  have hz : (w.alloc (.cells #[.slice An nn cn, .slice Af lf cf, .map (some bo), .map (some bi), .map (some mb), .slice Av nv cv, .int .i64 cl, .slice At nt ct] 64)).heap.size = w.heap.size + 1 := by simp
  have HFA := Lib.hid (firstAuto_eq hN.vp ms)
  have HNL := Lib.hid hN.nl
  clear hb1 hN
  have HC := Lib.hid (readyI_any An nn cn 0 _ ns Af lf cf bo bi fs 0 _ mb m ms (w.alloc (.cells #[.slice An nn cn, .slice Af lf cf, .map (some bo), .map (some bi), .map (some mb), .slice Av nv cv, .int .i64 cl, .slice At nt ct] 64)) HN1.out.nodes (Nat.le_refl _) HN1.out.im (Nat.le_refl _) HN1.out.cm (vMarks_lenR HN1.out.vm) (vProc_len HN1.out.vp).2.2 hnn)
  have c0 : (w.alloc (.cells #[.slice An nn cn, .slice Af lf cf, .map (some bo), .map (some bi), .map (some mb), .slice Av nv cv, .int .i64 cl, .slice At nt ct] 64)).cell? ⟨w.heap.size, 0, none⟩ = some (.slice An nn cn) := HK.out.cell 0
  have c1 : (w.alloc (.cells #[.slice An nn cn, .slice Af lf cf, .map (some bo), .map (some bi), .map (some mb), .slice Av nv cv, .int .i64 cl, .slice At nt ct] 64)).cell? ⟨w.heap.size, 1, none⟩ = some (.slice Af lf cf) := HK.out.cell 1
  have c2 : (w.alloc (.cells #[.slice An nn cn, .slice Af lf cf, .map (some bo), .map (some bi), .map (some mb), .slice Av nv cv, .int .i64 cl, .slice At nt ct] 64)).cell? ⟨w.heap.size, 2, none⟩ = some (.map (some bo)) := HK.out.cell 2
  have c3 : (w.alloc (.cells #[.slice An nn cn, .slice Af lf cf, .map (some bo), .map (some bi), .map (some mb), .slice Av nv cv, .int .i64 cl, .slice At nt ct] 64)).cell? ⟨w.heap.size, 3, none⟩ = some (.map (some bi)) := HK.out.cell 3
  have c4 : (w.alloc (.cells #[.slice An nn cn, .slice Af lf cf, .map (some bo), .map (some bi), .map (some mb), .slice Av nv cv, .int .i64 cl, .slice At nt ct] 64)).cell? ⟨w.heap.size, 4, none⟩ = some (.map (some mb)) := HK.out.cell 4
  rw [readyUp_eq] at HC
  go_enter Try.func52, Try.ntmps52
  go_wp2_with (fail)
  (with_reducible refine HC.out.mono ?_)
  rintro e w1 ⟨A1, k1, rfl, _, hr1, _, hb1⟩
  clear c0 c1 c2 c3 c4 HC
  have HB1 := Lib.hid (up HB.out hb1)
  have HK1 := Lib.hid (HK.out.below hb1 (by omega))
  have HD1 := Lib.hid (HN1.out.nodes.keep hb1 (Nat.le_refl _))
  have hLn : ∀ k ∈ readyK ns fs ms nn, k < nn := fun k hk => by
    unfold readyK at hk
    rw [List.mem_filter, List.mem_range] at hk
    exact hk.1
  have HLN := Lib.hid hLn
  have HF2 := Lib.hid (show firstAuto ns fs ms = (readyK ns fs ms nn).find? fun k => !waitB (kindAt ns k) by rw [HFA.out, HNL.out])
  have hll : (readyK ns fs ms nn).length ≤ nn := by
    unfold readyK
    exact Nat.le_trans (List.length_filter_le _ _) (by simp)
  rw [List.length_map] at hr1
  try rw [List.length_map]
  have c0 : w1.cell? ⟨w.heap.size, 0, none⟩ = some (.slice An nn cn) := HK1.out.cell 0
  have HR1 := Lib.hid hr1
  clear hb1 hr1 HN1 HK HB HFA HNL hLn HK1
  generalize readyK ns fs ms nn = L at *
  generalize hll2 : L.length = nl at *
  have HLL := Lib.hid hll2
  clear hll2
  go_wp2
  go_loop [12] (fun iv => ∃ (j : Nat), j ≤ nl ∧ iv = .int .i64 j ∧ Hid ((L.take j).all (fun k => !(!waitB (kindAt ns k))) = true))
     (fun iv => nl - (intOf iv).toNat)
  case atStart => exact ⟨0, by omega, rfl, rfl⟩
  case round =>
    obtain ⟨j, hj, rfl, HS⟩ := hrel
    by_cases hlt : j < nl
    · obtain ⟨b, off, z, hA, _, _, hg, hc0⟩ := HR1.out.one hlt
      rw [List.getElem?_map] at hg
      obtain ⟨k, hk, hkz⟩ := Option.map_eq_some_iff.1 hg
      subst hkz
      subst hA
      have hkn := HLN.out k (List.mem_of_getElem? hk)
      obtain ⟨b2, off2, x, y, hA2, _, _, hkx, hd0, _⟩ := HD1.out.pair hkn
      subst hA2
      have HX := Lib.hid (kindAt_is hkx)
      have HG := Lib.hid hk
      have hj1 : (j : Int) < (nl : Int) := by omega
      have hj0 : (0 : Int) ≤ (j : Int) := by omega
      have hk1 : (k : Int) < (nn : Int) := by omega
      have hk0 : (0 : Int) ≤ (k : Int) := by omega
      clear hg hk hkx
      by_cases hw : x = 2 ∨ x = 3 ∨ x = 4
      · have HS2 := Lib.hid (show (L.take (j + 1)).all (fun k => !(!waitB (kindAt ns k))) = true by
          rw [take_snoc HG.out, List.all_append, HS.out]
          simp only [List.all_cons, List.all_nil, HX.out, waitB]
          rcases hw with rfl | rfl | rfl <;> rfl)
        rcases hw with rfl | rfl | rfl
        all_goals
          go_wp2
          go_round
          case rel => exact ⟨j + 1, by omega, by go_num, HS2⟩
          case measure => simp [intOf]; omega
      · have HF3 := Lib.hid (HF2.out.trans (find_first HG.out HS.out (by rw [HX.out]; simp [waitB]; omega)))
        have x2 : (x == 2) = false := by rw [beq_eq_false_iff_ne]; omega
        have x3 : (x == 3) = false := by rw [beq_eq_false_iff_ne]; omega
        have x4 : (x == 4) = false := by rw [beq_eq_false_iff_ne]; omega
        clear hw
        go_wp2
        exact bodyPost_ret (v := .tuple #[.int .i64 (k : Int), .bool true]) (by simp [results, Try.results52, go_sem]) rfl ⟨by rw [HF3.out]; rfl, HB1.out⟩
    · obtain rfl : j = nl := by omega
      have HF3 := Lib.hid (HF2.out.trans (find_never (by have := HS.out; rwa [List.take_of_length_le (by rw [HLL.out]; exact Nat.le_refl _)] at this)))
      go_wp2
      exact bodyPost_ret (v := .tuple #[.int .i64 0, .bool false]) (by simp [results, Try.results52, go_sem]) rfl ⟨by rw [HF3.out]; rfl, HB1.out⟩
/-- From k on no timer comes before the one ahead of it. -/
def sortFrom (ts : List Tm) (k : Nat) : Prop := ∀ i, k < i → i < ts.length → tlt (ts.getD i (0, 0)) (ts.getD (i - 1) (0, 0)) = false
theorem sort_all {ts : List Tm} (h : sortFrom ts 0) : tSortB ts = true := by
  unfold tSortB
  rw [List.all_eq_true]
  intro i hi
  rw [List.mem_range] at hi
  rcases Nat.eq_zero_or_pos i with rfl | h0
  · rfl
  · rw [h i h0 hi]; simp
theorem sort_not {ts : List Tm} {i : Nat} (h0 : 0 < i) (hi : i < ts.length) (h : tlt (ts.getD i (0, 0)) (ts.getD (i - 1) (0, 0)) = true) : tSortB ts = false := by
  unfold tSortB
  rw [List.all_eq_false]
  refine ⟨i, List.mem_range.2 hi, ?_⟩
  rw [h]
  simp
  omega
theorem tgdR {ts : List Tm} {i : Nat} {t : Tm} (h : ts[i]? = some t) : ts.getD i (0, 0) = t := by rw [List.getD_eq_getElem?_getD, h]; rfl
set_option maxRecDepth 100000 in
set_option maxHeartbeats 3200000 in
theorem isSortedT_any (lo hi n c : Nat) (A : Option Addr) (ts : List (Int × Int)) (w : World) (hr : Rd w lo hi 2 A n (pvs ts)) (hB : hi ≤ w.heap.size) (hn : n ≤ 1048576) :
    Calls Try.prog 68 #[.slice A n c, .func (.func 69) #[] #[]] w fun e w' => e = .returned (.bool (tSortB ts)) ∧ Below w.heap.size w w' := by
  have HL := Lib.hid hr.len2
  have HR := Lib.hid hr
  clear hr
  have hcall : ∀ (args : Array Value) (w : World), (callFunc 69 args).run Try.prog w = .ok (.enter 69 args) w := enters_of Try.func69 (by kernel_rfl) rfl
  by_cases hn0 : n = 0
  · subst hn0
    have HX := Lib.hid (show tSortB ts = true from sort_all (fun i h0 hi => by rw [HL.out] at hi; omega))
    go_enter Try.func68, Try.ntmps68
    go_wp2
    go_loop [5] (fun iv => iv = .int .i64 (-1)) (fun _ => 0)
    case atStart => rfl
    case round =>
      subst hrel
      go_wp2
      go_ret
      exact ⟨by rw [HX.out]; rfl, Below.refl _ _⟩
  obtain ⟨n1, hn1⟩ : ∃ n1, n = n1 + 1 := ⟨n - 1, by omega⟩
  have HN1 := Lib.hid hn1
  have hw1 : IntKind.i64.wrap ((n : Int) - 1) = (n1 : Int) := by rw [IntWalk.i64_in _ (by omega)]; omega
  clear hn1 hn0
  go_enter Try.func68, Try.ntmps68
  go_wp2
  go_loopw [5] (fun iv wr => ∃ (k : Nat), k < n ∧ iv = .int .i64 k ∧ Hid (sortFrom ts k) ∧ Hid (Below w.heap.size w wr))
     (fun iv _ => (intOf iv).toNat)
  case atStart => exact ⟨n1, by have := HN1.out; omega, rfl, fun i h0 hi => by have h1 := HN1.out; have h2 := HL.out; omega, Below.refl _ _⟩
  case round =>
    clear hw1
    obtain ⟨k, hk, rfl, HS, HB⟩ := hrel
    by_cases hk0 : 0 < k
    · obtain ⟨j, hj⟩ : ∃ j, k = j + 1 := ⟨k - 1, by omega⟩
      obtain ⟨b, off, x, y, hA, _, _, hg, hc0, hc1⟩ := (HR.out.keep HB.out hB).pair hk
      obtain ⟨b', off', x', y', hA', _, _, hg', hd0, hd1⟩ := (HR.out.keep HB.out hB).pair (k := j) (by omega)
      have hAA : b' = b ∧ off' = off := by rw [hA] at hA'; injection hA' with h; injection h with h1 h2; exact ⟨h1.symm, h2.symm⟩
      obtain ⟨rfl, rfl⟩ := hAA
      clear hA'
      have HG := Lib.hid hg
      have HG' := Lib.hid hg'
      have HJ := Lib.hid hj
      have hwj : IntKind.i64.wrap ((k : Int) - 1) = (j : Int) := by rw [IntWalk.i64_in _ (by omega)]; omega
      have hk1 : (k : Int) < (n : Int) := by omega
      have hkz : (0 : Int) ≤ (k : Int) := by omega
      have hj1 : (j : Int) < (n : Int) := by omega
      have hjz : (0 : Int) ≤ (j : Int) := by omega
      have d0 : decide ((0 : Int) < (k : Int)) = true := decide_eq_true (by omega)
      have d00 : decide (0 < k) = true := decide_eq_true hk0
      have HSW := Lib.hid (show ∀ wx, Below wr.heap.size wr wx → wx.cell? ⟨b', off' + k * 2, none⟩ = some (.int .i64 x) ∧ wx.cell? ⟨b', off' + k * 2 + 1, none⟩ = some (.int .i64 y) ∧ wx.cell? ⟨b', off' + j * 2, none⟩ = some (.int .i64 x') ∧ wx.cell? ⟨b', off' + j * 2 + 1, none⟩ = some (.int .i64 y') from by
        intro wx hb
        have hlt : b' < wr.heap.size := World.block_lt_of_cell? wr _ hc0
        exact ⟨(hb.cell (by exact hlt)).trans hc0, (hb.cell (by exact hlt)).trans hc1, (hb.cell (by exact hlt)).trans hd0, (hb.cell (by exact hlt)).trans hd1⟩)
      have HCT := Lib.hid (show ∀ wx, Below wr.heap.size wr wx → Calls Try.prog 69 #[.agg #[.int .i64 x, .int .i64 y], .agg #[.int .i64 x', .int .i64 y']] wx fun e w' => e = .returned (.int .i64 (cmpT (x, y) (x', y'))) ∧ Below wr.heap.size wr w' from fun wx hb => (compareTimers_any x y x' y' wx).mono fun e w' h => ⟨h.1, up hb h.2⟩)
      have hlt := cmpT_lt (x, y) (x', y')
      generalize cmpT (x, y) (x', y') = z at *
      subst hA
      clear hc0 hc1 hd0 hd1 hg hg' hj
      cases hb : tlt (x, y) (x', y') with
      | true =>
        rw [hb] at hlt
        have HX := Lib.hid (sort_not (ts := ts) (i := k) hk0 (by rw [HL.out]; exact hk) (by rw [tgdR HG.out, show k - 1 = j by have := HJ.out; omega, tgdR HG'.out]; exact hb))
        clear hb
        go_wp2_with (fail)
        go_region_held3 (fun wx => wx.cell? ⟨b', off' + k * 2, none⟩ = some (.int .i64 x) ∧ wx.cell? ⟨b', off' + k * 2 + 1, none⟩ = some (.int .i64 y) ∧ wx.cell? ⟨b', off' + j * 2, none⟩ = some (.int .i64 x') ∧ wx.cell? ⟨b', off' + j * 2 + 1, none⟩ = some (.int .i64 y'))
          (first | with_reducible exact HSW.out _ (Below.refl _ _) | with_reducible exact HSW.out _ (up_drew (Below.refl _ _)) | with_reducible exact HSW.out _ HX1.out)
          ((first
            | (go_at_call 69; (with_reducible refine (HCT.out _ (up_drew (Below.refl _ _))).mono ?_); rintro e w1 ⟨rfl, hb1⟩; have HX1 := Lib.hid hb1; clear hb1)
            | fail "no arm"))
        all_goals
          have HB1 := Lib.hid (up HB.out HX1.out)
          go_wp2
          go_ret
          exact ⟨by rw [HX.out]; rfl, HB1.out⟩
      | false =>
        rw [hb] at hlt
        have HS2 := Lib.hid (show sortFrom ts j from fun i h0 hi => by
          by_cases e : i = k
          · subst e
            rw [tgdR HG.out, show i - 1 = j by have := HJ.out; omega, tgdR HG'.out]
            exact hb
          · exact HS.out i (by have := HJ.out; omega) hi)
        clear hb
        go_wp2_with (fail)
        go_region_held3 (fun wx => wx.cell? ⟨b', off' + k * 2, none⟩ = some (.int .i64 x) ∧ wx.cell? ⟨b', off' + k * 2 + 1, none⟩ = some (.int .i64 y) ∧ wx.cell? ⟨b', off' + j * 2, none⟩ = some (.int .i64 x') ∧ wx.cell? ⟨b', off' + j * 2 + 1, none⟩ = some (.int .i64 y'))
          (first | with_reducible exact HSW.out _ (Below.refl _ _) | with_reducible exact HSW.out _ (up_drew (Below.refl _ _)) | with_reducible exact HSW.out _ HX1.out)
          ((first
            | (go_at_call 69; (with_reducible refine (HCT.out _ (up_drew (Below.refl _ _))).mono ?_); rintro e w1 ⟨rfl, hb1⟩; have HX1 := Lib.hid hb1; clear hb1)
            | fail "no arm"))
        all_goals
          have HB1 := Lib.hid (up HB.out HX1.out)
          clear HSW HCT
          go_wp2
          go_roundw
          case rel => exact ⟨j, by omega, by first | rfl | go_num, HS2, HB1⟩
          case measure => have := HJ.out; simp [intOf]; omega
    · obtain rfl : k = 0 := by omega
      have HX := Lib.hid (sort_all HS.out)
      go_wp2
      go_ret
      exact ⟨by rw [HX.out]; rfl, HB.out⟩
end Go.Proofs.Ytknphikoikdcjaa
