/- The program's tokens of a migration. -/
import Derived.Test.YtmhbfdcikdhehaaMoveMath
import Derived.Test.YtmhbfdcikdhehaaTokList
import Derived.Test.YtmhbfdcikdhehaaTokNet
set_option linter.unusedSimpArgs false
set_option linter.unusedVariables false
namespace Go.Proofs.Ytmhbfdcikdhehaa
open Go.RowKit Go.Maps

set_option maxRecDepth 100000 in
set_option maxHeartbeats 800000 in
theorem mostS_any (mb m : Nat) (ms : List Int) (w : World) (hm : IMap Try.prog 3 w mb m (someAt ms)) :
    Calls Try.prog 66 #[.map (some mb)] w fun e w' => e = .returned (.int .i64 (maxOf ms)) ∧ Below w.heap.size w w' := by
  obtain ⟨D, hown, hD⟩ := hm
  have hbl := hown.lt
  have hst : ∀ (i : Nat) (c : Int), ms[i]? = some c → Maps.has D (.int .i64 (i : Int)) = true ∨ c = 0 := by
    intro i c hi
    cases hh : Maps.has D (.int .i64 (i : Int)) with
    | true => exact .inl rfl
    | false =>
      have h1 := atKey_of_not_has hh .nil
      rw [hD] at h1
      cases hs : someAt ms (i : Int) with
      | none => exact .inr (someAt_zero hi hs)
      | some v => rw [hs] at h1; simp [asHeld] at h1
  go_enter Try.func66, Try.ntmps66
  go_wp2_with (first
    | (at_range; refine wpList_range_own _ rfl _ 76 rfl 3 3 keyedInt Try.underlying76 heldR mb m D rfl hown ?_; intro w0 hrg0 hg0 hs0)
    | go_in)
  go_frame
  have hb0 : Below w.heap.size w w0 := (Below.refl _ _).grown hg0 (Nat.le_refl _) (by simp)
  go_loopw [3] (fun sv wr => ∃ (left : Lit → Bool) (cnt : Nat), sv = .int .i64 (dmax left 0 ms) ∧ wr.ranges Try.prog 3 heldR mb w.heap.size m D left cnt ∧ Below w.heap.size w wr ∧ w.heap.size < wr.heap.size)
    (fun _ wr => wr.rangeLeft mb w.heap.size)
  case atStart => exact ⟨_, _, by rw [dmax_start0 ms 0 (fun i c hi => by rw [Nat.zero_add]; exact hst i c hi)], hrg0, hb0, by omega⟩
  case round =>
    clear hrg0 hg0 hs0 hb0
    obtain ⟨left, cnt, rfl, hrg, hb, hsz⟩ := hrel
    have HB := Lib.hid hb
    go_wp2_with (first
      | (at_next; refine wpList_next_ranges _ rfl _ rfl 3 keyedInt heldR (Value.int .i64) id (fun key kl hkey => by obtain ⟨x, rfl, _⟩ := Maps.keyOf_int_inv Try.underlying3 hkey; exact ⟨x, rfl⟩) (fun v y hv => ⟨v, rfl⟩) mb w.heap.size m D left cnt rfl hrg ?_ ?_)
      | go_in)
    · intro hc0 hl0
      rw [dmax_end hl0]
      go_wp2
      go_ret
      exact ⟨rfl, HB.out⟩
    · intro x c kl y ps w1 cnt1 hkey hlx hR hat hrg1 hlt hg1 hs1 hen
      obtain ⟨x', ex, rfl, hwx⟩ := Maps.keyOf_int_inv Try.underlying3 hkey
      cases ex
      have hc : y = .held c := by simp [heldR] at hR; rw [← hR.1]
      have h1 := hat .nil
      rw [hD, hc] at h1
      obtain ⟨i, q, rfl, hi, rfl⟩ := someAt_some (asHeld_inj (a := someAt ms x) (b := some c) h1)
      have hst1 := dmax_step (left := left) ms 0 i q hi (by rw [Nat.zero_add]; exact hlx)
      rw [Nat.zero_add] at hst1
      have HH := Lib.hid hst1
      have HR1 := Lib.hid hrg1
      have HR0 := Lib.hid hrg
      have HB1 := Lib.hid (HB.out.grown hg1 HB.out.size (fun j hj => by cases hj; exact Nat.le_refl _))
      clear hst1 hR hc h1 hkey hlx hat hi hrg1 hrg hwx hb
      generalize dmax left 0 ms = S at *
      go_wp2
      go_roundw
      case rel => exact ⟨_, cnt1, by rw [HH.out], HR1.out, HB1.out, by omega⟩
      case measure => rw [HR1.out.left_eq, HR0.out.left_eq]; exact hlt
/-- The flow to which one is mapped, if to one. -/
def flAt (fl : List Int) (z : Int) : Option Value := if 0 ≤ z then (match fl[z.toNat]? with | some f => if f = -1 then none else some (.int .i64 f) | none => none) else none
theorem flAt_in {fl : List Int} {i : Nat} {f : Int} (h : fl[i]? = some f) : flAt fl (i : Int) = if f = -1 then none else some (.int .i64 f) := by
  unfold flAt
  have h1 : (0 : Int) ≤ (i : Int) := by omega
  simp only [h1, if_true, Int.toNat_natCast, h]
theorem ranges_cnt {P : Program} {k : TypeId} {R : Value → Option (DataW Value × List MemPlace)} {w : World} {b r n : Nat} {D : DataW Value} {left : Lit → Bool} {cnt : Nat} (h : w.ranges P k R b r n D left cnt) : cnt ≤ n := by
  obtain ⟨es, clock, since, seen, c0, _, _, hs, _, _, _, hc, _⟩ := h
  rw [← hc]
  unfold leftOf
  exact Nat.le_trans Array.size_filter_le hs
theorem placed_of {fl ms : List Int} (h : ∀ (i : Nat) (f m : Int), fl[i]? = some f → ms[i]? = some m → ¬ (f < 0 ∧ 0 < m)) : placed fl ms = true := by
  unfold placed
  rw [List.all_eq_true]
  intro p hp
  obtain ⟨i, hi, he⟩ := List.getElem_of_mem hp
  have h1 : (fl.zip ms)[i]? = some p := by rw [List.getElem?_eq_getElem hi, he]
  obtain ⟨f, m⟩ := p
  rw [List.getElem?_zip_eq_some] at h1
  have := h i f m h1.1 h1.2
  simp only [Bool.not_eq_true', Bool.and_eq_false_iff, decide_eq_false_iff_not]
  omega

set_option maxRecDepth 100000 in
set_option maxHeartbeats 3200000 in
theorem tokensI_any (v0 v1 v2 v3 v4 v5 v6 v7 : Value) (fb fm mb m : Nat) (fl ms : List Int) (N : Nat) (w : World) (hfm : IMap Try.prog 3 w fb fm (flAt fl)) (hm : IMap Try.prog 3 w mb m (markAt ms))
    (h03 : ∀ z ∈ ms, 0 ≤ z ∧ z ≤ 3) (h14 : ms.length ≤ 14) (hm14 : m ≤ 14) (hll : fl.length = ms.length) (hfl : ∀ f ∈ fl, -1 ≤ f ∧ f ≤ (N : Int) - 1) (hN : N ≤ 14) :
    Calls Try.prog 36 #[.agg #[v0, v1, v2, v3, v4, v5, v6, v7, .map (some fb)], .map (some mb)] w fun e w' =>
      (placed fl ms = false ∧ e = .returned (.tuple #[.map none, .bool false]) ∧ Below w.heap.size w w') ∨
      (placed fl ms = true ∧ ∃ nb n, e = .returned (.tuple #[.map (some nb), .bool (decide (maxOf (movedTo fl ms N) ≤ 3))]) ∧ IMap Try.prog 3 w' nb n (someAt (movedTo fl ms N)) ∧ w.heap.size ≤ nb ∧ Below w.heap.size w w') := by
  have hblm := hm.lt
  have hblf := hfm.lt
  obtain ⟨D, hown, hD⟩ := hm
  have hst : ∀ i, i < ms.length → Maps.has D (.int .i64 (i : Int)) = true := by
    intro i hi
    cases hh : Maps.has D (.int .i64 (i : Int)) with
    | true => rfl
    | false =>
      have h1 := atKey_of_not_has hh .nil
      rw [hD, markAt_mem hi] at h1
      simp [asHeld] at h1
  have hb1 := up_alloc (up_alloc (Below.refl _ w) (.cells #[v0, v1, v2, v3, v4, v5, v6, v7, .map (some fb)] 73)) (.map #[] 0)
  have hbk := (Blk.new w 73 #[v0, v1, v2, v3, v4, v5, v6, v7, .map (some fb)]).alloc (.map #[] 0)
  have hs1 : ((w.alloc (.cells #[v0, v1, v2, v3, v4, v5, v6, v7, .map (some fb)] 73)).alloc (.map #[] 0)).heap.size = w.heap.size + 1 + 1 := by simp
  have hnx := IMap.made Try.prog 3 (w.alloc (.cells #[v0, v1, v2, v3, v4, v5, v6, v7, .map (some fb)] 73))
  rw [show (w.alloc (.cells #[v0, v1, v2, v3, v4, v5, v6, v7, .map (some fb)] 73)).heap.size = w.heap.size + 1 by simp] at hnx
  have hown1 := (hown.alloc (.cells #[v0, v1, v2, v3, v4, v5, v6, v7, .map (some fb)] 73)).alloc (.map #[] 0)
  have hmm := @run_makeMap Try.prog
  go_enter Try.func36, Try.ntmps36
  go_wp2_with (first
    | (at_range; refine wpList_range_own _ rfl _ 76 rfl 3 3 keyedInt Try.underlying76 heldR mb m D rfl hown1 ?_; intro w0 hrg0 hg0 hs0)
    | go_in)
  go_frame
  rw [hs1] at hrg0 hs0 ⊢
  have HB0 := Lib.hid (hb1.grown hg0 hb1.size (by simp))
  have HNX0 := Lib.hid ((hnx.kept hg0 (by simp)).congr (fun z => (nextMap_start (fl := fl) (left := Maps.has D) hll hst z).symm))
  have HK0 := Lib.hid (hbk.grown hg0 (by simp))
  have hc0 := ranges_cnt hrg0
  have HRG0 := Lib.hid hrg0
  have HST := Lib.hid hst
  clear hg0 hnx hbk hb1 hown1 hown hrg0 hst hs1 hmm
  go_loopw [7] (fun _ wr => ∃ (left : Lit → Bool) (cnt n : Nat), Hid (wr.ranges Try.prog 3 heldR mb (w.heap.size + 1 + 1) m D left cnt) ∧ Hid (IMap Try.prog 3 wr (w.heap.size + 1) n (nextMap fl ms left)) ∧ n + cnt ≤ 14 ∧ Hid (Below w.heap.size w wr) ∧ w.heap.size + 1 + 1 < wr.heap.size ∧ Hid (Blk wr w.heap.size 73 #[v0, v1, v2, v3, v4, v5, v6, v7, .map (some fb)]) ∧ Hid (∀ (i : Nat) (f q : Int), fl[i]? = some f → ms[i]? = some q → left (.int .i64 (i : Int)) = false → ¬ (f < 0 ∧ 0 < q)))
    (fun _ wr => wr.rangeLeft mb (w.heap.size + 1 + 1))
  case atStart => exact ⟨_, _, 0, HRG0, HNX0, by omega, HB0, by omega, HK0, fun i f q h1 h2 h3 => by
    have := HST.out i (List.getElem?_eq_some_iff.1 h2).1
    rw [this] at h3; cases h3⟩
  case round =>
    clear HRG0 HNX0 HB0 HK0 hs0 hc0
    obtain ⟨left, cnt, n, HRG, HNX, hnc, HB, hsz, HK, HPL⟩ := hrel
    have hrg := HRG.out
    go_wp2_with (first
      | (at_next; refine wpList_next_ranges _ rfl _ rfl 3 keyedInt heldR (Value.int .i64) id (fun key kl hkey => by obtain ⟨x, rfl, _⟩ := Maps.keyOf_int_inv Try.underlying3 hkey; exact ⟨x, rfl⟩) (fun v y hv => ⟨v, rfl⟩) mb (w.heap.size + 1 + 1) m D left cnt rfl hrg ?_ ?_)
      | go_in)
    · intro hc0 hl0
      have HP := Lib.hid (placed_of (fl := fl) (ms := ms) fun i f q h1 h2 => HPL.out i f q h1 h2 (hl0 _))
      have HN2 := Lib.hid (HNX.out.congr (fun z => (nextMap_end hl0 z).trans (lastMap_some (N := N) (fun f hf => (hfl f hf).2) HP.out (fun x hx => (h03 x hx).1) z)))
      have HM := Lib.hid (mostS_any (w.heap.size + 1) n (movedTo fl ms N) wr HN2.out)
      clear hl0 hrg HRG HNX HPL HK
      go_wp2_with (fail)
      (with_reducible refine HM.out.mono ?_)
      clear HM
      rintro e w3 ⟨rfl, hb3⟩
      have HB3 := Lib.hid (up HB.out hb3)
      have HN3 := Lib.hid (HN2.out.keep hb3 HN2.out.lt)
      clear hb3 HN2 HB
      go_wp2
      exact bodyPost_ret (v := .tuple #[.map (some (w.heap.size + 1)), .bool (decide (maxOf (movedTo fl ms N) ≤ 3))]) (by simp [results, Try.results36, go_sem]) rfl (.inr ⟨HP.out, _, _, rfl, HN3.out, by omega, HB3.out⟩)
    · intro x c kl y ps w1 cnt1 hkey hlx hR hat hrg1 hlt hg1 hs1 hen
      obtain ⟨x', ex, rfl, hwx⟩ := Maps.keyOf_int_inv Try.underlying3 hkey
      cases ex
      have hc : y = .held c := by simp [heldR] at hR; rw [← hR.1]
      have h1 := hat .nil
      rw [hD, hc] at h1
      obtain ⟨i, q, rfl, hi, rfl⟩ := markAt_some (asHeld_inj (a := markAt ms x) (b := some c) h1)
      have hq := h03 q (List.mem_of_getElem? hi)
      have hil : i < ms.length := (List.getElem?_eq_some_iff.1 hi).1
      obtain ⟨f, hf⟩ : ∃ f, fl[i]? = some f := ⟨_, List.getElem?_eq_getElem (by omega)⟩
      have hff := hfl f (List.mem_of_getElem? hf)
      have hi64 : in64 (i : Int) := by unfold in64; omega
      have HR1 := Lib.hid hrg1
      have HLX := Lib.hid hlx
      have HI := Lib.hid hi
      have HF := Lib.hid hf
      have HB1 := Lib.hid (HB.out.grown hg1 HB.out.size (fun j hj => by cases hj; omega))
      have HN1 := Lib.hid (HNX.out.kept hg1 (by simp))
      have HK1 := Lib.hid (HK.out.grown hg1 (by simp; omega))
      have HFM := Lib.hid (hfm.keep HB1.out hblf)
      have HM1 := Lib.hid (show w1.rangeLeft mb (w.heap.size + 1 + 1) < wr.rangeLeft mb (w.heap.size + 1 + 1) from by rw [HR1.out.left_eq, HRG.out.left_eq]; exact hlt)
      clear hR hc h1 hkey hlx hat hi hf hrg1 hrg hwx HB HNX HK HRG hg1
      have m8 : w1.cell? ⟨w.heap.size, 8, none⟩ = some (.map (some fb)) := HK1.out.cell 8
      by_cases hq0 : q = 0
      · subst hq0
        have HN2 := Lib.hid (HN1.out.congr (fun z => nextMap_zero HF.out HI.out HLX.out z))
        clear HN1 m8
        go_wp2
        go_roundw
        case rel => exact ⟨_, cnt1, n, HR1, HN2, by omega, HB1, by omega, HK1, fun i' f' q' h1 h2 h3 => by
          by_cases e : i' = i
          · subst e; rw [HI.out] at h2; injection h2 with h2; omega
          · exact HPL.out i' f' q' h1 h2 (by simp only [same_int] at h3; rw [decide_eq_false (by omega)] at h3; simpa using h3)⟩
        case measure => exact HM1.out
      · have hqq : (q == 0) = false := by simpa using hq0
        have hlk := HFM.out.lookOk keyedInt Try.underlying3 Try.underlying71 (zeroIntT w1) hi64 rfl
        rw [flAt_in HF.out] at hlk
        by_cases hfm1 : f = -1
        · subst hfm1
          rw [if_pos rfl] at hlk
          have HP := Lib.hid (placed_no HF.out HI.out (by omega) (by omega))
          clear HN1
          go_wp2
          exact bodyPost_ret (v := .tuple #[.map none, .bool false]) (by simp [results, Try.results36, go_sem]) rfl (.inl ⟨HP.out, rfl, HB1.out⟩)
        · rw [if_neg hfm1] at hlk
          have hf64 : in64 f := by unfold in64; omega
          have hl2 := HN1.out.look keyedInt Try.underlying3 Try.underlying76 (zeroIntT w1) hf64 rfl
          rw [nextMap_get] at hl2
          have hbd := nextAt_bd (fl := fl) (left := left) h03 hll h14 f
          have HPT := Lib.hid (fun z => nextMap_put (left := left) h03 hll h14 HF.out HI.out (by omega) HLX.out z)
          generalize nextAt fl ms left f = x at *
          have hwr : IntKind.i64.wrap (x + q) = x + q := IntWalk.i64_in _ (by omega)
          obtain ⟨w4, hrun, him4, hgr⟩ := HN1.out.put keyedInt Try.underlying3 Try.underlying76 (by unfold maxLen; omega) hf64 (.int .i64 (x + q))
          have HN4 := Lib.hid (him4.congr (fun z => HPT.out z))
          have HB4 := Lib.hid (HB1.out.grown hgr HB1.out.size (fun j hj => by injection hj with hj; omega))
          have HR4 := Lib.hid (HR1.out.kept hgr (by simp; omega) (by simp))
          have HK4 := Lib.hid (HK1.out.grown hgr (by simp))
          have hsz4 := hgr.size
          have HM4 := Lib.hid (show w4.rangeLeft mb (w.heap.size + 1 + 1) < wr.rangeLeft mb (w.heap.size + 1 + 1) from by rw [HR4.out.left_eq, ← HR1.out.left_eq]; exact HM1.out)
          clear him4 hgr HN1 HB1 HR1 HK1 HFM HM1
          go_wp2
          go_roundw
          case rel => exact ⟨_, cnt1, n + 1, HR4, HN4, by omega, HB4, by omega, HK4, fun i' f' q' h1 h2 h3 => by
            by_cases e : i' = i
            · subst e; rw [HF.out] at h1; injection h1 with h1; omega
            · exact HPL.out i' f' q' h1 h2 (by simp only [same_int] at h3; rw [decide_eq_false (by omega)] at h3; simpa using h3)⟩
          case measure => exact HM4.out
end Go.Proofs.Ytmhbfdcikdhehaa
