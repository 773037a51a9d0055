/- Merged: CopyS, SetsS, SetsS2. -/
import Derived.Test.YtknphikoikdcjaaGreatInstSA
import Derived.Test.YtknphikoikdcjaaGreatTokFireBB
/- The reference's copyInts, for any slice. -/
set_option linter.unusedSimpArgs false
set_option linter.unusedVariables false
namespace Go.Proofs.YtknphikoikdcjaaGreat
open Go.RowKit

theorem infoIntCp : (Tryz.prog.info? 3).map (fun i => (i.zero, i.size, i.bytes)) = some (some (.int .i64 0), 1, 8) := by kernel_rfl
set_option maxHeartbeats 400000 in
theorem copyIntsS_any (lo hi n c : Nat) (A : Option Addr) (ys : List Int) (w : World) (hr : Rd w lo hi 1 A n (ivs ys)) (hB : hi ≤ w.heap.size) (hn : n ≤ 1048576) :
    Calls Tryz.prog 64 #[.slice A n c] w fun e w' => ∃ v, e = .returned v ∧ w'.ownsRow w.heap.size 3 1 v n (ivs ys) ∧ Below w.heap.size w w' := by
  obtain ⟨i0, hi0, hz0, hz1, hz2⟩ := info_parts infoIntCp
  have hown1 : (w.alloc (.cells #[] 3)).ownsRow w.heap.size 3 1 (.slice (some ⟨w.heap.size, 0, none⟩) 0 0) 0 [] := World.ownsRow_made w #[] 0 (Nat.le_refl _) (by unfold maxLen; omega) (by simp)
  have hbl := up_alloc (Below.refl _ w) (.cells #[] 3)
  have hr1 := hr.keep hbl hB
  go_enter Tryz.func64, Tryz.ntmps64
  go_wp2_with (at_builtin; refine wpList_append_rd _ rfl _ _ 26 rfl w.heap.size 3 i0 (.int .i64 0) 1 8 Tryz.underlying26 hi0 hz0 hz1 hz2 rfl (by decide) _ _ _ rfl hown1 lo hi A n c (ivs ys) rfl hr1 (ivs_one ys) ?c3 ?c4 ?c5 ?_)
  case c3 => unfold maxLen; omega
  case c4 => omega
  case c5 => simp
  intro v2 w2 hown2 hg2 _
  have hb2 := up_grown hbl hown1 hg2 (Nat.le_refl _)
  try simp only [Nat.zero_add, List.nil_append] at hown2
  have HO := Lib.hid hown2
  clear hown1 hown2 hg2 hr1 hbl
  go_wp2
  go_ret
  exact ⟨v2, rfl, HO.out, hb2⟩
end Go.Proofs.YtknphikoikdcjaaGreat


/- The reference's validSets. -/
namespace Go.Proofs.YtknphikoikdcjaaGreat
open Go.RowKit

/-- A value for a variable. -/
def okSet (s : Int × Int) : Bool := inR s.1 0 3 && inR s.2 (-9999) 9999
def vSets (l : List (Int × Int)) : Bool := l.all okSet && decide (l.length ≤ 4)
/-- Values after some are set. -/
def withOf (vs : List Int) (l : List (Int × Int)) : List Int := l.foldl (fun us s => us.set s.1.toNat s.2) vs
theorem withOf_snoc (vs : List Int) (l : List (Int × Int)) (s : Int × Int) : withOf vs (l ++ [s]) = (withOf vs l).set s.1.toNat s.2 := by simp [withOf]
theorem withOf_len (vs : List Int) (l : List (Int × Int)) : (withOf vs l).length = vs.length := by
  unfold withOf
  induction l generalizing vs with
  | nil => rfl
  | cons s l ih => rw [List.foldl_cons, ih]; simp
theorem vSets_bad {l : List (Int × Int)} {k : Nat} {s : Int × Int} (h : l[k]? = some s) (hs : okSet s = false) : vSets l = false := by
  unfold vSets
  have : l.all okSet = false := by
    rw [Bool.eq_false_iff]; intro ha
    rw [List.all_eq_true.1 ha s (List.mem_of_getElem? h)] at hs; cases hs
  rw [this]; rfl
theorem sets_step {l : List (Int × Int)} {k : Nat} {s : Int × Int} (hg : l[k]? = some s) (h : (l.take k).all okSet = true) (hs : okSet s = true) : (l.take (k + 1)).all okSet = true := by
  rw [take_snoc hg, List.all_append, h]; simp [hs]
set_option maxRecDepth 100000 in
set_option maxHeartbeats 1600000 in
theorem validSetsS_any (lo hi n c : Nat) (A : Option Addr) (l : List (Int × Int)) (w : World) (hr : Rd w lo hi 2 A n (pvs l)) (hn : n ≤ 1048576) :
    Calls Tryz.prog 92 #[.slice A n c] w fun e w' => e = .returned (.bool (vSets l)) ∧ w = w' := by
  have HL := Lib.hid hr.len2
  go_enter Tryz.func92, Tryz.ntmps92
  go_wp2
  go_loop [3] (fun iv => ∃ (k : Nat), k ≤ n ∧ iv = .int .i64 k ∧ Hid ((l.take k).all okSet = true))
     (fun iv => n - (intOf iv).toNat)
  case atStart => exact ⟨0, by omega, rfl, rfl⟩
  case round =>
    obtain ⟨k, hk, rfl, hS⟩ := hrel
    by_cases hlt : k < n
    · obtain ⟨b, off, x, y, hA, hbB, _, hg, hc0, hc1⟩ := hr.pair hlt
      subst hA
      have hkn : (k : Int) < (n : Int) := by omega
      have hk0 : (0 : Int) ≤ (k : Int) := by omega
      have HG := Lib.hid hg
      clear hg
      cases h0 : inR x 0 3 with
      | false =>
        have HX := Lib.hid (show vSets l = false from vSets_bad HG.out (by simp [okSet, h0]))
        go_wp2_with (go_at_call 101; refine (inRange_any _ _ _ _).mono ?_; rintro e w' ⟨rfl, rfl⟩)
        go_ret
        exact ⟨ret_bool HX.out.symm, rfl⟩
      | true =>
      cases h1 : inR y (-9999) 9999 with
      | false =>
        have HX := Lib.hid (show vSets l = false from vSets_bad HG.out (by simp [okSet, h0, h1]))
        go_wp2_with (go_at_call 101; refine (inRange_any _ _ _ _).mono ?_; rintro e w' ⟨rfl, rfl⟩)
        go_ret
        exact ⟨ret_bool HX.out.symm, rfl⟩
      | true =>
        have HS := Lib.hid (sets_step HG.out hS.out (show okSet (x, y) = true by simp [okSet, h0, h1]))
        go_wp2_with (go_at_call 101; refine (inRange_any _ _ _ _).mono ?_; rintro e w' ⟨rfl, rfl⟩)
        go_round
        case rel => exact ⟨k + 1, by omega, by go_num, HS⟩
        case measure => simp [intOf]; omega
    · obtain rfl : n = k := by omega
      have hal : l.take n = l := List.take_of_length_le (by have := HL.out; omega)
      rw [hal] at hS
      by_cases hm : n ≤ 4
      · have HX2 := Lib.hid (show vSets l = true by rw [vSets, hS.out, HL.out, decide_eq_true hm]; rfl)
        go_wp2
        go_ret
        exact ⟨ret_bool (by rw [HX2.out]; exact decide_eq_true (by omega)), rfl⟩
      · have HX2 := Lib.hid (show vSets l = false by rw [vSets, HL.out, decide_eq_false hm]; simp)
        go_wp2
        go_ret
        exact ⟨ret_bool (by rw [HX2.out]; exact decide_eq_false (by omega)), rfl⟩
end Go.Proofs.YtknphikoikdcjaaGreat


/- The reference's withSets. -/
namespace Go.Proofs.YtknphikoikdcjaaGreat
open Go.RowKit

set_option maxRecDepth 100000 in
set_option maxHeartbeats 1600000 in
theorem withSetsS_any (lov hiv cv : Nat) (Av : Option Addr) (vs : List Int) (los his n c : Nat) (A : Option Addr) (l : List (Int × Int)) (w : World) (hv : Rd w lov hiv 1 Av 4 (ivs vs)) (hBv : hiv ≤ w.heap.size) (hs : Rd w los his 2 A n (pvs l)) (hBs : his ≤ w.heap.size) (hn : n ≤ 1048576) (hS : vSets l = true) :
    Calls Tryz.prog 95 #[.slice Av 4 cv, .slice A n c] w fun e w' => ∃ v, e = .returned v ∧ w'.ownsRow w.heap.size 3 1 v 4 (ivs (withOf vs l)) ∧ Below w.heap.size w w' := by
  have HL := Lib.hid hs.len2
  have HLV := Lib.hid hv.len1
  have HOK := Lib.hid (show ∀ s ∈ l, 0 ≤ s.1 ∧ s.1 ≤ 3 from fun s h => by
    have h1 : l.all okSet = true := by simp only [vSets, Bool.and_eq_true] at hS; exact hS.1
    have := List.all_eq_true.1 h1 s h
    simp only [okSet, Bool.and_eq_true, inR_iff] at this
    exact this.1)
  have HC := Lib.hid (copyIntsS_any lov hiv 4 cv Av vs w hv hBv (by omega))
  clear hS
  go_enter Tryz.func95, Tryz.ntmps95
  go_wp2_with (fail)
  (with_reducible refine HC.out.mono ?_)
  clear HC
  rintro e w1 ⟨v1, rfl, hown1, hb1⟩
  obtain ⟨g, cg, rfl, hg1, _⟩ := own_first hown1 (by omega)
  have HO1 := Lib.hid (show w1.ownsRow w.heap.size 3 1 (.slice (some ⟨g, 0, none⟩) 4 cg) 4 (ivs (withOf vs (l.take 0))) from hown1)
  have HB1 := Lib.hid hb1
  clear hown1 hb1
  go_wp2
  go_loopw [6] (fun iv wr => ∃ (k : Nat), k ≤ n ∧ iv = .int .i64 k ∧ Hid (wr.ownsRow w.heap.size 3 1 (.slice (some ⟨g, 0, none⟩) 4 cg) 4 (ivs (withOf vs (l.take k)))) ∧ Hid (Below w.heap.size w wr))
     (fun iv _ => n - (intOf iv).toNat)
  case atStart => exact ⟨0, by omega, rfl, HO1, HB1⟩
  case round =>
    clear HO1 HB1
    obtain ⟨k, hk, rfl, HO, HB⟩ := hrel
    by_cases hlt : k < n
    · obtain ⟨b, off, x, y, rfl, hbh, _, hg, hc0, hc1⟩ := (hs.keep HB.out hBs).pair hlt
      have hxb := HOK.out _ (List.mem_of_getElem? hg)
      simp only at hxb
      obtain ⟨q, rfl⟩ : ∃ q : Nat, x = (q : Int) := ⟨x.toNat, by omega⟩
      have hkn : (k : Int) < (n : Int) := by omega
      have hk0 : (0 : Int) ≤ (k : Int) := by omega
      have hq4 : (q : Int) < 4 := by omega
      have hq0 : (0 : Int) ≤ (q : Int) := by omega
      have hd0 := HO.out.cellAt q (by omega)
      have hf0 := HO.out.frozenAt q
      have hlen : (withOf vs (l.take k)).length = 4 := by rw [withOf_len, HLV.out]
      rw [ivs_at (by omega)] at hd0
      have hst := (HO.out.stored q (.int .i64 y)).1
      rw [ivs_set] at hst
      have HST := Lib.hid (show (wr.setCell ⟨g, q, none⟩ (.int .i64 y)).ownsRow w.heap.size 3 1 (.slice (some ⟨g, 0, none⟩) 4 cg) 4 (ivs (withOf vs (l.take (k + 1)))) by
        rw [take_snoc hg, withOf_snoc]
        exact hst)
      have HB5 := Lib.hid (HB.out.setCell (p := ⟨g, q, none⟩) (by show w.heap.size ≤ g; omega) (.int .i64 y))
      clear hg hst hlen hxb HO
      go_wp2_with (fail)
      go_region
      all_goals
        go_wp2
        go_roundw
        case rel => exact ⟨k + 1, by omega, by go_num, HST.out.drew, up_drew HB5.out⟩
        case measure => simp [intOf]; omega
    · obtain rfl : n = k := by omega
      have hal : l.take n = l := List.take_of_length_le (by have := HL.out; omega)
      rw [hal] at HO
      go_wp2
      go_ret
      exact ⟨_, rfl, HO.out, HB.out⟩
end Go.Proofs.YtknphikoikdcjaaGreat

