/- NotCondition, the program's and the specification's: a condition with the part that turns around behind it. -/
import Derived.Test.YtakpjhiodmgccabCondParts
import Derived.Test.YtakpjhiodmgccabCondSpec
namespace Go.Proofs.Ytakpjhiodmgccab
open Go.RowKit

theorem infoPartN : (Try.prog.info? 46).map (fun i => (i.zero, i.size, i.bytes)) = some (some (.agg #[.int .i64 0, .int .i64 0]), 2, 16) := by kernel_rfl

/-- The opposite of a condition. -/
def notOf (ps : List (Int × Int)) : Option (List (Int × Int)) := if vCond ps = true ∧ ps.length ≠ 12 then some (ps ++ [(2, 0)]) else none
def NotPost (ps : List (Int × Int)) (w : World) (e : Ending) (w' : World) : Prop :=
  (notOf ps = none ∧ NilFalse w e w') ∨
  ∃ A c, notOf ps = some (ps ++ [(2, 0)]) ∧ e = .returned (.tuple #[.slice A (ps.length + 1) c, .bool true]) ∧ ps.length + 1 ≤ c ∧ Rd w' w.heap.size w'.heap.size 2 A (ps.length + 1) (pvs (ps ++ [(2, 0)])) ∧ Soft w' 2 A (ps.length + 1) ∧ Below w.heap.size w w'

set_option maxRecDepth 100000 in
set_option maxHeartbeats 800000 in
theorem notI_any (lo hi n c : Nat) (A : Option Addr) (ps : List (Int × Int)) (w : World) (hr : Rd w lo hi 2 A n (pvs ps)) (hB : hi ≤ w.heap.size) (hn : n ≤ 1048576) :
    Calls Try.prog 45 #[.slice A n c] w (NotPost ps w) := by
  have HL := Lib.hid hr.len2
  obtain ⟨i0, hi0, hz0, hz1, hz2⟩ := info_parts infoPartN
  by_cases hV : vCond ps = true
  · have HV := Lib.hid hV
    have hlen := vCond_len hV
    rw [HL.out] at hlen
    by_cases h12 : n = 12
    · have hN : notOf ps = none := by simp [notOf, HL.out, h12]
      have HN := Lib.hid hN; clear hN
      have h12' : ((n : Int) == 12) = true := by simp; omega
      clear h12
      go_enter Try.func45, Try.ntmps45
      go_wp2_with (fail)
      refine (ValidConditionI_any lo hi n c A ps _ hr hB hn).mono ?_
      rintro e w1 ⟨rfl, hb1⟩
      rw [hV]
      go_wp2
      go_ret2
      exact .inl ⟨HN.out, rfl, hb1⟩
    · have hN : notOf ps = some (ps ++ [(2, 0)]) := by rw [notOf, if_pos ⟨hV, by rw [HL.out]; exact h12⟩]
      have HN := Lib.hid hN; clear hN
      have h12' : ((n : Int) == 12) = false := by simp; omega
      clear h12
      go_enter Try.func45, Try.ntmps45
      go_wp2_with (fail)
      refine (ValidConditionI_any lo hi n c A ps _ hr hB hn).mono ?_
      rintro e w1 ⟨rfl, hb1⟩
      rw [hV]
      clear hV
      obtain ⟨wm, hmk, hown, hgr⟩ := run_make_own (P := Try.prog) w1 w.heap.size 34 46 i0 _ 2 Try.underlying34 hi0 hz0 hz1 .i64 .i64 (n + 1) (by rw [hz2]; omega) (by unfold maxLen; omega) hb1.size
      have ec : ((n + 1 : Nat) : Int) = (n : Int) + 1 := by omega
      rw [ec] at hmk
      clear ec
      have hbm : Below w.heap.size w wm := hb1.grown hgr hb1.size (by simp)
      clear hgr hb1
      have hrm := hr.keep hbm hB
      obtain ⟨b, off, rfl, _, hbh⟩ := hr.form (by omega)
      go_wp2_with (at_builtin; refine wpList_append_own _ rfl (.tmp 17) (.tmp 18) 34 rfl w.heap.size 46 i0 _ 2 16 Try.underlying34 hi0 hz0 hz1 hz2 rfl (by decide) _ _ _ rfl hown ⟨b, off, none⟩ n c (pvs ps) rfl hrm.1 hrm.src (pvs_one ps) ?d3 ?d4 ?d5 ?_)
      case d3 => unfold maxLen; omega
      case d4 => omega
      case d5 => exact hbm.size
      intro v2 w2 hown2 hg2 _
      have hb2 := up_grown hbm hown hg2 (Nat.le_refl _)
      clear hown hmk hbm hrm hg2
      try simp only [Nat.zero_add, List.nil_append] at hown2
      go_wp2_with (at_builtin; refine wpList_append_own _ rfl (.tmp 20) (.tmp 22) 34 rfl w.heap.size 46 i0 _ 2 16 Try.underlying34 hi0 hz0 hz1 hz2 rfl (by decide) _ _ _ rfl (hown2.alloc _) _ 1 1 [.int .i64 2, .int .i64 0] rfl rfl (World.news_of_block (heap_alloc_new _ _)) ?c2 ?c3 ?c4 ?c5 ?_)
      case c2 => intro u hu; simp at hu; rcases hu with rfl | rfl <;> rfl
      case c3 => unfold maxLen; omega
      case c4 => omega
      case c5 => have := hb2.size; simp; omega
      intro v3 w3 hown3 hg3 _
      have hb3 := up_grown (up_alloc hb2 _) (hown2.alloc _) hg3 (Nat.le_refl _)
      have HO := Lib.hid hown3
      clear hown2 hg3 hb2 hown3
      go_wp2
      go_ret2
      obtain ⟨A', c', hv, hc, hrd, hsf⟩ := own_form HO.out
      refine .inr ⟨A', c', HN.out, ?_, ?_, ?_, ?_, hb3⟩
      · rw [HL.out, ← hv]; rfl
      · rw [HL.out]; exact hc
      · rw [HL.out, pvs_append]; exact hrd
      · rw [HL.out]; exact hsf
  · have hN : notOf ps = none := by simp [notOf, hV]
    have HN := Lib.hid hN; clear hN
    have hV' : vCond ps = false := by simpa using hV
    go_enter Try.func45, Try.ntmps45
    go_wp2_with (fail)
    refine (ValidConditionI_any lo hi n c A ps _ hr hB hn).mono ?_
    rintro e w1 ⟨rfl, hb1⟩
    rw [hV']
    go_wp2
    go_ret2
    exact .inl ⟨HN.out, rfl, hb1⟩

set_option maxRecDepth 100000 in
set_option maxHeartbeats 800000 in
theorem notS_any (lo hi n c : Nat) (A : Option Addr) (ps : List (Int × Int)) (w : World) (hr : Rd w lo hi 2 A n (pvs ps)) (hB : hi ≤ w.heap.size) (hn : n ≤ 1048576) :
    Calls Try.prog 44 #[.slice A n c] w (NotPost ps w) := by
  have HL := Lib.hid hr.len2
  obtain ⟨i0, hi0, hz0, hz1, hz2⟩ := info_parts infoPartN
  by_cases hV : vCond ps = true
  · have HV := Lib.hid hV
    have hlen := vCond_len hV
    rw [HL.out] at hlen
    by_cases h12 : n = 12
    · have hN : notOf ps = none := by simp [notOf, HL.out, h12]
      have HN := Lib.hid hN; clear hN
      have h12' : ((n : Int) == 12) = true := by simp; omega
      clear h12
      go_enter Try.func44, Try.ntmps44
      go_wp2_with (fail)
      refine (validCondition_any lo hi n c A ps _ hr hB hn).mono ?_
      rintro e w1 ⟨rfl, hb1⟩
      rw [hV]
      go_wp2
      go_ret2
      exact .inl ⟨HN.out, rfl, hb1⟩
    · have hN : notOf ps = some (ps ++ [(2, 0)]) := by rw [notOf, if_pos ⟨hV, by rw [HL.out]; exact h12⟩]
      have HN := Lib.hid hN; clear hN
      have h12' : ((n : Int) == 12) = false := by simp; omega
      clear h12
      go_enter Try.func44, Try.ntmps44
      go_wp2_with (fail)
      refine (validCondition_any lo hi n c A ps _ hr hB hn).mono ?_
      rintro e w1 ⟨rfl, hb1⟩
      rw [hV]
      clear hV
      have hown : (w1.alloc (.cells #[] 46)).ownsRow w.heap.size 46 2 (.slice (some ⟨w1.heap.size, 0, none⟩) 0 0) 0 [] := World.ownsRow_made w1 #[] 0 hb1.size (by unfold maxLen; omega) (by simp)
      have hbm := up_alloc hb1 (.cells #[] 46)
      have hrm := hr.keep hbm hB
      obtain ⟨b, off, rfl, _, hbh⟩ := hr.form (by omega)
      go_wp2_with (at_builtin; refine wpList_append_own _ rfl (.tmp 12) (.tmp 13) 34 rfl w.heap.size 46 i0 _ 2 16 Try.underlying34 hi0 hz0 hz1 hz2 rfl (by decide) _ _ _ rfl hown ⟨b, off, none⟩ n c (pvs ps) rfl hrm.1 hrm.src (pvs_one ps) ?d3 ?d4 ?d5 ?_)
      case d3 => unfold maxLen; omega
      case d4 => omega
      case d5 => exact hbm.size
      intro v2 w2 hown2 hg2 _
      have hb2 := up_grown hbm hown hg2 (Nat.le_refl _)
      clear hown hbm hrm hg2 hb1
      try simp only [Nat.zero_add, List.nil_append] at hown2
      go_wp2_with (at_builtin; refine wpList_append_own _ rfl (.tmp 14) (.tmp 16) 34 rfl w.heap.size 46 i0 _ 2 16 Try.underlying34 hi0 hz0 hz1 hz2 rfl (by decide) _ _ _ rfl (hown2.alloc _) _ 1 1 [.int .i64 2, .int .i64 0] rfl rfl (World.news_of_block (heap_alloc_new _ _)) ?c2 ?c3 ?c4 ?c5 ?_)
      case c2 => intro u hu; simp at hu; rcases hu with rfl | rfl <;> rfl
      case c3 => unfold maxLen; omega
      case c4 => omega
      case c5 => have := hb2.size; simp; omega
      intro v3 w3 hown3 hg3 _
      have hb3 := up_grown (up_alloc hb2 _) (hown2.alloc _) hg3 (Nat.le_refl _)
      have HO := Lib.hid hown3
      clear hown2 hg3 hb2 hown3
      go_wp2
      go_ret2
      obtain ⟨A', c', hv, hc, hrd, hsf⟩ := own_form HO.out
      refine .inr ⟨A', c', HN.out, ?_, ?_, ?_, ?_, hb3⟩
      · rw [HL.out, ← hv]; rfl
      · rw [HL.out]; exact hc
      · rw [HL.out, pvs_append]; exact hrd
      · rw [HL.out]; exact hsf
  · have hN : notOf ps = none := by simp [notOf, hV]
    have HN := Lib.hid hN; clear hN
    have hV' : vCond ps = false := by simpa using hV
    go_enter Try.func44, Try.ntmps44
    go_wp2_with (fail)
    refine (validCondition_any lo hi n c A ps _ hr hB hn).mono ?_
    rintro e w1 ⟨rfl, hb1⟩
    rw [hV']
    go_wp2
    go_ret2
    exact .inl ⟨HN.out, rfl, hb1⟩
end Go.Proofs.Ytakpjhiodmgccab
