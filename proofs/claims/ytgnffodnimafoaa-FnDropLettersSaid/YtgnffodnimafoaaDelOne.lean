/- slices.Delete of one element. (Written by gen/delete.py.) -/
import Derived.Test.YtgnffodnimafoaaDelRun
import Derived.Test.YtgnffodnimafoaaExSub
import Derived.Test.YtgnffodnimafoaaExLetter
import Derived.Lib.SliceRun
import Derived.Deep.RegionLaw
set_option linter.unusedSimpArgs false
set_option linter.unusedVariables false
namespace Go.Proofs.Ytgnffodnimafoaa
open Go.RowKit

theorem zeroSubD : ∃ z : Value, (∀ w, (zeroValue 42).run Try.prog w = .ok z w) ∧ z.cells = #[.int .i64 0, .int .i64 0, .int .i64 0] :=
  ⟨.agg #[.int .i64 0, .int .i64 0, .int .i64 0], fun w => by kernel_rfl, rfl⟩
set_option maxRecDepth 100000 in
set_option maxHeartbeats 1600000 in
theorem deleteSub_any (base g n c i : Nat) (ss : List Tri) (w : World) (hO : w.ownsRow base 42 3 (.slice (some ⟨g, 0, none⟩) n c) n (tvs ss)) (hi : i < n) (hn : n ≤ 1048576) (hc : n ≤ c) (hbase : base ≤ g) (hg : g < w.heap.size) :
    Calls Try.prog 40 #[.slice (some ⟨g, 0, none⟩) n c, .int .i64 i, .int .i64 (i + 1)] w fun e w' => e = .returned (.slice (some ⟨g, 0, none⟩) (n - 1) c) ∧ w'.ownsRow base 42 3 (.slice (some ⟨g, 0, none⟩) (n - 1) c) (n - 1) (tvs (ss.eraseIdx i)) ∧ w.grownBy w' (some g) := by
  have HL := Lib.hid (show ss.length = n by have := hO.1; rw [tvs_length] at this; omega)
  have hcm : c ≤ 9223372036854775807 := by
    rcases hO.2 with ⟨hv, _⟩ | ⟨g', cap, cur, hv, _, _, _, hcm, _⟩
    · cases hv
    · cases hv; unfold maxLen at hcm; exact hcm
  obtain ⟨i0, hi0, hz0, hz1, hz2⟩ := info_parts infoSub
  obtain ⟨zv, hzv, hzc⟩ := zeroSubD
  have HZV := Lib.hid hzv
  have HZC := Lib.hid hzc
  have hw1 : Below w.heap.size w w.drew := up_drew (Below.refl _ w)
  have hod := own_keep hO hw1
  have HCUT := Lib.hid (own_cut hod (m := i) (by omega))
  obtain ⟨A, hA, hnews⟩ := tail_addr hod hi
  have HNEWS := Lib.hid hnews
  have HTL := Lib.hid (show (tvs (ss.drop (i + 1))).length = (n - (i + 1)) * 3 by rw [tvs_length, List.length_drop, HL.out])
  clear hzv hzc hod hnews
  have HO := Lib.hid hO
  clear hO
  have h1 : (i : Int) + 1 ≤ (n : Int) := by omega
  have h0 : (0 : Int) ≤ (i : Int) := by omega
  have h01 : (0 : Int) ≤ (i : Int) + 1 := by omega
  have hii : (i : Int) ≤ (i : Int) + 1 := by omega
  have hnc : (n : Int) ≤ (c : Int) := by omega
  have hic : (i : Int) ≤ (c : Int) := by omega
  have h1c : (i : Int) + 1 ≤ (c : Int) := by omega
  have hin : (i : Int) ≤ (n : Int) := by omega
  have hne : ((i : Int) == (i : Int) + 1) = false := beq_eq_false_iff_ne.2 (by omega)
  have hp2 : ((i : Int) + 1).toNat = i + 1 := by omega
  go_enter Try.func40, Try.ntmps40
  go_wp2_with (fail)
  go_region_law (refine step_append_spare _ rfl (.tmp 22) (.tmp 25) 23 rfl base 42 i0 3 Try.underlying23 hi0 hz1 g i c _ (by simp [Act.eval, Act.put]) HCUT.out A (n - (i + 1)) (c - (i + 1)) (tvs (ss.drop (i + 1))) (by simp [Act.eval, Act.put]) HTL.out HNEWS.out (tvs_one _) (by omega) ?_; intro w2 hown2 hg2)
  have hno : i + (n - (i + 1)) = n - 1 := by omega
  rw [hno] at hown2
  rw [show (tvs ss).take (i * 3) ++ tvs (ss.drop (i + 1)) = tvs (ss.eraseIdx i) by rw [List.eraseIdx_eq_take_drop_succ, tvs_append, tvs_take]] at hown2
  have HO2 := Lib.hid hown2
  have HG2 := Lib.hid ((grown_below hw1 (some g)).trans hg2)
  clear hown2 hg2 hw1
  rw [hno]
  obtain ⟨m, rfl⟩ : ∃ m, n = m + 1 := ⟨n - 1, by omega⟩
  simp only [Nat.add_sub_cancel] at *
  have hcl : ∀ ty, (Builtin.clear_ #[23] ty #[.slice (some ⟨g, m * 3, none⟩) 1 (c - m)]).run Try.prog w2 = .ok (.tuple #[]) (w2.setCells g (m * 3) (List.replicate (1 * 3) (.int .i64 0))) :=
    fun ty => run_clear_trip w2 _ _ ty zv Try.underlying23 HZV.out HZC.out g (m * 3) _ _ (by omega) (fun q hq => (own_room HO2.out (by omega)).1) (fun q hq => (own_room HO2.out (by omega)).2)
  have hset := own_setCells (List.replicate (1 * 3) (.int .i64 0)) (m * 3) w2 HO2.out (Nat.le_refl _)
  have HF := Lib.hid hset.1
  have HBF := Lib.hid (HG2.out.trans hset.2)
  have hm0 : (0 : Int) ≤ (m : Int) := by omega
  have hm1 : (m : Int) ≤ ((m + 1 : Nat) : Int) := by omega
  have hmc : ((m + 1 : Nat) : Int) ≤ (c : Int) := by omega
  have hcm1 : ¬ c = m := by omega
  clear hset
  go_wp2
  go_ret
  exact ⟨rfl, HF.out, HBF.out⟩
theorem zeroLetterD : ∃ z : Value, (∀ w, (zeroValue 33).run Try.prog w = .ok z w) ∧ z.cells = #[.int .i64 0, .int .i64 0, .int .i64 0] :=
  ⟨.agg #[.int .i64 0, .int .i64 0, .int .i64 0], fun w => by kernel_rfl, rfl⟩
set_option maxRecDepth 100000 in
set_option maxHeartbeats 1600000 in
theorem deleteLetter_any (base g n c i : Nat) (ss : List Tri) (w : World) (hO : w.ownsRow base 33 3 (.slice (some ⟨g, 0, none⟩) n c) n (tvs ss)) (hi : i < n) (hn : n ≤ 1048576) (hc : n ≤ c) (hbase : base ≤ g) (hg : g < w.heap.size) :
    Calls Try.prog 45 #[.slice (some ⟨g, 0, none⟩) n c, .int .i64 i, .int .i64 (i + 1)] w fun e w' => e = .returned (.slice (some ⟨g, 0, none⟩) (n - 1) c) ∧ w'.ownsRow base 33 3 (.slice (some ⟨g, 0, none⟩) (n - 1) c) (n - 1) (tvs (ss.eraseIdx i)) ∧ w.grownBy w' (some g) := by
  have HL := Lib.hid (show ss.length = n by have := hO.1; rw [tvs_length] at this; omega)
  have hcm : c ≤ 9223372036854775807 := by
    rcases hO.2 with ⟨hv, _⟩ | ⟨g', cap, cur, hv, _, _, _, hcm, _⟩
    · cases hv
    · cases hv; unfold maxLen at hcm; exact hcm
  obtain ⟨i0, hi0, hz0, hz1, hz2⟩ := info_parts infoLetter
  obtain ⟨zv, hzv, hzc⟩ := zeroLetterD
  have HZV := Lib.hid hzv
  have HZC := Lib.hid hzc
  have hw1 : Below w.heap.size w w.drew := up_drew (Below.refl _ w)
  have hod := own_keep hO hw1
  have HCUT := Lib.hid (own_cut hod (m := i) (by omega))
  obtain ⟨A, hA, hnews⟩ := tail_addr hod hi
  have HNEWS := Lib.hid hnews
  have HTL := Lib.hid (show (tvs (ss.drop (i + 1))).length = (n - (i + 1)) * 3 by rw [tvs_length, List.length_drop, HL.out])
  clear hzv hzc hod hnews
  have HO := Lib.hid hO
  clear hO
  have h1 : (i : Int) + 1 ≤ (n : Int) := by omega
  have h0 : (0 : Int) ≤ (i : Int) := by omega
  have h01 : (0 : Int) ≤ (i : Int) + 1 := by omega
  have hii : (i : Int) ≤ (i : Int) + 1 := by omega
  have hnc : (n : Int) ≤ (c : Int) := by omega
  have hic : (i : Int) ≤ (c : Int) := by omega
  have h1c : (i : Int) + 1 ≤ (c : Int) := by omega
  have hin : (i : Int) ≤ (n : Int) := by omega
  have hne : ((i : Int) == (i : Int) + 1) = false := beq_eq_false_iff_ne.2 (by omega)
  have hp2 : ((i : Int) + 1).toNat = i + 1 := by omega
  go_enter Try.func45, Try.ntmps45
  go_wp2_with (fail)
  go_region_law (refine step_append_spare _ rfl (.tmp 22) (.tmp 25) 24 rfl base 33 i0 3 Try.underlying24 hi0 hz1 g i c _ (by simp [Act.eval, Act.put]) HCUT.out A (n - (i + 1)) (c - (i + 1)) (tvs (ss.drop (i + 1))) (by simp [Act.eval, Act.put]) HTL.out HNEWS.out (tvs_one _) (by omega) ?_; intro w2 hown2 hg2)
  have hno : i + (n - (i + 1)) = n - 1 := by omega
  rw [hno] at hown2
  rw [show (tvs ss).take (i * 3) ++ tvs (ss.drop (i + 1)) = tvs (ss.eraseIdx i) by rw [List.eraseIdx_eq_take_drop_succ, tvs_append, tvs_take]] at hown2
  have HO2 := Lib.hid hown2
  have HG2 := Lib.hid ((grown_below hw1 (some g)).trans hg2)
  clear hown2 hg2 hw1
  rw [hno]
  obtain ⟨m, rfl⟩ : ∃ m, n = m + 1 := ⟨n - 1, by omega⟩
  simp only [Nat.add_sub_cancel] at *
  have hcl : ∀ ty, (Builtin.clear_ #[24] ty #[.slice (some ⟨g, m * 3, none⟩) 1 (c - m)]).run Try.prog w2 = .ok (.tuple #[]) (w2.setCells g (m * 3) (List.replicate (1 * 3) (.int .i64 0))) :=
    fun ty => run_clear_trip w2 _ _ ty zv Try.underlying24 HZV.out HZC.out g (m * 3) _ _ (by omega) (fun q hq => (own_room HO2.out (by omega)).1) (fun q hq => (own_room HO2.out (by omega)).2)
  have hset := own_setCells (List.replicate (1 * 3) (.int .i64 0)) (m * 3) w2 HO2.out (Nat.le_refl _)
  have HF := Lib.hid hset.1
  have HBF := Lib.hid (HG2.out.trans hset.2)
  have hm0 : (0 : Int) ≤ (m : Int) := by omega
  have hm1 : (m : Int) ≤ ((m + 1 : Nat) : Int) := by omega
  have hmc : ((m + 1 : Nat) : Int) ≤ (c : Int) := by omega
  have hcm1 : ¬ c = m := by omega
  clear hset
  go_wp2
  go_ret
  exact ⟨rfl, HF.out, HBF.out⟩
end Go.Proofs.Ytgnffodnimafoaa
