/- spec.FinishItem. -/
import Derived.Test.YtipoakimjhfhfabWorkS
import Derived.Test.YtipoakimjhfhfabDelRun
import Derived.Deep.RegionLaw
set_option linter.unusedSimpArgs false
set_option linter.unusedVariables false
namespace Go.Proofs.Ytipoakimjhfhfab
open Go.RowKit

set_option maxRecDepth 100000 in
set_option maxHeartbeats 3200000 in
theorem FinishItemO_any (lo hi n c : Nat) (A : Option Addr) (ps : List Tri) (z o : Int) (w : World) (hr : Rd w lo hi 3 A n (tvs ps)) (hB : hi ≤ w.heap.size) (hn : n ≤ 1048576) (hcap : n ≤ c) (hz : in64 z) (ho : in64 o) :
    Calls Try.prog 17 #[.slice A n c, .int .i64 z, .int .i64 o] w (OwnT 30 tvs 3 (doneOf ps z o) w) := by
  have HL := Lib.hid hr.len3
  obtain ⟨i0, hi0, hz0, hz1, hz2⟩ := info_parts infoItem
  have HC := Lib.hid (validWorkS_any lo hi n c A ps w hr hB hn)
  have HR := Lib.hid hr
  go_enter Try.func17, Try.ntmps17
  go_wp2_with (fail)
  (with_reducible refine (itemAtS_any lo hi n c A ps z _ HR.out hn).mono ?_)
  rintro e w0 ⟨q, rfl, hq, rfl⟩
  go_wp2_with (fail)
  (with_reducible refine HC.out.mono ?_)
  clear HC hr
  rintro e w1 ⟨rfl, hb1⟩
  have HB1 := Lib.hid hb1
  have hs1 := hb1.size
  clear hb1
  cases hg : vWork ps with
  | false =>
    have HX := Lib.hid (show doneOf ps z o = none by simp [doneOf, mayBe, hg])
    clear hg
    go_wp2
    exact bodyPost_ret (v := .tuple #[.slice none 0 0, .bool false]) (by simp [results, Try.results17, go_sem]) rfl (OwnT.no rfl HX.out HB1.out)
  | true =>
  have HG := Lib.hid hg
  clear hg
  go_wp2_with (fail)
  (with_reducible refine (inRange_any o 1 9 _).mono ?_)
  rintro e w2 ⟨rfl, rfl⟩
  cases hri : inR o 1 9 with
  | false =>
    have HX := Lib.hid (show doneOf ps z o = none by simp [doneOf, mayBe, hri])
    clear hri
    go_wp2
    exact bodyPost_ret (v := .tuple #[.slice none 0 0, .bool false]) (by simp [results, Try.results17, go_sem]) rfl (OwnT.no rfl HX.out HB1.out)
  | true =>
  have HO := Lib.hid hri
  clear hri
  rcases hq with ⟨rfl, hat⟩ | ⟨k, p, rfl, hk, hat, hpz⟩
  · have HX := Lib.hid (show doneOf ps z o = none by simp [doneOf, mayBe, hat])
    clear hat
    go_wp2
    exact bodyPost_ret (v := .tuple #[.slice none 0 0, .bool false]) (by simp [results, Try.results17, go_sem]) rfl (OwnT.no rfl HX.out HB1.out)
  have HAT := Lib.hid hat
  have HK := Lib.hid hk
  have hkn : k < n := by rw [← HL.out]; exact (List.getElem?_eq_some_iff.1 hk).1
  obtain ⟨b, off, x, y, u, rfl, hbB, _, hg, hc0, hc1, hc2⟩ := (HR.out.keep HB1.out hB).trip hkn
  have hp : p = (x, y, u) := by rw [hk] at hg; injection hg
  subst hp
  have hxz : x = z := hpz
  subst hxz
  have hkz : (k : Int) < (n : Int) := by omega
  have hk0 : (0 : Int) ≤ (k : Int) := by omega
  have hkneg : decide ((k : Int) < 0) = false := decide_eq_false (by omega)
  clear hat hk hg hpz
  by_cases hu : u = o
  case neg =>
    have hu1 : (u != o) = true := by simpa using hu
    have hu2 : (u == o) = false := by simpa using hu
    have HX := Lib.hid (show doneOf ps x o = none by simp [doneOf, mayBe, HAT.out, hu2])
    clear hu
    go_wp2
    exact bodyPost_ret (v := .tuple #[.slice none 0 0, .bool false]) (by simp [results, Try.results17, go_sem]) rfl (OwnT.no rfl HX.out HB1.out)
  obtain rfl : o = u := hu.symm
  clear hu
  have hu1 : (o != o) = false := by simp
  have hvl := vWork_len HG.out
  have HX := Lib.hid (show doneOf ps x o = some (ps.take k ++ ps.drop (k + 1)) by
    have h2 : mayBe ps x o (fun q => q.2.2 == o) = true := by simp [mayBe, HG.out, HO.out, HAT.out]
    rw [doneOf, if_pos h2]
    exact congrArg some (left_cut (vWork_asc HG.out) HK.out))
  have HRW := Lib.hid (HR.out.keep HB1.out hB)
  obtain ⟨AT, hAT, hRT⟩ := HRW.out.behind hkn hcap
  have HRT := Lib.hid hRT
  have HRC := Lib.hid (show Rd w1 lo hi 3 (some ⟨b, off, none⟩) k (tvs (ps.take k)) by have := HRW.out.cut (m := k) (by omega); rwa [tvs_take] at this)
  have hown0 : (w1.alloc (.cells #[] 30)).ownsRow w1.heap.size 30 3 (.slice (some ⟨w1.heap.size, 0, none⟩) 0 0) 0 [] := World.ownsRow_made w1 #[] 0 (Nat.le_refl _) (by unfold maxLen; omega) (by simp)
  have hb0 := up_drew (up_alloc (Below.refl _ w1) (.cells #[] 30))
  have HOW := Lib.hid (own_keep hown0 (up_drew (Below.refl _ _)))
  have HB0 := Lib.hid hb0
  have HRC0 := Lib.hid (HRC.out.keep hb0 (by omega))
  clear hown0 hb0 hRT HRC
  have h1 : (k : Int) + 1 ≤ (n : Int) := by omega
  have h01 : (0 : Int) ≤ (k : Int) + 1 := by omega
  have hkc : (k : Int) ≤ (c : Int) := by omega
  have hnc : (n : Int) ≤ (c : Int) := by omega
  have hp2 : ((k : Int) + 1).toNat = k + 1 := by omega
  have hwr : IntKind.i64.wrap ((k : Int) + 1) = (k : Int) + 1 := IntWalk.i64_in _ (by omega)
  go_wp2_with (fail)
  go_region_law (first
    | (refine step_append_rd _ rfl (.tmp 33) (.tmp 36) 23 rfl w1.heap.size 30 i0 _ 3 24 Try.underlying23 hi0 hz0 hz1 hz2 rfl (by decide) (.slice (some ⟨w1.heap.size, 0, none⟩) 0 0) 0 [] (by simp [Act.eval, Act.put]) HOW.out lo hi (some ⟨b, off, none⟩) k c (tvs (ps.take k)) (by simp [Act.eval, Act.put]) HRC0.out (tvs_one _) (by unfold maxLen; omega) (by omega) (by simp) ?_; intro v2 w2 hown2 hg2 _; try simp only [Nat.zero_add, List.nil_append] at hown2; have HB2 := Lib.hid (up_grown HB0.out HOW.out hg2 (Nat.le_refl _)); have HO2 := Lib.hid hown2; have HRT2 := Lib.hid (HRT.out.keep HB2.out (by omega)); have hs2 := HB2.out.size; clear hown2 hg2)
    | (refine step_append_rd _ rfl (.tmp 37) (.tmp 41) 23 rfl w1.heap.size 30 i0 _ 3 24 Try.underlying23 hi0 hz0 hz1 hz2 rfl (by decide) v2 k (tvs (ps.take k)) (by simp [Act.eval, Act.put]) HO2.out lo hi (some AT) (n - (k + 1)) (c - (k + 1)) (tvs (ps.drop (k + 1))) (by simp [Act.eval, Act.put]) HRT2.out (tvs_one _) (by unfold maxLen; omega) (by omega) (by omega) ?_; intro v3 w3 hown3 hg3 _; have HB3 := Lib.hid (up HB1.out (up_grown HB2.out HO2.out hg3 (Nat.le_refl _))); have HO3 := Lib.hid hown3; clear hown3 hg3))
  have HLN := Lib.hid (show (ps.take k ++ ps.drop (k + 1)).length = k + (n - (k + 1)) by rw [List.length_append, List.length_take, List.length_drop, HL.out]; omega)
  have HO4 := Lib.hid (show w3.ownsRow w.heap.size 30 3 v3 (k + (n - (k + 1))) (tvs (ps.take k ++ ps.drop (k + 1))) by rw [tvs_append]; exact own_base HO3.out hs1)
  clear HO3
  go_wp2
  exact bodyPost_ret (v := .tuple #[v3, .bool true]) (by simp [results, Try.results17, go_sem]) rfl (OwnT.yes HX.out HLN.out HO4.out HB3.out)
theorem FinishItemS_any (lo hi n c : Nat) (A : Option Addr) (ps : List Tri) (z o : Int) (w : World) (hr : Rd w lo hi 3 A n (tvs ps)) (hB : hi ≤ w.heap.size) (hn : n ≤ 1048576) (hcap : n ≤ c) (hz : in64 z) (ho : in64 o) :
    Calls Try.prog 17 #[.slice A n c, .int .i64 z, .int .i64 o] w (MayT tvs 3 (doneOf ps z o) w) := (FinishItemO_any lo hi n c A ps z o w hr hB hn hcap hz ho).mono fun _ _ h => h.may
end Go.Proofs.Ytipoakimjhfhfab
