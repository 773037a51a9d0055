/- Merged: Draw2, Draw3. -/
import Derived.Test.YtmhbfdcikdhehaaDrawR
/- The drawing of arguments: a random condition. -/
set_option linter.unusedSimpArgs false
set_option linter.unusedVariables false
namespace Go.Proofs.Ytmhbfdcikdhehaa
open Go.RowKit

theorem infoPartD : (Try.prog.info? 136).map (fun i => (i.zero, i.size, i.bytes)) = some (some (.agg #[.int .i64 0, .int .i64 0]), 2, 16) := by kernel_rfl

theorem own_pair {w : World} {base : Nat} {e : TypeId} {v : Value} {ps : List (Int × Int)} {a b : Int} (h : w.ownsRow base e 2 v (ps.length + 1) (pvs ps ++ [.int .i64 a, .int .i64 b])) : w.ownsRow base e 2 v (ps ++ [(a, b)]).length (pvs (ps ++ [(a, b)])) := by
  rw [pvs_append, List.length_append]; exact h

/-- How many rounds may follow, at most. -/
def mu (n d : Int) : Nat := 2 * n.toNat + if d = 1 then 0 else 1

/-- A drawn condition. -/
def CondPost (r : Nat) (A : Option Addr) (n c : Nat) (xs : List Int) (p : Int) (K L : Nat) (w : World) (e : Ending) (w' : World) : Prop :=
  ∃ A' n' c' ps p', e = .returned (.slice A' n' c') ∧ n' ≤ c' ∧ c' ≤ 9223372036854775807 ∧ 1 ≤ n' ∧ n' ≤ L ∧ w'.ownsRow w.heap.size 136 2 (.slice A' n' c') n' (pvs ps) ∧ Rdr w' r A n c xs p' ∧ p' ≤ p + K ∧ But r w w'
set_option maxRecDepth 100000 in
set_option maxHeartbeats 3200000 in
theorem randomCondition_any (r : Nat) (A : Option Addr) (n c : Nat) (xs : List Int) (p : Int) (w : World) (h : Rdr w r A n c xs p) (hp : p ≤ 900000) :
    Calls Try.prog 90 #[.pointer (some ⟨r, 0, none⟩)] w (CondPost r A n c xs p 100 15 w) := by
  obtain ⟨i0, hi0, hz0, hz1, hz2⟩ := info_parts infoPartD
  have hrb := h.lt
  go_enter Try.func90, Try.ntmps90
  go_wp2_with (fail)
  have hb : Blk ((w.alloc (.cells #[] 136)).alloc (.cells #[.int .i64 1, .int .i64 3, .int .i64 2, .int .i64 5, .int .i64 7] 3)) (w.heap.size + 1) 3 #[.int .i64 1, .int .i64 3, .int .i64 2, .int .i64 5, .int .i64 7] := by
    have := Blk.new (w.alloc (.cells #[] 136)) 3 #[.int .i64 1, .int .i64 3, .int .i64 2, .int .i64 5, .int .i64 7]
    simpa using this
  (with_reducible refine (one_any r A n c xs p (w.heap.size + 1) (w.heap.size + 1 + 1) 5 5 _ [1, 3, 2, 5, 7] _ (rdr_alloc (rdr_alloc h _) _) (by omega) (Rd.of_blk hb rfl) (by simp) (by omega) (by omega) (.inl (by omega))).mono ?_)
  rintro e w1 ⟨q, rfl, hq, hR1, hG1⟩
  have hq' : 1 ≤ q ∧ q ≤ 7 := by simp at hq; omega
  obtain ⟨q0, q1⟩ := hq'
  clear hq hb
  have hown1 : w1.ownsRow w.heap.size 136 2 (.slice (some ⟨w.heap.size, 0, none⟩) 0 0) ([] : List (Int × Int)).length (pvs []) := own_but ((World.ownsRow_made w #[] 0 (Nat.le_refl _) (by unfold maxLen; omega) (by simp)).alloc _) hG1 hrb
  have hG1' := but_trans (but_alloc (but_alloc (but_refl r w) _) _) hG1
  clear hG1
  have hp0 := h.2.2.2.2
  clear h
  go_wp2
  go_loopw [3, 4, 5] (fun ov dv nv wr => ∃ (nn dd pp : Int) (ps : List (Int × Int)), nv = .int .i64 nn ∧ dv = .int .i64 dd ∧ wr.ownsRow w.heap.size 136 2 ov ps.length (pvs ps) ∧ Rdr wr r A n c xs pp ∧ But r w wr ∧
       0 ≤ dd ∧ dd ≤ 2 ∧ dd ≤ (ps.length : Int) ∧ nn ≤ 7 ∧ (0 ≤ nn ∨ (dd = 1 ∧ nn = -1)) ∧ pp + 3 * (mu nn dd : Int) ≤ p + 46 ∧ ps.length + mu nn dd ≤ 15)
     (fun _ dv nv _ => mu (intOf nv) (intOf dv))
  case atStart => exact ⟨q, 0, p + 1, [], rfl, rfl, hown1, hR1, hG1', by omega, by omega, by simp, by omega, by omega, by simp [mu]; omega, by simp [mu]; omega⟩
  case round =>
    clear hown1 hR1 hG1'
    obtain ⟨nn, dd, pp, ps, rfl, rfl, hown, hR, hG, hd0, hd2, hdl, hn7, hnd, hpp, hll⟩ := hrel
    have hpp0 := hR.2.2.2.2
    have hmu : mu nn dd = 2 * nn.toNat + (if dd = 1 then 0 else 1) := rfl
    rcases (show dd = 0 ∨ dd = 1 ∨ dd = 2 by omega) with rfl | rfl | rfl
    · simp at hmu
      by_cases hn : 0 < nn
      · go_wp2_with (fail)
        (with_reducible refine (pick_any r A n c xs pp 2 wr hR (by omega) (by omega)).mono ?_)
        rintro e w2 ⟨q, rfl, q0, q1, _, hR2, hG2⟩
        have q1' := q1 (by omega)
        have hown2 := own_but hown hG2 hrb
        have hG2' := but_trans hG hG2
        clear hG2 hown hG hR q1
        by_cases hq : q = 0
        · subst hq
          go_wp2_with (fail)
          (with_reducible refine (someValue_any r A n c xs (pp + 1) w2 hR2 (by omega)).mono ?_)
          rintro e w3 ⟨v, rfl, v0, v1, hRX, hG3⟩
          have hownX := own_but hown2 hG3 hrb
          have hGX := but_trans hG2' hG3
          clear hG3 hown2 hG2' hR2
          go_wp2_with (at_builtin; refine wpList_append_own _ rfl _ _ 43 rfl w.heap.size 136 i0 _ 2 16 Try.underlying43 hi0 hz0 hz1 hz2 rfl (by decide) _ _ _ rfl (hownX.alloc _) _ 1 1 [.int .i64 0, .int .i64 v] rfl rfl (World.news_of_block (heap_alloc_new _ _)) ?c2 ?c3 ?c4 ?c5 ?_)
          case c2 => intro u hu; simp at hu; rcases hu with rfl | rfl <;> rfl
          case c3 => unfold maxLen; omega
          case c4 => omega
          case c5 => have := hGX.size; simp; omega
          intro v' w4 hown4 hg4 _
          have hG4 := but_grown (but_alloc hGX _) (hownX.alloc _) hg4 (Nat.le_refl _)
          have hR4 := rdr_grown (rdr_alloc hRX _) (hownX.alloc _) hg4 hrb
          have hown5 := own_pair hown4
          clear hown4 hg4 hownX hGX hRX
          go_wp2
          go_roundw
          case rel =>
            refine ⟨nn - 1, 1, _, ps ++ [(0, v)], by first | rfl | go_num, by first | rfl | go_num, by simpa using hown5, hR4, hG4, by omega, by omega, by simp; omega, by omega, by omega, ?_, ?_⟩
            · simp [mu] at *; omega
            · simp [mu] at *; omega
          case measure => (simp [intOf, mu] at *) <;> omega
        · have hq' : (q == 0) = false := by simpa using hq
          go_wp2_with (fail)
          (with_reducible refine (pick_any r A n c xs (pp + 1) 4 w2 hR2 (by omega) (by omega)).mono ?_)
          rintro e w3 ⟨v, rfl, v0, v1, _, hRX, hG3⟩
          have hownX := own_but hown2 hG3 hrb
          have hGX := but_trans hG2' hG3
          clear hG3 hown2 hG2' hR2 v1
          go_wp2_with (at_builtin; refine wpList_append_own _ rfl _ _ 43 rfl w.heap.size 136 i0 _ 2 16 Try.underlying43 hi0 hz0 hz1 hz2 rfl (by decide) _ _ _ rfl (hownX.alloc _) _ 1 1 [.int .i64 1, .int .i64 v] rfl rfl (World.news_of_block (heap_alloc_new _ _)) ?c2 ?c3 ?c4 ?c5 ?_)
          case c2 => intro u hu; simp at hu; rcases hu with rfl | rfl <;> rfl
          case c3 => unfold maxLen; omega
          case c4 => omega
          case c5 => have := hGX.size; simp; omega
          intro v' w4 hown4 hg4 _
          have hG4 := but_grown (but_alloc hGX _) (hownX.alloc _) hg4 (Nat.le_refl _)
          have hR4 := rdr_grown (rdr_alloc hRX _) (hownX.alloc _) hg4 hrb
          have hown5 := own_pair hown4
          clear hown4 hg4 hownX hGX hRX
          go_wp2
          go_roundw
          case rel =>
            refine ⟨nn - 1, 1, _, ps ++ [(1, v)], by first | rfl | go_num, by first | rfl | go_num, by simpa using hown5, hR4, hG4, by omega, by omega, by simp; omega, by omega, by omega, ?_, ?_⟩
            · simp [mu] at *; omega
            · simp [mu] at *; omega
          case measure => (simp [intOf, mu] at *) <;> omega
      · obtain rfl : nn = 0 := by omega
        go_wp2_with (fail)
        (with_reducible refine (pick_any r A n c xs pp 2 wr hR (by omega) (by omega)).mono ?_)
        rintro e w2 ⟨q, rfl, q0, q1, _, hR2, hG2⟩
        have q1' := q1 (by omega)
        have hown2 := own_but hown hG2 hrb
        have hG2' := but_trans hG hG2
        clear hG2 hown hG hR q1
        by_cases hq : q = 0
        · subst hq
          go_wp2_with (fail)
          (with_reducible refine (someValue_any r A n c xs (pp + 1) w2 hR2 (by omega)).mono ?_)
          rintro e w3 ⟨v, rfl, v0, v1, hRX, hG3⟩
          have hownX := own_but hown2 hG3 hrb
          have hGX := but_trans hG2' hG3
          clear hG3 hown2 hG2' hR2
          go_wp2_with (at_builtin; refine wpList_append_own _ rfl _ _ 43 rfl w.heap.size 136 i0 _ 2 16 Try.underlying43 hi0 hz0 hz1 hz2 rfl (by decide) _ _ _ rfl (hownX.alloc _) _ 1 1 [.int .i64 0, .int .i64 v] rfl rfl (World.news_of_block (heap_alloc_new _ _)) ?c2 ?c3 ?c4 ?c5 ?_)
          case c2 => intro u hu; simp at hu; rcases hu with rfl | rfl <;> rfl
          case c3 => unfold maxLen; omega
          case c4 => omega
          case c5 => have := hGX.size; simp; omega
          intro v' w4 hown4 hg4 _
          have hG4 := but_grown (but_alloc hGX _) (hownX.alloc _) hg4 (Nat.le_refl _)
          have hR4 := rdr_grown (rdr_alloc hRX _) (hownX.alloc _) hg4 hrb
          have hown5 := own_pair hown4
          clear hown4 hg4 hownX hGX hRX
          go_wp2
          go_roundw
          case rel =>
            refine ⟨0 - 1, 1, _, ps ++ [(0, v)], by first | rfl | go_num, by first | rfl | go_num, by simpa using hown5, hR4, hG4, by omega, by omega, by simp; omega, by omega, by omega, ?_, ?_⟩
            · simp [mu] at *; omega
            · simp [mu] at *; omega
          case measure => (simp [intOf, mu] at *) <;> omega
        · have hq' : (q == 0) = false := by simpa using hq
          go_wp2_with (fail)
          (with_reducible refine (pick_any r A n c xs (pp + 1) 4 w2 hR2 (by omega) (by omega)).mono ?_)
          rintro e w3 ⟨v, rfl, v0, v1, _, hRX, hG3⟩
          have hownX := own_but hown2 hG3 hrb
          have hGX := but_trans hG2' hG3
          clear hG3 hown2 hG2' hR2 v1
          go_wp2_with (at_builtin; refine wpList_append_own _ rfl _ _ 43 rfl w.heap.size 136 i0 _ 2 16 Try.underlying43 hi0 hz0 hz1 hz2 rfl (by decide) _ _ _ rfl (hownX.alloc _) _ 1 1 [.int .i64 1, .int .i64 v] rfl rfl (World.news_of_block (heap_alloc_new _ _)) ?c2 ?c3 ?c4 ?c5 ?_)
          case c2 => intro u hu; simp at hu; rcases hu with rfl | rfl <;> rfl
          case c3 => unfold maxLen; omega
          case c4 => omega
          case c5 => have := hGX.size; simp; omega
          intro v' w4 hown4 hg4 _
          have hG4 := but_grown (but_alloc hGX _) (hownX.alloc _) hg4 (Nat.le_refl _)
          have hR4 := rdr_grown (rdr_alloc hRX _) (hownX.alloc _) hg4 hrb
          have hown5 := own_pair hown4
          clear hown4 hg4 hownX hGX hRX
          go_wp2
          go_roundw
          case rel =>
            refine ⟨0 - 1, 1, _, ps ++ [(1, v)], by first | rfl | go_num, by first | rfl | go_num, by simpa using hown5, hR4, hG4, by omega, by omega, by simp; omega, by omega, by omega, ?_, ?_⟩
            · simp [mu] at *; omega
            · simp [mu] at *; omega
          case measure => (simp [intOf, mu] at *) <;> omega
    · simp at hmu
      by_cases hn : 0 < nn
      · go_wp2_with (fail)
        (with_reducible refine (pick_any r A n c xs pp 2 wr hR (by omega) (by omega)).mono ?_)
        rintro e w2 ⟨q, rfl, q0, q1, _, hR2, hG2⟩
        have q1' := q1 (by omega)
        have hown2 := own_but hown hG2 hrb
        have hG2' := but_trans hG hG2
        clear hG2 hown hG hR q1
        by_cases hq : q = 0
        · subst hq
          go_wp2_with (fail)
          (with_reducible refine (someValue_any r A n c xs (pp + 1) w2 hR2 (by omega)).mono ?_)
          rintro e w3 ⟨v, rfl, v0, v1, hRX, hG3⟩
          have hownX := own_but hown2 hG3 hrb
          have hGX := but_trans hG2' hG3
          clear hG3 hown2 hG2' hR2
          go_wp2_with (at_builtin; refine wpList_append_own _ rfl _ _ 43 rfl w.heap.size 136 i0 _ 2 16 Try.underlying43 hi0 hz0 hz1 hz2 rfl (by decide) _ _ _ rfl (hownX.alloc _) _ 1 1 [.int .i64 0, .int .i64 v] rfl rfl (World.news_of_block (heap_alloc_new _ _)) ?c2 ?c3 ?c4 ?c5 ?_)
          case c2 => intro u hu; simp at hu; rcases hu with rfl | rfl <;> rfl
          case c3 => unfold maxLen; omega
          case c4 => omega
          case c5 => have := hGX.size; simp; omega
          intro v' w4 hown4 hg4 _
          have hG4 := but_grown (but_alloc hGX _) (hownX.alloc _) hg4 (Nat.le_refl _)
          have hR4 := rdr_grown (rdr_alloc hRX _) (hownX.alloc _) hg4 hrb
          have hown5 := own_pair hown4
          clear hown4 hg4 hownX hGX hRX
          go_wp2
          go_roundw
          case rel =>
            refine ⟨nn - 1, 2, _, ps ++ [(0, v)], by first | rfl | go_num, by first | rfl | go_num, by simpa using hown5, hR4, hG4, by omega, by omega, by simp; omega, by omega, by omega, ?_, ?_⟩
            · simp [mu] at *; omega
            · simp [mu] at *; omega
          case measure => (simp [intOf, mu] at *) <;> omega
        · have hq' : (q == 0) = false := by simpa using hq
          go_wp2_with (fail)
          (with_reducible refine (pick_any r A n c xs (pp + 1) 4 w2 hR2 (by omega) (by omega)).mono ?_)
          rintro e w3 ⟨v, rfl, v0, v1, _, hRX, hG3⟩
          have hownX := own_but hown2 hG3 hrb
          have hGX := but_trans hG2' hG3
          clear hG3 hown2 hG2' hR2 v1
          go_wp2_with (at_builtin; refine wpList_append_own _ rfl _ _ 43 rfl w.heap.size 136 i0 _ 2 16 Try.underlying43 hi0 hz0 hz1 hz2 rfl (by decide) _ _ _ rfl (hownX.alloc _) _ 1 1 [.int .i64 1, .int .i64 v] rfl rfl (World.news_of_block (heap_alloc_new _ _)) ?c2 ?c3 ?c4 ?c5 ?_)
          case c2 => intro u hu; simp at hu; rcases hu with rfl | rfl <;> rfl
          case c3 => unfold maxLen; omega
          case c4 => omega
          case c5 => have := hGX.size; simp; omega
          intro v' w4 hown4 hg4 _
          have hG4 := but_grown (but_alloc hGX _) (hownX.alloc _) hg4 (Nat.le_refl _)
          have hR4 := rdr_grown (rdr_alloc hRX _) (hownX.alloc _) hg4 hrb
          have hown5 := own_pair hown4
          clear hown4 hg4 hownX hGX hRX
          go_wp2
          go_roundw
          case rel =>
            refine ⟨nn - 1, 2, _, ps ++ [(1, v)], by first | rfl | go_num, by first | rfl | go_num, by simpa using hown5, hR4, hG4, by omega, by omega, by simp; omega, by omega, by omega, ?_, ?_⟩
            · simp [mu] at *; omega
            · simp [mu] at *; omega
          case measure => (simp [intOf, mu] at *) <;> omega
      · have Ho := Lib.hid hown
        clear hown
        go_wp2
        go_ret
        obtain ⟨A', c', hv, hc1, hc2⟩ := own_cap Ho.out
        refine ⟨A', ps.length, c', ps, pp, ?_, hc1, hc2, by omega, by omega, ?_, hR, by omega, hG⟩
        · rw [← hv]; rfl
        · rw [← hv]; exact Ho.out
    · simp at hmu
      by_cases hn : 0 < nn
      · go_wp2_with (fail)
        (with_reducible refine (pick_any r A n c xs pp 6 wr hR (by omega) (by omega)).mono ?_)
        rintro e w2 ⟨q, rfl, q0, q1, _, hR2, hG2⟩
        have q1' := q1 (by omega)
        have hown2 := own_but hown hG2 hrb
        have hG2' := but_trans hG hG2
        clear hG2 hown hG hR q1
        by_cases hq : q = 0
        · subst hq
          have hownX := hown2
          have hGX := hG2'
          have hRX := hR2
          clear hown2 hG2' hR2
          go_wp2_with (at_builtin; refine wpList_append_own _ rfl _ _ 43 rfl w.heap.size 136 i0 _ 2 16 Try.underlying43 hi0 hz0 hz1 hz2 rfl (by decide) _ _ _ rfl (hownX.alloc _) _ 1 1 [.int .i64 2, .int .i64 0] rfl rfl (World.news_of_block (heap_alloc_new _ _)) ?c2 ?c3 ?c4 ?c5 ?_)
          case c2 => intro u hu; simp at hu; rcases hu with rfl | rfl <;> rfl
          case c3 => unfold maxLen; omega
          case c4 => omega
          case c5 => have := hGX.size; simp; omega
          intro v' w4 hown4 hg4 _
          have hG4 := but_grown (but_alloc hGX _) (hownX.alloc _) hg4 (Nat.le_refl _)
          have hR4 := rdr_grown (rdr_alloc hRX _) (hownX.alloc _) hg4 hrb
          have hown5 := own_pair hown4
          clear hown4 hg4 hownX hGX hRX
          go_wp2
          go_roundw
          case rel =>
            refine ⟨nn - 1, 2, _, ps ++ [(2, 0)], by first | rfl | go_num, by first | rfl | go_num, by simpa using hown5, hR4, hG4, by omega, by omega, by simp; omega, by omega, by omega, ?_, ?_⟩
            · simp [mu] at *; omega
            · simp [mu] at *; omega
          case measure => (simp [intOf, mu] at *) <;> omega
        · have hq' : (q == 0) = false := by simpa using hq
          go_wp2_with (fail)
          (with_reducible refine (pick_any r A n c xs (pp + 1) 6 w2 hR2 (by omega) (by omega)).mono ?_)
          rintro e w3 ⟨v, rfl, v0, v1, _, hRX, hG3⟩
          have v1' := v1 (by omega)
          have hownX := own_but hown2 hG3 hrb
          have hGX := but_trans hG2' hG3
          clear hG3 hown2 hG2' hR2 v1
          go_wp2_with (at_builtin; refine wpList_append_own _ rfl _ _ 43 rfl w.heap.size 136 i0 _ 2 16 Try.underlying43 hi0 hz0 hz1 hz2 rfl (by decide) _ _ _ rfl (hownX.alloc _) _ 1 1 [.int .i64 (3 + v), .int .i64 0] rfl rfl (World.news_of_block (heap_alloc_new _ _)) ?c2 ?c3 ?c4 ?c5 ?_)
          case c2 => intro u hu; simp at hu; rcases hu with rfl | rfl <;> rfl
          case c3 => unfold maxLen; omega
          case c4 => omega
          case c5 => have := hGX.size; simp; omega
          intro v' w4 hown4 hg4 _
          have hG4 := but_grown (but_alloc hGX _) (hownX.alloc _) hg4 (Nat.le_refl _)
          have hR4 := rdr_grown (rdr_alloc hRX _) (hownX.alloc _) hg4 hrb
          have hown5 := own_pair hown4
          clear hown4 hg4 hownX hGX hRX
          go_wp2
          go_roundw
          case rel =>
            refine ⟨nn - 1, 1, _, ps ++ [((3 + v), 0)], by first | rfl | go_num, by first | rfl | go_num, by simpa using hown5, hR4, hG4, by omega, by omega, by simp; omega, by omega, by omega, ?_, ?_⟩
            · simp [mu] at *; omega
            · simp [mu] at *; omega
          case measure => (simp [intOf, mu] at *) <;> omega
      · obtain rfl : nn = 0 := by omega
        go_wp2_with (fail)
        (with_reducible refine (pick_any r A n c xs pp 6 wr hR (by omega) (by omega)).mono ?_)
        rintro e w2 ⟨q, rfl, q0, q1, _, hR2, hG2⟩
        have q1' := q1 (by omega)
        have hown2 := own_but hown hG2 hrb
        have hG2' := but_trans hG hG2
        clear hG2 hown hG hR q1
        by_cases hq : q = 0
        · subst hq
          go_wp2_with (fail)
          (with_reducible refine (pick_any r A n c xs (pp + 1) 6 w2 hR2 (by omega) (by omega)).mono ?_)
          rintro e w3 ⟨v, rfl, v0, v1, _, hRX, hG3⟩
          have v1' := v1 (by omega)
          have hownX := own_but hown2 hG3 hrb
          have hGX := but_trans hG2' hG3
          clear hG3 hown2 hG2' hR2 v1
          go_wp2_with (at_builtin; refine wpList_append_own _ rfl _ _ 43 rfl w.heap.size 136 i0 _ 2 16 Try.underlying43 hi0 hz0 hz1 hz2 rfl (by decide) _ _ _ rfl (hownX.alloc _) _ 1 1 [.int .i64 (3 + v), .int .i64 0] rfl rfl (World.news_of_block (heap_alloc_new _ _)) ?c2 ?c3 ?c4 ?c5 ?_)
          case c2 => intro u hu; simp at hu; rcases hu with rfl | rfl <;> rfl
          case c3 => unfold maxLen; omega
          case c4 => omega
          case c5 => have := hGX.size; simp; omega
          intro v' w4 hown4 hg4 _
          have hG4 := but_grown (but_alloc hGX _) (hownX.alloc _) hg4 (Nat.le_refl _)
          have hR4 := rdr_grown (rdr_alloc hRX _) (hownX.alloc _) hg4 hrb
          have hown5 := own_pair hown4
          clear hown4 hg4 hownX hGX hRX
          go_wp2
          go_roundw
          case rel =>
            refine ⟨0 - 1, 1, _, ps ++ [((3 + v), 0)], by first | rfl | go_num, by first | rfl | go_num, by simpa using hown5, hR4, hG4, by omega, by omega, by simp; omega, by omega, by omega, ?_, ?_⟩
            · simp [mu] at *; omega
            · simp [mu] at *; omega
          case measure => (simp [intOf, mu] at *) <;> omega
        · have hq' : (q == 0) = false := by simpa using hq
          go_wp2_with (fail)
          (with_reducible refine (pick_any r A n c xs (pp + 1) 6 w2 hR2 (by omega) (by omega)).mono ?_)
          rintro e w3 ⟨v, rfl, v0, v1, _, hRX, hG3⟩
          have v1' := v1 (by omega)
          have hownX := own_but hown2 hG3 hrb
          have hGX := but_trans hG2' hG3
          clear hG3 hown2 hG2' hR2 v1
          go_wp2_with (at_builtin; refine wpList_append_own _ rfl _ _ 43 rfl w.heap.size 136 i0 _ 2 16 Try.underlying43 hi0 hz0 hz1 hz2 rfl (by decide) _ _ _ rfl (hownX.alloc _) _ 1 1 [.int .i64 (3 + v), .int .i64 0] rfl rfl (World.news_of_block (heap_alloc_new _ _)) ?c2 ?c3 ?c4 ?c5 ?_)
          case c2 => intro u hu; simp at hu; rcases hu with rfl | rfl <;> rfl
          case c3 => unfold maxLen; omega
          case c4 => omega
          case c5 => have := hGX.size; simp; omega
          intro v' w4 hown4 hg4 _
          have hG4 := but_grown (but_alloc hGX _) (hownX.alloc _) hg4 (Nat.le_refl _)
          have hR4 := rdr_grown (rdr_alloc hRX _) (hownX.alloc _) hg4 hrb
          have hown5 := own_pair hown4
          clear hown4 hg4 hownX hGX hRX
          go_wp2
          go_roundw
          case rel =>
            refine ⟨0 - 1, 1, _, ps ++ [((3 + v), 0)], by first | rfl | go_num, by first | rfl | go_num, by simpa using hown5, hR4, hG4, by omega, by omega, by simp; omega, by omega, by omega, ?_, ?_⟩
            · simp [mu] at *; omega
            · simp [mu] at *; omega
          case measure => (simp [intOf, mu] at *) <;> omega
end Go.Proofs.Ytmhbfdcikdhehaa


/- The drawing of arguments: a condition that may be invalid. -/
namespace Go.Proofs.Ytmhbfdcikdhehaa
open Go.RowKit

/-- A drawn condition, valid or not. -/
def DrawnCond (r : Nat) (A : Option Addr) (n c : Nat) (xs : List Int) (p : Int) (w : World) (e : Ending) (w' : World) : Prop :=
  ∃ A' n' c' ps p', e = .returned (.slice A' n' c') ∧ n' ≤ 16 ∧ n' ≤ c' ∧ c' ≤ 9223372036854775807 ∧ Rd w' w.heap.size w'.heap.size 2 A' n' (pvs ps) ∧ Rdr w' r A n c xs p' ∧ p' ≤ p + 200 ∧ But r w w'
def lenOf : Value → Nat | .slice _ n _ => n | _ => 0

theorem pvs_tail (ps : List (Int × Int)) : (pvs ps).drop 2 = pvs ps.tail := by
  cases ps <;> simp [pvs, pv]
theorem pvs_some {ps : List (Int × Int)} {k : Nat} (hk : k < ps.length) : ∃ z0 z1, (pvs ps)[k * 2]? = some z0 ∧ (pvs ps)[k * 2 + 1]? = some z1 := ⟨_, _, (pvs_get ps k hk).1, (pvs_get ps k hk).2⟩
theorem set_pair (ps : List (Int × Int)) (k : Nat) (x y : Int) (hk : k < ps.length) : ((pvs ps).set (k * 2) (.int .i64 x)).set (k * 2 + 1) (.int .i64 y) = pvs (ps.set k (x, y)) := by
  induction ps generalizing k with
  | nil => simp at hk
  | cons p ps ih =>
    cases k with
    | zero => simp [pvs, pv]
    | succ k =>
      have := ih k (by simpa using hk)
      have e : (k + 1) * 2 = k * 2 + 2 := by omega
      rw [e]
      simpa [pvs, pv] using this

set_option maxRecDepth 100000 in
set_option maxHeartbeats 3200000 in
theorem anyCondition_any (r : Nat) (A : Option Addr) (n c : Nat) (xs : List Int) (p : Int) (w : World) (h : Rdr w r A n c xs p) (hp : p ≤ 800000) :
    Calls Try.prog 63 #[.pointer (some ⟨r, 0, none⟩)] w (DrawnCond r A n c xs p w) := by
  obtain ⟨i0, hi0, hz0, hz1, hz2⟩ := info_parts infoPartD
  have hrb := h.lt
  go_enter Try.func63, Try.ntmps63
  go_wp2_with (fail)
  (with_reducible refine (randomCondition_any r A n c xs p w h (by omega)).mono ?_)
  rintro e w1 ⟨A1, n1, c1, ps, p1, rfl, hc1, hc2, hn1, hn15, hown1, hR1, hp1, hG1⟩
  have hp10 := hR1.2.2.2.2
  have hp0 := h.2.2.2.2
  clear h
  have hlen : ps.length = n1 := by have := hown1.1; rw [pvs_length] at this; omega
  have HL := Lib.hid hlen; clear hlen
  go_wp2_with (fail)
  (with_reducible refine (pick_any r A n c xs p1 20 w1 hR1 (by omega) (by omega)).mono ?_)
  rintro e w2 ⟨q, rfl, q0, q1, _, hR2, hG2⟩
  have q1' := q1 (by omega)
  have hown2 := own_but hown1 hG2 hrb
  have hG2' := but_trans hG1 hG2
  clear hG2 hown1 hG1 hR1 q1
  rcases (show q = 0 ∨ q = 1 ∨ q = 2 ∨ q = 3 ∨ 4 ≤ q by omega) with rfl | rfl | rfl | rfl | hq4
  · go_wp2_with (fail)
    have hb := Blk.new w2 3 #[.int .i64 3, .int .i64 0, .int .i64 9, .int .i64 (-1)]
    (with_reducible refine (one_any r A n c xs (p1 + 1) w2.heap.size (w2.heap.size + 1) 4 4 _ [3, 0, 9, -1] _ (rdr_alloc hR2 _) (by omega) (Rd.of_blk hb rfl) (by simp) (by omega) (by omega) (.inl hR2.lt)).mono ?_)
    rintro e w3 ⟨v, rfl, _, hRX, hG3⟩
    have hownX := own_but (hown2.alloc _) hG3 hrb
    have hGX := but_trans (but_alloc hG2' _) hG3
    clear hb hG3 hown2 hG2' hR2
    go_wp2_with (at_builtin; refine wpList_append_own _ rfl _ _ 43 rfl w.heap.size 136 i0 _ 2 16 Try.underlying43 hi0 hz0 hz1 hz2 rfl (by decide) _ _ _ rfl (hownX.alloc _) _ 1 1 [.int .i64 v, .int .i64 0] rfl rfl (World.news_of_block (heap_alloc_new _ _)) ?c2 ?c3 ?c4 ?c5 ?_)
    case c2 => intro u hu; simp at hu; rcases hu with rfl | rfl <;> rfl
    case c3 => unfold maxLen; omega
    case c4 => omega
    case c5 => have := hGX.size; simp; omega
    intro v' w4 hown4 hg4 _
    have hG4 := but_grown (but_alloc hGX _) (hownX.alloc _) hg4 (Nat.le_refl _)
    have hR4 := rdr_grown (rdr_alloc hRX _) (hownX.alloc _) hg4 hrb
    clear hg4 hownX hGX hRX
    have HO := Lib.hid hown4
    clear hown4
    go_wp2
    go_ret
    obtain ⟨A', c', hv, hcc, hcm⟩ := own_cap HO.out
    have ho := HO.out
    rw [hv] at ho
    refine ⟨A', n1 + 1, c', ps ++ [(v, 0)], p1 + 1 + 1, ?_, by omega, hcc, hcm, ?_, hR4, by omega, hG4⟩
    · rw [← hv]; rfl
    · rw [pvs_append]; exact Rd.of_own ho
  · go_wp2_with (fail)
    (with_reducible refine (pick_any r A n c xs (p1 + 1) n1 w2 hR2 (by omega) (by omega)).mono ?_)
    rintro e w3 ⟨k, rfl, k0, k1, _, hR3, hG3⟩
    have k1' := k1 (by omega)
    obtain ⟨k, rfl⟩ := Int.eq_ofNat_of_zero_le k0
    have hown3 := own_but hown2 hG3 hrb
    have hG3' := but_trans hG2' hG3
    clear hG3 hown2 hG2' hR2 k1
    go_wp2_with (fail)
    have hb := Blk.new w3 3 #[.int .i64 0, .int .i64 1, .int .i64 2]
    (with_reducible refine (one_any r A n c xs (p1 + 1 + 1) w3.heap.size (w3.heap.size + 1) 3 3 _ [0, 1, 2] _ (rdr_alloc hR3 _) (by omega) (Rd.of_blk hb rfl) (by simp) (by omega) (by omega) (.inl hR3.lt)).mono ?_)
    rintro e w4 ⟨x, rfl, _, hR4, hG4⟩
    have hown4 := own_but (hown3.alloc _) hG4 hrb
    have hG4' := but_trans (but_alloc hG3' _) hG4
    clear hb hG4 hown3 hG3' hR3
    go_wp2_with (fail)
    have hb := Blk.new w4 3 #[.int .i64 10000, .int .i64 4, .int .i64 1, .int .i64 (-1)]
    (with_reducible refine (one_any r A n c xs (p1 + 1 + 1 + 1) w4.heap.size (w4.heap.size + 1) 4 4 _ [10000, 4, 1, -1] _ (rdr_alloc hR4 _) (by omega) (Rd.of_blk hb rfl) (by simp) (by omega) (by omega) (.inl hR4.lt)).mono ?_)
    rintro e w5 ⟨y, rfl, _, hR5, hG5⟩
    have hown5 := own_but (hown4.alloc _) hG5 hrb
    have hG5' := but_trans (but_alloc hG4' _) hG5
    clear hb hG5 hown4 hG4' hR4
    obtain ⟨g, rfl, hg1, hg2⟩ := own_long hown5 hn1
    have hkn : k < n1 := by omega
    have hd0 := hown5.cellAt (k * 2) (by omega)
    have hd1 := hown5.cellAt (k * 2 + 1) (by omega)
    obtain ⟨z0, z1, e0, e1⟩ := pvs_some (k := k) (ps := ps) (by rw [HL.out]; exact hkn)
    rw [e0] at hd0
    rw [e1] at hd1
    clear e0 e1
    have hf0 := hown5.frozenAt (k * 2)
    have hf1 := hown5.frozenAt (k * 2 + 1)
    have hst := ((hown5.stored (k * 2) (.int .i64 x)).1.stored (k * 2 + 1) (.int .i64 y)).1
    rw [set_pair ps k x y (by rw [HL.out]; exact hkn)] at hst
    have HST := Lib.hid hst
    have hne : r ≠ g := by omega
    have HRR := Lib.hid (show Rdr ((w5.setCell ⟨g, k * 2, none⟩ (.int .i64 x)).setCell ⟨g, k * 2 + 1, none⟩ (.int .i64 y)) r A n c xs (p1 + 1 + 1 + 1 + 1) from
      ⟨(hR5.1.far hne _).far hne _, (hR5.2.1.setCell (p := ⟨g, _, none⟩) (.inr (by show r ≤ g; omega)) _).setCell (p := ⟨g, _, none⟩) (.inr (by show r ≤ g; omega)) _, hR5.2.2⟩)
    clear hst hown5
    go_wp2
    go_ret
    refine ⟨_, n1, c1, _, _, rfl, by omega, hc1, hc2, Rd.of_own HST.out, HRR.out, by omega, ?_⟩
    exact but_put (but_put hG5' (p := ⟨g, _, none⟩) (.inr hg1) _) (p := ⟨g, _, none⟩) (.inr hg1) _
  · obtain ⟨g, rfl, hg1, hg2⟩ := own_long hown2 hn1
    obtain ⟨m, rfl⟩ : ∃ m, n1 = m + 1 := ⟨n1 - 1, by omega⟩
    have HO := Lib.hid (Rd.of_own hown2)
    clear hown2
    by_cases hcap : c1 = 1
    · subst hcap
      obtain rfl : m = 0 := by omega
      go_wp2
      go_ret
      exact ⟨_, 0, 0, [], p1 + 1, rfl, by omega, Nat.le_refl _, by omega, Rd.nil _ _ _ _ _, hR2, by omega, hG2'⟩
    · go_wp2
      go_ret
      refine ⟨_, m, c1 - 1, ps.tail, p1 + 1, rfl, by omega, by omega, by omega, ?_, hR2, by omega, hG2'⟩
      have ht := HO.out.tail
      rw [pvs_tail] at ht
      simpa using ht
  · have hG2'' := hG2'
    have Hq := Lib.hid hown2
    clear hown2
    go_wp2
    go_loopw [3] (fun ov wr => ∃ (pp : Int) (qs : List (Int × Int)) (A' : Option Addr) (c' : Nat), ov = .slice A' qs.length c' ∧ wr.ownsRow w.heap.size 136 2 (.slice A' qs.length c') qs.length (pvs qs) ∧ Rdr wr r A n c xs pp ∧ But r w wr ∧
         1 ≤ qs.length ∧ qs.length ≤ 15 ∧ pp + ((16 - qs.length : Nat) : Int) ≤ p1 + 30 ∧ qs.length ≤ c' ∧ c' ≤ 9223372036854775807)
       (fun ov _ => 15 - lenOf ov)
    case atStart => exact ⟨p1 + 1, ps, A1, c1, by rw [HL.out], by rw [HL.out]; exact Hq.out, hR2, hG2', by rw [HL.out]; omega, by rw [HL.out]; omega, by rw [HL.out]; omega, by rw [HL.out]; omega, hc2⟩
    case round =>
      clear hR2 hG2' hG2''
      obtain ⟨pp, qs, A', c', rfl, hown, hR, hG, hl1, hl15, hpp, hcc, hcm⟩ := hrel
      have hpp0 := hR.2.2.2.2
      go_wp2_with (fail)
      (with_reducible refine (pick_any r A n c xs pp 2 _ hR (by omega) (by omega)).mono ?_)
      rintro e w3 ⟨u, rfl, u0, u1, _, hRX, hG3⟩
      have u1' := u1 (by omega)
      have hownX := own_but hown hG3 hrb
      have hGX := but_trans hG hG3
      clear hG3 hown hG hR u1
      by_cases hlt : (qs.length : Int) < 12 + u
      · go_wp2_with (at_builtin; refine wpList_append_own _ rfl _ _ 43 rfl w.heap.size 136 i0 _ 2 16 Try.underlying43 hi0 hz0 hz1 hz2 rfl (by decide) _ _ _ rfl (hownX.alloc _) _ 1 1 [.int .i64 2, .int .i64 0] rfl rfl (World.news_of_block (heap_alloc_new _ _)) ?c2 ?c3 ?c4 ?c5 ?_)
        case c2 => intro u hu; simp at hu; rcases hu with rfl | rfl <;> rfl
        case c3 => unfold maxLen; omega
        case c4 => omega
        case c5 => have := hGX.size; simp; omega
        intro v' w4 hown4 hg4 _
        have hG4 := but_grown (but_alloc hGX _) (hownX.alloc _) hg4 (Nat.le_refl _)
        have hR4 := rdr_grown (rdr_alloc hRX _) (hownX.alloc _) hg4 hrb
        clear hg4 hownX hGX hRX
        have hown5 := own_pair hown4
        obtain ⟨A5, c5, hv, hcc5, hcm5⟩ := own_cap hown5
        subst hv
        have HO := Lib.hid hown5
        clear hown4 hown5
        go_wp2
        go_roundw
        case rel => exact ⟨pp + 1, qs ++ [(2, 0)], A5, c5, by simp, by simpa using HO.out, hR4, hG4, by simp, by simp; omega, by simp; omega, by simpa using hcc5, hcm5⟩
        case measure => simp [lenOf]; omega
      · have HO := Lib.hid (Rd.of_own hownX)
        clear hownX
        go_wp2
        go_ret
        exact ⟨A', qs.length, c', qs, pp + 1, rfl, by omega, hcc, hcm, HO.out, hRX, by omega, hGX⟩
  · have g0 : (q == 0) = false := by simp; omega
    have g1 : (q == 1) = false := by simp; omega
    have g2 : (q == 2) = false := by simp; omega
    have g3 : (q == 3) = false := by simp; omega
    have HO := Lib.hid (Rd.of_own hown2)
    clear hown2
    go_wp2
    go_ret
    exact ⟨A1, n1, c1, ps, p1 + 1, rfl, by omega, hc1, hc2, HO.out, hR2, by omega, hG2'⟩
end Go.Proofs.Ytmhbfdcikdhehaa

