/- The drawing of arguments: a random condition. -/
import Derived.Test.YthlcbdjjegageaaDraw1
namespace Go.Proofs.Ythlcbdjjegageaa
open Go.RowKit

theorem infoPartD : (Try.prog.info? 128).map (fun i => (i.zero, i.size, i.bytes)) = some (some (.agg #[.int .i64 0, .int .i64 0]), 2, 16) := by kernel_rfl

theorem own_but {w w' : World} {r base : Nat} {e : TypeId} {size : Nat} {v : Value} {n : Nat} {xs : List Value} (h : w.ownsRow base e size v n xs) (hG : But r w w') (hr : r < base) : w'.ownsRow base e size v n xs :=
  h.kept hG (by
    cases hv : v.ownBlock with
    | none => exact .inl rfl
    | some k => exact .inr (fun e => by have := (h.lt k hv).1; injection e with e; omega))
theorem rdr_alloc {w : World} {r : Nat} {A : Option Addr} {n c : Nat} {xs : List Int} {p : Int} (h : Rdr w r A n c xs p) (o : Obj) : Rdr (w.alloc o) r A n c xs p := h.below ((Below.refl _ _).alloc (Nat.le_refl _) _)
theorem rdr_grown {w w' : World} {r : Nat} {A : Option Addr} {n c : Nat} {xs : List Int} {p : Int} {base : Nat} {e : TypeId} {size : Nat} {v : Value} {m : Nat} {ys : List Value} (h : Rdr w r A n c xs p) (ho : w.ownsRow base e size v m ys) (hg : w.grownBy w' v.ownBlock) (hr : r < base) : Rdr w' r A n c xs p :=
  ⟨h.1.grown hg (fun e => by have := (ho.lt r e.symm).1; omega), h.2.1.far hg (Nat.le_of_lt h.lt) (fun g e => by have := (ho.lt g e).1; omega), h.2.2⟩
theorem own_pair {w : World} {base : Nat} {e : TypeId} {v : Value} {ps : List (Int × Int)} {a b : Int} (h : w.ownsRow base e 2 v (ps.length + 1) (pvs ps ++ [.int .i64 a, .int .i64 b])) : w.ownsRow base e 2 v (ps ++ [(a, b)]).length (pvs (ps ++ [(a, b)])) := by
  rw [pvs_append, List.length_append]; exact h

/-- How many rounds may follow, at most. -/
def mu (n d : Int) : Nat := 2 * n.toNat + if d = 1 then 0 else 1

/-- A drawn condition. -/
def CondPost (r : Nat) (A : Option Addr) (n c : Nat) (xs : List Int) (p : Int) (K L : Nat) (w : World) (e : Ending) (w' : World) : Prop :=
  ∃ A' n' c' ps p', e = .returned (.slice A' n' c') ∧ n' ≤ c' ∧ c' ≤ 9223372036854775807 ∧ 1 ≤ n' ∧ n' ≤ L ∧ w'.ownsRow w.heap.size 128 2 (.slice A' n' c') n' (pvs ps) ∧ Rdr w' r A n c xs p' ∧ p' ≤ p + K ∧ But r w w'
theorem own_cap {w : World} {base : Nat} {e : TypeId} {size : Nat} {v : Value} {n : Nat} {xs : List Value} (h : w.ownsRow base e size v n xs) : ∃ A c, v = .slice A n c ∧ n ≤ c ∧ c ≤ 9223372036854775807 := by
  rcases h.2 with ⟨rfl, rfl⟩ | ⟨g, cap, cur, rfl, _, _, hc, hm, _⟩
  · exact ⟨none, 0, rfl, Nat.le_refl _, by omega⟩
  · unfold maxLen at hm; exact ⟨_, cap, rfl, hc, by omega⟩

set_option maxRecDepth 100000 in
set_option maxHeartbeats 3200000 in
theorem randomCondition_any (r : Nat) (A : Option Addr) (n c : Nat) (xs : List Int) (p : Int) (w : World) (h : Rdr w r A n c xs p) (hp : p ≤ 900000) :
    Calls Try.prog 110 #[.pointer (some ⟨r, 0, none⟩)] w (CondPost r A n c xs p 100 15 w) := by
  obtain ⟨i0, hi0, hz0, hz1, hz2⟩ := info_parts infoPartD
  have hrb := h.lt
  go_enter Try.func110, Try.ntmps110
  go_wp2_with (fail)
  have hb : Blk ((w.alloc (.cells #[] 128)).alloc (.cells #[.int .i64 1, .int .i64 3, .int .i64 2, .int .i64 5, .int .i64 7] 3)) (w.heap.size + 1) 3 #[.int .i64 1, .int .i64 3, .int .i64 2, .int .i64 5, .int .i64 7] := by
    have := Blk.new (w.alloc (.cells #[] 128)) 3 #[.int .i64 1, .int .i64 3, .int .i64 2, .int .i64 5, .int .i64 7]
    simpa using this
  (with_reducible refine (one_any r A n c xs p (w.heap.size + 1) (w.heap.size + 1 + 1) 5 5 _ [1, 3, 2, 5, 7] _ (rdr_alloc (rdr_alloc h _) _) (by omega) (Rd.of_blk hb rfl) (by simp) (by omega) (by omega) (.inl (by omega))).mono ?_)
  rintro e w1 ⟨q, rfl, hq, hR1, hG1⟩
  have hq' : 1 ≤ q ∧ q ≤ 7 := by simp at hq; omega
  obtain ⟨q0, q1⟩ := hq'
  clear hq hb
  have hown1 : w1.ownsRow w.heap.size 128 2 (.slice (some ⟨w.heap.size, 0, none⟩) 0 0) ([] : List (Int × Int)).length (pvs []) := own_but ((World.ownsRow_made w #[] 0 (Nat.le_refl _) (by unfold maxLen; omega) (by simp)).alloc _) hG1 hrb
  have hG1' := but_trans (but_alloc (but_alloc (but_refl r w) _) _) hG1
  clear hG1
  have hp0 := h.2.2.2.2
  clear h
  go_wp2
  go_loopw [3, 4, 5] (fun ov dv nv wr => ∃ (nn dd pp : Int) (ps : List (Int × Int)), nv = .int .i64 nn ∧ dv = .int .i64 dd ∧ wr.ownsRow w.heap.size 128 2 ov ps.length (pvs ps) ∧ Rdr wr r A n c xs pp ∧ But r w wr ∧
       0 ≤ dd ∧ dd ≤ 2 ∧ dd ≤ (ps.length : Int) ∧ nn ≤ 7 ∧ (0 ≤ nn ∨ (dd = 1 ∧ nn = -1)) ∧ pp + 3 * (mu nn dd : Int) ≤ p + 46 ∧ ps.length + mu nn dd ≤ 15)
     (fun _ dv nv _ => mu (intOf nv) (intOf dv))
  case atStart => exact ⟨q, 0, p + 1, [], rfl, rfl, hown1, hR1, hG1', by omega, by omega, by simp, by omega, by omega, by simp [mu]; omega, by simp [mu]; omega⟩
  case round =>
    clear hown1 hR1 hG1'
    obtain ⟨nn, dd, pp, ps, rfl, rfl, hown, hR, hG, hd0, hd2, hdl, hn7, hnd, hpp, hll⟩ := hrel
    have hpp0 := hR.2.2.2.2
    have hmu : mu nn dd = 2 * nn.toNat + (if dd = 1 then 0 else 1) := rfl
    rcases (show dd = 0 ∨ dd = 1 ∨ dd = 2 by omega) with rfl | rfl | rfl
    · simp at hmu
      by_cases hn : 0 < nn
      · go_wp2_with (fail)
        (with_reducible refine (pick_any r A n c xs pp 2 wr hR (by omega) (by omega)).mono ?_)
        rintro e w2 ⟨q, rfl, q0, q1, _, hR2, hG2⟩
        have q1' := q1 (by omega)
        have hown2 := own_but hown hG2 hrb
        have hG2' := but_trans hG hG2
        clear hG2 hown hG hR q1
        by_cases hq : q = 0
        · subst hq
          go_wp2_with (fail)
          (with_reducible refine (someValue_any r A n c xs (pp + 1) w2 hR2 (by omega)).mono ?_)
          rintro e w3 ⟨v, rfl, v0, v1, hRX, hG3⟩
          have hownX := own_but hown2 hG3 hrb
          have hGX := but_trans hG2' hG3
          clear hG3 hown2 hG2' hR2
          go_wp2_with (at_builtin; refine wpList_append_own _ rfl _ _ 38 rfl w.heap.size 128 i0 _ 2 16 Try.underlying38 hi0 hz0 hz1 hz2 rfl (by decide) _ _ _ rfl (hownX.alloc _) _ 1 1 [.int .i64 0, .int .i64 v] rfl rfl (World.news_of_block (heap_alloc_new _ _)) ?c2 ?c3 ?c4 ?c5 ?_)
          case c2 => intro u hu; simp at hu; rcases hu with rfl | rfl <;> rfl
          case c3 => unfold maxLen; omega
          case c4 => omega
          case c5 => have := hGX.size; simp; omega
          intro v' w4 hown4 hg4 _
          have hG4 := but_grown (but_alloc hGX _) (hownX.alloc _) hg4 (Nat.le_refl _)
          have hR4 := rdr_grown (rdr_alloc hRX _) (hownX.alloc _) hg4 hrb
          have hown5 := own_pair hown4
          clear hown4 hg4 hownX hGX hRX
          go_wp2
          go_roundw
          case rel =>
            refine ⟨nn - 1, 1, _, ps ++ [(0, v)], by first | rfl | go_num, by first | rfl | go_num, by simpa using hown5, hR4, hG4, by omega, by omega, by simp; omega, by omega, by omega, ?_, ?_⟩
            · simp [mu] at *; omega
            · simp [mu] at *; omega
          case measure => (simp [intOf, mu] at *) <;> omega
        · have hq' : (q == 0) = false := by simpa using hq
          go_wp2_with (fail)
          (with_reducible refine (pick_any r A n c xs (pp + 1) 4 w2 hR2 (by omega) (by omega)).mono ?_)
          rintro e w3 ⟨v, rfl, v0, v1, _, hRX, hG3⟩
          have hownX := own_but hown2 hG3 hrb
          have hGX := but_trans hG2' hG3
          clear hG3 hown2 hG2' hR2 v1
          go_wp2_with (at_builtin; refine wpList_append_own _ rfl _ _ 38 rfl w.heap.size 128 i0 _ 2 16 Try.underlying38 hi0 hz0 hz1 hz2 rfl (by decide) _ _ _ rfl (hownX.alloc _) _ 1 1 [.int .i64 1, .int .i64 v] rfl rfl (World.news_of_block (heap_alloc_new _ _)) ?c2 ?c3 ?c4 ?c5 ?_)
          case c2 => intro u hu; simp at hu; rcases hu with rfl | rfl <;> rfl
          case c3 => unfold maxLen; omega
          case c4 => omega
          case c5 => have := hGX.size; simp; omega
          intro v' w4 hown4 hg4 _
          have hG4 := but_grown (but_alloc hGX _) (hownX.alloc _) hg4 (Nat.le_refl _)
          have hR4 := rdr_grown (rdr_alloc hRX _) (hownX.alloc _) hg4 hrb
          have hown5 := own_pair hown4
          clear hown4 hg4 hownX hGX hRX
          go_wp2
          go_roundw
          case rel =>
            refine ⟨nn - 1, 1, _, ps ++ [(1, v)], by first | rfl | go_num, by first | rfl | go_num, by simpa using hown5, hR4, hG4, by omega, by omega, by simp; omega, by omega, by omega, ?_, ?_⟩
            · simp [mu] at *; omega
            · simp [mu] at *; omega
          case measure => (simp [intOf, mu] at *) <;> omega
      · obtain rfl : nn = 0 := by omega
        go_wp2_with (fail)
        (with_reducible refine (pick_any r A n c xs pp 2 wr hR (by omega) (by omega)).mono ?_)
        rintro e w2 ⟨q, rfl, q0, q1, _, hR2, hG2⟩
        have q1' := q1 (by omega)
        have hown2 := own_but hown hG2 hrb
        have hG2' := but_trans hG hG2
        clear hG2 hown hG hR q1
        by_cases hq : q = 0
        · subst hq
          go_wp2_with (fail)
          (with_reducible refine (someValue_any r A n c xs (pp + 1) w2 hR2 (by omega)).mono ?_)
          rintro e w3 ⟨v, rfl, v0, v1, hRX, hG3⟩
          have hownX := own_but hown2 hG3 hrb
          have hGX := but_trans hG2' hG3
          clear hG3 hown2 hG2' hR2
          go_wp2_with (at_builtin; refine wpList_append_own _ rfl _ _ 38 rfl w.heap.size 128 i0 _ 2 16 Try.underlying38 hi0 hz0 hz1 hz2 rfl (by decide) _ _ _ rfl (hownX.alloc _) _ 1 1 [.int .i64 0, .int .i64 v] rfl rfl (World.news_of_block (heap_alloc_new _ _)) ?c2 ?c3 ?c4 ?c5 ?_)
          case c2 => intro u hu; simp at hu; rcases hu with rfl | rfl <;> rfl
          case c3 => unfold maxLen; omega
          case c4 => omega
          case c5 => have := hGX.size; simp; omega
          intro v' w4 hown4 hg4 _
          have hG4 := but_grown (but_alloc hGX _) (hownX.alloc _) hg4 (Nat.le_refl _)
          have hR4 := rdr_grown (rdr_alloc hRX _) (hownX.alloc _) hg4 hrb
          have hown5 := own_pair hown4
          clear hown4 hg4 hownX hGX hRX
          go_wp2
          go_roundw
          case rel =>
            refine ⟨0 - 1, 1, _, ps ++ [(0, v)], by first | rfl | go_num, by first | rfl | go_num, by simpa using hown5, hR4, hG4, by omega, by omega, by simp; omega, by omega, by omega, ?_, ?_⟩
            · simp [mu] at *; omega
            · simp [mu] at *; omega
          case measure => (simp [intOf, mu] at *) <;> omega
        · have hq' : (q == 0) = false := by simpa using hq
          go_wp2_with (fail)
          (with_reducible refine (pick_any r A n c xs (pp + 1) 4 w2 hR2 (by omega) (by omega)).mono ?_)
          rintro e w3 ⟨v, rfl, v0, v1, _, hRX, hG3⟩
          have hownX := own_but hown2 hG3 hrb
          have hGX := but_trans hG2' hG3
          clear hG3 hown2 hG2' hR2 v1
          go_wp2_with (at_builtin; refine wpList_append_own _ rfl _ _ 38 rfl w.heap.size 128 i0 _ 2 16 Try.underlying38 hi0 hz0 hz1 hz2 rfl (by decide) _ _ _ rfl (hownX.alloc _) _ 1 1 [.int .i64 1, .int .i64 v] rfl rfl (World.news_of_block (heap_alloc_new _ _)) ?c2 ?c3 ?c4 ?c5 ?_)
          case c2 => intro u hu; simp at hu; rcases hu with rfl | rfl <;> rfl
          case c3 => unfold maxLen; omega
          case c4 => omega
          case c5 => have := hGX.size; simp; omega
          intro v' w4 hown4 hg4 _
          have hG4 := but_grown (but_alloc hGX _) (hownX.alloc _) hg4 (Nat.le_refl _)
          have hR4 := rdr_grown (rdr_alloc hRX _) (hownX.alloc _) hg4 hrb
          have hown5 := own_pair hown4
          clear hown4 hg4 hownX hGX hRX
          go_wp2
          go_roundw
          case rel =>
            refine ⟨0 - 1, 1, _, ps ++ [(1, v)], by first | rfl | go_num, by first | rfl | go_num, by simpa using hown5, hR4, hG4, by omega, by omega, by simp; omega, by omega, by omega, ?_, ?_⟩
            · simp [mu] at *; omega
            · simp [mu] at *; omega
          case measure => (simp [intOf, mu] at *) <;> omega
    · simp at hmu
      by_cases hn : 0 < nn
      · go_wp2_with (fail)
        (with_reducible refine (pick_any r A n c xs pp 2 wr hR (by omega) (by omega)).mono ?_)
        rintro e w2 ⟨q, rfl, q0, q1, _, hR2, hG2⟩
        have q1' := q1 (by omega)
        have hown2 := own_but hown hG2 hrb
        have hG2' := but_trans hG hG2
        clear hG2 hown hG hR q1
        by_cases hq : q = 0
        · subst hq
          go_wp2_with (fail)
          (with_reducible refine (someValue_any r A n c xs (pp + 1) w2 hR2 (by omega)).mono ?_)
          rintro e w3 ⟨v, rfl, v0, v1, hRX, hG3⟩
          have hownX := own_but hown2 hG3 hrb
          have hGX := but_trans hG2' hG3
          clear hG3 hown2 hG2' hR2
          go_wp2_with (at_builtin; refine wpList_append_own _ rfl _ _ 38 rfl w.heap.size 128 i0 _ 2 16 Try.underlying38 hi0 hz0 hz1 hz2 rfl (by decide) _ _ _ rfl (hownX.alloc _) _ 1 1 [.int .i64 0, .int .i64 v] rfl rfl (World.news_of_block (heap_alloc_new _ _)) ?c2 ?c3 ?c4 ?c5 ?_)
          case c2 => intro u hu; simp at hu; rcases hu with rfl | rfl <;> rfl
          case c3 => unfold maxLen; omega
          case c4 => omega
          case c5 => have := hGX.size; simp; omega
          intro v' w4 hown4 hg4 _
          have hG4 := but_grown (but_alloc hGX _) (hownX.alloc _) hg4 (Nat.le_refl _)
          have hR4 := rdr_grown (rdr_alloc hRX _) (hownX.alloc _) hg4 hrb
          have hown5 := own_pair hown4
          clear hown4 hg4 hownX hGX hRX
          go_wp2
          go_roundw
          case rel =>
            refine ⟨nn - 1, 2, _, ps ++ [(0, v)], by first | rfl | go_num, by first | rfl | go_num, by simpa using hown5, hR4, hG4, by omega, by omega, by simp; omega, by omega, by omega, ?_, ?_⟩
            · simp [mu] at *; omega
            · simp [mu] at *; omega
          case measure => (simp [intOf, mu] at *) <;> omega
        · have hq' : (q == 0) = false := by simpa using hq
          go_wp2_with (fail)
          (with_reducible refine (pick_any r A n c xs (pp + 1) 4 w2 hR2 (by omega) (by omega)).mono ?_)
          rintro e w3 ⟨v, rfl, v0, v1, _, hRX, hG3⟩
          have hownX := own_but hown2 hG3 hrb
          have hGX := but_trans hG2' hG3
          clear hG3 hown2 hG2' hR2 v1
          go_wp2_with (at_builtin; refine wpList_append_own _ rfl _ _ 38 rfl w.heap.size 128 i0 _ 2 16 Try.underlying38 hi0 hz0 hz1 hz2 rfl (by decide) _ _ _ rfl (hownX.alloc _) _ 1 1 [.int .i64 1, .int .i64 v] rfl rfl (World.news_of_block (heap_alloc_new _ _)) ?c2 ?c3 ?c4 ?c5 ?_)
          case c2 => intro u hu; simp at hu; rcases hu with rfl | rfl <;> rfl
          case c3 => unfold maxLen; omega
          case c4 => omega
          case c5 => have := hGX.size; simp; omega
          intro v' w4 hown4 hg4 _
          have hG4 := but_grown (but_alloc hGX _) (hownX.alloc _) hg4 (Nat.le_refl _)
          have hR4 := rdr_grown (rdr_alloc hRX _) (hownX.alloc _) hg4 hrb
          have hown5 := own_pair hown4
          clear hown4 hg4 hownX hGX hRX
          go_wp2
          go_roundw
          case rel =>
            refine ⟨nn - 1, 2, _, ps ++ [(1, v)], by first | rfl | go_num, by first | rfl | go_num, by simpa using hown5, hR4, hG4, by omega, by omega, by simp; omega, by omega, by omega, ?_, ?_⟩
            · simp [mu] at *; omega
            · simp [mu] at *; omega
          case measure => (simp [intOf, mu] at *) <;> omega
      · have Ho := Lib.hid hown
        clear hown
        go_wp2
        go_ret
        obtain ⟨A', c', hv, hc1, hc2⟩ := own_cap Ho.out
        refine ⟨A', ps.length, c', ps, pp, ?_, hc1, hc2, by omega, by omega, ?_, hR, by omega, hG⟩
        · rw [← hv]; rfl
        · rw [← hv]; exact Ho.out
    · simp at hmu
      by_cases hn : 0 < nn
      · go_wp2_with (fail)
        (with_reducible refine (pick_any r A n c xs pp 6 wr hR (by omega) (by omega)).mono ?_)
        rintro e w2 ⟨q, rfl, q0, q1, _, hR2, hG2⟩
        have q1' := q1 (by omega)
        have hown2 := own_but hown hG2 hrb
        have hG2' := but_trans hG hG2
        clear hG2 hown hG hR q1
        by_cases hq : q = 0
        · subst hq
          have hownX := hown2
          have hGX := hG2'
          have hRX := hR2
          clear hown2 hG2' hR2
          go_wp2_with (at_builtin; refine wpList_append_own _ rfl _ _ 38 rfl w.heap.size 128 i0 _ 2 16 Try.underlying38 hi0 hz0 hz1 hz2 rfl (by decide) _ _ _ rfl (hownX.alloc _) _ 1 1 [.int .i64 2, .int .i64 0] rfl rfl (World.news_of_block (heap_alloc_new _ _)) ?c2 ?c3 ?c4 ?c5 ?_)
          case c2 => intro u hu; simp at hu; rcases hu with rfl | rfl <;> rfl
          case c3 => unfold maxLen; omega
          case c4 => omega
          case c5 => have := hGX.size; simp; omega
          intro v' w4 hown4 hg4 _
          have hG4 := but_grown (but_alloc hGX _) (hownX.alloc _) hg4 (Nat.le_refl _)
          have hR4 := rdr_grown (rdr_alloc hRX _) (hownX.alloc _) hg4 hrb
          have hown5 := own_pair hown4
          clear hown4 hg4 hownX hGX hRX
          go_wp2
          go_roundw
          case rel =>
            refine ⟨nn - 1, 2, _, ps ++ [(2, 0)], by first | rfl | go_num, by first | rfl | go_num, by simpa using hown5, hR4, hG4, by omega, by omega, by simp; omega, by omega, by omega, ?_, ?_⟩
            · simp [mu] at *; omega
            · simp [mu] at *; omega
          case measure => (simp [intOf, mu] at *) <;> omega
        · have hq' : (q == 0) = false := by simpa using hq
          go_wp2_with (fail)
          (with_reducible refine (pick_any r A n c xs (pp + 1) 6 w2 hR2 (by omega) (by omega)).mono ?_)
          rintro e w3 ⟨v, rfl, v0, v1, _, hRX, hG3⟩
          have v1' := v1 (by omega)
          have hownX := own_but hown2 hG3 hrb
          have hGX := but_trans hG2' hG3
          clear hG3 hown2 hG2' hR2 v1
          go_wp2_with (at_builtin; refine wpList_append_own _ rfl _ _ 38 rfl w.heap.size 128 i0 _ 2 16 Try.underlying38 hi0 hz0 hz1 hz2 rfl (by decide) _ _ _ rfl (hownX.alloc _) _ 1 1 [.int .i64 (3 + v), .int .i64 0] rfl rfl (World.news_of_block (heap_alloc_new _ _)) ?c2 ?c3 ?c4 ?c5 ?_)
          case c2 => intro u hu; simp at hu; rcases hu with rfl | rfl <;> rfl
          case c3 => unfold maxLen; omega
          case c4 => omega
          case c5 => have := hGX.size; simp; omega
          intro v' w4 hown4 hg4 _
          have hG4 := but_grown (but_alloc hGX _) (hownX.alloc _) hg4 (Nat.le_refl _)
          have hR4 := rdr_grown (rdr_alloc hRX _) (hownX.alloc _) hg4 hrb
          have hown5 := own_pair hown4
          clear hown4 hg4 hownX hGX hRX
          go_wp2
          go_roundw
          case rel =>
            refine ⟨nn - 1, 1, _, ps ++ [((3 + v), 0)], by first | rfl | go_num, by first | rfl | go_num, by simpa using hown5, hR4, hG4, by omega, by omega, by simp; omega, by omega, by omega, ?_, ?_⟩
            · simp [mu] at *; omega
            · simp [mu] at *; omega
          case measure => (simp [intOf, mu] at *) <;> omega
      · obtain rfl : nn = 0 := by omega
        go_wp2_with (fail)
        (with_reducible refine (pick_any r A n c xs pp 6 wr hR (by omega) (by omega)).mono ?_)
        rintro e w2 ⟨q, rfl, q0, q1, _, hR2, hG2⟩
        have q1' := q1 (by omega)
        have hown2 := own_but hown hG2 hrb
        have hG2' := but_trans hG hG2
        clear hG2 hown hG hR q1
        by_cases hq : q = 0
        · subst hq
          go_wp2_with (fail)
          (with_reducible refine (pick_any r A n c xs (pp + 1) 6 w2 hR2 (by omega) (by omega)).mono ?_)
          rintro e w3 ⟨v, rfl, v0, v1, _, hRX, hG3⟩
          have v1' := v1 (by omega)
          have hownX := own_but hown2 hG3 hrb
          have hGX := but_trans hG2' hG3
          clear hG3 hown2 hG2' hR2 v1
          go_wp2_with (at_builtin; refine wpList_append_own _ rfl _ _ 38 rfl w.heap.size 128 i0 _ 2 16 Try.underlying38 hi0 hz0 hz1 hz2 rfl (by decide) _ _ _ rfl (hownX.alloc _) _ 1 1 [.int .i64 (3 + v), .int .i64 0] rfl rfl (World.news_of_block (heap_alloc_new _ _)) ?c2 ?c3 ?c4 ?c5 ?_)
          case c2 => intro u hu; simp at hu; rcases hu with rfl | rfl <;> rfl
          case c3 => unfold maxLen; omega
          case c4 => omega
          case c5 => have := hGX.size; simp; omega
          intro v' w4 hown4 hg4 _
          have hG4 := but_grown (but_alloc hGX _) (hownX.alloc _) hg4 (Nat.le_refl _)
          have hR4 := rdr_grown (rdr_alloc hRX _) (hownX.alloc _) hg4 hrb
          have hown5 := own_pair hown4
          clear hown4 hg4 hownX hGX hRX
          go_wp2
          go_roundw
          case rel =>
            refine ⟨0 - 1, 1, _, ps ++ [((3 + v), 0)], by first | rfl | go_num, by first | rfl | go_num, by simpa using hown5, hR4, hG4, by omega, by omega, by simp; omega, by omega, by omega, ?_, ?_⟩
            · simp [mu] at *; omega
            · simp [mu] at *; omega
          case measure => (simp [intOf, mu] at *) <;> omega
        · have hq' : (q == 0) = false := by simpa using hq
          go_wp2_with (fail)
          (with_reducible refine (pick_any r A n c xs (pp + 1) 6 w2 hR2 (by omega) (by omega)).mono ?_)
          rintro e w3 ⟨v, rfl, v0, v1, _, hRX, hG3⟩
          have v1' := v1 (by omega)
          have hownX := own_but hown2 hG3 hrb
          have hGX := but_trans hG2' hG3
          clear hG3 hown2 hG2' hR2 v1
          go_wp2_with (at_builtin; refine wpList_append_own _ rfl _ _ 38 rfl w.heap.size 128 i0 _ 2 16 Try.underlying38 hi0 hz0 hz1 hz2 rfl (by decide) _ _ _ rfl (hownX.alloc _) _ 1 1 [.int .i64 (3 + v), .int .i64 0] rfl rfl (World.news_of_block (heap_alloc_new _ _)) ?c2 ?c3 ?c4 ?c5 ?_)
          case c2 => intro u hu; simp at hu; rcases hu with rfl | rfl <;> rfl
          case c3 => unfold maxLen; omega
          case c4 => omega
          case c5 => have := hGX.size; simp; omega
          intro v' w4 hown4 hg4 _
          have hG4 := but_grown (but_alloc hGX _) (hownX.alloc _) hg4 (Nat.le_refl _)
          have hR4 := rdr_grown (rdr_alloc hRX _) (hownX.alloc _) hg4 hrb
          have hown5 := own_pair hown4
          clear hown4 hg4 hownX hGX hRX
          go_wp2
          go_roundw
          case rel =>
            refine ⟨0 - 1, 1, _, ps ++ [((3 + v), 0)], by first | rfl | go_num, by first | rfl | go_num, by simpa using hown5, hR4, hG4, by omega, by omega, by simp; omega, by omega, by omega, ?_, ?_⟩
            · simp [mu] at *; omega
            · simp [mu] at *; omega
          case measure => (simp [intOf, mu] at *) <;> omega
end Go.Proofs.Ythlcbdjjegageaa
