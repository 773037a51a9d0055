/- The argument of the laws on DropLetters. -/
import Derived.Test.YtgnffodnimafoaaDrawT3
set_option linter.unusedSimpArgs false
set_option linter.unusedVariables false
namespace Go.Proofs.Ytgnffodnimafoaa
open Go.RowKit

def DrawPJ (w : World) (e : Ending) (w' : World) : Prop :=
  ∃ A1 n1 c1 A2 n2 c2 ns fs, ∃ z : Int, e = .returned (.tuple #[.agg #[.slice A1 n1 c1, .slice A2 n2 c2], .int .i64 z]) ∧ -10000 ≤ z ∧ z ≤ 10000 ∧ Off w w' A1 n1 c1 A2 n2 c2 ns fs
theorem one_at (r : Nat) (A : Option Addr) (n c : Nat) (xs : List Int) (p : Int) (ys : List Int) (k g : Nat) (cs : Array Value) (w : World) (h : Rdr w r A n c xs p) (hp : p ≤ 900000) (hk : ys.length = k) (hk1 : 1 ≤ k) (hk2 : k ≤ 1000) (hs : ∀ y ∈ ys, -10000 ≤ y ∧ y ≤ 10000) (hb : Blk w g 3 cs) (hg : r < g) (hcs : cs = (ys.map (Value.int .i64)).toArray) :
    Calls Try.prog 29 #[.pointer (some ⟨r, 0, none⟩), .slice (some ⟨g, 0, none⟩) k k] w (IntPost 1 r A n c xs p w) := by
  subst hcs
  refine (one_any r A n c xs p _ _ k k _ ys _ h (by omega) (show Rd _ g (g + 1) 1 _ k (ivs ys) from by have := Rd.of_blk hb (n := k) (size := 1) (by simp [hk]); simpa [ivs] using this) (by have := hb.lt; omega) hk1 (by omega) (.inl hg)).mono ?_
  rintro e w1 ⟨q, rfl, hq, hR, hG⟩
  exact ⟨q, p + 1, rfl, (hs q hq).1, (hs q hq).2, hR, by omega, hG⟩
set_option maxRecDepth 100000 in
set_option maxHeartbeats 6400000 in
theorem drawDropLetters_any (n c : Nat) (A : Option Addr) (xs : List Int) (w : World) (hr : Rd w 0 w.heap.size 1 A n (bvs xs)) (hby : Bytes xs) (hn : n ≤ 1048576) (hc : n ≤ c) (hc2 : c ≤ 9223372036854775807) :
    Calls Try.prog 12 #[.slice A n c] w (DrawPJ w) := by
  have HQ0 := Lib.hid (Blk.new w 26 #[.slice none 0 0, .slice none 0 0])
  have HB0 := Lib.hid (up_alloc (Below.refl _ w) (.cells #[.slice none 0 0, .slice none 0 0] 26))
  have HRA := Lib.hid (hr.keep (up_alloc (Below.refl _ w) (.cells #[.slice none 0 0, .slice none 0 0] 26)) (Nat.le_refl _))
  clear hr
  go_enter Try.func12, Try.ntmps12
  go_wp2_with (fail)
  (with_reducible refine (newReader_any n c A xs _ (HRA.out.wide (Nat.le_refl _) (by simp)) hby hn hc hc2).mono ?_)
  rintro e w1 ⟨r, n', c', xs', rfl, hrw, hR1, hb1⟩
  have hrl := hR1.lt
  simp only [World.size_alloc] at hrw
  have HB1 := Lib.hid (up HB0.out hb1)
  have HQ1 := Lib.hid (HQ0.out.below hb1 HQ0.out.lt)
  have hz1 := HB1.out.size
  clear hb1 HRA HQ0 HB0
  go_wp2_with (fail)
  (with_reducible refine (anyPost_any r A n' c' xs' 0 w1 hR1 (by omega)).mono ?_)
  rintro e w2 ⟨A1, n1, c1, A2, n2, c2, ns, fs, p2, rfl, hcr, hn1, hn2, hR2, hp2, hG2⟩
  have hk1 : n1 ≤ c1 := by obtain ⟨_, _, e, hc, _⟩ := own_cap hcr.1; cases e; exact hc
  have hk2 : n2 ≤ c2 := by obtain ⟨_, _, e, hc, _⟩ := own_cap hcr.2.1; cases e; exact hc
  have HQ3 := Lib.hid ((HQ1.out.but hG2 (by omega)).alloc (.cells #[.slice A1 n1 c1, .slice A2 n2 c2] 26))
  have HB3 := Lib.hid (up_alloc (but_mineK HB1.out hG2 (by omega)) (.cells #[.slice A1 n1 c1, .slice A2 n2 c2] 26))
  have HBX := Lib.hid (up_alloc (Below.refl _ w2) (.cells #[.slice A1 n1 c1, .slice A2 n2 c2] 26))
  have HD1 := Lib.hid (((Rd.of_own hcr.1).wide (lo' := r + 1) (by omega) (Nat.le_refl _)).keep HBX.out (Nat.le_refl _))
  have HD2 := Lib.hid (((Rd.of_own hcr.2.1).wide (lo' := r + 1) (by omega) (Nat.le_refl _)).keep HBX.out (Nat.le_refl _))
  have HR3 := Lib.hid (rdr_alloc hR2 (.cells #[.slice A1 n1 c1, .slice A2 n2 c2] 26))
  have HX := Lib.hid (Blk.new w2 26 #[.slice A1 n1 c1, .slice A2 n2 c2])
  have hz2 := hG2.size
  have hz3 : (w2.alloc (.cells #[.slice A1 n1 c1, .slice A2 n2 c2] 26)).heap.size = w2.heap.size + 1 := by simp
  have hpp : p2 ≤ 200 := by omega
  clear hcr hR2 hG2 HQ1 HB1 HBX
  go_upto_region 3 with fail
  generalize w2.alloc (.cells #[.slice A1 n1 c1, .slice A2 n2 c2] 26) = w3 at *
  obtain ⟨xb, hxb⟩ : ∃ xb, xb = w2.heap.size := ⟨_, rfl⟩
  rw [← hxb] at HX HD1 HD2 ⊢
  have hx1 : w1.heap.size ≤ xb := by omega
  have hx2 : xb < w3.heap.size := by omega
  have hx3 : r < w3.heap.size := by omega
  have hx4 : w.heap.size < r := by omega
  have hx5 : r < xb := by omega
  have hxq : xb ≠ w.heap.size := by omega
  clear hxb hz3 hz2 hz1
  have d0 : w3.cell? ⟨xb, 0, none⟩ = some (.slice A1 n1 c1) := HX.out.cell 0
  have d1 : w3.cell? ⟨xb, 1, none⟩ = some (.slice A2 n2 c2) := HX.out.cell 1
  have HSB := Lib.hid ((Blk.new w3 3 #[.int .i64 0, .int .i64 11, .int .i64 50, .int .i64 51, .int .i64 101, .int .i64 10000, .int .i64 (-1)]).drew)
  have HXB := Lib.hid ((HX.out.alloc (.cells #[.int .i64 0, .int .i64 11, .int .i64 50, .int .i64 51, .int .i64 101, .int .i64 10000, .int .i64 (-1)] 3)).drew)
  have HQB := Lib.hid ((HQ3.out.alloc (.cells #[.int .i64 0, .int .i64 11, .int .i64 50, .int .i64 51, .int .i64 101, .int .i64 10000, .int .i64 (-1)] 3)).drew)
  have HRB := Lib.hid (rdr_drew (rdr_alloc HR3.out (.cells #[.int .i64 0, .int .i64 11, .int .i64 50, .int .i64 51, .int .i64 101, .int .i64 10000, .int .i64 (-1)] 3)))
  have HBU := Lib.hid (up_drew (up_alloc (Below.refl _ w3) (.cells #[.int .i64 0, .int .i64 11, .int .i64 50, .int .i64 51, .int .i64 101, .int .i64 10000, .int .i64 (-1)] 3)))
  have HB4 := Lib.hid (up HB3.out HBU.out)
  have HD3 := Lib.hid (HD1.out.keep HBU.out (Nat.le_of_lt hx2))
  have HD4 := Lib.hid (HD2.out.keep HBU.out (Nat.le_of_lt hx2))
  have hbz := HBU.out.size
  clear HX HQ3 HR3 HB3 HD1 HD2 HBU
  go_region_held3 (fun w' => w'.cell? ⟨xb, 0, none⟩ = some (.slice A1 n1 c1) ∧ w'.cell? ⟨xb, 1, none⟩ = some (.slice A2 n2 c2))
    (first | exact ⟨d0, d1⟩ | exact ⟨HXB.out.cell 0, HXB.out.cell 1⟩ | exact ⟨hX6.cell 0, hX6.cell 1⟩ | exact ⟨hY6.cell 0, hY6.cell 1⟩ | exact ⟨hY6.drew.cell 0, hY6.drew.cell 1⟩)
    ((first
      | (go_at_call 29; (with_reducible refine (one_at r A n' c' xs' p2 [0, 11, 50, 51, 101, 10000, -1] 7 _ _ _ HRB.out (by omega) rfl (by omega) (by omega) (by simp) HSB.out hx3 (by simp)).mono ?_)
         rintro e w6 ⟨z, p6, rfl, z0, z1, hR6, hp6, hG6⟩
         have hX6 := HXB.out.but hG6 (by omega)
         have hY6 := (hX6.far (p := ⟨w.heap.size, 0, none⟩) hxq (.slice A1 n1 c1)).far (p := ⟨w.heap.size, 1, none⟩) hxq (.slice A2 n2 c2)
         have hQ6 := HQB.out.but hG6 (by omega)
         have q0 := hQ6.cell 0
         have q1 := hQ6.cell 1
         have s0 := hQ6.soft 0
         have s1 := hQ6.soft 1)
      | fail "no arm"))
  all_goals
    clear d0 d1
    have HZZ := Lib.hid ((hQ6.put 0 (.slice A1 n1 c1)).put 1 (.slice A2 n2 c2))
    have f0 := HZZ.out.cell 0
    have f1 := HZZ.out.cell 1
    simp at f0 f1
    have h1 := ((HD3.out.but hG6 (by omega) (by omega)).setCell (p := ⟨w.heap.size, 0, none⟩) (.inl (by show w.heap.size < r + 1; omega)) (.slice A1 n1 c1)).setCell (p := ⟨w.heap.size, 1, none⟩) (.inl (by show w.heap.size < r + 1; omega)) (.slice A2 n2 c2)
    have h2 := ((HD4.out.but hG6 (by omega) (by omega)).setCell (p := ⟨w.heap.size, 0, none⟩) (.inl (by show w.heap.size < r + 1; omega)) (.slice A1 n1 c1)).setCell (p := ⟨w.heap.size, 1, none⟩) (.inl (by show w.heap.size < r + 1; omega)) (.slice A2 n2 c2)
    have h3 := ((but_mineK HB4.out hG6 (by omega)).setCell (p := ⟨w.heap.size, 0, none⟩) (Nat.le_refl _) (.slice A1 n1 c1)).setCell (p := ⟨w.heap.size, 1, none⟩) (Nat.le_refl _) (.slice A2 n2 c2)
    have h4 := hG6.size
    have HF := Lib.hid (Off.mk (w := w) hn1 hn2 hk1 hk2 (h1.wide (by omega) (by simp; omega)) (h2.wide (by omega) (by simp; omega)) h3)
    clear h1 h2 h3 hX6 hY6 hQ6 HZZ hG6 hR6
    go_wp2
    exact bodyPost_ret (v := .tuple #[.agg #[.slice A1 n1 c1, .slice A2 n2 c2], .int .i64 z]) (by simp [results, Try.results12, go_sem, f0, f1]) rfl ⟨_, _, _, _, _, _, _, _, z, rfl, z0, z1, HF.out⟩
end Go.Proofs.Ytgnffodnimafoaa
