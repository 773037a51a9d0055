/- The law FnHasCircleLine, walked: it returns true. -/
import Derived.Test.YthlcbdjjegageaaLineMath
namespace Go.Proofs.Ythlcbdjjegageaa
open Go.RowKit

set_option maxRecDepth 100000 in
set_option maxHeartbeats 1600000 in
theorem lawHasCircleLine_any (n c : Nat) (A : Option Addr) (xs : List Int) (w : World) (hr : Rd w 0 w.heap.size 1 A n (bvs xs)) (hby : Bytes xs) (hc : n ≤ c) (hc2 : c ≤ 9223372036854775807) :
    Calls Try.prog 9 #[.slice A n c] w fun e w' => e = .returned (.bool true) ∧ Below w.heap.size w w' := by
  by_cases hbig : (1048576 : Int) < n
  · go_enter Try.func9, Try.ntmps9
    go_wp2
    go_ret
    exact ⟨rfl, Below.refl _ _⟩
  go_enter Try.func9, Try.ntmps9
  go_wp2_with (fail)
  (with_reducible refine (drawHasCircle_any n c A xs w hr hby (by omega) hc hc2).mono ?_)
  clear hbig
  rintro e w1 ⟨An, nn, cn, Af, lf, cf, ns, fs, rfl, hP, hb1⟩
  have HC1 := Lib.hid (Pc.new hP)
  have HB1 := Lib.hid (up_alloc hb1 (.cells #[.slice An nn cn, .slice Af lf cf] 26))
  clear hP hb1
  go_wp2_with (fail)
  (with_reducible refine (HC1.out.circI).mono ?_)
  rintro e w2 ⟨rfl, hb2⟩
  have HC2 := Lib.hid (HC1.out.below hb2)
  have HB2 := Lib.hid (up HB1.out hb2)
  have k0 := HC2.out.k0
  have k1 := HC2.out.k1
  clear hb2 HC1 HB1
  generalize hcc : circOf ns fs = cc
  have HCC := Lib.hid hcc
  clear hcc
  go_wp2_with (fail)
  (with_reducible refine (HC2.out.circS).mono ?_)
  rintro e w3 ⟨rfl, hb3⟩
  rw [HCC.out]
  have HB3 := Lib.hid (up HB2.out hb3)
  clear hb3 HC2 HB2 HCC k0 k1
  cases cc
  all_goals
    go_wp2_with (fail)
    (with_reducible refine (line_any _).mono ?_)
    rintro e w4 ⟨LA, lc, LF, lc2, rfl, hL, hb4⟩
    have HB4 := Lib.hid (up HB3.out hb4)
    clear hb4 HB3
    go_wp2_with (fail)
    (with_reducible refine (hL.circI (Nat.le_refl _)).mono ?_)
    rintro e w5 ⟨rfl, hb5⟩
    rw [line_circ]
    have HB5 := Lib.hid (up HB4.out hb5)
    clear hb5 HB4 hL
    go_wp2_with (fail)
    (with_reducible refine (line_any _).mono ?_)
    rintro e w6 ⟨LA, lc, LF, lc2, rfl, hL, hb6⟩
    have HB6 := Lib.hid (up HB5.out hb6)
    clear hb6 HB5
    go_wp2_with (fail)
    (with_reducible refine (hL.reachI (Nat.le_refl _)).mono ?_)
    rintro e w7 ⟨A7, c7, rfl, _, hr7, _, hb7⟩
    rw [line_reach] at hr7 ⊢
    have HB7 := Lib.hid (up_alloc (up HB6.out hb7) (.cells #[.int .i64 0, .int .i64 1, .int .i64 2] 3))
    have hr8 := hr7.keep (up_alloc (Below.refl _ w7) (.cells #[.int .i64 0, .int .i64 1, .int .i64 2] 3)) (Nat.le_refl _)
    have hbl := Blk.new w7 3 #[.int .i64 0, .int .i64 1, .int .i64 2]
    have HC := Lib.hid (equalInts_any _ _ 3 c7 w7.heap.size (w7.heap.size + 1) 3 3 A7 _ [0, 1, 2] [0, 1, 2] _ hr8 (by simp) (by omega) (Rd.of_blk hbl rfl) (by simp) (by omega))
    clear hb7 HB6 hL hr7 hr8 hbl
    go_wp2_with (fail)
    (with_reducible refine HC.out.mono ?_)
    rintro e w8 ⟨rfl, hb8⟩
    have HB8 := Lib.hid (up HB7.out hb8)
    clear hb8 HB7 HC
    go_wp2
    go_ret
    exact ⟨rfl, HB8.out⟩
end Go.Proofs.Ythlcbdjjegageaa
