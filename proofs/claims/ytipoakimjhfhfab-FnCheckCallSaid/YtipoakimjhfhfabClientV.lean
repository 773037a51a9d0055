/- What is valid in a client of the program. -/
import Derived.Test.YtipoakimjhfhfabWorkV
import Derived.Test.YtipoakimjhfhfabQuadMem
set_option linter.unusedSimpArgs false
set_option linter.unusedVariables false
namespace Go.Proofs.Ytipoakimjhfhfab
open Go.RowKit

set_option maxRecDepth 100000 in
set_option maxHeartbeats 1600000 in
theorem clientValid_any (x y z t : Int) (w : World) :
    Calls Try.prog 123 #[.agg #[.int .i64 x, .int .i64 y, .int .i64 z, .int .i64 t]] w fun e w' => e = .returned (.bool (okCl (x, y, z, t))) ∧ Below w.heap.size w w' := by
  have hs1 : (w.alloc (.cells #[.int .i64 x, .int .i64 y, .int .i64 z, .int .i64 t] 45)).heap.size = w.heap.size + 1 := by simp
  have HB := Lib.hid (up_alloc (Below.refl _ w) (.cells #[.int .i64 x, .int .i64 y, .int .i64 z, .int .i64 t] 45))
  have HE := Lib.hid (Blk.new w 45 #[.int .i64 x, .int .i64 y, .int .i64 z, .int .i64 t])
  go_enter Try.func123, Try.ntmps123
  go_wp2_with (fail)
  (with_reducible refine (isClient_any x _).mono ?_)
  rintro e w1 ⟨rfl, hb1⟩
  have hs2 := hb1.size
  rw [hs1] at hs2
  have HB1 := Lib.hid (up HB.out hb1)
  have hE1 := HE.out.below hb1 (by rw [hs1]; omega)
  have k1 : w1.cell? ⟨w.heap.size, 1, none⟩ = some (.int .i64 y) := hE1.cell 1
  have k3 : w1.cell? ⟨w.heap.size, 3, none⟩ = some (.int .i64 t) := hE1.cell 3
  clear hb1 hE1 HE HB
  cases hx : inR x 0 9 with
  | false =>
    have HX := Lib.hid (show okCl (x, y, z, t) = false by simp [okCl, hx])
    clear hx
    go_wp2
    go_ret
    exact ⟨ret_bool HX.out.symm, HB1.out⟩
  | true =>
  have HI := Lib.hid hx
  clear hx
  by_cases h2 : 0 ≤ y
  case neg =>
    have HX := Lib.hid (show okCl (x, y, z, t) = false by simp [okCl, inR, h2])
    go_wp2
    go_ret
    exact ⟨ret_bool HX.out.symm, HB1.out⟩
  by_cases h3 : y ≤ 999
  case neg =>
    have HX := Lib.hid (show okCl (x, y, z, t) = false by simp [okCl, inR, h3])
    go_wp2
    go_ret
    exact ⟨ret_bool HX.out.symm, HB1.out⟩
  have HX := Lib.hid (show okCl (x, y, z, t) = inR t 0 9999 by
    have : inR y 0 999 = true := inR_iff.2 ⟨h2, h3⟩
    simp [okCl, HI.out, this])
  go_wp2_with (fail)
  (with_reducible refine (isTime_any t _).mono ?_)
  rintro e w2 ⟨rfl, hb2⟩
  have HB2 := Lib.hid (up HB1.out hb2)
  clear hb2
  go_wp2
  go_ret
  exact ⟨ret_bool HX.out.symm, HB2.out⟩
end Go.Proofs.Ytipoakimjhfhfab
