/- spec.ChooseFlow. -/
import Derived.Test.YtcckmabdflhfmaaTokChooseS
namespace Go.Proofs.Ytcckmabdflhfmaa
open Go.RowKit

set_option maxRecDepth 100000 in
set_option maxHeartbeats 1600000 in
theorem ChooseFlowS_any (lo hi nn cn : Nat) (An : Option Addr) (ns : List (Int × Int)) (lo1 hi1 lf cf : Nat) (Af : Option Addr) (fs : List Flw) (node : Int) (lo' hi' n' c' : Nat) (A' : Option Addr) (vs : List Int) (w : World) (hrn : Rd w lo hi 2 An nn (pvs ns)) (hB : hi ≤ w.heap.size) (hnn : nn ≤ 1048576)
    (hr : Fls w lo1 hi1 Af lf fs) (hB1 : hi1 ≤ w.heap.size) (hn : lf ≤ 1048576) (hv : Rd w lo' hi' 1 A' n' (ivs vs)) (hB' : hi' ≤ w.heap.size) (hn' : n' ≤ 1048576) :
    Calls Try.prog 39 #[.agg #[.slice An nn cn, .slice Af lf cf], .int .i64 node, .slice A' n' c'] w fun e w' => e = .returned (.int .i64 (chooseAt ns fs node vs)) ∧ Below w.heap.size w w' := by
  have hb1 := up_alloc (Below.refl _ w) (.cells #[.slice An nn cn, .slice Af lf cf] 33)
  have hp := Blk.new w 33 #[.slice An nn cn, .slice Af lf cf]
  have hs1 : (w.alloc (.cells #[.slice An nn cn, .slice Af lf cf] 33)).heap.size = w.heap.size + 1 := by simp
  have HL := Lib.hid hrn.len2
  have HC := Lib.hid (validProcessS_any lo hi nn cn An ns lo1 hi1 lf cf Af fs _ (hrn.keep hb1 hB) (by omega) hnn (hr.keep hb1 hB1) (by omega) hn)
  go_enter Try.func39, Try.ntmps39
  go_wp2_with (fail)
  (with_reducible refine HC.out.mono ?_)
  clear HC
  rintro e w1 ⟨rfl, hb2⟩
  have HP := Lib.hid (hp.below hb2 (by omega))
  have HB := Lib.hid (up hb1 hb2)
  have k0 : w1.cell? ⟨w.heap.size, 0, none⟩ = some (.slice An nn cn) := HP.out.cell 0
  have k1 : w1.cell? ⟨w.heap.size, 1, none⟩ = some (.slice Af lf cf) := HP.out.cell 1
  clear hb1 hb2 hp
  cases hV : vProc ns fs with
  | false =>
    have HX := Lib.hid (chooseAt_no1 (node := node) (vs := vs) hV)
    clear hV
    go_wp2
    go_ret
    exact ⟨ret_int HX.out.symm, HB.out⟩
  | true =>
    have HV := Lib.hid hV
    have hwr : IntKind.i64.wrap ((nn : Int) - 1) = (nn : Int) - 1 := IntWalk.i64_in _ (by omega)
    clear hV
    cases hin : inR node 0 ((nn : Int) - 1) with
    | false =>
      have HX := Lib.hid (chooseAt_no2 (fs := fs) (vs := vs) (show inR node 0 ((ns.length : Int) - 1) = false by rw [HL.out]; exact hin))
      go_wp2_with (fail)
      (with_reducible refine (inRange_any node 0 ((nn : Int) - 1) _).mono ?_)
      rintro e w2 ⟨rfl, rfl⟩
      rw [hin]
      clear hin
      go_wp2
      go_ret
      exact ⟨ret_int HX.out.symm, HB.out⟩
    | true =>
      obtain ⟨i0, i1⟩ := inR_iff.1 hin
      obtain ⟨k, rfl⟩ := Int.eq_ofNat_of_zero_le i0
      have hk : k < nn := by omega
      obtain ⟨b, off, x, y, rfl, _, _, hg, hc0, _⟩ := (hrn.keep HB.out hB).pair hk
      have hk1 : (k : Int) < (nn : Int) := by omega
      have HIN := Lib.hid (show inR (k : Int) 0 ((ns.length : Int) - 1) = true by rw [HL.out]; exact hin)
      go_wp2_with (fail)
      (with_reducible refine (inRange_any (k : Int) 0 ((nn : Int) - 1) _).mono ?_)
      rintro e w2 ⟨rfl, rfl⟩
      rw [hin]
      clear hin
      by_cases hx : x = 5
      · subst hx
        have HVV := Lib.hid (validValuesS_any lo' hi' n' c' A' vs _ (hv.keep HB.out hB') (by omega))
        cases hvv : vVals vs with
        | false =>
          have HX := Lib.hid (chooseAt_no4 (ns := ns) (fs := fs) (node := (k : Int)) hvv)
          go_wp2_with (fail)
          (with_reducible refine HVV.out.mono ?_)
          rintro e w2 ⟨rfl, rfl⟩
          rw [hvv]
          clear hvv hg
          go_wp2
          go_ret
          exact ⟨ret_int HX.out.symm, HB.out⟩
        | true =>
          have HX := Lib.hid (chooseAt_yes HV.out HIN.out hg hvv)
          have HCC := Lib.hid (choose_any (some ⟨b, off, none⟩) nn cn ns lo1 hi1 lf cf Af fs (k : Int) lo' hi' n' c' A' vs _ HV.out hvv (hr.keep HB.out hB1) (Nat.le_trans hB1 HB.out.size) hn (hv.keep HB.out hB') (Nat.le_trans hB' HB.out.size))
          go_wp2_with (fail)
          (with_reducible refine HVV.out.mono ?_)
          rintro e w2 ⟨rfl, rfl⟩
          rw [hvv]
          clear hvv hg
          go_wp2_with (fail)
          (with_reducible refine HCC.out.mono ?_)
          rintro e w3 ⟨rfl, hb4⟩
          have HB4 := Lib.hid (up HB.out hb4)
          clear hb4
          go_wp2
          go_ret
          exact ⟨ret_int HX.out.symm, HB4.out⟩
      · have HX := Lib.hid (chooseAt_no3 (fs := fs) (vs := vs) hg hx)
        have hx' : (x != 5) = true := by simpa using hx
        clear hg hx
        go_wp2
        go_ret
        exact ⟨ret_int HX.out.symm, HB.out⟩
end Go.Proofs.Ytcckmabdflhfmaa
