/- Marks in slices of impl.Step. (Written by gen/exstep.py.) -/
import Derived.Test.YtogocinmlanikaaExStep
import Derived.Test.YtogocinmlanikaaExInt
set_option linter.unusedSimpArgs false
set_option linter.unusedVariables false
namespace Go.Proofs.Ytogocinmlanikaa
open Go.RowKit

set_option maxRecDepth 100000 in
set_option maxHeartbeats 800000 in
set_option maxHeartbeats 800000 in
theorem markStepS_any (lo hi n c : Nat) (A : Option Addr) (zs : List Value) (k0 : Int) (w : World) (hr : Rd w lo hi 2 A n zs) (hs : Soft w 2 A n) (hn : n ≤ 1048576) (hk0 : 0 ≤ k0) (hk1 : k0 ≤ 1000000000000000) :
    Calls Try.prog 25 #[.slice A n c, .int .i64 k0] w (Marked (pvs (seqP k0 n)) lo hi 2 A n (k0 + 2 * n) w) := by
  have HZ := Lib.hid hr.1
  go_enter Try.func25, Try.ntmps25
  go_wp2
  go_loopw [1, 5] (fun kv iv wr => ∃ (i : Nat), i ≤ n ∧ iv = .int .i64 i ∧ kv = .int .i64 (k0 + 2 * (i : Int)) ∧ Rd wr lo hi 2 A n (pvs (seqP k0 i) ++ zs.drop (i * 2)) ∧ Soft wr 2 A n ∧ In A n w wr)
     (fun _ iv _ => n - (intOf iv).toNat)
  case atStart => exact ⟨0, by omega, rfl, by simp, by simpa [seqP, pvs] using hr, hs, in_refl _ _ _⟩
  case round =>
    clear hr hs
    obtain ⟨i, hi_, rfl, rfl, hr, hs, hin⟩ := hrel
    by_cases hlt : i < n
    · have hl := hr.1
      obtain ⟨b, off, rfl, _, _⟩ := hr.form (by omega)
      obtain ⟨b', off', e, _, _, hcc⟩ := hr.2 (by omega)
      injection e with e; injection e with e1 e2
      subst e1; subst e2
      have hc0 := hcc (i * 2) _ (List.getElem?_eq_getElem (by omega))
      have hc1 := hcc (i * 2 + 1) _ (List.getElem?_eq_getElem (by omega))
      rw [← Nat.add_assoc] at hc1
      generalize (pvs (seqP k0 i) ++ zs.drop (i * 2))[i * 2]'(by omega) = z0 at hc0
      generalize (pvs (seqP k0 i) ++ zs.drop (i * 2))[i * 2 + 1]'(by omega) = z1 at hc1
      have hf0 := hs b off rfl (i * 2) (by omega)
      have hf1 := hs b off rfl (i * 2 + 1) (by omega)
      rw [← Nat.add_assoc] at hf1
      have hr2 := (hr.store (i * 2) (by omega) (.int .i64 (k0 + 2 * (i : Int)))).store (i * 2 + 1) (by omega) (.int .i64 (k0 + 2 * (i : Int) + 1))
      rw [mixP_step k0 zs n i HZ.out hlt, ← Nat.add_assoc] at hr2
      have HR := Lib.hid hr2
      have HS := Lib.hid ((hs.store ⟨b, off + i * 2, none⟩ (.int .i64 (k0 + 2 * (i : Int)))).store ⟨b, off + i * 2 + 1, none⟩ (.int .i64 (k0 + 2 * (i : Int) + 1)))
      have HI := Lib.hid (in_store (in_store hin (by omega) (off + i * 2) (.int .i64 (k0 + 2 * (i : Int)))) (by omega) (off + i * 2 + 1) (.int .i64 (k0 + 2 * (i : Int) + 1)))
      clear hr2 hr hs hin hcc hl
      go_wp2
      go_roundw
      case rel => exact ⟨i + 1, by omega, by go_num, by go_num, HR.out, HS.out, HI.out⟩
      case measure => simp [intOf]; omega
    · obtain rfl : i = n := by omega
      rw [List.drop_of_length_le (by rw [HZ.out]; omega), List.append_nil] at hr
      have HR := Lib.hid hr
      clear hr
      go_wp2
      go_ret
      exact ⟨rfl, HR.out, hs, hin⟩
end Go.Proofs.Ytogocinmlanikaa
