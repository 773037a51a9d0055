/- The law FnReplyOf, walked: it returns true. (Written by a program over gen/lawlib.py.) -/
import Derived.Test.YtipoakimjhfhfabDrawK2
import Derived.Test.YtipoakimjhfhfabClientI
import Derived.Test.YtipoakimjhfhfabClientF
import Derived.Test.YtipoakimjhfhfabMayE
import Derived.Test.YtipoakimjhfhfabEqLists
import Derived.Test.YtipoakimjhfhfabLawClientM
import Derived.BigQuiet
import Derived.Deep.RegionLaw
set_option linter.unusedSimpArgs false
set_option linter.unusedVariables false
namespace Go.Proofs.Ytipoakimjhfhfab
open Go.RowKit

set_option maxRecDepth 100000 in
set_option maxHeartbeats 6400000 in
theorem lawReplyOf_any (n c : Nat) (A : Option Addr) (xs : List Int) (w : World) (hr : Rd w 0 w.heap.size 1 A n (bvs xs)) (hby : Bytes xs) (hc : n ≤ c) (hc2 : c ≤ 9223372036854775807) :
    Calls Try.prog 11 #[.slice A n c] w fun e w' => e = .returned (.bool true) ∧ Below w.heap.size w w' := by
  by_cases hbig : (1048576 : Int) < n
  · go_enter Try.func11, Try.ntmps11
    go_wp2
    go_ret
    exact ⟨rfl, Below.refl _ _⟩
  go_enter Try.func11, Try.ntmps11
  go_wp2_with (fail)
  (with_reducible refine (drawReplyOf_any n c A xs w hr hby (by omega) hc hc2).mono ?_)
  rintro e w1 ⟨A1, m, c1, ps, z0, z1, rfl, hm, hk1, hsm, hrd, ⟨z0a, z0b⟩, ⟨z1a, z1b⟩, hb1⟩
  clear hbig hr
  have HB_0 := Lib.hid hb1
  have hz_1 := hb1.size
  clear hb1
  clear hsm
  have hz0 : in64 z0 := by unfold in64; omega
  have hz1 : in64 z1 := by unfold in64; omega
  have HPL := Lib.hid hrd.len4
  have HL_1 := Lib.hid (hrd.wide (Nat.zero_le _) (Nat.le_refl _))
  clear hrd
  obtain ⟨rv, ro, HRV⟩ : ∃ rv ro, Hid ((replyOf ps z0 z1).getD 0 = rv ∧ (replyOf ps z0 z1).isSome = ro) := ⟨_, _, rfl, rfl⟩
  have hne1 : (rv != rv) = false := by simp
  have heq1 : (rv == rv) = true := by simp
  have hne2 : (ro != ro) = false := by simp
  have heq2 : (ro == ro) = true := by simp
  go_wp2_with (fail)
  (with_reducible refine (ReplyOfI_any 0 _ m c1 A1 ps z0 z1 _ HL_1.out (by omega) (by omega) hz0 hz1).mono ?_)
  rintro e w2 ⟨rfl, hbt⟩
  rw [HRV.out.1, HRV.out.2]
  try simp only [Option.getD_some, Option.isSome_some, Option.getD_none, Option.isSome_none]
  have HL_2 := Lib.hid (HL_1.out.keep hbt (by omega))
  have HB_3 := Lib.hid (up HB_0.out hbt)
  have hz_2 := hbt.size
  clear HL_1 HB_0
  clear hbt
  go_wp2_with (fail)
  (with_reducible refine (ReplyOfS_any 0 _ m c1 A1 ps z0 z1 _ HL_2.out (by omega) (by omega) hz0 hz1).mono ?_)
  rintro e w3 ⟨rfl, hbt⟩
  rw [HRV.out.1, HRV.out.2]
  try simp only [Option.getD_some, Option.isSome_some, Option.getD_none, Option.isSome_none]
  have HL_4 := Lib.hid (HL_2.out.keep hbt (by omega))
  have HB_5 := Lib.hid (up HB_3.out hbt)
  have hz_3 := hbt.size
  clear HL_2 HB_3
  clear hbt
  go_wp2_with (fail)
  (with_reducible refine (ValidClientsI_any 0 _ m c1 A1 ps _ HL_4.out (by omega) (by omega)).mono ?_)
  rintro e w4 ⟨rfl, hbt⟩
  have HL_6 := Lib.hid (HL_4.out.keep hbt (by omega))
  have HB_7 := Lib.hid (up HB_5.out hbt)
  have hz_4 := hbt.size
  clear HL_4 HB_5
  clear hbt
  cases hv : vCls ps with
  | false =>
    clear hv
    go_wp2
    go_ret
    exact ⟨rfl, HB_7.out⟩
  | true =>
  have HV := Lib.hid hv
  clear hv
  have HAR := Lib.hid (any_reply HV.out z0 z1)
  go_wp2
  go_loopw [10, 11] (fun sv iv wr => ∃ (k : Nat), k ≤ m ∧ sv = .bool ((ps.take k).any (wasLast z0 z1)) ∧ iv = .int .i64 k ∧ Hid (Below w4.heap.size w4 wr))
     (fun _ iv _ => m - (intOf iv).toNat)
  case atStart => exact ⟨0, by omega, rfl, rfl, Below.refl _ _⟩
  case round =>
    obtain ⟨w5, HWR⟩ : ∃ x : World, x = wr := ⟨_, rfl⟩
    subst HWR
    obtain ⟨k, hk, rfl, rfl, HLP⟩ := hrel
    have hlb := HLP.out
    have HL_8 := Lib.hid (HL_6.out.keep hlb (by omega))
    have HB_9 := Lib.hid (up HB_7.out hlb)
    have hz_5 := hlb.size
    clear HL_6 HB_7
    clear hlb
    by_cases hlt : k < m
    case neg =>
      have hge : (m : Int) ≤ (k : Int) := by omega
      rw [List.take_of_length_le (by rw [HPL.out]; omega), HAR.out, HRV.out.2]
      go_wp2
      go_ret
      exact ⟨rfl, HB_9.out⟩
    have hkm : (k : Int) < (m : Int) := by omega
    have hk0 : (0 : Int) ≤ (k : Int) := by omega
    obtain ⟨b, off, x, y, u, t, hAe, hbB, _, hg, hc0, hc1', hc2', hc3'⟩ := HL_8.out.quad (k := k) hlt
    subst hAe
    have HS := Lib.hid (any_more (wasLast z0 z1) hg)
    have HWR := Lib.hid (was_reply (z := z0) (call := z1) HV.out (List.mem_of_getElem? hg))
    clear hg
    generalize hsb : (ps.take k).any (wasLast z0 z1) = sb at HS ⊢
    clear hsb
    by_cases hx : x = z0
    case neg =>
      have HW := Lib.hid (show wasLast z0 z1 (x, y, u, t) = false by simp [wasLast, hx])
      have hxb : (x == z0) = false := by simpa using hx
      go_wp2
      go_roundw
      case rel => exact ⟨k + 1, by omega, by rw [HS.out, HW.out]; cases sb <;> rfl, by go_num, HLP.out⟩
      case measure => simp [intOf]; omega
    have hxb : (x == z0) = true := by simpa using hx
    by_cases hy : y = z1
    case neg =>
      have HW := Lib.hid (show wasLast z0 z1 (x, y, u, t) = false by simp [wasLast, hy])
      have hyb : (y == z1) = false := by simpa using hy
      go_wp2
      go_roundw
      case rel => exact ⟨k + 1, by omega, by rw [HS.out, HW.out]; cases sb <;> rfl, by go_num, HLP.out⟩
      case measure => simp [intOf]; omega
    have hyb : (y == z1) = true := by simpa using hy
    by_cases hp : 0 < z1
    case neg =>
      have HW := Lib.hid (show wasLast z0 z1 (x, y, u, t) = false by simp [wasLast, hp])
      have hpb : decide (0 < z1) = false := decide_eq_false hp
      go_wp2
      go_roundw
      case rel => exact ⟨k + 1, by omega, by rw [HS.out, HW.out]; cases sb <;> rfl, by go_num, HLP.out⟩
      case measure => simp [intOf]; omega
    have hpb : decide (0 < z1) = true := decide_eq_true hp
    have HW := Lib.hid (show wasLast z0 z1 (x, y, u, t) = true by simp [wasLast, hx, hy, hp])
    have hru : rv = u := by rw [← HRV.out.1, HWR.out HW.out]; rfl
    subst hru
    clear hx hy
    go_wp2
    go_roundw
    case rel => exact ⟨k + 1, by omega, by rw [HS.out, HW.out]; cases sb <;> rfl, by go_num, HLP.out⟩
    case measure => simp [intOf]; omega
end Go.Proofs.Ytipoakimjhfhfab
