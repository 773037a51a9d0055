/- spec.start, impl.startOf: the start of a process. -/
import Derived.Test.YthlcbdjjegageaaCondUsedS
import Derived.Test.YthlcbdjjegageaaProcMem
namespace Go.Proofs.Ythlcbdjjegageaa
open Go.RowKit

/-- The number of the first node that is a start, the first node being number k; -1 if there is none. -/
def startAt : List (Int × Int) → Nat → Int
  | [], _ => -1
  | p :: ps, k => if p.1 = 0 then (k : Int) else startAt ps (k + 1)
theorem startAt_hit {ns : List (Int × Int)} {k : Nat} {x y : Int} (hg : ns[k]? = some (x, y)) (h : x = 0) : startAt (ns.drop k) k = (k : Int) := by
  rw [drop_flw hg, startAt, if_pos h]
theorem startAt_miss {ns : List (Int × Int)} {k : Nat} {x y : Int} (hg : ns[k]? = some (x, y)) (h : ¬ x = 0) : startAt (ns.drop k) k = startAt (ns.drop (k + 1)) (k + 1) := by
  rw [drop_flw hg, startAt, if_neg h]

set_option maxHeartbeats 800000 in
theorem startS_any (lo hi nn cn : Nat) (An : Option Addr) (ns : List (Int × Int)) (vf : Value) (w : World) (hrn : Rd w lo hi 2 An nn (pvs ns)) (hB : hi ≤ w.heap.size) (hnn : nn ≤ 1048576) :
    Calls Try.prog 62 #[.agg #[.slice An nn cn, vf]] w fun e w' => e = .returned (.int .i64 (startAt ns 0)) ∧ Below w.heap.size w w' := by
  have HL := Lib.hid hrn.len2
  have hblk := Blk.new w 26 #[.slice An nn cn, vf]
  have hb1 := up_alloc (Below.refl _ w) (.cells #[.slice An nn cn, vf] 26)
  have hr1 := hrn.keep hb1 hB
  have hd0 : (w.alloc (.cells #[.slice An nn cn, vf] 26)).cell? ⟨w.heap.size, 0, none⟩ = some (.slice An nn cn) := hblk.cell 0
  have HB := Lib.hid hb1
  generalize hw1 : w.alloc (.cells #[.slice An nn cn, vf] 26) = w1 at hr1 hd0 HB
  clear hblk hb1
  go_enter Try.func62, Try.ntmps62
  go_wp2
  try rw [hw1]
  go_loop [3] (fun iv => ∃ (k : Nat), k ≤ nn ∧ iv = .int .i64 k ∧ Hid (startAt ns 0 = startAt (ns.drop k) k))
     (fun iv => nn - (intOf iv).toNat)
  case atStart => exact ⟨0, by omega, rfl, rfl⟩
  case round =>
    obtain ⟨k, hk, rfl, hS⟩ := hrel
    by_cases hkn : k < nn
    · obtain ⟨b, off, x, y, rfl, _, _, hg, hc0, hc1⟩ := hr1.pair hkn
      by_cases h0 : x = 0
      · have HS := Lib.hid (hS.out.trans (startAt_hit hg h0))
        have h0' : (x == 0) = true := by simpa using h0
        clear hg hS h0 hw1
        go_wp2
        go_ret
        exact ⟨ret_int HS.out.symm, HB.out⟩
      · have HS := Lib.hid (hS.out.trans (startAt_miss hg h0))
        have h0' : (x == 0) = false := by simpa using h0
        clear hg hS h0 hw1
        go_wp2
        go_round
        case rel => exact ⟨k + 1, by omega, by go_num, HS⟩
        case measure => simp [intOf]; omega
    · obtain rfl : k = nn := by omega
      have HS : Hid (startAt ns 0 = -1) := by
        rw [Hid, hS.out, List.drop_of_length_le (by rw [HL.out]; omega)]; rfl
      clear hS hw1
      go_wp2
      go_ret
      exact ⟨ret_int HS.out.symm, HB.out⟩
set_option maxHeartbeats 800000 in
theorem startI_any (lo hi nn cn : Nat) (An : Option Addr) (ns : List (Int × Int)) (vf : Value) (w : World) (hrn : Rd w lo hi 2 An nn (pvs ns)) (hB : hi ≤ w.heap.size) (hnn : nn ≤ 1048576) :
    Calls Try.prog 59 #[.agg #[.slice An nn cn, vf]] w fun e w' => e = .returned (.int .i64 (startAt ns 0)) ∧ Below w.heap.size w w' := by
  have HL := Lib.hid hrn.len2
  have hb1 := up_alloc (Below.refl _ w) (.cells #[.slice An nn cn, vf] 26)
  go_enter Try.func59, Try.ntmps59
  go_wp2
  go_loopw [8] (fun iv wr => ∃ (k : Nat), k ≤ nn ∧ iv = .int .i64 k ∧ Hid (startAt ns 0 = startAt (ns.drop k) k) ∧ Below w.heap.size w wr)
     (fun iv _ => nn - (intOf iv).toNat)
  case atStart => exact ⟨0, by omega, rfl, rfl, hb1⟩
  case round =>
    clear hb1
    obtain ⟨k, hk, rfl, hS, hbl⟩ := hrel
    by_cases hkn : k < nn
    · obtain ⟨b, off, x, y, rfl, hbB, _, hg, hc0, hc1⟩ := (hrn.keep hbl hB).pair hkn
      have hbw : b < wr.heap.size := by have := hbl.size; omega
      have HB := Lib.hid (up_alloc hbl (.cells #[.int .i64 x, .int .i64 y] 32))
      by_cases h0 : x = 0
      · have HS := Lib.hid (hS.out.trans (startAt_hit hg h0))
        have h0' : (x == 0) = true := by simpa using h0
        clear hg hS h0 hbl
        go_wp2
        go_ret
        exact ⟨ret_int HS.out.symm, HB.out⟩
      · have HS := Lib.hid (hS.out.trans (startAt_miss hg h0))
        have h0' : (x == 0) = false := by simpa using h0
        clear hg hS h0 hbl
        go_wp2
        go_roundw
        case rel => exact ⟨k + 1, by omega, by go_num, HS, HB.out⟩
        case measure => simp [intOf]; omega
    · obtain rfl : k = nn := by omega
      have HS : Hid (startAt ns 0 = -1) := by
        rw [Hid, hS.out, List.drop_of_length_le (by rw [HL.out]; omega)]; rfl
      clear hS
      go_wp2
      go_ret
      exact ⟨ret_int HS.out.symm, hbl⟩
end Go.Proofs.Ythlcbdjjegageaa
