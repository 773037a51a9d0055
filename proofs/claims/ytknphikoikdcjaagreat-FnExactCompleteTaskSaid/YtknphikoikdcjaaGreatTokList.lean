/- impl.list: the tokens of a map as a list of numbers. -/
import Derived.Test.YtknphikoikdcjaaGreatTokCountA
import Derived.Test.YtknphikoikdcjaaGreatExInt
import Derived.Test.YtknphikoikdcjaaGreatStartA
set_option linter.unusedSimpArgs false
set_option linter.unusedVariables false
namespace Go.Proofs.YtknphikoikdcjaaGreat
open Go.RowKit

/-- The flow out of the start of a valid process. -/
theorem start_flow {ns : List (Int × Int)} {fs : List Flw} (h : vProc ns fs = true) : ∃ q : Nat, flOf fs true (startAt ns 0) = [(q : Int)] ∧ q < fs.length ∧ 0 ≤ startAt ns 0 ∧ startAt ns 0 < (ns.length : Int) := by
  have h1 := vProc_starts h
  obtain ⟨j, y, hj, hs⟩ := startAt_spec ns 0 (by omega)
  rw [Nat.zero_add] at hs
  have hl := (List.getElem?_eq_some_iff.1 hj).1
  have hk := (vProc_node h hj).2
  have ho : (flOf fs true (j : Int)).length = 1 := by
    simp only [vKind, if_true, Bool.and_eq_true, decide_eq_true_eq] at hk
    omega
  rw [hs]
  match hx : flOf fs true (j : Int), ho with
  | [z], _ =>
    obtain ⟨q, f, rfl, hf, _⟩ := flOf_mem.1 (show z ∈ flOf fs true (j : Int) by rw [hx]; simp)
    exact ⟨q, rfl, (List.getElem?_eq_some_iff.1 hf).1, by omega, by omega⟩
/-- What FirstMarks answers. -/
def firstOf (ns : List (Int × Int)) (fs : List Flw) : List Int := if vProc ns fs then (List.replicate fs.length (0 : Int)).set ((flOf fs true (startAt ns 0)).headD 0).toNat 1 else []
theorem firstOf_yes {ns : List (Int × Int)} {fs : List Flw} (h : vProc ns fs = true) {q : Nat} (hq : flOf fs true (startAt ns 0) = [(q : Int)]) : firstOf ns fs = (List.replicate fs.length (0 : Int)).set q 1 := by
  rw [firstOf, if_pos h, hq]; rfl
theorem first_map {n q : Nat} (hq : q < n) : (List.replicate n (0 : Int)).set q 1 = (List.range n).map fun i => if i = q then (1 : Int) else 0 := by
  apply List.ext_getElem?
  intro i
  by_cases hi : i < n
  · rw [List.getElem?_map, List.getElem?_range hi]
    by_cases hiq : i = q
    · subst hiq
      rw [List.getElem?_set_self (by simpa using hi)]; simp
    · rw [List.getElem?_set_ne (fun e => hiq e.symm)]
      simp [hi, hiq]
  · rw [List.getElem?_eq_none (by simp; omega), List.getElem?_eq_none (by simp; omega)]

theorem mixT_step (ps : List Int) (zs : List Value) (n k : Nat) (x : Int) (hp : ps.length = n) (hz : zs.length = n * 1) (hk : k < n) (hg : ps[k]? = some x) :
    (ivs (ps.take k) ++ zs.drop k).set k (.int .i64 x) = ivs (ps.take (k + 1)) ++ zs.drop (k + 1) := by
  have h1 : (ivs (ps.take k)).length = k := by rw [ivs_length, List.length_take]; omega
  rw [List.drop_eq_getElem_cons (show k < zs.length by omega), List.set_append_right _ _ (by omega), h1, Nat.sub_self, List.set_cons_zero, take_snoc hg, ivs_append]
  simp [ivs]
set_option maxRecDepth 100000 in
set_option maxHeartbeats 800000 in
theorem list_any (mb m n : Nat) (g : Int → Option Value) (h : Nat → Int) (w : World) (hm : IMap Tryz.prog 3 w mb m g) (hg : ∀ i, i < n → (g (i : Int)).getD (.int .i64 0) = .int .i64 (h i)) (hn : n ≤ 1048576) :
    Calls Tryz.prog 136 #[.map (some mb), .int .i64 (n : Int)] w (Fresh (ivs ((List.range n).map h)) 1 n w) := by
  obtain ⟨i0, hi0, hz0, hz1, hz2⟩ := info_parts infoIntT
  obtain ⟨wm, hmk, hown, hgr⟩ := run_make_full (P := Tryz.prog) w w.heap.size 26 3 i0 _ 1 Tryz.underlying26 hi0 hz0 hz1 .i64 .i64 n (by rw [hz2]; omega) (by unfold maxLen; omega) (Nat.le_refl _)
  have hbm : Below w.heap.size w wm := (Below.refl _ _).grown hgr (Nat.le_refl _) (by simp)
  have hmb := hm.lt
  generalize hzs : (madeCells (Value.int .i64 0).cells (n * 1)).toList = zs at hown
  have hzl : Hid (zs.length = n * 1) := by rw [Hid, ← hzs]; simp [size_madeCells]
  have HG := Lib.hid hg
  have HPL : Hid (((List.range n).map h).length = n) := by simp [Hid]
  have HPG := Lib.hid (show ∀ i, i < n → ((List.range n).map h)[i]? = some (h i) from fun i hi => by rw [List.getElem?_map, List.getElem?_range hi]; rfl)
  generalize (List.range n).map h = ps at *
  clear hzs hgr hi0 hz0 hz1 hz2 hg
  go_enter Tryz.func136, Tryz.ntmps136
  go_wp2
  clear hmk
  go_loopw [11] (fun iv wr => ∃ (k : Nat), k ≤ n ∧ iv = .int .i64 k ∧ wr.ownsRow w.heap.size 3 1 (.slice (some ⟨w.heap.size, 0, none⟩) n n) n (ivs (ps.take k) ++ zs.drop k) ∧ Below w.heap.size w wr)
     (fun iv _ => n - (intOf iv).toNat)
  case atStart => exact ⟨0, by omega, rfl, by simpa [ivs] using hown, hbm⟩
  case round =>
    clear hown hbm
    obtain ⟨k, hk, rfl, hown, hbl⟩ := hrel
    by_cases hlt : k < n
    · have hget := (hm.keep hbl hmb).look keyedInt Tryz.underlying3 Tryz.underlying111 (zeroIntT wr) (by unfold in64; omega : in64 (k : Int)) rfl
      rw [HG.out k hlt] at hget
      have hkn : (k : Int) < (n : Int) := by omega
      have hsz := hbl.size
      have hlen : (ivs (ps.take k) ++ zs.drop k).length = n * 1 := hown.1
      have hd0 := hown.cellAt k (by omega)
      rw [List.getElem?_eq_getElem (by rw [hlen]; omega)] at hd0
      generalize hq0 : (ivs (ps.take k) ++ zs.drop k)[k]'(by rw [hlen]; omega) = q0 at hd0
      have hf0 := hown.frozenAt k
      have hst := (hown.stored k (.int .i64 (h k))).1
      rw [mixT_step ps zs n k (h k) HPL.out hzl.out hlt (HPG.out k hlt)] at hst
      have Hst := Lib.hid hst
      clear hq0 hst hlen hown
      go_wp2
      go_roundw
      case rel => exact ⟨k + 1, by omega, by go_num, Hst.out, hbl.setCell (by show _ ≤ w.heap.size; omega) _⟩
      case measure => simp [intOf]; omega
    · obtain rfl : k = n := by omega
      have Ho := Lib.hid hown; clear hown
      go_wp2
      go_ret
      have ho := Ho.out
      rw [List.take_of_length_le (by rw [HPL.out]; omega), List.drop_of_length_le (by rw [hzl.out]; omega), List.append_nil] at ho
      exact ⟨_, _, rfl, Nat.le_refl _, Rd.of_own ho, Soft.of_own ho, hbl⟩
end Go.Proofs.YtknphikoikdcjaaGreat
