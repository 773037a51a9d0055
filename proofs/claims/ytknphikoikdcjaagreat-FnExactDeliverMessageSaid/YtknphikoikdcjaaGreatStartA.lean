/- Merged: ProcStart, StartMath. -/
import Derived.Test.YtknphikoikdcjaaGreatCondS
import Derived.Test.YtknphikoikdcjaaGreatBase
/- spec.start, impl.startOf: the start of a process. -/
set_option linter.unusedSimpArgs false
set_option linter.unusedVariables false
namespace Go.Proofs.YtknphikoikdcjaaGreat
open Go.RowKit

/-- The number of the first node that is a start, the first node being number k; -1 if there is none. -/
def startAt : List (Int × Int) → Nat → Int
  | [], _ => -1
  | p :: ps, k => if p.1 = 0 then (k : Int) else startAt ps (k + 1)
theorem startAt_hit {ns : List (Int × Int)} {k : Nat} {x y : Int} (hg : ns[k]? = some (x, y)) (h : x = 0) : startAt (ns.drop k) k = (k : Int) := by
  rw [drop_flw hg, startAt, if_pos h]
theorem startAt_miss {ns : List (Int × Int)} {k : Nat} {x y : Int} (hg : ns[k]? = some (x, y)) (h : ¬ x = 0) : startAt (ns.drop k) k = startAt (ns.drop (k + 1)) (k + 1) := by
  rw [drop_flw hg, startAt, if_neg h]

set_option maxHeartbeats 800000 in
theorem startS_any (lo hi nn cn : Nat) (An : Option Addr) (ns : List (Int × Int)) (vf : Value) (w : World) (hrn : Rd w lo hi 2 An nn (pvs ns)) (hB : hi ≤ w.heap.size) (hnn : nn ≤ 1048576) :
    Calls Tryz.prog 147 #[.agg #[.slice An nn cn, vf]] w fun e w' => e = .returned (.int .i64 (startAt ns 0)) ∧ Below w.heap.size w w' := by
  have HL := Lib.hid hrn.len2
  have hblk := Blk.new w 40 #[.slice An nn cn, vf]
  have hb1 := up_alloc (Below.refl _ w) (.cells #[.slice An nn cn, vf] 40)
  have hr1 := hrn.keep hb1 hB
  have hd0 : (w.alloc (.cells #[.slice An nn cn, vf] 40)).cell? ⟨w.heap.size, 0, none⟩ = some (.slice An nn cn) := hblk.cell 0
  have HB := Lib.hid hb1
  generalize hw1 : w.alloc (.cells #[.slice An nn cn, vf] 40) = w1 at hr1 hd0 HB
  clear hblk hb1
  go_enter Tryz.func147, Tryz.ntmps147
  go_wp2
  try rw [hw1]
  go_loop [3] (fun iv => ∃ (k : Nat), k ≤ nn ∧ iv = .int .i64 k ∧ Hid (startAt ns 0 = startAt (ns.drop k) k))
     (fun iv => nn - (intOf iv).toNat)
  case atStart => exact ⟨0, by omega, rfl, rfl⟩
  case round =>
    obtain ⟨k, hk, rfl, hS⟩ := hrel
    by_cases hkn : k < nn
    · obtain ⟨b, off, x, y, rfl, _, _, hg, hc0, hc1⟩ := hr1.pair hkn
      by_cases h0 : x = 0
      · have HS := Lib.hid (hS.out.trans (startAt_hit hg h0))
        have h0' : (x == 0) = true := by simpa using h0
        clear hg hS h0 hw1
        go_wp2
        go_ret
        exact ⟨ret_int HS.out.symm, HB.out⟩
      · have HS := Lib.hid (hS.out.trans (startAt_miss hg h0))
        have h0' : (x == 0) = false := by simpa using h0
        clear hg hS h0 hw1
        go_wp2
        go_round
        case rel => exact ⟨k + 1, by omega, by go_num, HS⟩
        case measure => simp [intOf]; omega
    · obtain rfl : k = nn := by omega
      have HS : Hid (startAt ns 0 = -1) := by
        rw [Hid, hS.out, List.drop_of_length_le (by rw [HL.out]; omega)]; rfl
      clear hS hw1
      go_wp2
      go_ret
      exact ⟨ret_int HS.out.symm, HB.out⟩
set_option maxHeartbeats 800000 in
theorem startI_any (lo hi nn cn : Nat) (An : Option Addr) (ns : List (Int × Int)) (vf : Value) (w : World) (hrn : Rd w lo hi 2 An nn (pvs ns)) (hB : hi ≤ w.heap.size) (hnn : nn ≤ 1048576) :
    Calls Tryz.prog 151 #[.agg #[.slice An nn cn, vf]] w fun e w' => e = .returned (.int .i64 (startAt ns 0)) ∧ Below w.heap.size w w' := by
  have HL := Lib.hid hrn.len2
  have hb1 := up_alloc (Below.refl _ w) (.cells #[.slice An nn cn, vf] 40)
  go_enter Tryz.func151, Tryz.ntmps151
  go_wp2
  go_loopw [8] (fun iv wr => ∃ (k : Nat), k ≤ nn ∧ iv = .int .i64 k ∧ Hid (startAt ns 0 = startAt (ns.drop k) k) ∧ Below w.heap.size w wr)
     (fun iv _ => nn - (intOf iv).toNat)
  case atStart => exact ⟨0, by omega, rfl, rfl, hb1⟩
  case round =>
    clear hb1
    obtain ⟨k, hk, rfl, hS, hbl⟩ := hrel
    by_cases hkn : k < nn
    · obtain ⟨b, off, x, y, rfl, hbB, _, hg, hc0, hc1⟩ := (hrn.keep hbl hB).pair hkn
      have hbw : b < wr.heap.size := by have := hbl.size; omega
      have HB := Lib.hid (up_alloc hbl (.cells #[.int .i64 x, .int .i64 y] 137))
      by_cases h0 : x = 0
      · have HS := Lib.hid (hS.out.trans (startAt_hit hg h0))
        have h0' : (x == 0) = true := by simpa using h0
        clear hg hS h0 hbl
        go_wp2
        go_ret
        exact ⟨ret_int HS.out.symm, HB.out⟩
      · have HS := Lib.hid (hS.out.trans (startAt_miss hg h0))
        have h0' : (x == 0) = false := by simpa using h0
        clear hg hS h0 hbl
        go_wp2
        go_roundw
        case rel => exact ⟨k + 1, by omega, by go_num, HS, HB.out⟩
        case measure => simp [intOf]; omega
    · obtain rfl : k = nn := by omega
      have HS : Hid (startAt ns 0 = -1) := by
        rw [Hid, hS.out, List.drop_of_length_le (by rw [HL.out]; omega)]; rfl
      clear hS
      go_wp2
      go_ret
      exact ⟨ret_int HS.out.symm, hbl⟩
end Go.Proofs.YtknphikoikdcjaaGreat


/- The start of a process, and what is reachable from it, in plain mathematics. -/
namespace Go.Proofs.YtknphikoikdcjaaGreat
open Go.RowKit

theorem startAt_spec : ∀ (ns : List (Int × Int)) (k : Nat), 1 ≤ nStarts ns → ∃ (j : Nat) (y : Int), ns[j]? = some (0, y) ∧ startAt ns k = ((k + j : Nat) : Int)
  | [], k, h => by simp [nStarts] at h
  | (x, y) :: ns, k, h => by
    by_cases hx : x = 0
    · subst hx
      exact ⟨0, y, rfl, by simp [startAt]⟩
    · have h' : 1 ≤ nStarts ns := by simpa [nStarts, hx] using h
      obtain ⟨j, y', e, hs⟩ := startAt_spec ns (k + 1) h'
      refine ⟨j + 1, y', by simpa using e, ?_⟩
      rw [startAt, if_neg hx, hs]
      congr 1
      omega
theorem starts_none : ∀ {ns : List (Int × Int)}, nStarts ns = 0 → ∀ (i : Nat) (y : Int), ns[i]? ≠ some (0, y)
  | [], _, i, y, e => by simp at e
  | (x, y) :: ns, h, 0, y', e => by
    simp at e
    rw [e.1] at h
    simp [nStarts] at h
  | (x, y) :: ns, h, i + 1, y', e => by
    have h' : nStarts ns = 0 := by
      simp only [nStarts, List.countP_cons] at h ⊢; omega
    exact starts_none h' i y' (by simpa using e)
theorem starts_one : ∀ {ns : List (Int × Int)}, nStarts ns = 1 → ∀ {i j : Nat} {y z : Int}, ns[i]? = some (0, y) → ns[j]? = some (0, z) → i = j
  | [], h, _, _, _, _, _, _ => by simp [nStarts] at h
  | (x, y) :: ns, h, 0, 0, _, _, _, _ => rfl
  | (x, y) :: ns, h, 0, j + 1, y', z, e, e' => by
    simp at e
    rw [e.1] at h
    have h' : nStarts ns = 0 := by simpa [nStarts] using h
    exact absurd (by simpa using e') (starts_none h' j z)
  | (x, y) :: ns, h, i + 1, 0, y', z, e, e' => by
    simp at e'
    rw [e'.1] at h
    have h' : nStarts ns = 0 := by simpa [nStarts] using h
    exact absurd (by simpa using e) (starts_none h' i y')
  | (x, y) :: ns, h, i + 1, j + 1, y', z, e, e' => by
    have e1 : ns[i]? = some (0, y') := by simpa using e
    have e2 : ns[j]? = some (0, z) := by simpa using e'
    by_cases hx : x = 0
    · subst hx
      have h' : nStarts ns = 0 := by simpa [nStarts] using h
      exact absurd e1 (starts_none h' i y')
    · have h' : nStarts ns = 1 := by simpa [nStarts, hx] using h
      rw [starts_one h' e1 e2]

/-- What Reachable answers. -/
noncomputable def reachOf (ns : List (Int × Int)) (fs : List Flw) : List Int :=
  if vProc ns fs then ((List.range ns.length).filter fun (i : Nat) => rchB fs (startAt ns 0) (i : Int)).map (fun (i : Nat) => (i : Int)) else []
/-- The nodes below k that are reachable. -/
noncomputable def reachUp (fs : List Flw) (a : Int) (k : Nat) : List Int := ((List.range k).filter fun (i : Nat) => rchB fs a (i : Int)).map (fun (i : Nat) => (i : Int))
theorem reachUp_yes {fs : List Flw} {a : Int} {k : Nat} (h : rchB fs a (k : Int) = true) : reachUp fs a (k + 1) = reachUp fs a k ++ [(k : Int)] := by
  simp [reachUp, List.range_succ, h]
theorem reachUp_no {fs : List Flw} {a : Int} {k : Nat} (h : rchB fs a (k : Int) = false) : reachUp fs a (k + 1) = reachUp fs a k := by
  simp [reachUp, List.range_succ, h]
theorem reachUp_le (fs : List Flw) (a : Int) (k : Nat) : (reachUp fs a k).length ≤ k := by
  have := List.length_filter_le (fun (i : Nat) => rchB fs a (i : Int)) (List.range k)
  simpa [reachUp] using this
theorem reachOf_yes {ns : List (Int × Int)} {fs : List Flw} (h : vProc ns fs = true) : reachOf ns fs = reachUp fs (startAt ns 0) ns.length := by
  rw [reachOf, if_pos h]; rfl
theorem reachUp_mem {fs : List Flw} {a z : Int} {k : Nat} : z ∈ reachUp fs a k ↔ 0 ≤ z ∧ z < (k : Int) ∧ Rch fs a z := by
  unfold reachUp
  simp only [List.mem_map, List.mem_filter, List.mem_range]
  constructor
  · rintro ⟨i, ⟨hi, hr⟩, rfl⟩
    exact ⟨by omega, by omega, rchB_iff.1 hr⟩
  · rintro ⟨h0, h1, hr⟩
    refine ⟨z.toNat, ⟨by omega, ?_⟩, by omega⟩
    rw [Int.toNat_of_nonneg h0]
    exact rchB_iff.2 hr
/-- What HasCircle answers. -/
noncomputable def circUp (fs : List Flw) (k : Nat) : Bool := (List.range k).any fun (i : Nat) => rch1B fs (i : Int) (i : Int)
noncomputable def circOf (ns : List (Int × Int)) (fs : List Flw) : Bool := vProc ns fs && circUp fs ns.length
/-- A flow among the first k leads back. -/
noncomputable def backUp (fs : List Flw) (k : Nat) : Bool := (fs.take k).any fun f => rchB fs f.2.1 f.1
theorem circ_back {fs : List Flw} {N : Nat} (h : Inside fs N) : circUp fs N = backUp fs fs.length := by
  rw [Bool.eq_iff_iff]
  simp only [circUp, backUp, List.take_length, List.any_eq_true, List.mem_range]
  constructor
  · rintro ⟨i, hi, hr⟩
    obtain ⟨b, ⟨f, hf, h1, h2⟩, hr⟩ := rch1B_iff.1 hr
    exact ⟨f, hf, rchB_iff.2 (by rw [h1, h2]; exact hr)⟩
  · rintro ⟨f, hf, hr⟩
    have hb := h f hf
    refine ⟨f.1.toNat, by omega, rch1B_iff.2 ?_⟩
    rw [Int.toNat_of_nonneg hb.1]
    exact ⟨f.2.1, ⟨f, hf, rfl, rfl⟩, rchB_iff.1 hr⟩
end Go.Proofs.YtknphikoikdcjaaGreat

