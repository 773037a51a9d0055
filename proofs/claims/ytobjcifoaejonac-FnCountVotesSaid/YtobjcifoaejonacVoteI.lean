/- The program's groups: sets of servers as bits; IsQuorum, OneStep. -/
import Derived.Test.YtobjcifoaejonacVoteMath
import Derived.Test.YtobjcifoaejonacExInt
import Derived.BigQuiet
import Derived.Laws.BitsAllLaws
import Derived.Laws.BitsLemmas
import Derived.Shelf.Small.Bits
import Derived.Shelf.SlSorted.IsSorted
import Derived.Shelf.Lay
import Derived.Ground.SlsoProg
import Derived.Ground.NamesProg
set_option linter.unusedSimpArgs false
set_option linter.unusedVariables false
namespace Go.Proofs.Ytobjcifoaejonac
open Go.RowKit Go.Shelf

theorem isServer_any (x : Int) (w : World) : Calls Try.prog 56 #[.int .i64 x] w fun e w' => e = .returned (.bool (inR x 0 6)) ∧ w = w' := by
  by_cases h : 0 ≤ x
  · have hd : decide (0 ≤ x) = true := decide_eq_true h
    have HX := Lib.hid (show inR x 0 6 = decide (x < 7) by rw [inR, hd, Bool.true_and, Bool.eq_iff_iff]; simp; omega)
    go_enter Try.func56, Try.ntmps56
    go_wp2
    go_ret
    exact ⟨by rw [HX.out]; rfl, rfl⟩
  · have hd : decide (0 ≤ x) = false := decide_eq_false h
    have HX := Lib.hid (show inR x 0 6 = false by rw [inR, hd]; rfl)
    go_enter Try.func56, Try.ntmps56
    go_wp2
    go_ret
    exact ⟨by rw [HX.out]; rfl, rfl⟩
theorem maskOf_snoc {xs : List Int} {k : Nat} {x : Int} (hg : xs[k]? = some x) : maskOf (xs.take (k + 1)) = maskStep (maskOf (xs.take k)) x := by
  rw [take_snoc hg, maskOf, List.foldl_append]; rfl
set_option maxHeartbeats 1600000 in
theorem serversOf_any (lo hi n c : Nat) (A : Option Addr) (xs : List Int) (w : World) (hr : Rd w lo hi 1 A n (ivs xs)) (hn : n ≤ 1048576) :
    Calls Try.prog 48 #[.slice A n c] w fun e w' => e = .returned (.int .u8 (maskOf xs)) ∧ w = w' := by
  have HL := Lib.hid hr.len1
  go_enter Try.func48, Try.ntmps48
  go_wp2
  go_loop [3, 8] (fun sv iv => ∃ (k m : Nat), k ≤ n ∧ iv = .int .i64 k ∧ sv = .int .u8 m ∧ m < 128 ∧ Hid (maskOf (xs.take k) = m))
     (fun _ iv => n - (intOf iv).toNat)
  case atStart => exact ⟨0, 0, by omega, rfl, rfl, by omega, rfl⟩
  case round =>
    obtain ⟨k, m, hk, rfl, rfl, hm, hS⟩ := hrel
    by_cases hlt : k < n
    · obtain ⟨b, off, x, rfl, _, _, hg, hc0⟩ := hr.one hlt
      have hkn : (k : Int) < (n : Int) := by omega
      have hk0 : (0 : Int) ≤ (k : Int) := by omega
      have HS := Lib.hid (maskOf_snoc hg)
      clear hg
      go_wp2_with (fail)
      (with_reducible refine (isServer_any x _).mono ?_)
      rintro e w1 ⟨rfl, rfl⟩
      cases hx : inR x 0 6 with
      | false =>
        have HQ := Lib.hid (show maskOf (xs.take (k + 1)) = m by rw [HS.out, hS.out, maskStep, hx]; rfl)
        clear hx
        go_wp2
        go_round
        case rel => exact ⟨k + 1, m, by omega, by go_num, rfl, by omega, HQ⟩
        case measure => simp [intOf]; omega
      | true =>
        have HQ := Lib.hid (show maskOf (xs.take (k + 1)) = m ||| 2 ^ x.toNat by rw [HS.out, hS.out, maskStep, hx]; rfl)
        obtain ⟨q, rfl⟩ : ∃ q : Nat, x = (q : Int) := ⟨x.toNat, by rw [inR_iff] at hx; omega⟩
        have hq : q ≤ 6 := by rw [inR_iff] at hx; omega
        clear hx
        have hp2 : ((2 : Int) ^ q % 256) = ((2 ^ q : Nat) : Int) := by
          rcases q with _ | _ | _ | _ | _ | _ | _ | q
          all_goals first | rfl | omega
        have hlt2 : m ||| 2 ^ q < 128 := Nat.or_lt_two_pow (n := 7) hm (Nat.lt_of_le_of_lt (Nat.pow_le_pow_right (by omega) hq) (by decide))
        have HOR := Lib.hid (show bits BinOp.or IntKind.u8 (m : Int) ((2 : Int) ^ q % 256) = ((m ||| 2 ^ q : Nat) : Int) by rw [hp2]; exact u8_or_nat m (2 ^ q) (by omega) (Nat.lt_of_le_of_lt (Nat.pow_le_pow_right (by omega) hq) (by decide)))
        clear hp2
        go_wp2
        go_round
        case rel => exact ⟨k + 1, m ||| 2 ^ q, by omega, by go_num, by first | exact congrArg (Value.int .u8) HOR.out | (rw [HOR.out]), hlt2, HQ⟩
        case measure => simp [intOf]; omega
    · obtain rfl : k = n := by omega
      have HX := Lib.hid (show maskOf xs = m by rw [← hS.out, List.take_of_length_le (by rw [HL.out]; exact Nat.le_refl _)])
      go_wp2
      go_ret
      exact ⟨by rw [HX.out]; rfl, rfl⟩
shelf_lay Lays.n135 Nm 135 at Try as layOnes
theorem sizeI_any (m : Nat) (w : World) (hm : m < 128) : Calls Try.prog 49 #[.int .u8 m] w fun e w' => e = .returned (.int .i64 (popc m)) ∧ w' = w := by
  have hc := Any.bits_OnesCount8 layOnes (m : Int) w (by omega) (by omega)
  change Calls Try.prog 62 _ _ _ at hc
  rw [Int.toNat_natCast, popc_ones ⟨m, hm⟩] at hc
  dsimp only at hc
  generalize popc m = q at *
  go_enter Try.func49, Try.ntmps49
  go_wp2_with (fail)
  (with_reducible refine hc.mono ?_)
  rintro e w' ⟨rfl, rfl⟩
  go_wp2
  go_ret
  exact ⟨rfl, rfl⟩
shelf_lay_g SlLaysO.n10 Slso 10 at Try 61 as laySorted
theorem downOK_sorted (xs : List Int) : Lib.downOK (fun x y => decide (x < y)) xs.toArray (xs.toArray.size - 1) = true ↔ sorted xs := by
  rw [Lib.downOK_iff]
  have hs : xs.toArray.size = xs.length := by simp
  rw [hs]
  constructor
  · intro h
    have hstep : ∀ i (hi : i + 1 < xs.length), xs[i]'(by omega) ≤ xs[i + 1] := fun i hi => by
      have := h i (by omega)
      rw [getElem!_pos xs.toArray (i + 1) (by simpa using hi), getElem!_pos xs.toArray i (by simp; omega)] at this
      simp at this
      omega
    have hmono : ∀ (d i : Nat) (h1 : i + d < xs.length), xs[i]'(by omega) ≤ xs[i + d] := by
      intro d
      induction d with
      | zero => intro i h1; exact Int.le_refl _
      | succ d ih =>
        intro i h1
        have a := ih i (by omega)
        have b := hstep (i + d) (by omega)
        exact Int.le_trans a b
    refine List.pairwise_iff_getElem.2 fun i j hi hj hij => ?_
    have := hmono (j - i) i (by omega)
    simpa [show i + (j - i) = j by omega] using this
  · intro h i hi
    rw [getElem!_pos xs.toArray (i + 1) (by simp; omega), getElem!_pos xs.toArray i (by simp; omega)]
    have := List.pairwise_iff_getElem.1 h i (i + 1) (by omega) (by omega) (by omega)
    simp
    omega
set_option maxHeartbeats 800000 in
theorem isSorted_any (lo hi n c : Nat) (A : Option Addr) (xs : List Int) (w : World) (hr : Rd w lo hi 1 A n (ivs xs)) (hn : n ≤ 1048576) (h1 : 0 < n) :
    Calls Try.prog 61 #[.slice A n c] w fun e w' => ∃ b, e = .returned (.bool b) ∧ (b = true ↔ sorted xs) ∧ ∃ q, w' = w.drewN q := by
  obtain ⟨b, off, rfl, _, _, hc⟩ := hr.2 h1
  have hl := hr.len1
  have hcon := AnyO.slices_IsSorted_int laySorted b off c xs.toArray w (fun i hi => by
    have hi' : i < xs.length := by simpa using hi
    rw [getElem!_pos xs.toArray i hi]
    exact hc i _ (by simp [ivs, hi'])) (by simp; omega)
  change Calls Try.prog 61 _ _ _ at hcon
  have hz : xs.toArray.size = n := by simp [hl]
  have hd := downOK_sorted xs
  generalize Lib.downOK (fun x y => decide (x < y)) xs.toArray (xs.toArray.size - 1) = r at hcon hd
  rw [hz] at hcon
  refine hcon.mono ?_
  rintro e w' ⟨rfl, q, rfl⟩
  exact ⟨r, rfl, hd, q, rfl⟩
set_option maxRecDepth 100000 in
set_option maxHeartbeats 1600000 in
theorem groupOf_any (lo hi n c : Nat) (A : Option Addr) (xs : List Int) (w : World) (hr : Rd w lo hi 1 A n (ivs xs)) (hn : n ≤ 1048576) :
    Calls Try.prog 47 #[.slice A n c] w fun e w' => e = .returned (.tuple #[.int .u8 (maskOf xs), .bool (vGroup xs)]) ∧ Below w.heap.size w w' := by
  have HL := Lib.hid hr.len1
  have hmk := mask_lt xs
  have HV := Lib.hid (@vGroup_mask xs)
  have HC := Lib.hid (fun h => isSorted_any lo hi n c A xs w hr hn h)
  have HS := Lib.hid (serversOf_any lo hi n c A xs w hr hn)
  have HP := Lib.hid (popc_mask xs)
  clear hr
  have HZ := Lib.hid (sizeI_any (maskOf xs) w hmk)
  generalize maskOf xs = m at *
  have hpl : popc m ≤ 7 := by
    unfold popc
    exact Nat.le_trans List.countP_le_length (by simp)
  go_enter Try.func47, Try.ntmps47
  go_wp2_with (fail)
  (with_reducible refine HS.out.mono ?_)
  rintro e w1 ⟨rfl, rfl⟩
  by_cases h0 : 0 < n
  case neg =>
    have hd : decide ((0 : Int) < (n : Int)) = false := decide_eq_false (by omega)
    have hd2 : decide (0 < n) = false := decide_eq_false h0
    have HX := Lib.hid (show vGroup xs = false by
      cases e : vGroup xs with
      | false => rfl
      | true => have := (HV.out.1 e).1; rw [HL.out] at this; omega)
    go_wp2
    exact bodyPost_ret (v := .tuple #[.int .u8 m, .bool false]) (by simp [results, Try.results47, go_sem]) rfl ⟨by rw [HX.out], Below.refl _ _⟩
  have hd : decide ((0 : Int) < (n : Int)) = true := decide_eq_true (by omega)
  have hd2 : decide (0 < n) = true := decide_eq_true h0
  go_wp2_with (fail)
  (with_reducible refine HZ.out.mono ?_)
  rintro e w1 ⟨rfl, rfl⟩
  by_cases h1 : popc m = n
  case neg =>
    have he : ((popc m : Int) == (n : Int)) = false := by rw [beq_eq_false_iff_ne]; omega
    have HX := Lib.hid (show vGroup xs = false by
      cases e : vGroup xs with
      | false => rfl
      | true => have := (HV.out.1 e).2.1; rw [HL.out] at this; omega)
    clear h1
    generalize popc m = q at *
    go_wp2
    exact bodyPost_ret (v := .tuple #[.int .u8 m, .bool false]) (by simp [results, Try.results47, go_sem]) rfl ⟨by rw [HX.out], Below.refl _ _⟩
  have he : ((popc m : Int) == (n : Int)) = true := by rw [beq_iff_eq]; omega
  have HE := Lib.hid h1
  clear h1
  generalize popc m = q at *
  go_wp2_with (fail)
  (with_reducible refine (HC.out h0).mono ?_)
  rintro e w2 ⟨r, rfl, hrs, d, rfl⟩
  have HX := Lib.hid (show vGroup xs = r by
    rw [Bool.eq_iff_iff, HV.out, hrs, HL.out, HE.out]
    exact ⟨fun h => h.2.2, fun h => ⟨h0, rfl, h⟩⟩)
  clear hrs
  go_wp2
  exact bodyPost_ret (v := .tuple #[.int .u8 m, .bool r]) (by simp [results, Try.results47, go_sem]) rfl ⟨by rw [HX.out], up_drewN (Below.refl _ _) _⟩
set_option maxRecDepth 100000 in
set_option maxHeartbeats 1600000 in
theorem IsQuorumI_any (lo hi n c : Nat) (A : Option Addr) (g : List Int) (lo2 hi2 n2 c2 : Nat) (A2 : Option Addr) (s : List Int) (w : World) (hr : Rd w lo hi 1 A n (ivs g)) (hB : hi ≤ w.heap.size) (hn : n ≤ 1048576) (hr2 : Rd w lo2 hi2 1 A2 n2 (ivs s)) (hB2 : hi2 ≤ w.heap.size) (hn2 : n2 ≤ 1048576) :
    Calls Try.prog 22 #[.slice A n c, .slice A2 n2 c2] w fun e w' => e = .returned (.bool (quorumOf g s)) ∧ Below w.heap.size w w' := by
  have HR := Lib.hid hr
  have HR2 := Lib.hid hr2
  clear hr hr2
  go_enter Try.func22, Try.ntmps22
  go_wp2_with (fail)
  (with_reducible refine (groupOf_any lo hi n c A g _ HR.out hn).mono ?_)
  rintro e w1 ⟨rfl, hb1⟩
  have HB1 := Lib.hid hb1
  clear hb1
  cases hv : vGroup g with
  | false =>
    have HX := Lib.hid (show quorumOf g s = false by rw [quorumOf, hv]; rfl)
    clear hv
    go_wp2
    go_ret
    exact ⟨by rw [HX.out]; rfl, HB1.out⟩
  | true =>
  have HX := Lib.hid (quorum_mask (g := g) (s := s) hv)
  have hg7 := mask_lt g
  have hs7 := mask_lt s
  have HSV := Lib.hid (serversOf_any lo2 hi2 n2 c2 A2 s w1 (HR2.out.keep HB1.out hB2) hn2)
  clear hv
  generalize maskOf g = x at *
  generalize maskOf s = y at *
  have hxy : x &&& y < 128 := Nat.and_lt_two_pow (n := 7) x hs7
  have HA := Lib.hid (u8_and_nat x y (by omega) (by omega))
  have HZ1 := Lib.hid (sizeI_any (x &&& y) w1 hxy)
  have HZ2 := Lib.hid (sizeI_any x w1 hg7)
  have hp1 : popc (x &&& y) ≤ 7 := by unfold popc; exact Nat.le_trans List.countP_le_length (by simp)
  generalize popc (x &&& y) = p at *
  generalize popc x = q at *
  go_wp2_with (fail)
  (with_reducible refine HSV.out.mono ?_)
  rintro e w2 ⟨rfl, rfl⟩
  go_wp2_with (fail)
  rw [HA.out]
  (with_reducible refine HZ1.out.mono ?_)
  rintro e w2 ⟨rfl, rfl⟩
  have hw : IntKind.i64.wrap (2 * (p : Int)) = ((2 * p : Nat) : Int) := by rw [IntWalk.i64_in _ (by omega)]; omega
  go_wp2_with (fail)
  (with_reducible refine HZ2.out.mono ?_)
  rintro e w2 ⟨rfl, rfl⟩
  go_wp2
  go_ret
  exact ⟨by rw [HX.out]; first | rfl | (congr 1; simp <;> omega), HB1.out⟩
set_option maxRecDepth 100000 in
set_option maxHeartbeats 1600000 in
theorem OneStepI_any (lo hi n c : Nat) (A : Option Addr) (g : List Int) (lo2 hi2 n2 c2 : Nat) (A2 : Option Addr) (s : List Int) (w : World) (hr : Rd w lo hi 1 A n (ivs g)) (hB : hi ≤ w.heap.size) (hn : n ≤ 1048576) (hr2 : Rd w lo2 hi2 1 A2 n2 (ivs s)) (hB2 : hi2 ≤ w.heap.size) (hn2 : n2 ≤ 1048576) :
    Calls Try.prog 26 #[.slice A n c, .slice A2 n2 c2] w fun e w' => e = .returned (.bool (stepOf g s)) ∧ Below w.heap.size w w' := by
  have HR := Lib.hid hr
  have HR2 := Lib.hid hr2
  clear hr hr2
  go_enter Try.func26, Try.ntmps26
  go_wp2_with (fail)
  (with_reducible refine (groupOf_any lo hi n c A g _ HR.out hn).mono ?_)
  rintro e w1 ⟨rfl, hb1⟩
  have HB1 := Lib.hid hb1
  have hs1 := hb1.size
  clear hb1
  go_wp2_with (fail)
  (with_reducible refine (groupOf_any lo2 hi2 n2 c2 A2 s _ (HR2.out.keep HB1.out hB2) hn2).mono ?_)
  rintro e w2 ⟨rfl, hb2⟩
  have HB2 := Lib.hid (up HB1.out hb2)
  clear hb2
  cases hv : vGroup g with
  | false =>
    have HX := Lib.hid (show stepOf g s = false by rw [stepOf, hv]; rfl)
    clear hv
    go_wp2
    go_ret
    exact ⟨by rw [HX.out]; rfl, HB2.out⟩
  | true =>
  cases hu : vGroup s with
  | false =>
    have HX := Lib.hid (show stepOf g s = false by rw [stepOf, hv, hu]; rfl)
    clear hv hu
    go_wp2
    go_ret
    exact ⟨by rw [HX.out]; rfl, HB2.out⟩
  | true =>
  have HX := Lib.hid (step_mask hv hu)
  have hg7 := mask_lt g
  have hs7 := mask_lt s
  clear hv hu
  generalize maskOf g = x at *
  generalize maskOf s = y at *
  have hxy : x ^^^ y < 128 := Nat.xor_lt_two_pow (n := 7) hg7 hs7
  have HA := Lib.hid (u8_xor_nat x y (by omega) (by omega))
  have HZ1 := Lib.hid (sizeI_any (x ^^^ y) w2 hxy)
  generalize popc (x ^^^ y) = p at *
  go_wp2_with (fail)
  rw [HA.out]
  (with_reducible refine HZ1.out.mono ?_)
  rintro e w3 ⟨rfl, rfl⟩
  go_wp2
  go_ret
  exact ⟨by rw [HX.out]; show Ending.returned (Value.bool ((p : Int) == 1)) = _; congr 2; rw [Bool.eq_iff_iff]; simp; omega, HB2.out⟩
end Go.Proofs.Ytobjcifoaejonac
