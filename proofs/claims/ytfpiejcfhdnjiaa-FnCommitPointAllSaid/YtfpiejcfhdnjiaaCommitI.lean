/- The program's commit point: sorted counts, the place behind the term's entries, the less of both. -/
import Derived.Test.YtfpiejcfhdnjiaaSeqI
import Derived.Test.YtfpiejcfhdnjiaaLogI
import Derived.Test.YtfpiejcfhdnjiaaVoteMath
import Derived.Test.YtfpiejcfhdnjiaaSmallS
import Derived.Test.YtfpiejcfhdnjiaaCommitS
import Derived.Test.YtfpiejcfhdnjiaaDelRun
import Derived.Shelf.SlSorted.Search
import Derived.Shelf.Lay
import Derived.Ground.SlsoProg
import Derived.BigQuiet
set_option linter.unusedSimpArgs false
set_option linter.unusedVariables false
namespace Go.Proofs.Ytfpiejcfhdnjiaa
open Go.RowKit Go.Shelf Go.Sort

def hasUp (has : List Int) (k : Nat) : Bool := (has.take k).all fun h => inR h 0 16
theorem hasUp_step {has : List Int} {k : Nat} {x : Int} (hg : has[k]? = some x) (h : hasUp has k = true) (hx : inR x 0 16 = true) : hasUp has (k + 1) = true := by
  unfold hasUp at h ⊢
  rw [take_snoc hg, List.all_append, h]
  simp [hx]
theorem hasUp_bad {has : List Int} {k : Nat} {x : Int} (hg : has[k]? = some x) (hx : inR x 0 16 = false) : vHas has = false := by
  unfold vHas
  rw [Bool.and_eq_false_iff]
  exact .inr (List.all_eq_false.2 ⟨x, List.mem_of_getElem? hg, by simp [hx]⟩)
theorem hasUp_full {has : List Int} {n : Nat} (hl : has.length = n) (h : hasUp has n = true) : vHas has = inR (n : Int) 1 7 := by
  unfold hasUp at h
  rw [List.take_of_length_le (by omega)] at h
  unfold vHas
  rw [h, hl, Bool.and_true]
set_option maxHeartbeats 800000 in
theorem validCounts_any (lo hi n c : Nat) (A : Option Addr) (has : List Int) (w : World) (hr : Rd w lo hi 1 A n (ivs has)) (hn : n ≤ 1048576) :
    Calls Try.prog 38 #[.slice A n c] w fun e w' => e = .returned (.bool (vHas has)) ∧ w' = w := by
  have HL := Lib.hid hr.len1
  go_enter Try.func38, Try.ntmps38
  go_wp2
  go_loop [7] (fun iv => ∃ k : Nat, k ≤ n ∧ iv = .int .i64 k ∧ Hid (hasUp has k = true)) (fun iv => n - (intOf iv).toNat)
  case atStart => exact ⟨0, by omega, rfl, rfl⟩
  case round =>
    obtain ⟨k, hk, rfl, hS⟩ := hrel
    by_cases hlt : k < n
    · obtain ⟨b, off, x, hA, hbl, _, hg, hc0⟩ := hr.one hlt
      subst hA
      have Hg := Lib.hid hg
      have hk1 : (k : Int) < (n : Int) := by omega
      clear hg
      by_cases h0 : x < 0
      · have HX := Lib.hid (hasUp_bad Hg.out (show inR x 0 16 = false by rw [← Bool.not_eq_true, inR_iff]; omega))
        have d0 : decide (x < 0) = true := decide_eq_true h0
        clear h0
        go_wp2
        go_ret
        exact ⟨by rw [HX.out]; rfl, rfl⟩
      by_cases h1 : 16 < x
      · have HX := Lib.hid (hasUp_bad Hg.out (show inR x 0 16 = false by rw [← Bool.not_eq_true, inR_iff]; omega))
        have d0 : decide (x < 0) = false := decide_eq_false h0
        have d1 : decide (16 < x) = true := decide_eq_true h1
        clear h0 h1
        go_wp2
        go_ret
        exact ⟨by rw [HX.out]; rfl, rfl⟩
      have HS2 := Lib.hid (hasUp_step Hg.out hS.out (inR_iff.2 (by omega)))
      have d0 : decide (x < 0) = false := decide_eq_false h0
      have d1 : decide (16 < x) = false := decide_eq_false h1
      clear h0 h1
      go_wp2
      go_round
      case rel => exact ⟨k + 1, by omega, by go_num, HS2⟩
      case measure => simp [intOf]; omega
    · obtain rfl : k = n := by omega
      have HX := Lib.hid (hasUp_full HL.out hS.out)
      by_cases h1 : 1 ≤ k
      · by_cases h7 : k ≤ 7
        · have HY := Lib.hid (show inR (k : Int) 1 7 = true from inR_iff.2 (by omega))
          have d1 : decide ((1 : Int) ≤ (k : Int)) = true := decide_eq_true (by omega)
          have d2 : decide (1 ≤ k) = true := decide_eq_true (by omega)
          have d3 : decide ((k : Int) ≤ 7) = true := decide_eq_true (by omega)
          have d4 : decide (k ≤ 7) = true := decide_eq_true (by omega)
          go_wp2
          go_ret
          exact ⟨by rw [HX.out, HY.out]; rfl, rfl⟩
        · have HY := Lib.hid (show inR (k : Int) 1 7 = false by rw [← Bool.not_eq_true, inR_iff]; omega)
          have d1 : decide ((1 : Int) ≤ (k : Int)) = true := decide_eq_true (by omega)
          have d2 : decide (1 ≤ k) = true := decide_eq_true (by omega)
          have d3 : decide ((k : Int) ≤ 7) = false := decide_eq_false (by omega)
          have d4 : decide (k ≤ 7) = false := decide_eq_false (by omega)
          go_wp2
          go_ret
          exact ⟨by rw [HX.out, HY.out]; rfl, rfl⟩
      · have HY := Lib.hid (show inR (k : Int) 1 7 = false by rw [← Bool.not_eq_true, inR_iff]; omega)
        have d1 : decide ((1 : Int) ≤ (k : Int)) = false := decide_eq_false (by omega)
        have d2 : decide (1 ≤ k) = false := decide_eq_false (by omega)
        go_wp2
        go_ret
        exact ⟨by rw [HX.out, HY.out]; rfl, rfl⟩
theorem termAt_any (q1 q2 i n c : Nat) (A : Option Addr) (ps : List En) (term : Int) (lo hi : Nat) (w : World) (hr : Rd w lo hi 2 A n (pvs ps)) (hn : n ≤ 1048576) (hi_ : i < n) (h1 : w.cell? ⟨q1, 0, none⟩ = some (.slice A n c)) (h2 : w.cell? ⟨q2, 0, none⟩ = some (.int .i64 term)) :
    Calls Try.prog 42 #[.int .i64 i, .pointer (some ⟨q1, 0, none⟩), .pointer (some ⟨q2, 0, none⟩)] w fun e w' => e = .returned (.bool (decide (term < termOf ps (i + 1)))) ∧ ∃ q, w' = w.drewN q := by
  obtain ⟨b, off, x, y, hA, hbl, _, hg, hc0, hc1⟩ := hr.pair hi_
  subst hA
  have HT := Lib.hid (termOf_get hg)
  have hk1 : (i : Int) < (n : Int) := by omega
  have hk0 : (0 : Int) ≤ (i : Int) := by omega
  clear hg hr
  go_enter Try.func42, Try.ntmps42
  go_wp2_with (fail)
  go_quiet (fail)
  go_wp2
  go_ret
  exact ⟨by rw [HT.out]; rfl, _, rfl⟩
shelf_lay SlLaysO.n16 Slso 16 at Try as laySearch
theorem below_grownC (w : World) (n : Nat) (os : Array Obj) : Below w.heap.size w (grow (w.drewN n) os) :=
  ⟨rfl, rfl, rfl, by show w.heap.size ≤ (w.heap ++ os).size; rw [Array.size_append]; omega, fun _ hj => heap_grow_old (w.drewN n) os hj⟩
theorem grow_nilC (w : World) : grow w #[] = w := by cases w; simp [grow]
theorem tdiv_half (n : Nat) : ((n : Nat) : Int).tdiv 2 = ((n / 2 : Nat) : Int) := by rw [Int.tdiv_eq_ediv_of_nonneg (by omega)]; omega
set_option maxRecDepth 100000 in
set_option maxHeartbeats 3200000 in
theorem CommitPointI_any (lo hi n c : Nat) (A : Option Addr) (ps : List En) (lo2 hi2 n2 c2 : Nat) (A2 : Option Addr) (has : List Int) (term : Int) (w : World) (hr : Rd w lo hi 2 A n (pvs ps)) (hB : hi ≤ w.heap.size) (hn : n ≤ 1048576) (hcap : n ≤ c) (hr2 : Rd w lo2 hi2 1 A2 n2 (ivs has)) (hB2 : hi2 ≤ w.heap.size) (hn2 : n2 ≤ 1048576) (_ht : in64 term) :
    Calls Try.prog 12 #[.slice A n c, .slice A2 n2 c2, .int .i64 term] w fun e w' => e = .returned (.int .i64 (commitOf ps has term)) ∧ Below w.heap.size w w' := by
  have HL := Lib.hid hr.len2
  have HL2 := Lib.hid hr2.len1
  have hb0 := up_alloc (up_alloc (Below.refl _ w) (.cells #[.slice A n c] 23)) (.cells #[.int .i64 term] 3)
  have HP0 := Lib.hid ((Blk.new w 23 #[.slice A n c]).alloc (.cells #[.int .i64 term] 3))
  have HQ0 := Lib.hid (show Blk ((w.alloc (.cells #[.slice A n c] 23)).alloc (.cells #[.int .i64 term] 3)) (w.heap.size + 1) 3 #[.int .i64 term] from Blk.new2 (by simp))
  have HR0 := Lib.hid (hr.keep hb0 hB)
  have HS0 := Lib.hid (hr2.keep hb0 hB2)
  have HB0 := Lib.hid hb0
  have hz0 : ((w.alloc (.cells #[.slice A n c] 23)).alloc (.cells #[.int .i64 term] 3)).heap.size = w.heap.size + 1 + 1 := by simp
  clear hb0 hr hr2
  go_enter Try.func12, Try.ntmps12
  go_wp2_with (fail)
  generalize (w.alloc (.cells #[.slice A n c] 23)).alloc (.cells #[.int .i64 term] 3) = w0 at *
  (with_reducible refine (ValidLogI_any lo hi n c A ps _ HR0.out (by omega) hn hcap).mono ?_)
  rintro e w1 ⟨rfl, hb1⟩
  have hs1 := hb1.size
  have HB1 := Lib.hid (up HB0.out hb1)
  have HP1 := Lib.hid (HP0.out.below hb1 HP0.out.lt)
  have HQ1 := Lib.hid (HQ0.out.below hb1 HQ0.out.lt)
  have HR1 := Lib.hid (HR0.out.keep hb1 (by omega))
  have HS1 := Lib.hid (HS0.out.keep hb1 (by omega))
  clear hb1 HB0 HP0 HQ0 HR0 HS0
  cases hv : vLog ps with
  | false =>
    have HX := Lib.hid (commit_no (has := has) (term := term) (.inl hv))
    clear hv
    go_wp2
    go_ret
    exact ⟨by rw [HX.out]; rfl, HB1.out⟩
  | true =>
  have HV := Lib.hid hv
  clear hv
  go_wp2_with (fail)
  (with_reducible refine (validCounts_any lo2 hi2 n2 c2 A2 has w1 HS1.out hn2).mono ?_)
  rintro e w2 ⟨rfl, hww⟩
  obtain rfl : w1 = w2 := hww.symm
  clear hww
  cases hh : vHas has with
  | false =>
    have HX := Lib.hid (commit_no (ps := ps) (term := term) (.inr hh))
    clear hh
    go_wp2
    go_ret
    exact ⟨by rw [HX.out]; rfl, HB1.out⟩
  | true =>
  have hin : ∀ x ∈ has, inR x 0 16 = true := by unfold vHas at hh; rw [Bool.and_eq_true] at hh; exact List.all_eq_true.1 hh.2
  have hlen7 : 1 ≤ n2 ∧ n2 ≤ 7 := by
    unfold vHas at hh
    rw [Bool.and_eq_true, inR_iff, HL2.out] at hh
    omega
  obtain ⟨n2a, n2b⟩ := hlen7
  obtain ⟨s, hs⟩ : ∃ s, (has.mergeSort fun x y => decide (x ≤ y)) = s := ⟨_, rfl⟩
  have hperm : s.Perm has := hs ▸ List.mergeSort_perm has _
  have hsrt : s.Pairwise fun a b => a ≤ b := by
    have := List.pairwise_mergeSort (le := fun x y : Int => decide (x ≤ y)) (fun a b c h1 h2 => by simp at h1 h2 ⊢; omega) (fun a b => by simp; omega) has
    rw [hs] at this
    simpa using this
  have hsl : s.length = n2 := hperm.length_eq.trans HL2.out
  obtain ⟨m, hm⟩ : ∃ m : Nat, s[(n2 - 1) / 2]? = some (m : Int) := by
    have hlt : (n2 - 1) / 2 < s.length := by omega
    have h1 := inR_iff.1 (hin _ (hperm.mem_iff.1 (List.getElem_mem hlt)))
    exact ⟨(s[(n2 - 1) / 2]).toNat, by rw [List.getElem?_eq_getElem hlt]; congr 1; omega⟩
  have HPERM := Lib.hid hperm
  have HSRT := Lib.hid hsrt
  have HM := Lib.hid hm
  have HSQ := Lib.hid hs
  have HHAS := Lib.hid hh
  have w3' : IntKind.i64.wrap ((n2 : Int) - 1) = ((n2 - 1 : Nat) : Int) := by rw [IntWalk.i64_in _ (by omega)]; omega
  have w4' : ((n2 - 1 : Nat) : Int).tdiv 2 = (((n2 - 1) / 2 : Nat) : Int) := tdiv_half _
  have q0 : (0 : Int) ≤ (((n2 - 1) / 2 : Nat) : Int) := by omega
  have q1 : (((n2 - 1) / 2 : Nat) : Int) < (n2 : Int) := by omega
  clear hh hin hperm hsrt hm hs hsl
  go_wp2_with (fail)
  (with_reducible refine (ValuesI_any A2 n2 c2 w1).mono ?_)
  rintro e w2 ⟨rfl, hw2⟩
  have hb2 : Below w1.heap.size w1 w2 := hw2 ▸ up_alloc (Below.refl _ w1) _
  have HBX := Lib.hid (show Blk w2 w1.heap.size 24 #[.slice A2 n2 c2] from hw2 ▸ Blk.new w1 _ _)
  clear hw2
  have hs2 := hb2.size
  have HB2 := Lib.hid (up HB1.out hb2)
  have HP2 := Lib.hid (HP1.out.below hb2 HP1.out.lt)
  have HQ2 := Lib.hid (HQ1.out.below hb2 HQ1.out.lt)
  have HR2 := Lib.hid (HR1.out.keep hb2 (by omega))
  have HS2 := Lib.hid ((HS1.out.keep hb2 (by omega)).wide (Nat.zero_le _) (show hi2 ≤ w2.heap.size by omega))
  clear hb2 HB1 HP1 HQ1 HR1 HS1
  have ebx : w2.cell? ⟨w1.heap.size, 0, none⟩ = some (.slice A2 n2 c2) := HBX.out.cell 0
  go_wp2_with (fail)
  (with_reducible refine (SortedI_any w1.heap.size A2 n2 c2 has w2 hn2 HBX.out.lt ebx HS2.out).mono ?_)
  rintro e w3 ⟨A3, c3, rfl, hr3, hb3⟩
  rw [HSQ.out] at hr3
  obtain ⟨b3, o3, x3, hA3, _, _, hg3, hc3⟩ := hr3.one (k := (n2 - 1) / 2) (by omega)
  obtain rfl : x3 = (m : Int) := by rw [HM.out] at hg3; injection hg3 with h; exact h.symm
  subst hA3
  have hs3 := hb3.size
  have HB3 := Lib.hid (up HB2.out hb3)
  have HP3 := Lib.hid (HP2.out.below hb3 HP2.out.lt)
  have HQ3 := Lib.hid (HQ2.out.below hb3 HQ2.out.lt)
  have HR3 := Lib.hid (HR2.out.keep hb3 (by omega))
  clear hb3 HB2 HP2 HQ2 HR2 HS2 HBX hr3 hg3 ebx
  have e3 : w3.cell? ⟨w.heap.size, 0, none⟩ = some (.slice A n c) := HP3.out.cell 0
  have e4 : w3.cell? ⟨w.heap.size + 1, 0, none⟩ = some (.int .i64 term) := HQ3.out.cell 0
  have hpl := HP3.out.lt
  have hql := HQ3.out.lt
  have hcS := Any.sort_Search laySearch 42 #[.pointer (some ⟨w.heap.size, 0, none⟩), .pointer (some ⟨w.heap.size + 1, 0, none⟩)] n (fun i => decide (term < termOf ps (i + 1))) w3 (enters_of Try.func42 (by kernel_rfl) rfl) (by omega)
    (fun m os i hi_ => (termAt_any w.heap.size (w.heap.size + 1) i n c A ps term lo hi _ (HR3.out.keep (below_grownC w3 m os) (by omega)) hn hi_ (((below_grownC w3 m os).cell (p := ⟨w.heap.size, 0, none⟩) hpl).trans e3) (((below_grownC w3 m os).cell (p := ⟨w.heap.size + 1, 0, none⟩) hql).trans e4)).mono fun e w' ⟨h1, q, h2⟩ => ⟨h1, q, #[], by rw [h2, grow_nilC]⟩)
    (fun a b hab hb h => by
      have := termOf_mono (vLog_iff.1 HV.out).2.1 hab (by rw [HL.out]; exact hb)
      have h : term < termOf ps (a + 1) := by simpa using h
      simp; omega)
  change Calls Try.prog 41 _ _ _ at hcS
  obtain ⟨u, hu⟩ : ∃ u, u = (List.range n).countP fun i => !decide (term < termOf ps (i + 1)) := ⟨_, rfl⟩
  have hun : u ≤ n := by have := List.countP_le_length (p := fun i => !decide (term < termOf ps (i + 1))) (l := List.range n); simp at this; omega
  rw [← hu] at hcS
  have HU := Lib.hid hu
  have HCS := Lib.hid hcS
  clear hcS hu
  go_wp2_with (fail)
  (with_reducible refine HCS.out.mono ?_)
  rintro e w4 ⟨rfl, qn, os, hw4⟩
  have hb4 : Below w3.heap.size w3 w4 := hw4 ▸ below_grownC w3 qn os
  clear hw4 HCS e3 e4
  have hs4 := hb4.size
  have HB4 := Lib.hid (up HB3.out hb4)
  have HP4 := Lib.hid (HP3.out.below hb4 HP3.out.lt)
  have HQ4 := Lib.hid (HQ3.out.below hb4 HQ3.out.lt)
  have HR4 := Lib.hid (HR3.out.keep hb4 (by omega))
  clear hb4 HB3 HP3 HQ3 HR3 hpl hql
  have e3 : w4.cell? ⟨w.heap.size, 0, none⟩ = some (.slice A n c) := HP4.out.cell 0
  have e4 : w4.cell? ⟨w.heap.size + 1, 0, none⟩ = some (.int .i64 term) := HQ4.out.cell 0
  go_wp2_with (fail)
  obtain ⟨k, hk⟩ : ∃ k, k = min m u := ⟨_, rfl⟩
  have hkk : min (m : Int) (u : Int) = (k : Int) := by omega
  rw [hkk]
  have hkn : k ≤ n := by omega
  have HTOP := Lib.hid ((commit_yes (term := term) HV.out HHAS.out).trans (congrArg _ (commit_prog (vLog_iff.1 HV.out).2.1 HPERM.out HSRT.out (by rw [HL2.out]; exact HM.out) term (by rw [HL.out]; exact HU.out) hk)))
  have HLT := Lib.hid (show ∀ q, Calls Try.prog 43 #[.slice A k c] (w4.drewN q) fun e w'' => e = .returned (.int .i64 (termOf ps k)) ∧ ∃ n, w'' = w4.drewN n from fun q => (lastTermI_any lo hi k c A (ps.take k) (w4.drewN q) ((HR4.out.keep (up_drewN (Below.refl _ w4) q) (show hi ≤ w4.heap.size by omega)).cut2 hkn) (by omega)).mono fun e w' h => ⟨by rw [h.1, termOf_take ps (Nat.le_refl k)], q, h.2.symm⟩)
  have k0 : (0 : Int) ≤ (k : Int) := by omega
  have k1 : (k : Int) ≤ (c : Int) := by omega
  clear hk hkk hun
  by_cases ht : termOf ps k = term
  · have HX := Lib.hid (HTOP.out.trans (by rw [if_pos ht]))
    have dt : (termOf ps k != term) = false := by simp [ht]
    clear ht HTOP
    go_quiet ((go_at_call 43; exact HLT.out _))
    go_wp2
    go_ret
    exact ⟨by rw [HX.out]; rfl, up_drewN HB4.out _⟩
  · have HX := Lib.hid (HTOP.out.trans (by rw [if_neg ht]))
    have dt : (termOf ps k != term) = true := by simpa using ht
    clear ht HTOP
    go_quiet ((go_at_call 43; exact HLT.out _))
    go_wp2
    go_ret
    exact ⟨by rw [HX.out]; rfl, up_drewN HB4.out _⟩
end Go.Proofs.Ytfpiejcfhdnjiaa
