/- slices.DeleteFunc on the letters. -/
import Derived.Test.YtgnffodnimafoaaDropIdx
import Derived.Test.YtgnffodnimafoaaDelRun
import Derived.Lib.SliceRun
import Derived.Deep.AppendLies
set_option linter.unusedSimpArgs false
set_option linter.unusedVariables false
namespace Go.Proofs.Ytgnffodnimafoaa
open Go.RowKit

theorem tvs_set (ys : List Tri) : ∀ (i : Nat) (x y u : Int), i < ys.length → (((tvs ys).set (i * 3) (.int .i64 x)).set (i * 3 + 1) (.int .i64 y)).set (i * 3 + 2) (.int .i64 u) = tvs (ys.set i (x, y, u)) := by
  induction ys with
  | nil => intro i x y u h; simp at h
  | cons p ps ih =>
    intro i x y u h
    cases i with
    | zero => simp [tvs, tv]
    | succ i =>
      have e : (i + 1) * 3 = i * 3 + 3 := by omega
      have := ih i x y u (by simpa using h)
      rw [e]
      simpa [tvs, tv] using this
/-- How the row stands when j letters have been looked at: the first are those kept of them, those behind j are as they were. -/
def DelAt (ls : List Tri) (z : Int) (j i : Nat) (ys : List Tri) : Prop :=
  ys.length = ls.length ∧ (keptOf (ls.take j) z).length = i ∧ ys.take i = keptOf (ls.take j) z ∧ ∀ q, j ≤ q → ys[q]? = ls[q]?
theorem DelAt.keep {ls : List Tri} {z : Int} {j i : Nat} {ys : List Tri} (h : DelAt ls z j i ys) {t : Tri} (hg : ls[j]? = some t) (ht : z ≤ t.2.2) (hij : i ≤ j) : DelAt ls z (j + 1) (i + 1) (ys.set i t) := by
  obtain ⟨h1, h2, h3, h4⟩ := h
  have hj := (List.getElem?_eq_some_iff.1 hg).1
  have hs := kept_step (z := z) hg
  rw [if_pos ht] at hs
  refine ⟨by simpa using h1, by rw [hs]; simp [h2], ?_, fun q hq => ?_⟩
  · rw [hs, ← h3, List.take_add_one, List.take_set, List.set_eq_of_length_le (by simp <;> omega)]
    rw [List.getElem?_set_self (by omega)]
    rfl
  · rw [List.getElem?_set_ne (by omega)]
    exact h4 q (by omega)
theorem DelAt.skip {ls : List Tri} {z : Int} {j i : Nat} {ys : List Tri} (h : DelAt ls z j i ys) {t : Tri} (hg : ls[j]? = some t) (ht : ¬ z ≤ t.2.2) : DelAt ls z (j + 1) i ys := by
  obtain ⟨h1, h2, h3, h4⟩ := h
  have hs := kept_step (z := z) hg
  rw [if_neg ht, List.append_nil] at hs
  exact ⟨h1, by rw [hs]; exact h2, by rw [hs]; exact h3, fun q hq => h4 q (by omega)⟩
theorem kept_takeWhile {ls : List Tri} {z : Int} (h : firstOld ls z < ls.length) : keptOf (ls.take (firstOld ls z + 1)) z = ls.take (firstOld ls z) := by
  induction ls with
  | nil => simp at h
  | cons l ls ih =>
    by_cases hl : z ≤ l.2.2
    · have e : firstOld (l :: ls) z = firstOld ls z + 1 := by simp [firstOld, List.takeWhile_cons, hl]
      rw [e] at h ⊢
      have := ih (by simpa using h)
      simp only [List.take_succ_cons]
      rw [← this]
      simp [keptOf, hl]
    · have e : firstOld (l :: ls) z = 0 := by simp [firstOld, List.takeWhile_cons, hl]
      rw [e]
      simp [keptOf, hl]
theorem kept_all {ls : List Tri} {z : Int} (h : firstOld ls z = ls.length) : keptOf ls z = ls := by
  induction ls with
  | nil => rfl
  | cons l ls ih =>
    by_cases hl : z ≤ l.2.2
    · have e : firstOld (l :: ls) z = firstOld ls z + 1 := by simp [firstOld, List.takeWhile_cons, hl]
      rw [e] at h
      have := ih (by simpa using h)
      rw [← this] at *
      simp [keptOf, hl]
    · have e : firstOld (l :: ls) z = 0 := by simp [firstOld, List.takeWhile_cons, hl]
      rw [e] at h
      simp at h
theorem DelAt.start {ls : List Tri} {z : Int} (h : firstOld ls z < ls.length) : DelAt ls z (firstOld ls z + 1) (firstOld ls z) ls :=
  ⟨rfl, by rw [kept_takeWhile h]; simp; omega, (kept_takeWhile h).symm, fun _ _ => rfl⟩
theorem letterZero : ∃ z, (∀ w, (zeroValue 33).run Try.prog w = .ok z w) ∧ z.cells = #[.int .i64 0, .int .i64 0, .int .i64 0] := ⟨.agg #[.int .i64 0, .int .i64 0, .int .i64 0], fun w => by kernel_rfl, by kernel_rfl⟩
set_option maxRecDepth 100000 in
set_option maxHeartbeats 1600000 in
theorem deleteOld_any (base g n c : Nat) (fs : List Tri) (z : Int) (p : Nat) (w : World) (hO : w.ownsRow base 33 3 (.slice (some ⟨g, 0, none⟩) n c) n (tvs fs)) (hgb : base ≤ g) (hn : n ≤ 1048576) (hnc : n ≤ c) (hp : w.cell? ⟨p, 0, none⟩ = some (.int .i64 z)) (hlt : p < base) (hbase : base ≤ w.heap.size) :
    Calls Try.prog 31 #[.slice (some ⟨g, 0, none⟩) n c, .func (.func 32) #[] #[.pointer (some ⟨p, 0, none⟩)]] w fun e w' => e = .returned (.slice (some ⟨g, 0, none⟩) (keptOf fs z).length c) ∧ w'.ownsRow base 33 3 (.slice (some ⟨g, 0, none⟩) (keptOf fs z).length c) (keptOf fs z).length (tvs (keptOf fs z)) ∧ w.grownBy w' (some g) := by
  have HL := Lib.hid (show fs.length = n by have := hO.1; rw [tvs_length] at this; omega)
  have HI := Lib.hid (indexOld_any 0 w.heap.size n c (some ⟨g, 0, none⟩) fs z p w ((Rd.of_own hO).wide (Nat.zero_le _) (Nat.le_refl _)) (Nat.le_refl _) hn hp (by omega))
  have eg := call_isOld
  obtain ⟨zv, hzv, hzc⟩ := letterZero
  have HZV := Lib.hid hzv
  have HZC := Lib.hid hzc
  clear hzv hzc
  have HO := Lib.hid hO
  by_cases hf : firstOld fs z = fs.length
  · -- no letter is old
    have HX := Lib.hid (show idxOldOf fs z = -1 by rw [idxOldOf, if_pos hf])
    have HK := Lib.hid (kept_all hf)
    clear hf hO
    go_enter Try.func31, Try.ntmps31
    go_wp2_with (fail)
    (with_reducible refine HI.out.mono ?_)
    rintro e w1 ⟨rfl, hb1⟩
    have HB := Lib.hid hb1
    rw [HX.out]
    clear hb1
    go_wp2
    go_ret
    rw [HK.out, HL.out]
    exact ⟨rfl, own_keep HO.out HB.out, grown_below HB.out _⟩
  · have hk := firstOld_le fs z
    have HX := Lib.hid (show idxOldOf fs z = (firstOld fs z : Int) by rw [idxOldOf, if_neg hf])
    have HS := Lib.hid (DelAt.start (z := z) (show firstOld fs z < fs.length by omega))
    have hk2 : firstOld fs z < n := by rw [← HL.out]; omega
    clear hf hO hk
    generalize firstOld fs z = k0 at *
    have hne : ((k0 : Int) == -1) = false := beq_eq_false_iff_ne.2 (by omega)
    go_enter Try.func31, Try.ntmps31
    go_wp2_with (fail)
    (with_reducible refine HI.out.mono ?_)
    rintro e w1 ⟨rfl, hb1⟩
    have HB := Lib.hid hb1
    rw [HX.out]
    clear hb1
    go_wp2
    go_loopw [5, 6] (fun iv jv wr => ∃ (i j : Nat) (ys : List Tri), i < j ∧ j ≤ n ∧ iv = .int .i64 i ∧ jv = .int .i64 j ∧ Hid (DelAt fs z j i ys) ∧ Hid (wr.ownsRow base 33 3 (.slice (some ⟨g, 0, none⟩) n c) n (tvs ys)) ∧ Hid (w.grownBy wr (some g)))
       (fun _ jv _ => n - (intOf jv).toNat)
    case atStart => exact ⟨k0, k0 + 1, fs, by omega, by omega, rfl, by go_num, HS.out, own_keep HO.out HB.out, grown_below HB.out _⟩
    case round =>
      obtain ⟨i, j, ys, hij, hj, rfl, rfl, hD, hO, hW⟩ := hrel
      by_cases hjn : j < n
      · obtain ⟨b, off, x, y, u, hA, _, _, hgy, hc0, hc1, hc2⟩ := (Rd.of_own hO.out).trip hjn
        cases hA
        simp only [Nat.zero_add] at hc0 hc1 hc2
        have HG := Lib.hid (show fs[j]? = some (x, y, u) by rw [← hD.out.2.2.2 j (Nat.le_refl _)]; exact hgy)
        have hyl : ys.length = n := by rw [hD.out.1, HL.out]
        clear hgy
        have hj1 : (j : Int) < (n : Int) := by omega
        have hj0 : (0 : Int) ≤ (j : Int) := by omega
        have hi1 : (i : Int) < (n : Int) := by omega
        have hi0 : (0 : Int) ≤ (i : Int) := by omega
        have hsw := hW.out.size
        have hba := up_alloc (Below.refl _ wr) (.cells #[.int .i64 x, .int .i64 y, .int .i64 u] 33)
        have hbk := Blk.new wr 33 #[.int .i64 x, .int .i64 y, .int .i64 u]
        have hsa : (wr.alloc (.cells #[.int .i64 x, .int .i64 y, .int .i64 u] 33)).heap.size = wr.heap.size + 1 := by simp
        have HC := Lib.hid (isOld_any x y u z p (wr.alloc (.cells #[.int .i64 x, .int .i64 y, .int .i64 u] 33)) (((hba.cell (p := ⟨p, 0, none⟩) (by show p < _; omega)).trans (hW.out.cell_far ⟨p, 0, none⟩ (by show p < _; omega) (fun e => by injection e with e; have : p = g := e; omega))).trans hp) (by omega))
        have HBA := Lib.hid hba
        have HBK := Lib.hid hbk
        have HSA := Lib.hid hsa
        clear hba hbk hsa
        go_wp2_with (fail)
        (with_reducible refine HC.out.mono ?_)
        clear HC
        rintro e w2 ⟨rfl, hb2⟩
        have hb02 := up HBA.out hb2
        have hk2 := HBK.out.below hb2 (by rw [HSA.out]; omega)
        have q0 : w2.cell? ⟨wr.heap.size, 0, none⟩ = some (.int .i64 x) := hk2.cell 0
        have q1 : w2.cell? ⟨wr.heap.size, 1, none⟩ = some (.int .i64 y) := hk2.cell 1
        have q2 : w2.cell? ⟨wr.heap.size, 2, none⟩ = some (.int .i64 u) := hk2.cell 2
        have hown2 := own_keep hO.out hb02
        have HB2 := Lib.hid (hW.out.trans (grown_below hb02 _))
        by_cases hu : u < z
        · have hd : decide (u < z) = true := by simpa using hu
          have HD := Lib.hid (hD.out.skip HG.out (by simpa using hu))
          have HO2 := Lib.hid hown2
          rw [hd]
          clear hu hd hown2 hb02 hb2 hk2
          go_wp2
          go_roundw
          case rel => exact ⟨i, j + 1, ys, by omega, by omega, rfl, by go_num, HD.out, HO2.out, HB2.out⟩
          case measure => simp [intOf]; omega
        · have hd : decide (u < z) = false := by simpa using hu
          have HD := Lib.hid (hD.out.keep HG.out (by simpa using hu) (by omega))
          have hlen : (tvs ys).length = n * 3 := hown2.1
          have hd0 := hown2.cellAt (i * 3) (by omega)
          have hd1 := hown2.cellAt (i * 3 + 1) (by omega)
          have hd2 := hown2.cellAt (i * 3 + 2) (by omega)
          rw [List.getElem?_eq_getElem (by rw [hlen]; omega)] at hd0 hd1 hd2
          generalize hq0 : (tvs ys)[i * 3]'(by rw [hlen]; omega) = r0 at hd0
          generalize hq1 : (tvs ys)[i * 3 + 1]'(by rw [hlen]; omega) = r1 at hd1
          generalize hq2 : (tvs ys)[i * 3 + 2]'(by rw [hlen]; omega) = r2 at hd2
          have hf0 := hown2.frozenAt (i * 3)
          have hf1 := hown2.frozenAt (i * 3 + 1)
          have hf2 := hown2.frozenAt (i * 3 + 2)
          have hst := (((hown2.stored (i * 3) (.int .i64 x)).1.stored (i * 3 + 1) (.int .i64 y)).1.stored (i * 3 + 2) (.int .i64 u)).1
          rw [tvs_set ys i x y u (by omega)] at hst
          have Hst := Lib.hid hst
          have HB3 := Lib.hid (((HB2.out.trans (grown_set _ ⟨g, i * 3, none⟩ (.int .i64 x))).trans (grown_set _ ⟨g, i * 3 + 1, none⟩ (.int .i64 y))).trans (grown_set _ ⟨g, i * 3 + 2, none⟩ (.int .i64 u)))
          rw [hd]
          clear hu hd hown2 hb02 hb2 hk2 hq0 hq1 hq2 hst hlen
          go_wp2
          go_roundw
          case rel => exact ⟨i + 1, j + 1, _, by omega, by omega, by go_num, by go_num, HD.out, Hst.out, HB3.out⟩
          case measure => simp [intOf]; omega
      · obtain rfl : j = n := by omega
        have hi1 : (i : Int) < (j : Int) := by omega
        have hi0 : (0 : Int) ≤ (i : Int) := by omega
        have hlen : (tvs ys).length = j * 3 := hO.out.1
        have ek : fs.take j = fs := List.take_of_length_le (by rw [HL.out]; omega)
        have HT := Lib.hid (show ys.take i = keptOf fs z ∧ (keptOf fs z).length = i by have h := hD.out; rw [DelAt, ek] at h; exact ⟨h.2.2.1, h.2.1⟩)
        have hcl : ∀ ty, (Builtin.clear_ #[24] ty #[.slice (some ⟨g, i * 3, none⟩) (j - i) (c - i)]).run Try.prog wr = .ok (.tuple #[]) (wr.setCells g (i * 3) (List.replicate ((j - i) * 3) (.int .i64 0))) :=
          fun ty => run_clear_trip wr _ _ ty zv Try.underlying24 HZV.out HZC.out g (i * 3) _ _ (by omega) (fun q hq => by rw [hO.out.cellAt (i * 3 + q) (by omega), List.getElem?_eq_getElem (by rw [hlen]; omega)]; rfl) (fun q hq => hO.out.frozenAt (i * 3 + q))
        have hcut := own_cut hO.out (m := i) (by omega)
        have hset := own_setCells (List.replicate ((j - i) * 3) (.int .i64 0)) (i * 3) wr hcut (Nat.le_refl _)
        have HF := Lib.hid hset.1
        have HBF := Lib.hid (hW.out.trans hset.2)
        have etake : (tvs ys).take (i * 3) = tvs (keptOf fs z) := by
          rw [← HT.out.1]
          have h : tvs ys = tvs (ys.take i) ++ tvs (ys.drop i) := by rw [← tvs_append, List.take_append_drop]
          rw [h, List.take_left' (by rw [tvs_length, HT.out.1, HT.out.2])]
        have HE := Lib.hid etake
        clear hcut hset etake hlen ek
        go_wp2
        go_ret
        have h1 := HF.out
        rw [HE.out] at h1
        rw [HT.out.2]
        exact ⟨rfl, h1, HBF.out⟩
/-- Whatever the slice. -/
theorem deleteOld_all (base n c : Nat) (A : Option Addr) (fs : List Tri) (z : Int) (p : Nat) (w : World) (hO : w.ownsRow base 33 3 (.slice A n c) n (tvs fs)) (hn : n ≤ 1048576) (hp : w.cell? ⟨p, 0, none⟩ = some (.int .i64 z)) (hlt : p < base) (hbase : base ≤ w.heap.size) :
    Calls Try.prog 31 #[.slice A n c, .func (.func 32) #[] #[.pointer (some ⟨p, 0, none⟩)]] w fun e w' => e = .returned (.slice A (keptOf fs z).length c) ∧ w'.ownsRow base 33 3 (.slice A (keptOf fs z).length c) (keptOf fs z).length (tvs (keptOf fs z)) ∧ w.grownBy w' (Value.slice A n c).ownBlock := by
  rcases hO.2 with ⟨hv, h0⟩ | ⟨g, cap, cur, hv, hb, hh, hc, _⟩
  · cases hv
    clear h0
    obtain rfl : fs = [] := List.eq_nil_of_length_eq_zero (by have := hO.1; rw [tvs_length] at this; omega)
    have HI := Lib.hid (indexOld_any 0 w.heap.size 0 0 none [] z p w (Rd.nil _ _ _ _ _) (Nat.le_refl _) (by omega) hp (by omega))
    have HO := Lib.hid hO
    clear hO
    go_enter Try.func31, Try.ntmps31
    go_wp2_with (fail)
    (with_reducible refine HI.out.mono ?_)
    rintro e w1 ⟨rfl, hb1⟩
    have HB := Lib.hid hb1
    have hx : idxOldOf [] z = -1 := rfl
    rw [hx]
    clear hb1 hx
    go_wp2
    go_ret
    exact ⟨rfl, own_keep HO.out HB.out, grown_below HB.out _⟩
  · cases hv
    exact deleteOld_any base g n c fs z p w hO hb hn hc hp hlt hbase
end Go.Proofs.Ytgnffodnimafoaa
