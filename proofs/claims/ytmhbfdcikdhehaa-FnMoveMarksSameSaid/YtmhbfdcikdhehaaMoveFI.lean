/- The program's IsFaithful: maps of nodes by flows. (Written by gen/movefi.py.) -/
import Derived.Test.YtmhbfdcikdhehaaMoveFS
import Derived.Test.YtmhbfdcikdhehaaMoveJ
set_option linter.unusedSimpArgs false
set_option linter.unusedVariables false
namespace Go.Proofs.Ytmhbfdcikdhehaa
open Go.RowKit Go.Maps Go.Lib

def ndv (p : Int × Int) : Value := .agg #[.int .i64 p.1, .int .i64 p.2]
/-- What stands at the ends of the flows below k. -/
def endsUp (ns : List (Int × Int)) (fs : List Flw) (k : Nat) (z : Int) : Option Value := if 0 ≤ z ∧ z.toNat < k then some (ndv (stopAt ns fs z.toNat)) else none
theorem endsUp_put (ns : List (Int × Int)) (fs : List Flw) (k : Nat) (z : Int) : (if z = (k : Int) then some (ndv (stopAt ns fs k)) else endsUp ns fs k z) = endsUp ns fs (k + 1) z := by
  unfold endsUp
  by_cases e : z = (k : Int)
  · subst e
    rw [if_pos rfl, if_pos (by simp), Int.toNat_natCast]
  · rw [if_neg e]
    by_cases h : 0 ≤ z ∧ z.toNat < k
    · rw [if_pos h, if_pos (by omega)]
    · rw [if_neg h, if_neg (by omega)]
theorem endsUp_none (ns : List (Int × Int)) (fs : List Flw) (z : Int) : none = endsUp ns fs 0 z := by
  unfold endsUp; rw [if_neg (by omega)]
theorem endsUp_at {ns : List (Int × Int)} {fs : List Flw} {k i : Nat} (h : i < k) : endsUp ns fs k (i : Int) = some (ndv (stopAt ns fs i)) := by
  unfold endsUp; rw [if_pos (by omega), Int.toNat_natCast]
theorem zeroNode (w : World) : (zeroValue 42).run Try.prog w = .ok (.agg #[.int .i64 0, .int .i64 0]) w := by kernel_rfl
theorem neq_node (x y u v : Int) (w : World) : (binOp .neq 42 (.agg #[.int .i64 x, .int .i64 y]) (.agg #[.int .i64 u, .int .i64 v])).run Try.prog w = .ok (.bool (!(x == u && y == v))) w := by
  have u3 := Try.underlying3
  have hS : Try.prog.underlying 42 = some (.struct (Try.prog.fieldsOf 42)) := by kernel_rfl
  have hp : Try.prog.stoodInHeld 42 = false := by kernel_rfl
  rw [run_neq_struct, show (10000 : Nat) = 9999 + 1 from rfl, run_equalIn_agg w 9999 42 _ _ hS hp]
  simp only [Program.fieldsOf, Try.underlying42]
  go_simp
  by_cases h1 : x = u <;> by_cases h2 : y = v <;> simp [h1, h2]
set_option maxHeartbeats 400000 in
theorem faithEnd1_any (g nn cn lo hi : Nat) (An : Option Addr) (ns : List (Int × Int)) (k : Nat) (x y : Int) (w : World) (hc : w.cell? ⟨g, 0, none⟩ = some (.slice An nn cn)) (hg : g < w.heap.size)
    (hrn : Rd w lo hi 2 An nn (pvs ns)) (hB : hi ≤ w.heap.size) (hnk : ns[k]? = some (x, y)) :
    Calls Try.prog 75 #[.int .i64 (k : Int), .pointer (some ⟨g, 0, none⟩)] w fun e w' => e = .returned (ndv (x, y)) ∧ Below w.heap.size w w' := by
  have hb := up_alloc (Below.refl _ w) (.cells #[.int .i64 0, .int .i64 0] 42)
  have hbk := Blk.new w 42 #[.int .i64 0, .int .i64 0]
  have hkn : k < nn := by rw [← hrn.len2]; exact (List.getElem?_eq_some_iff.1 hnk).1
  have hkn1 : (k : Int) < (nn : Int) := by omega
  have hkn0 : (0 : Int) ≤ (k : Int) := by omega
  have hk0 := (hb.cell (p := ⟨g, 0, none⟩) hg).trans hc
  obtain ⟨b, o, x', y', hA, _, _, hgn, he0, he1⟩ := (hrn.keep hb hB).pair hkn
  subst hA
  rw [hnk] at hgn; injection hgn with hgn; injection hgn with h1 h2; subst h1; subst h2
  have hb2 := up_alloc (Below.refl _ w) (.cells #[.int .i64 x, .int .i64 y] 42)
  have hp2 := Blk.new w 42 #[.int .i64 x, .int .i64 y]
  have c0 := hbk.cell 0
  have c1 := hbk.cell 1
  have f0 := hbk.soft 0
  have f1 := hbk.soft 1
  have d0 := hp2.cell 0
  have d1 := hp2.cell 1
  simp at c0 c1 d0 d1
  clear hbk hp2 hrn
  go_enter Try.func75, Try.ntmps75
  go_wp2
  refine bodyPost_ret (v := ndv (x, y)) ?_ rfl ⟨rfl, hb2⟩
  simp [results, Try.results75, go_sem, ndv, d0, d1]
theorem callEnd1 (args : Array Value) (w : World) : (callFunc 75 args).run Try.prog w = .ok (.enter 75 args) w := by kernel_rfl
set_option maxRecDepth 100000 in
set_option maxHeartbeats 1600000 in
theorem atEnds1_any (g lo hi nn cn : Nat) (An : Option Addr) (ns : List (Int × Int)) (lo1 hi1 lf cf : Nat) (Af : Option Addr) (fs : List Flw) (w : World)
    (hrn : Rd w lo hi 2 An nn (pvs ns)) (hB : hi ≤ w.heap.size) (hr : Fls w lo1 hi1 Af lf fs) (hB1 : hi1 ≤ w.heap.size) (hV : vProc ns fs = true) (hc : w.cell? ⟨g, 0, none⟩ = some (.slice An nn cn)) (hg : g < w.heap.size) :
    Calls Try.prog 74 #[.agg #[.slice An nn cn, .slice Af lf cf], .func (.func 75) #[] #[.pointer (some ⟨g, 0, none⟩)]] w fun e w' => ∃ b, e = .returned (.map (some b)) ∧ IMap Try.prog 3 w' b lf (endsUp ns fs lf) ∧ w.heap.size ≤ b ∧ Below w.heap.size w w' := by
  have hlf := (vProc_len hV).2.2
  rw [hr.1] at hlf
  have HV := Lib.hid hV
  have eg := callEnd1
  have hmm := @run_makeMap Try.prog
  have hb1 := up_alloc (up_alloc (Below.refl _ w) (.cells #[.slice An nn cn, .slice Af lf cf] 26)) (.map #[] 0)
  have hbk := (Blk.new w 26 #[.slice An nn cn, .slice Af lf cf]).alloc (.map #[] 0)
  have hs1 : ((w.alloc (.cells #[.slice An nn cn, .slice Af lf cf] 26)).alloc (.map #[] 0)).heap.size = w.heap.size + 1 + 1 := by simp
  have hnx := IMap.made Try.prog 3 (w.alloc (.cells #[.slice An nn cn, .slice Af lf cf] 26))
  rw [show (w.alloc (.cells #[.slice An nn cn, .slice Af lf cf] 26)).heap.size = w.heap.size + 1 by simp] at hnx
  have HREL := Lib.hid (show IMap Try.prog 3 ((w.alloc (.cells #[.slice An nn cn, .slice Af lf cf] 26)).alloc (.map #[] 0)) (w.heap.size + 1) 0 (endsUp ns fs 0) ∧ Below w.heap.size w ((w.alloc (.cells #[.slice An nn cn, .slice Af lf cf] 26)).alloc (.map #[] 0)) from ⟨hnx.congr (endsUp_none ns fs), hb1⟩)
  have k0 := hbk.cell 0
  have k1 := hbk.cell 1
  simp only [List.getElem?_toArray, List.getElem?_cons_zero, List.getElem?_cons_succ] at k0 k1
  clear hb1 hbk hnx hV
  go_enter Try.func74, Try.ntmps74
  go_wp2
  clear k0 k1 hmm
  go_loopw [6, 12] (fun _ iv wr => ∃ (k : Nat), k ≤ lf ∧ iv = .int .i64 k ∧ Hid (IMap Try.prog 3 wr (w.heap.size + 1) k (endsUp ns fs k) ∧ Below w.heap.size w wr) ∧ w.heap.size + 1 < wr.heap.size)
    (fun _ iv _ => lf - (intOf iv).toNat)
  case atStart => exact ⟨0, by omega, rfl, HREL, by omega⟩
  case round =>
    clear HREL hs1
    obtain ⟨k, hk, rfl, HR, hsz⟩ := hrel
    by_cases hkn : k < lf
    · obtain ⟨bf, of, a, z, ps, A', m', c', hAf, _, _, hgf, hc0, hc1, hc2, _⟩ := (hr.keep HR.out.2 hB1).at hkn
      subst hAf
      have hkn1 : (k : Int) < (lf : Int) := by omega
      have hkn0 : (0 : Int) ≤ (k : Int) := by omega
      obtain ⟨q, x, y, rfl, hq, hnk, hst⟩ := stop_get HV.out hgf
      have hba := up_alloc HR.out.2 (.cells #[.int .i64 a, .int .i64 (q : Int), .slice A' m' c'] 45)
      have hbb := Blk.new wr 45 #[.int .i64 a, .int .i64 (q : Int), .slice A' m' c']
      have b1 := hbb.cell 1
      simp only [List.getElem?_toArray, List.getElem?_cons_zero, List.getElem?_cons_succ] at b1
      have HM := Lib.hid (HR.out.1.alloc (.cells #[.int .i64 a, .int .i64 (q : Int), .slice A' m' c'] 45))
      have HBA := Lib.hid hba
      have hsa : (wr.alloc (.cells #[.int .i64 a, .int .i64 (q : Int), .slice A' m' c'] 45)).heap.size = wr.heap.size + 1 := by simp
      have HC := Lib.hid (faithEnd1_any g nn cn lo hi An ns q x y (wr.alloc (.cells #[.int .i64 a, .int .i64 (q : Int), .slice A' m' c'] 45)) ((hba.cell (p := ⟨g, 0, none⟩) hg).trans hc) (by rw [hsa]; have := HR.out.2.size; omega) (hrn.keep hba hB) (Nat.le_trans hB hba.size) hnk)
      have HST := Lib.hid hst
      clear hgf hnk hst hq hba hbb HR
      go_wp2_with (fail)
      (with_reducible refine HC.out.mono ?_)
      clear HC b1
      rintro e w3 ⟨rfl, hb3⟩
      have hs3 := hb3.size
      rw [hsa] at hs3
      obtain ⟨w4, hrun, him4, hgr⟩ := (HM.out.keep hb3 HM.out.lt).put keyedInt Try.underlying3 Try.underlying118 (by unfold maxLen; omega) (by unfold in64; omega : in64 (k : Int)) (ndv (x, y))
      have HY := Lib.hid (show IMap Try.prog 3 w4 (w.heap.size + 1) (k + 1) (endsUp ns fs (k + 1)) ∧ Below w.heap.size w w4 from ⟨him4.congr (fun z => by rw [← endsUp_put ns fs k z, HST.out]), (up HBA.out hb3).grown hgr (up HBA.out hb3).size (fun j hj => by injection hj with hj; omega)⟩)
      have hs4 := hgr.size
      clear hb3 him4 hgr HM HBA HST
      generalize ndv (x, y) = nv at *
      go_wp2
      go_roundw
      case rel => exact ⟨k + 1, by omega, by go_num, HY, by omega⟩
      case measure => simp [intOf]; omega
    · obtain rfl : k = lf := by omega
      go_wp2
      go_ret
      exact ⟨_, rfl, HR.out.1, by omega, HR.out.2⟩

set_option maxHeartbeats 400000 in
theorem faithEnd2_any (g nn cn lo hi : Nat) (An : Option Addr) (ns : List (Int × Int)) (k : Nat) (x y : Int) (w : World) (hc : w.cell? ⟨g, 4, none⟩ = some (.slice An nn cn)) (hg : g < w.heap.size)
    (hrn : Rd w lo hi 2 An nn (pvs ns)) (hB : hi ≤ w.heap.size) (hnk : ns[k]? = some (x, y)) :
    Calls Try.prog 76 #[.int .i64 (k : Int), .pointer (some ⟨g, 0, none⟩)] w fun e w' => e = .returned (ndv (x, y)) ∧ Below w.heap.size w w' := by
  have hb := up_alloc (Below.refl _ w) (.cells #[.int .i64 0, .int .i64 0] 42)
  have hbk := Blk.new w 42 #[.int .i64 0, .int .i64 0]
  have hkn : k < nn := by rw [← hrn.len2]; exact (List.getElem?_eq_some_iff.1 hnk).1
  have hkn1 : (k : Int) < (nn : Int) := by omega
  have hkn0 : (0 : Int) ≤ (k : Int) := by omega
  have hk0 := (hb.cell (p := ⟨g, 4, none⟩) hg).trans hc
  obtain ⟨b, o, x', y', hA, _, _, hgn, he0, he1⟩ := (hrn.keep hb hB).pair hkn
  subst hA
  rw [hnk] at hgn; injection hgn with hgn; injection hgn with h1 h2; subst h1; subst h2
  have hb2 := up_alloc (Below.refl _ w) (.cells #[.int .i64 x, .int .i64 y] 42)
  have hp2 := Blk.new w 42 #[.int .i64 x, .int .i64 y]
  have c0 := hbk.cell 0
  have c1 := hbk.cell 1
  have f0 := hbk.soft 0
  have f1 := hbk.soft 1
  have d0 := hp2.cell 0
  have d1 := hp2.cell 1
  simp at c0 c1 d0 d1
  clear hbk hp2 hrn
  go_enter Try.func76, Try.ntmps76
  go_wp2
  refine bodyPost_ret (v := ndv (x, y)) ?_ rfl ⟨rfl, hb2⟩
  simp [results, Try.results76, go_sem, ndv, d0, d1]
theorem callEnd2 (args : Array Value) (w : World) : (callFunc 76 args).run Try.prog w = .ok (.enter 76 args) w := by kernel_rfl
set_option maxRecDepth 100000 in
set_option maxHeartbeats 1600000 in
theorem atEnds2_any (g lo hi nn cn : Nat) (An : Option Addr) (ns : List (Int × Int)) (lo1 hi1 lf cf : Nat) (Af : Option Addr) (fs : List Flw) (w : World)
    (hrn : Rd w lo hi 2 An nn (pvs ns)) (hB : hi ≤ w.heap.size) (hr : Fls w lo1 hi1 Af lf fs) (hB1 : hi1 ≤ w.heap.size) (hV : vProc ns fs = true) (hc : w.cell? ⟨g, 4, none⟩ = some (.slice An nn cn)) (hg : g < w.heap.size) :
    Calls Try.prog 74 #[.agg #[.slice An nn cn, .slice Af lf cf], .func (.func 76) #[] #[.pointer (some ⟨g, 0, none⟩)]] w fun e w' => ∃ b, e = .returned (.map (some b)) ∧ IMap Try.prog 3 w' b lf (endsUp ns fs lf) ∧ w.heap.size ≤ b ∧ Below w.heap.size w w' := by
  have hlf := (vProc_len hV).2.2
  rw [hr.1] at hlf
  have HV := Lib.hid hV
  have eg := callEnd2
  have hmm := @run_makeMap Try.prog
  have hb1 := up_alloc (up_alloc (Below.refl _ w) (.cells #[.slice An nn cn, .slice Af lf cf] 26)) (.map #[] 0)
  have hbk := (Blk.new w 26 #[.slice An nn cn, .slice Af lf cf]).alloc (.map #[] 0)
  have hs1 : ((w.alloc (.cells #[.slice An nn cn, .slice Af lf cf] 26)).alloc (.map #[] 0)).heap.size = w.heap.size + 1 + 1 := by simp
  have hnx := IMap.made Try.prog 3 (w.alloc (.cells #[.slice An nn cn, .slice Af lf cf] 26))
  rw [show (w.alloc (.cells #[.slice An nn cn, .slice Af lf cf] 26)).heap.size = w.heap.size + 1 by simp] at hnx
  have HREL := Lib.hid (show IMap Try.prog 3 ((w.alloc (.cells #[.slice An nn cn, .slice Af lf cf] 26)).alloc (.map #[] 0)) (w.heap.size + 1) 0 (endsUp ns fs 0) ∧ Below w.heap.size w ((w.alloc (.cells #[.slice An nn cn, .slice Af lf cf] 26)).alloc (.map #[] 0)) from ⟨hnx.congr (endsUp_none ns fs), hb1⟩)
  have k0 := hbk.cell 0
  have k1 := hbk.cell 1
  simp only [List.getElem?_toArray, List.getElem?_cons_zero, List.getElem?_cons_succ] at k0 k1
  clear hb1 hbk hnx hV
  go_enter Try.func74, Try.ntmps74
  go_wp2
  clear k0 k1 hmm
  go_loopw [6, 12] (fun _ iv wr => ∃ (k : Nat), k ≤ lf ∧ iv = .int .i64 k ∧ Hid (IMap Try.prog 3 wr (w.heap.size + 1) k (endsUp ns fs k) ∧ Below w.heap.size w wr) ∧ w.heap.size + 1 < wr.heap.size)
    (fun _ iv _ => lf - (intOf iv).toNat)
  case atStart => exact ⟨0, by omega, rfl, HREL, by omega⟩
  case round =>
    clear HREL hs1
    obtain ⟨k, hk, rfl, HR, hsz⟩ := hrel
    by_cases hkn : k < lf
    · obtain ⟨bf, of, a, z, ps, A', m', c', hAf, _, _, hgf, hc0, hc1, hc2, _⟩ := (hr.keep HR.out.2 hB1).at hkn
      subst hAf
      have hkn1 : (k : Int) < (lf : Int) := by omega
      have hkn0 : (0 : Int) ≤ (k : Int) := by omega
      obtain ⟨q, x, y, rfl, hq, hnk, hst⟩ := stop_get HV.out hgf
      have hba := up_alloc HR.out.2 (.cells #[.int .i64 a, .int .i64 (q : Int), .slice A' m' c'] 45)
      have hbb := Blk.new wr 45 #[.int .i64 a, .int .i64 (q : Int), .slice A' m' c']
      have b1 := hbb.cell 1
      simp only [List.getElem?_toArray, List.getElem?_cons_zero, List.getElem?_cons_succ] at b1
      have HM := Lib.hid (HR.out.1.alloc (.cells #[.int .i64 a, .int .i64 (q : Int), .slice A' m' c'] 45))
      have HBA := Lib.hid hba
      have hsa : (wr.alloc (.cells #[.int .i64 a, .int .i64 (q : Int), .slice A' m' c'] 45)).heap.size = wr.heap.size + 1 := by simp
      have HC := Lib.hid (faithEnd2_any g nn cn lo hi An ns q x y (wr.alloc (.cells #[.int .i64 a, .int .i64 (q : Int), .slice A' m' c'] 45)) ((hba.cell (p := ⟨g, 4, none⟩) hg).trans hc) (by rw [hsa]; have := HR.out.2.size; omega) (hrn.keep hba hB) (Nat.le_trans hB hba.size) hnk)
      have HST := Lib.hid hst
      clear hgf hnk hst hq hba hbb HR
      go_wp2_with (fail)
      (with_reducible refine HC.out.mono ?_)
      clear HC b1
      rintro e w3 ⟨rfl, hb3⟩
      have hs3 := hb3.size
      rw [hsa] at hs3
      obtain ⟨w4, hrun, him4, hgr⟩ := (HM.out.keep hb3 HM.out.lt).put keyedInt Try.underlying3 Try.underlying118 (by unfold maxLen; omega) (by unfold in64; omega : in64 (k : Int)) (ndv (x, y))
      have HY := Lib.hid (show IMap Try.prog 3 w4 (w.heap.size + 1) (k + 1) (endsUp ns fs (k + 1)) ∧ Below w.heap.size w w4 from ⟨him4.congr (fun z => by rw [← endsUp_put ns fs k z, HST.out]), (up HBA.out hb3).grown hgr (up HBA.out hb3).size (fun j hj => by injection hj with hj; omega)⟩)
      have hs4 := hgr.size
      clear hb3 him4 hgr HM HBA HST
      generalize ndv (x, y) = nv at *
      go_wp2
      go_roundw
      case rel => exact ⟨k + 1, by omega, by go_num, HY, by omega⟩
      case measure => simp [intOf]; omega
    · obtain rfl : k = lf := by omega
      go_wp2
      go_ret
      exact ⟨_, rfl, HR.out.1, by omega, HR.out.2⟩

/-- What belongs to the flow to which one is mapped. -/
def thrOf (nsq : List (Int × Int)) (gs : List Flw) (fl : List Int) (z : Int) : Option Value :=
  if 0 ≤ z then (match fl[z.toNat]? with | some f => if f = -1 then none else some (ndv (stopAt nsq gs f.toNat)) | none => none) else none
def thrMap (nsq : List (Int × Int)) (gs : List Flw) (fl : List Int) (left : Lit → Bool) (z : Int) : Option Value := if left (.int .i64 z) = true then none else thrOf nsq gs fl z
theorem thr_at {nsq : List (Int × Int)} {gs : List Flw} {fl : List Int} {i : Nat} {f : Int} (h : fl[i]? = some f) : thrOf nsq gs fl (i : Int) = if f = -1 then none else some (ndv (stopAt nsq gs f.toNat)) := by
  unfold thrOf
  have h1 : (0 : Int) ≤ (i : Int) := by omega
  simp only [h1, if_true, Int.toNat_natCast, h]
theorem flAt_some {fl : List Int} {z : Int} {v : Value} (h : flAt fl z = some v) : ∃ (i : Nat) (f : Int), z = (i : Int) ∧ fl[i]? = some f ∧ f ≠ -1 ∧ v = .int .i64 f := by
  unfold flAt at h
  split at h
  case isFalse => cases h
  case isTrue h0 =>
    obtain ⟨i, rfl⟩ := Int.eq_ofNat_of_zero_le h0
    rw [Int.toNat_natCast] at h
    cases e : fl[i]? with
    | none => rw [e] at h; cases h
    | some f =>
      rw [e] at h
      by_cases h1 : f = -1
      · simp [h1] at h
      · simp only [h1, if_false] at h
        injection h with h
        exact ⟨i, f, rfl, e, h1, h.symm⟩
theorem thr_none {nsq : List (Int × Int)} {gs : List Flw} {fl : List Int} {z : Int} (h : flAt fl z = none) : thrOf nsq gs fl z = none := by
  unfold flAt at h
  unfold thrOf
  split
  case isFalse => rfl
  case isTrue h0 =>
    rw [if_pos h0] at h
    cases e : fl[z.toNat]? with
    | none => rfl
    | some f =>
      rw [e] at h
      by_cases h1 : f = -1
      · simp [h1]
      · simp [h1] at h
set_option maxRecDepth 100000 in
set_option maxHeartbeats 3200000 in
theorem through_any (fb fm mb lg : Nat) (nsq : List (Int × Int)) (gs : List Flw) (fl : List Int) (w : World) (hfm : IMap Try.prog 3 w fb fm (flAt fl)) (hm : IMap Try.prog 3 w mb lg (endsUp nsq gs lg))
    (hfm14 : fm ≤ 14) (hfl : ∀ f ∈ fl, -1 ≤ f ∧ f ≤ (lg : Int) - 1) (hlg : lg ≤ 14) (h14 : fl.length ≤ 14) :
    Calls Try.prog 77 #[.map (some fb), .map (some mb)] w fun e w' => ∃ b n, e = .returned (.map (some b)) ∧ IMap Try.prog 3 w' b n (thrOf nsq gs fl) ∧ n ≤ 14 ∧ w.heap.size ≤ b ∧ Below w.heap.size w w' := by
  have hblm := hm.lt
  have hblf := hfm.lt
  have HM0 := Lib.hid hm
  obtain ⟨D, hown, hD⟩ := hfm
  have hst : ∀ z : Int, Maps.has D (.int .i64 z) = true ∨ flAt fl z = none := by
    intro z
    cases hh : Maps.has D (.int .i64 z) with
    | true => exact .inl rfl
    | false =>
      have h1 := atKey_of_not_has hh .nil
      rw [hD] at h1
      cases e : flAt fl z with
      | none => exact .inr rfl
      | some v => rw [e] at h1; simp [asHeld] at h1
  have hb1 := up_alloc (Below.refl _ w) (.map #[] 0)
  have hs1 : (w.alloc (.map #[] 0)).heap.size = w.heap.size + 1 := by simp
  have hnx := IMap.made Try.prog 3 w
  have hown1 := hown.alloc (.map #[] 0)
  have hmm := @run_makeMap Try.prog
  go_enter Try.func77, Try.ntmps77
  go_wp2_with (first
    | (at_range; refine wpList_range_own _ rfl _ 71 rfl 3 3 keyedInt Try.underlying71 heldR fb fm D rfl hown1 ?_; intro w0 hrg0 hg0 hs0)
    | go_in)
  go_frame
  rw [hs1] at hrg0 hs0 ⊢
  have HB0 := Lib.hid (hb1.grown hg0 hb1.size (by simp))
  have HNX0 := Lib.hid ((hnx.kept hg0 (by simp)).congr (g' := thrMap nsq gs fl (Maps.has D)) (fun z => by
    unfold thrMap
    rcases hst z with h | h
    · rw [if_pos h]
    · rw [thr_none h]; simp))
  have hc0 := ranges_cnt hrg0
  have HRG0 := Lib.hid hrg0
  clear hg0 hnx hb1 hown1 hown hrg0 hst hs1 hmm
  go_loopw [6, 7] (fun _ _ wr => ∃ (left : Lit → Bool) (cnt n : Nat), Hid (wr.ranges Try.prog 3 heldR fb (w.heap.size + 1) fm D left cnt) ∧ Hid (IMap Try.prog 3 wr w.heap.size n (thrMap nsq gs fl left)) ∧ n + cnt ≤ 14 ∧ Hid (Below w.heap.size w wr) ∧ w.heap.size + 1 < wr.heap.size)
    (fun _ _ wr => wr.rangeLeft fb (w.heap.size + 1))
  case atStart => exact ⟨_, _, 0, HRG0, HNX0, by omega, HB0, by omega⟩
  case round =>
    clear HRG0 HNX0 HB0 hs0 hc0
    obtain ⟨left, cnt, n, HRG, HNX, hnc, HB, hsz⟩ := hrel
    have hrg := HRG.out
    go_wp2_with (first
      | (at_next; refine wpList_next_ranges _ rfl _ rfl 3 keyedInt heldR (Value.int .i64) id (fun key kl hkey => by obtain ⟨x, rfl, _⟩ := Maps.keyOf_int_inv Try.underlying3 hkey; exact ⟨x, rfl⟩) (fun v y hv => ⟨v, rfl⟩) fb (w.heap.size + 1) fm D left cnt rfl hrg ?_ ?_)
      | go_in)
    · intro hc0 hl0
      have HN2 := Lib.hid (HNX.out.congr (g' := thrOf nsq gs fl) (fun z => by unfold thrMap; rw [if_neg (by rw [hl0]; simp)]))
      clear hl0 hrg HRG HNX
      go_wp2
      go_ret
      exact ⟨_, _, rfl, HN2.out, by omega, by omega, HB.out⟩
    · intro x c kl y ps w1 cnt1 hkey hlx hR hat hrg1 hlt hg1 hs1 hen
      obtain ⟨x', ex, rfl, hwx⟩ := Maps.keyOf_int_inv Try.underlying3 hkey
      cases ex
      have hc : y = .held c := by simp [heldR] at hR; rw [← hR.1]
      have h1 := hat .nil
      rw [hD, hc] at h1
      obtain ⟨i, f, rfl, hf, hne, rfl⟩ := flAt_some (asHeld_inj (a := flAt fl x) (b := some c) h1)
      have hff := hfl f (List.mem_of_getElem? hf)
      have hil : i < fl.length := (List.getElem?_eq_some_iff.1 hf).1
      obtain ⟨j, rfl⟩ : ∃ j : Nat, f = (j : Int) := ⟨f.toNat, by omega⟩
      have hj : j < lg := by omega
      have hi64 : in64 (i : Int) := by unfold in64; omega
      have hj64 : in64 (j : Int) := by unfold in64; omega
      have HR1 := Lib.hid hrg1
      have HB1 := Lib.hid (HB.out.grown hg1 HB.out.size (fun j hj => by cases hj; omega))
      have HN1 := Lib.hid (HNX.out.kept hg1 (by simp))
      have HMM := Lib.hid (HM0.out.keep HB1.out hblm)
      have HM1 := Lib.hid (show w1.rangeLeft fb (w.heap.size + 1) < wr.rangeLeft fb (w.heap.size + 1) from by rw [HR1.out.left_eq, HRG.out.left_eq]; exact hlt)
      have HLX := Lib.hid hlx
      have HF := Lib.hid hf
      have hlk := HMM.out.look keyedInt Try.underlying3 Try.underlying118 (zeroNode w1) hj64 rfl
      rw [endsUp_at hj] at hlk
      simp only [Option.getD_some] at hlk
      obtain ⟨w4, hrun, him4, hgr⟩ := HN1.out.put keyedInt Try.underlying3 Try.underlying118 (by unfold maxLen; omega) hi64 (ndv (stopAt nsq gs j))
      have HN4 := Lib.hid (him4.congr (g' := thrMap nsq gs fl (fun l => left l && !l.sameKey (.int .i64 (i : Int)))) (fun z => by
        unfold thrMap
        simp only [same_int]
        by_cases e : z = (i : Int)
        · subst e
          rw [if_pos rfl, if_neg (by simp), thr_at HF.out, if_neg (by omega), Int.toNat_natCast]
        · rw [if_neg e, decide_eq_false e, Bool.not_false, Bool.and_true]))
      have HB4 := Lib.hid (HB1.out.grown hgr HB1.out.size (fun j hj => by injection hj with hj; omega))
      have HR4 := Lib.hid (HR1.out.kept hgr (by simp; omega) (by simp))
      have hsz4 := hgr.size
      have HM4 := Lib.hid (show w4.rangeLeft fb (w.heap.size + 1) < wr.rangeLeft fb (w.heap.size + 1) from by rw [HR4.out.left_eq, ← HR1.out.left_eq]; exact HM1.out)
      clear hR hc h1 hkey hlx hat hf hrg1 hrg hwx HB HNX hg1 him4 hgr HN1 HB1 HR1 HM1 HMM hne
      generalize ndv (stopAt nsq gs j) = nv at *
      go_wp2
      go_roundw
      case rel => exact ⟨_, cnt1, n + 1, HR4, HN4, by omega, HB4, by omega⟩
      case measure => exact HM4.out

theorem keepsUp_all {ns : List (Int × Int)} {fs : List Flw} {nsq : List (Int × Int)} {gs : List Flw} {fl : List Int} (hfl : ∀ f ∈ fl, -1 ≤ f) (h : ∀ (i : Nat) (f : Int), fl[i]? = some f → f ≠ -1 → keepsAt ns fs nsq gs fl i = true) : keepsUp ns fs nsq gs fl fl.length = true := by
  unfold keepsUp
  rw [List.all_eq_true]
  intro i hi
  have hi' := List.mem_range.1 hi
  have hg : fl[i]? = some fl[i] := List.getElem?_eq_getElem hi'
  by_cases h1 : fl[i] = -1
  · unfold keepsAt
    rw [List.getD_eq_getElem?_getD, hg, h1]; rfl
  · exact h i _ hg h1
set_option maxRecDepth 100000 in
set_option maxHeartbeats 3200000 in
theorem faithI_any (lo hi nn cn : Nat) (An : Option Addr) (ns : List (Int × Int)) (lo1 hi1 lf cf : Nat) (Af : Option Addr) (fs : List Flw) (lo2 hi2 nq cq : Nat) (Aq : Option Addr) (nsq : List (Int × Int)) (lo3 hi3 lg cg : Nat) (Ag : Option Addr) (gs : List Flw)
    (x2 x3 y2 y3 : Option Nat) (fb fm : Nat) (fl : List Int) (w : World)
    (hrn : Rd w lo hi 2 An nn (pvs ns)) (hB : hi ≤ w.heap.size) (hr : Fls w lo1 hi1 Af lf fs) (hB1 : hi1 ≤ w.heap.size)
    (hrq : Rd w lo2 hi2 2 Aq nq (pvs nsq)) (hB2 : hi2 ≤ w.heap.size) (hrg : Fls w lo3 hi3 Ag lg gs) (hB3 : hi3 ≤ w.heap.size)
    (hV : vProc ns fs = true) (hVQ : vProc nsq gs = true) (hVM : vMap fs gs fl = true) (hfm : IMap Try.prog 3 w fb fm (flAt fl)) (hfm14 : fm ≤ 14) :
    Calls Try.prog 44 #[.agg #[.slice An nn cn, .slice Af lf cf, .map x2, .map x3, .slice Aq nq cq, .slice Ag lg cg, .map y2, .map y3, .map (some fb)]] w fun e w' => e = .returned (.bool (keepsUp ns fs nsq gs fl fl.length)) ∧ Below w.heap.size w w' := by
  have hlf := (vProc_len hV).2.2
  rw [hr.1] at hlf
  have hlg := (vProc_len hVQ).2.2
  rw [hrg.1] at hlg
  obtain ⟨hll, hfl⟩ := vMap_iff.1 hVM
  rw [hr.1] at hll
  rw [hrg.1] at hfl
  have HFL := Lib.hid hfl
  have hfl14 : fl.length ≤ 14 := by omega
  have HLL := Lib.hid hll
  have hb1 := up_alloc (Below.refl _ w) (.cells #[.slice An nn cn, .slice Af lf cf, .map x2, .map x3, .slice Aq nq cq, .slice Ag lg cg, .map y2, .map y3, .map (some fb)] 73)
  have hbk := Blk.new w 73 #[.slice An nn cn, .slice Af lf cf, .map x2, .map x3, .slice Aq nq cq, .slice Ag lg cg, .map y2, .map y3, .map (some fb)]
  have hs1 : (w.alloc (.cells #[.slice An nn cn, .slice Af lf cf, .map x2, .map x3, .slice Aq nq cq, .slice Ag lg cg, .map y2, .map y3, .map (some fb)] 73)).heap.size = w.heap.size + 1 := by simp
  have HB := Lib.hid hb1
  have HK := Lib.hid hbk
  have HFM := Lib.hid (hfm.alloc (.cells #[.slice An nn cn, .slice Af lf cf, .map x2, .map x3, .slice Aq nq cq, .slice Ag lg cg, .map y2, .map y3, .map (some fb)] 73))
  have k0 := hbk.cell 0
  have k1 := hbk.cell 1
  have k4 := hbk.cell 4
  simp only [List.getElem?_toArray, List.getElem?_cons_zero, List.getElem?_cons_succ] at k0 k1 k4
  have HC := Lib.hid (atEnds1_any w.heap.size lo hi nn cn An ns lo1 hi1 lf cf Af fs (w.alloc (.cells #[.slice An nn cn, .slice Af lf cf, .map x2, .map x3, .slice Aq nq cq, .slice Ag lg cg, .map y2, .map y3, .map (some fb)] 73)) (hrn.keep hb1 hB) (Nat.le_trans hB hb1.size) (hr.keep hb1 hB1) (Nat.le_trans hB1 hb1.size) hV k0 (by omega))
  clear hb1 hbk hfm hll hfl k4
  go_enter Try.func44, Try.ntmps44
  go_wp2_with (fail)
  (with_reducible refine HC.out.mono ?_)
  clear HC k0 k1
  rintro e w1 ⟨b1, rfl, him1, hle1, hb2⟩
  have HB1 := Lib.hid (up HB.out hb2)
  have HK1 := Lib.hid (HK.out.below hb2 (by omega))
  have HM1 := Lib.hid him1
  have HFM1 := Lib.hid (HFM.out.keep hb2 HFM.out.lt)
  have hs2 := hb2.size
  rw [hs1] at hs2 hle1
  have k4 := HK1.out.cell 4
  have k5 := HK1.out.cell 5
  simp only [List.getElem?_toArray, List.getElem?_cons_zero, List.getElem?_cons_succ] at k4 k5
  have HC := Lib.hid (atEnds2_any w.heap.size lo2 hi2 nq cq Aq nsq lo3 hi3 lg cg Ag gs w1 (hrq.keep HB1.out hB2) (Nat.le_trans hB2 HB1.out.size) (hrg.keep HB1.out hB3) (Nat.le_trans hB3 HB1.out.size) hVQ k4 (by omega))
  clear hb2 HB HK HFM him1
  go_wp2_with (fail)
  (with_reducible refine HC.out.mono ?_)
  clear HC k4 k5
  rintro e w2 ⟨b2, rfl, him2, hle2, hb3⟩
  have HB2 := Lib.hid (up HB1.out hb3)
  have HK2 := Lib.hid (HK1.out.below hb3 (by omega))
  have HM1' := Lib.hid (HM1.out.keep hb3 HM1.out.lt)
  have HM2 := Lib.hid him2
  have HFM2 := Lib.hid (HFM1.out.keep hb3 HFM1.out.lt)
  have hs3 := hb3.size
  have k8 := HK2.out.cell 8
  simp only [List.getElem?_toArray, List.getElem?_cons_zero, List.getElem?_cons_succ] at k8
  have HC := Lib.hid (through_any fb fm b2 lg nsq gs fl w2 HFM2.out HM2.out hfm14 HFL.out hlg hfl14)
  clear hb3 HB1 HK1 HM1 HFM1 him2
  go_wp2_with (fail)
  (with_reducible refine HC.out.mono ?_)
  clear HC k8
  rintro e w3 ⟨b3, n3, rfl, him3, hn14, hle3, hb4⟩
  have HB3 := Lib.hid (up HB2.out hb4)
  have HM1 := Lib.hid (HM1'.out.keep hb4 HM1'.out.lt)
  have hlt1 := HM1.out.lt
  have hlt3 := him3.lt
  have hs4 := hb4.size
  clear hb4 HB2 HK2 HM1' HM2 HFM2
  obtain ⟨D, hown, hD⟩ := him3
  have HD := Lib.hid hD
  have hst : ∀ z : Int, Maps.has D (.int .i64 z) = true ∨ thrOf nsq gs fl z = none := by
    intro z
    cases hh : Maps.has D (.int .i64 z) with
    | true => exact .inl rfl
    | false =>
      have h1 := atKey_of_not_has hh .nil
      rw [hD] at h1
      cases e : thrOf nsq gs fl z with
      | none => exact .inr rfl
      | some v => rw [e] at h1; simp [asHeld] at h1
  have HST := Lib.hid hst
  have hnn := neq_node
  go_wp2_with (first
    | (at_range; refine wpList_range_own _ rfl _ 118 rfl 3 42 keyedInt Try.underlying118 heldR b3 n3 D rfl hown ?_; intro w0 hrg0 hg0 hs0)
    | go_in)
  go_frame
  have HB0 := Lib.hid (HB3.out.grown hg0 HB3.out.size (by simp))
  have HM0 := Lib.hid (HM1.out.kept hg0 (by simp))
  have HRG0 := Lib.hid hrg0
  clear hrg0 hg0 HB3 HM1 hst hown hD
  go_loopw [5, 6] (fun _ _ wr => ∃ (left : Lit → Bool) (cnt : Nat), Hid (wr.ranges Try.prog 3 heldR b3 w3.heap.size n3 D left cnt) ∧ Hid (IMap Try.prog 3 wr b1 lf (endsUp ns fs lf)) ∧ Hid (Below w.heap.size w wr) ∧ w3.heap.size < wr.heap.size ∧ Hid (∀ (i : Nat) (f : Int), fl[i]? = some f → f ≠ -1 → left (.int .i64 (i : Int)) = false → keepsAt ns fs nsq gs fl i = true))
    (fun _ _ wr => wr.rangeLeft b3 w3.heap.size)
  case atStart => exact ⟨_, _, HRG0, HM0, HB0, by omega, fun i f h1 h2 h3 => by
    rcases HST.out (i : Int) with h | h
    · rw [h] at h3; cases h3
    · rw [thr_at h1, if_neg h2] at h; cases h⟩
  case round =>
    clear HRG0 HM0 HB0 hs0 HST
    obtain ⟨left, cnt, HRG, HM, HB, hsz, HKP⟩ := hrel
    have hrg' := HRG.out
    go_wp2_with (first
      | (at_next; refine wpList_next_ranges _ rfl _ rfl 3 keyedInt heldR (Value.int .i64) id (fun key kl hkey => by obtain ⟨x, rfl, _⟩ := Maps.keyOf_int_inv Try.underlying3 hkey; exact ⟨x, rfl⟩) (fun v y hv => ⟨v, rfl⟩) b3 w3.heap.size n3 D left cnt rfl hrg' ?_ ?_)
      | go_in)
    · intro hc0 hl0
      have HX := Lib.hid (keepsUp_all (ns := ns) (fs := fs) (nsq := nsq) (gs := gs) (fl := fl) (fun f hf => (HFL.out f hf).1) (fun i f h1 h2 => HKP.out i f h1 h2 (by rw [hl0])))
      clear hl0 hrg' HRG HM HKP
      go_wp2
      go_ret
      exact ⟨ret_bool HX.out.symm, HB.out⟩
    · intro x c kl y ps w4 cnt1 hkey hlx hR hat hrg1 hlt hg1 hs1' hen
      obtain ⟨x', ex, rfl, hwx⟩ := Maps.keyOf_int_inv Try.underlying3 hkey
      cases ex
      have hc : y = .held c := by simp [heldR] at hR; rw [← hR.1]
      have h1 := hat .nil
      rw [HD.out, hc] at h1
      have h2 := asHeld_inj (a := thrOf nsq gs fl x) (b := some c) h1
      obtain ⟨i, f, rfl, hf, hne, hce⟩ : ∃ (i : Nat) (f : Int), x = (i : Int) ∧ fl[i]? = some f ∧ f ≠ -1 ∧ c = ndv (stopAt nsq gs f.toNat) := by
        unfold thrOf at h2
        split at h2
        case isFalse => cases h2
        case isTrue h0 =>
          obtain ⟨i, rfl⟩ := Int.eq_ofNat_of_zero_le h0
          rw [Int.toNat_natCast] at h2
          cases e : fl[i]? with
          | none => rw [e] at h2; cases h2
          | some f =>
            rw [e] at h2
            by_cases h3 : f = -1
            · simp [h3] at h2
            · simp only [h3, if_false] at h2
              injection h2 with h2
              exact ⟨i, f, rfl, e, h3, h2.symm⟩
      subst hce
      have hff := HFL.out f (List.mem_of_getElem? hf)
      have hil : i < fl.length := (List.getElem?_eq_some_iff.1 hf).1
      have hilf : i < lf := by have := HLL.out; omega
      have hi64 : in64 (i : Int) := by unfold in64; omega
      obtain ⟨u1, v1, huv⟩ : ∃ u v, stopAt nsq gs f.toNat = (u, v) := ⟨_, _, rfl⟩
      obtain ⟨u2, v2, huv2⟩ : ∃ u v, stopAt ns fs i = (u, v) := ⟨_, _, rfl⟩
      have HKX := Lib.hid (show keepsAt ns fs nsq gs fl i = (u1 == u2 && v1 == v2) by
        unfold keepsAt
        rw [List.getD_eq_getElem?_getD, hf]
        show (decide (f < 0) || (stopAt ns fs i == stopAt nsq gs f.toNat)) = _
        rw [decide_eq_false (by omega), huv, huv2, Bool.false_or]
        show (u2 == u1 && v2 == v1) = _
        rw [Bool.beq_comm (a := u2), Bool.beq_comm (a := v2)])
      (try simp only [huv] at hen)
      (try simp only [huv])
      have HB1 := Lib.hid (HB.out.grown hg1 HB.out.size (fun j hj => by cases hj; omega))
      have HM1 := Lib.hid (HM.out.kept hg1 (by simp; omega))
      have HR1 := Lib.hid hrg1
      have HMS := Lib.hid (show w4.rangeLeft b3 w3.heap.size < wr.rangeLeft b3 w3.heap.size from by rw [HR1.out.left_eq, HRG.out.left_eq]; exact hlt)
      have HBA := Lib.hid (up_alloc HB1.out (.cells #[.int .i64 u1, .int .i64 v1] 42))
      have HMA := Lib.hid (HM1.out.alloc (.cells #[.int .i64 u1, .int .i64 v1] 42))
      have hgra : w4.grownBy (w4.alloc (.cells #[.int .i64 u1, .int .i64 v1] 42)) none := World.grownBy_alloc _ _ _
      have HRA := Lib.hid (HR1.out.kept hgra (by simp) (by simp))
      have hsa : (w4.alloc (.cells #[.int .i64 u1, .int .i64 v1] 42)).heap.size = w4.heap.size + 1 := by simp
      have HMSA := Lib.hid (show (w4.alloc (.cells #[.int .i64 u1, .int .i64 v1] 42)).rangeLeft b3 w3.heap.size < wr.rangeLeft b3 w3.heap.size from by rw [HRA.out.left_eq, ← HR1.out.left_eq]; exact HMS.out)
      have hlk := HMA.out.look keyedInt Try.underlying3 Try.underlying118 (zeroNode (w4.alloc (.cells #[.int .i64 u1, .int .i64 v1] 42))) hi64 rfl
      rw [endsUp_at hilf, huv2] at hlk
      simp only [Option.getD_some, ndv] at hlk
      have hbb := Blk.new w4 42 #[.int .i64 u1, .int .i64 v1]
      have c0 := hbb.cell 0
      have c1 := hbb.cell 1
      simp at c0 c1
      have HKL := Lib.hid hil
      have HF := Lib.hid hf
      (try simp only [ndv, id] at hen)
      (try simp only [ndv, id])
      clear hR hc h1 h2 hkey hlx hat hf hrg1 hrg' hwx HB HM hg1 hgra HR1 HMS hbb hne HB1 HM1 huv huv2 hff
      cases hsb : (u1 == u2 && v1 == v2) with
      | true =>
        have HK := Lib.hid (HKX.out.trans hsb)
        have hnb : (!(u1 == u2 && v1 == v2)) = false := by rw [hsb]; rfl
        clear HKX
        go_wp2
        go_roundw
        case rel => exact ⟨_, cnt1, HRA, HMA, HBA, by omega, fun i' f' h1 h2 h3 => by
          by_cases e : i' = i
          · subst e; exact HK.out
          · exact HKP.out i' f' h1 h2 (by simp only [same_int] at h3; rw [decide_eq_false (by omega)] at h3; simpa using h3)⟩
        case measure => exact HMSA.out
      | false =>
        have HX := Lib.hid (keepsUp_bad HKL.out (HKX.out.trans hsb))
        have hnb : (!(u1 == u2 && v1 == v2)) = true := by rw [hsb]; rfl
        clear HKX HKP
        go_wp2
        go_ret
        exact ⟨ret_bool HX.out.symm, HBA.out⟩

set_option maxRecDepth 100000 in
set_option maxHeartbeats 1600000 in
theorem IsFaithfulI_any (lo hi nn cn : Nat) (An : Option Addr) (ns : List (Int × Int)) (lo1 hi1 lf cf : Nat) (Af : Option Addr) (fs : List Flw) (lo2 hi2 nq cq : Nat) (Aq : Option Addr) (nsq : List (Int × Int)) (lo3 hi3 lg cg : Nat) (Ag : Option Addr) (gs : List Flw)
    (lo4 hi4 n4 c4 : Nat) (A4 : Option Addr) (fl : List Int) (w : World)
    (hrn : Rd w lo hi 2 An nn (pvs ns)) (hB : hi ≤ w.heap.size) (hnn : nn ≤ 1048576) (hr : Fls w lo1 hi1 Af lf fs) (hB1 : hi1 ≤ w.heap.size) (hn : lf ≤ 1048576)
    (hrq : Rd w lo2 hi2 2 Aq nq (pvs nsq)) (hB2 : hi2 ≤ w.heap.size) (hnq : nq ≤ 1048576) (hrg : Fls w lo3 hi3 Ag lg gs) (hB3 : hi3 ≤ w.heap.size) (hng : lg ≤ 1048576)
    (h4 : Rd w lo4 hi4 1 A4 n4 (ivs fl)) (hB4 : hi4 ≤ w.heap.size) (hn4 : n4 ≤ 1048576) :
    Calls Try.prog 17 #[.agg #[.slice An nn cn, .slice Af lf cf], .agg #[.slice Aq nq cq, .slice Ag lg cg], .slice A4 n4 c4] w fun e w' => e = .returned (.bool (faithOf ns fs nsq gs fl)) ∧ Below w.heap.size w w' := by
  have hb1 := up_alloc (up_alloc (Below.refl _ w) (.cells #[.slice An nn cn, .slice Af lf cf] 26)) (.cells #[.slice Aq nq cq, .slice Ag lg cg] 26)
  have HB0 := Lib.hid hb1
  have HC := Lib.hid (migrationOf_any lo hi nn cn An ns lo1 hi1 lf cf Af fs lo2 hi2 nq cq Aq nsq lo3 hi3 lg cg Ag gs lo4 hi4 n4 c4 A4 fl _ (hrn.keep hb1 hB) (Nat.le_trans hB hb1.size) hnn (hr.keep hb1 hB1) (Nat.le_trans hB1 hb1.size) hn (hrq.keep hb1 hB2) (Nat.le_trans hB2 hb1.size) hnq (hrg.keep hb1 hB3) (Nat.le_trans hB3 hb1.size) hng (h4.keep hb1 hB4) (Nat.le_trans hB4 hb1.size) hn4)
  have HL4 := Lib.hid h4.len1
  have HF := Lib.hid hr.1
  clear hb1
  go_enter Try.func17, Try.ntmps17
  go_wp2_with (fail)
  (with_reducible refine HC.out.mono ?_)
  clear HC
  rintro e w1 (⟨hbad, rfl, hb2⟩ | ⟨hV, hV2, hVM, x2, x3, y2, y3, fb, fm, rfl, hfm, hfml, hfb, hb2⟩)
  · have HB := Lib.hid (up_alloc (up HB0.out hb2) (.cells #[.slice none 0 0, .slice none 0 0, .map none, .map none, .slice none 0 0, .slice none 0 0, .map none, .map none, .map none] 73))
    have HX := Lib.hid (show faithOf ns fs nsq gs fl = false by unfold faithOf; rw [hbad]; rfl)
    clear hbad hb2
    go_wp2
    go_ret
    exact ⟨ret_bool HX.out.symm, HB.out⟩
  · have HB := Lib.hid (up_alloc (up HB0.out hb2) (.cells #[.slice An nn cn, .slice Af lf cf, .map x2, .map x3, .slice Aq nq cq, .slice Ag lg cg, .map y2, .map y3, .map (some fb)] 73))
    have HX := Lib.hid (show faithOf ns fs nsq gs fl = keepsUp ns fs nsq gs fl fl.length by unfold faithOf; rw [hV, hV2, hVM]; rfl)
    have hbk := Blk.new w1 73 #[.slice An nn cn, .slice Af lf cf, .map x2, .map x3, .slice Aq nq cq, .slice Ag lg cg, .map y2, .map y3, .map (some fb)]
    have k0 := hbk.cell 0
    have k1 := hbk.cell 1
    have k2 := hbk.cell 2
    have k3 := hbk.cell 3
    have k4 := hbk.cell 4
    have k5 := hbk.cell 5
    have k6 := hbk.cell 6
    have k7 := hbk.cell 7
    have k8 := hbk.cell 8
    simp only [List.getElem?_toArray, List.getElem?_cons_zero, List.getElem?_cons_succ] at k0 k1 k2 k3 k4 k5 k6 k7 k8
    have hlen := (vMap_iff.1 hVM).1
    have hl14 := (vProc_len hV).2.2
    have HC := Lib.hid (faithI_any lo hi nn cn An ns lo1 hi1 lf cf Af fs lo2 hi2 nq cq Aq nsq lo3 hi3 lg cg Ag gs x2 x3 y2 y3 fb fm fl _ (hrn.keep HB.out hB) (Nat.le_trans hB HB.out.size) (hr.keep HB.out hB1) (Nat.le_trans hB1 HB.out.size) (hrq.keep HB.out hB2) (Nat.le_trans hB2 HB.out.size) (hrg.keep HB.out hB3) (Nat.le_trans hB3 HB.out.size) hV hV2 hVM (hfm.alloc _) (by omega))
    clear hbk hb2 hV hV2 hVM hfm hlen hl14 HB0
    go_wp2_with (fail)
    (with_reducible refine HC.out.mono ?_)
    clear HC
    rintro e w2 ⟨rfl, hb3⟩
    have HB2 := Lib.hid (up HB.out hb3)
    clear hb3 HB
    go_wp2
    go_ret
    exact ⟨ret_bool HX.out.symm, HB2.out⟩

end Go.Proofs.Ytmhbfdcikdhehaa
