/- Merged: EvalPuts, EvalI. -/
import Derived.Test.YtknphikoikdcjaaGreatEvalA
import Derived.StillTailTactics
import Derived.Deep.RegionLaw
import Derived.Deep.RegionWith
/- impl.EvalCondition: what the parts put. -/
set_option linter.unusedSimpArgs false
set_option linter.unusedVariables false
namespace Go.Proofs.YtknphikoikdcjaaGreat
open Go.RowKit

def fpk (k : Int) : FuncId :=
  if k = 0 then 240 else if k = 1 then 241 else if k = 2 then 242 else if k = 3 then 246 else if k = 4 then 248
  else if k = 5 then 249 else if k = 6 then 250 else if k = 7 then 251 else 252
theorem method_puts {k v : Int} (h : vPart k v = true) (fuel : Nat) (w : World) :
    (method (fuel + 1) (opT k) (pay k v) "loop.example/processengine/impl.puts").run Tryz.prog w = .ok (fpk k, pay k v) w := by
  rcases vPart_kinds h with rfl | rfl | rfl | rfl | rfl | rfl | rfl | rfl | rfl <;> kernel_rfl
theorem nil_puts {k v : Int} (h : vPart k v = true) (fuel : Nat) (w : World) :
    (nilAhead (fuel + 1) (opT k) (pay k v) "loop.example/processengine/impl.puts").run Tryz.prog w = .ok (some false) w := by
  rcases vPart_kinds h with rfl | rfl | rfl | rfl | rfl | rfl | rfl | rfl | rfl <;> kernel_rfl
theorem call_puts {k v : Int} (h : vPart k v = true) (a b c : Value) (w : World) : (callFunc (fpk k) #[a, b, c]).run Tryz.prog w = .ok (.enter (fpk k) #[a, b, c]) w := by
  rcases vPart_kinds h with rfl | rfl | rfl | rfl | rfl | rfl | rfl | rfl | rfl <;> kernel_rfl

set_option maxHeartbeats 1600000 in
theorem puts_any (k v : Int) (h : vPart k v = true) (lo hi nt ct lo' hi' c' : Nat) (At A' : Option Addr) (taken vs : List Int) (w : World) (hrt : Rd w lo hi 1 At nt (ivs taken)) (hnt : (nt : Int) = needs1 k) (hsm : Small taken) (hr' : Rd w lo' hi' 1 A' 4 (ivs vs)) (hB : hi ≤ w.heap.size) (hB' : hi' ≤ w.heap.size) :
    Calls Tryz.prog (fpk k) #[pay k v, .slice At nt ct, .slice A' 4 c'] w fun e w' => e = .returned (.int .i64 (putV k v taken vs)) ∧ Below w.heap.size w w' := by
  have hrt1 := hrt.len1
  rcases vPart_kinds h with rfl | rfl | rfl | rfl | rfl | rfl | rfl | rfl | rfl
  · have hv : Hid (putV 0 v taken vs = v) := by simp [Hid, putV]
    clear hrt1 hnt
    simp only [fpk, pay]
    go_enter Tryz.func240, Tryz.ntmps240
    go_wp2
    go_ret
    exact ⟨ret_int hv.out.symm, up_alloc (Below.refl _ _) _⟩
  · have hy := vPart_var h
    obtain ⟨j, rfl⟩ := Int.eq_ofNat_of_zero_le (show 0 ≤ v by omega)
    have hj : j < 4 := by omega
    obtain ⟨b', off', z, rfl, hbz, _, hgz, hcz⟩ := hr'.one hj
    have hv : Hid (putV 1 (j : Int) taken vs = z) := by simp [Hid, putV, List.getD_eq_getElem?_getD, hgz]
    have hz4 : (j : Int) < 4 := by omega
    have hbw : b' < w.heap.size := by omega
    have hj0 : (0 : Int) ≤ (j : Int) := by omega
    clear hrt1 hnt hgz hy
    simp only [fpk, pay]
    go_enter Tryz.func241, Tryz.ntmps241
    go_wp2
    go_ret
    exact ⟨ret_int hv.out.symm, up_alloc (Below.refl _ _) _⟩
  · obtain rfl : nt = 1 := by simp [needs1] at hnt; omega
    obtain ⟨b', off', a, rfl, hbz, _, hgz, hcz⟩ := hrt.one (k := 0) (by omega)
    have hbw : b' < w.heap.size := by omega
    have hv : Hid (putV 2 v taken vs = tr (a == 0)) := by simp [Hid, putV, List.getD_eq_getElem?_getD, hgz]
    simp only [Nat.add_zero] at hcz
    clear hrt1 hnt hgz
    simp only [fpk, pay]
    go_enter Tryz.func242, Tryz.ntmps242
    go_wp2_with (go_at_call 244; refine (truth_any _ _).mono ?_; rintro e w' ⟨rfl, rfl⟩)
    go_ret
    exact ⟨ret_int hv.out.symm, up_alloc (Below.refl _ _) _⟩
  · obtain rfl : nt = 2 := by simp [needs1] at hnt; omega
    obtain ⟨b', off', a, hA, hbz, _, hgz, hcz⟩ := hrt.one (k := 0) (by omega)
    subst hA
    obtain ⟨b3, off3, b, hA, _, _, hgz', hcz'⟩ := hrt.one (k := 1) (by omega)
    injection hA with hA; injection hA with hA1 hA2; subst hA1; subst hA2
    have ha := hsm a (List.mem_of_getElem? hgz)
    have hb := hsm b (List.mem_of_getElem? hgz')
    obtain ⟨ha0, ha1⟩ := ha
    obtain ⟨hb0, hb1⟩ := hb
    have hbw : b' < w.heap.size := by omega
    have hv : Hid (putV 3 v taken vs = opv 3 a b) := by simp [Hid, putV, List.getD_eq_getElem?_getD, hgz, hgz']
    simp only [Nat.add_zero] at hcz
    clear hrt1 hnt hgz hgz' hsm
    simp only [fpk, pay]
    have hw : Hid (opv 3 a b = lim (a + b)) := by simp [Hid, opv]
    have hs : IntKind.i64.wrap (a + b) = a + b := IntWalk.i64_in _ (by omega)
    go_enter Tryz.func246, Tryz.ntmps246
    go_wp2_with (fail)
    go_quiet ((go_at_call 247; exact Calls.quiet_of_same ((limited_any _ _).mono fun _ _ h => ⟨h.1, h.2.symm⟩)))
    go_wp2
    go_ret
    exact ⟨ret_int (by rw [hv.out, hw.out]), up_drewN (up_alloc (Below.refl _ _) _) _⟩
  · obtain rfl : nt = 2 := by simp [needs1] at hnt; omega
    obtain ⟨b', off', a, hA, hbz, _, hgz, hcz⟩ := hrt.one (k := 0) (by omega)
    subst hA
    obtain ⟨b3, off3, b, hA, _, _, hgz', hcz'⟩ := hrt.one (k := 1) (by omega)
    injection hA with hA; injection hA with hA1 hA2; subst hA1; subst hA2
    have ha := hsm a (List.mem_of_getElem? hgz)
    have hb := hsm b (List.mem_of_getElem? hgz')
    obtain ⟨ha0, ha1⟩ := ha
    obtain ⟨hb0, hb1⟩ := hb
    have hbw : b' < w.heap.size := by omega
    have hv : Hid (putV 4 v taken vs = opv 4 a b) := by simp [Hid, putV, List.getD_eq_getElem?_getD, hgz, hgz']
    simp only [Nat.add_zero] at hcz
    clear hrt1 hnt hgz hgz' hsm
    simp only [fpk, pay]
    have hw : Hid (opv 4 a b = lim (a - b)) := by simp [Hid, opv]
    have hs : IntKind.i64.wrap (a - b) = a - b := IntWalk.i64_in _ (by omega)
    go_enter Tryz.func248, Tryz.ntmps248
    go_wp2_with (fail)
    go_quiet ((go_at_call 247; exact Calls.quiet_of_same ((limited_any _ _).mono fun _ _ h => ⟨h.1, h.2.symm⟩)))
    go_wp2
    go_ret
    exact ⟨ret_int (by rw [hv.out, hw.out]), up_drewN (up_alloc (Below.refl _ _) _) _⟩
  · obtain rfl : nt = 2 := by simp [needs1] at hnt; omega
    obtain ⟨b', off', a, hA, hbz, _, hgz, hcz⟩ := hrt.one (k := 0) (by omega)
    subst hA
    obtain ⟨b3, off3, b, hA, _, _, hgz', hcz'⟩ := hrt.one (k := 1) (by omega)
    injection hA with hA; injection hA with hA1 hA2; subst hA1; subst hA2
    have ha := hsm a (List.mem_of_getElem? hgz)
    have hb := hsm b (List.mem_of_getElem? hgz')
    obtain ⟨ha0, ha1⟩ := ha
    obtain ⟨hb0, hb1⟩ := hb
    have hbw : b' < w.heap.size := by omega
    have hv : Hid (putV 5 v taken vs = opv 5 a b) := by simp [Hid, putV, List.getD_eq_getElem?_getD, hgz, hgz']
    simp only [Nat.add_zero] at hcz
    clear hrt1 hnt hgz hgz' hsm
    simp only [fpk, pay]
    by_cases hz : a = 0
    · subst hz
      have hw : Hid (opv 5 0 b = tr false) := by simp [Hid, opv]
      go_enter Tryz.func249, Tryz.ntmps249
      go_wp2_with (go_at_call 244; refine (truth_any _ _).mono ?_; rintro e w' ⟨rfl, rfl⟩)
      go_ret
      exact ⟨ret_int (by rw [hv.out, hw.out]), up_alloc (Below.refl _ _) _⟩
    · have g : (a != 0) = true := by simpa using hz
      have g' : (a == 0) = false := by simpa using hz
      have hw : Hid (opv 5 a b = tr (b != 0)) := by simp [Hid, opv, g]
      go_enter Tryz.func249, Tryz.ntmps249
      go_wp2_with (go_at_call 244; refine (truth_any _ _).mono ?_; rintro e w' ⟨rfl, rfl⟩)
      go_ret
      exact ⟨ret_int (by rw [hv.out, hw.out]), up_alloc (Below.refl _ _) _⟩
  · obtain rfl : nt = 2 := by simp [needs1] at hnt; omega
    obtain ⟨b', off', a, hA, hbz, _, hgz, hcz⟩ := hrt.one (k := 0) (by omega)
    subst hA
    obtain ⟨b3, off3, b, hA, _, _, hgz', hcz'⟩ := hrt.one (k := 1) (by omega)
    injection hA with hA; injection hA with hA1 hA2; subst hA1; subst hA2
    have ha := hsm a (List.mem_of_getElem? hgz)
    have hb := hsm b (List.mem_of_getElem? hgz')
    obtain ⟨ha0, ha1⟩ := ha
    obtain ⟨hb0, hb1⟩ := hb
    have hbw : b' < w.heap.size := by omega
    have hv : Hid (putV 6 v taken vs = opv 6 a b) := by simp [Hid, putV, List.getD_eq_getElem?_getD, hgz, hgz']
    simp only [Nat.add_zero] at hcz
    clear hrt1 hnt hgz hgz' hsm
    simp only [fpk, pay]
    by_cases hz : a = 0
    · subst hz
      have hw : Hid (opv 6 0 b = tr (b != 0)) := by simp [Hid, opv]
      go_enter Tryz.func250, Tryz.ntmps250
      go_wp2_with (go_at_call 244; refine (truth_any _ _).mono ?_; rintro e w' ⟨rfl, rfl⟩)
      go_ret
      exact ⟨ret_int (by rw [hv.out, hw.out]), up_alloc (Below.refl _ _) _⟩
    · have g : (a != 0) = true := by simpa using hz
      have g' : (a == 0) = false := by simpa using hz
      have hw : Hid (opv 6 a b = tr true) := by simp [Hid, opv, g]
      go_enter Tryz.func250, Tryz.ntmps250
      go_wp2_with (go_at_call 244; refine (truth_any _ _).mono ?_; rintro e w' ⟨rfl, rfl⟩)
      go_ret
      exact ⟨ret_int (by rw [hv.out, hw.out]), up_alloc (Below.refl _ _) _⟩
  · obtain rfl : nt = 2 := by simp [needs1] at hnt; omega
    obtain ⟨b', off', a, hA, hbz, _, hgz, hcz⟩ := hrt.one (k := 0) (by omega)
    subst hA
    obtain ⟨b3, off3, b, hA, _, _, hgz', hcz'⟩ := hrt.one (k := 1) (by omega)
    injection hA with hA; injection hA with hA1 hA2; subst hA1; subst hA2
    have ha := hsm a (List.mem_of_getElem? hgz)
    have hb := hsm b (List.mem_of_getElem? hgz')
    obtain ⟨ha0, ha1⟩ := ha
    obtain ⟨hb0, hb1⟩ := hb
    have hbw : b' < w.heap.size := by omega
    have hv : Hid (putV 7 v taken vs = opv 7 a b) := by simp [Hid, putV, List.getD_eq_getElem?_getD, hgz, hgz']
    simp only [Nat.add_zero] at hcz
    clear hrt1 hnt hgz hgz' hsm
    simp only [fpk, pay]
    have hw : Hid (opv 7 a b = tr (decide (a < b))) := by simp [Hid, opv]
    go_enter Tryz.func251, Tryz.ntmps251
    go_wp2_with (fail)
    go_quiet ((go_at_call 244; exact Calls.quiet_of_same ((truth_any _ _).mono fun _ _ h => ⟨h.1, h.2.symm⟩)))
    go_wp2
    go_ret
    exact ⟨ret_int (by rw [hv.out, hw.out]), up_drewN (up_alloc (Below.refl _ _) _) _⟩
  · obtain rfl : nt = 2 := by simp [needs1] at hnt; omega
    obtain ⟨b', off', a, hA, hbz, _, hgz, hcz⟩ := hrt.one (k := 0) (by omega)
    subst hA
    obtain ⟨b3, off3, b, hA, _, _, hgz', hcz'⟩ := hrt.one (k := 1) (by omega)
    injection hA with hA; injection hA with hA1 hA2; subst hA1; subst hA2
    have ha := hsm a (List.mem_of_getElem? hgz)
    have hb := hsm b (List.mem_of_getElem? hgz')
    obtain ⟨ha0, ha1⟩ := ha
    obtain ⟨hb0, hb1⟩ := hb
    have hbw : b' < w.heap.size := by omega
    have hv : Hid (putV 8 v taken vs = opv 8 a b) := by simp [Hid, putV, List.getD_eq_getElem?_getD, hgz, hgz']
    simp only [Nat.add_zero] at hcz
    clear hrt1 hnt hgz hgz' hsm
    simp only [fpk, pay]
    have hw : Hid (opv 8 a b = tr (a == b)) := by simp [Hid, opv]
    go_enter Tryz.func252, Tryz.ntmps252
    go_wp2_with (fail)
    go_quiet ((go_at_call 244; exact Calls.quiet_of_same ((truth_any _ _).mono fun _ _ h => ⟨h.1, h.2.symm⟩)))
    go_wp2
    go_ret
    exact ⟨ret_int (by rw [hv.out, hw.out]), up_drewN (up_alloc (Below.refl _ _) _) _⟩
end Go.Proofs.YtknphikoikdcjaaGreat


/- impl.EvalCondition: the value of a condition. -/
namespace Go.Proofs.YtknphikoikdcjaaGreat
open Go.RowKit

theorem infoIntF : (Tryz.prog.info? 3).map (fun i => (i.zero, i.size, i.bytes)) = some (some (.int .i64 0), 1, 8) := by kernel_rfl

theorem scan_nextI {ps : List (Int × Int)} {k : Nat} {x y : Int} {vs st : List Int} (hg : ps[k]? = some (x, y)) (hv : vPart x y = true) (hn : needs1 x ≤ st.length) (h : scanD (ps.drop k) st.length = some 1) :
    scanD (ps.drop (k + 1)) (stepV vs (x, y) st).length = some 1 := by
  rw [stepV_length hn, ← scanD_step hg hv hn]; exact h

set_option maxRecDepth 100000 in
set_option maxHeartbeats 1600000 in
theorem evalI_yes (lo hi n c lo' hi' n' c' : Nat) (A A' : Option Addr) (ps : List (Int × Int)) (vs : List Int) (w : World) (hr : Rd w lo hi 2 A n (pvs ps)) (hB : hi ≤ w.heap.size) (hn : n ≤ 1048576) (hr' : Rd w lo' hi' 1 A' n' (ivs vs)) (hB' : hi' ≤ w.heap.size) (hn' : n' ≤ 9223372036854775807) (hV : vCond ps = true) (hvs : vVals vs = true) :
    Calls Tryz.prog 215 #[.slice A n c, .slice A' n' c'] w fun e w' => e = .returned (.int .i64 ((evalL vs ps []).getD 0 0)) ∧ Below w.heap.size w w' := by
  have HL := Lib.hid hr.len2
  have HL' := Lib.hid hr'.len1
  obtain ⟨i0, hi0, hz0, hz1, hz2⟩ := info_parts infoIntF
  have hn12 := vCond_len hV
  rw [HL.out] at hn12
  obtain ⟨hn1, hn12⟩ := hn12
  have h4 := vVals_len hvs
  rw [HL'.out] at h4
  subst h4
  have HV := Lib.hid hV
  have HVS := Lib.hid hvs
  have HS0 := Lib.hid (vCond_scan hV)
  clear hV
  go_enter Tryz.func215, Tryz.ntmps215
  go_wp2_with (fail)
  (with_reducible refine (partsAtWork_any lo hi n c A ps w hr hB hn).mono ?_)
  rintro e w1 (⟨_, A1, c1, rfl, hrl, hb1⟩ | ⟨hVf, _⟩)
  case inr => rw [HV.out] at hVf; cases hVf
  rw [HL.out] at hrl
  rw [HL.out]
  go_wp2_with (fail)
  (with_reducible refine (validValuesI_any lo' hi' 4 c' A' vs w1 (hr'.keep hb1 hB') hn').mono ?_)
  rintro e w2 ⟨rfl, rfl⟩
  rw [hvs]
  clear hvs
  have hsz1 := hb1.size
  have hrv := hr'.keep hb1 hB'
  go_wp2
  go_loopw [7, 25] (fun sv iv wr => ∃ (k : Nat) (st : List Int), k ≤ n ∧ iv = .int .i64 k ∧ wr.ownsRow w1.heap.size 3 1 sv st.length (ivs st) ∧ Hid (scanD (ps.drop k) st.length = some 1) ∧ Hid (evalL vs ps [] = evalL vs (ps.drop k) st) ∧ Small st ∧ Below w1.heap.size w1 wr ∧ st.length ≤ k)
     (fun _ iv _ => n - (intOf iv).toNat)
  case atStart => exact ⟨0, [], by omega, rfl, World.ownsRow_nil _ _ _ _, HS0, rfl, (fun x hx => nomatch hx), Below.refl _ _, Nat.le_refl _⟩
  case round =>
    obtain ⟨k, st, hk, rfl, hown, hS, hE, hsm, hbl, hlk⟩ := hrel
    have hsz := hbl.size
    obtain ⟨As, cs, rfl, hlc, _, _⟩ := own_form hown
    have hsb : st.length ≤ 12 := by omega
    by_cases hlt : k < n
    · obtain ⟨⟨x, y⟩, hg⟩ : ∃ p, ps[k]? = some p := ⟨ps[k]'(by rw [HL.out]; exact hlt), by rw [List.getElem?_eq_getElem]⟩
      obtain ⟨bl, offl, u, rfl, hbl2, _, hgu, hcu⟩ := (hrl.keep hbl (Nat.le_refl _)).val hlt
      rw [List.getElem?_map, hg] at hgu
      have hu := Option.some.inj hgu
      simp only [Option.map_some] at hgu
      simp only [sv] at hu
      subst hu
      clear hgu
      have hvp := vCond_parts HV.out hg
      have hnd := scan_need hg hS.out
      have HS2 := Lib.hid (scan_nextI (vs := vs) hg hvp hnd hS.out)
      have HE2 := Lib.hid (hE.out.trans (evalL_step hg))
      have hsm2 := stepV_small hvp HVS.out hsm
      have HP := Lib.hid hvp
      have hn02 := needs1_bd x
      have hmt := method_takes hvp
      have hct := call_takes x
      have hmp := method_puts hvp
      have hnp := nil_puts hvp
      have hcp := call_puts hvp
      clear hg hS hE hvp
      obtain ⟨rs, hrs⟩ : ∃ rs : Nat, (st.length : Int) - needs1 x = (rs : Int) := ⟨((st.length : Int) - needs1 x).toNat, by omega⟩
      have hrs1 : rs ≤ st.length := by omega
      go_wp2_with (fail)
      (with_reducible refine (takes_any x _).mono ?_)
      rintro e w2 ⟨rfl, hb2⟩
      have hown2 := own_keep hown hb2
      have hbl2' := up hbl hb2
      clear hown hb2
      go_wp2_with (fail)
      have hr0 : (0 : Int) ≤ (rs : Int) := by omega
      have hr1 : (rs : Int) ≤ (st.length : Int) := by omega
      have hr2 : (st.length : Int) ≤ (cs : Int) := by omega
      have hr3 : (rs : Int) ≤ (cs : Int) := by omega
      have HN : Hid (stepV vs (x, y) st = st.take rs ++ [putV x y (st.drop rs) vs]) := by
        have : st.length - (needs1 x).toNat = rs := by omega
        rw [Hid, stepV, this]
      obtain ⟨q, hq⟩ : ∃ q, putV x y (st.drop rs) vs = q := ⟨_, rfl⟩
      rw [hq] at HN
      have hsd : Small (st.drop rs) := fun z hz => hsm z (List.mem_of_mem_drop hz)
      have hrv2 := (hrv.keep hbl2' (Nat.le_trans hB' hsz1))
      have hsz2 := hbl2'.size
      have hit : ∀ m, (ivs st).take (m * 1) = ivs (st.take m) := fun m => by simp [ivs]
      rcases hown2.2 with ⟨hv, hl0⟩ | ⟨g, cap, cur, hv, hg1, hgh, _⟩
      · injection hv with hv1 hv2 hv3
        subst hv1; subst hv3
        have hst0 : st = [] := List.eq_nil_of_length_eq_zero hl0
        subst hst0
        obtain rfl : rs = 0 := by simp at hrs1; omega
        have HOC := Lib.hid (show w2.drew.ownsRow w1.heap.size 3 1 (.slice none 0 0) 0 (ivs (([] : List Int).take 0)) from World.ownsRow_nil _ _ _ _)
        have hcall := (puts_any x y HP.out w1.heap.size w2.heap.size 0 0 lo' hi' c' none A' (([] : List Int).drop 0) vs w2.drew (Rd.nil _ _ _ _ _) (by simp at hrs; omega) hsd hrv2 (Nat.le_refl _) (Nat.le_trans hB' (Nat.le_trans hsz1 hsz2)))
        rw [hq] at hcall
        have HC := Lib.hid hcall
        clear hsd hrv2 hown2 hit hcall hq
        go_region_law (first | (refine step_append_lies _ (by rfl) (.tmp 36) (.tmp 46) 26 (by rfl) w1.heap.size 3 i0 (.int .i64 0) 1 8 Tryz.underlying26 hi0 hz0 hz1 hz2 rfl (by omega) _ 0 (ivs (([] : List Int).take 0)) (by rfl) ((own_keep HOC.out hb3).alloc _) ⟨w3.heap.size, 0, none⟩ 1 1 [.int .i64 q] (by rfl) (by rfl) (World.news_of_block (heap_alloc_new _ _)) (by intro u hu; simp at hu; subst hu; rfl) (by omega) (by unfold maxLen; omega) (by omega) (by have := hb3.size; simp at this; simp; omega) _ rfl ?_; intro g4 cap4 w4 hown4 hg4 _ _) | (go_simp; refine HC.out.mono ?_; rintro e w3 ⟨rfl, hb3⟩))
        have hbl4 := up_grown (up_alloc (up (up_drew hbl2') hb3) _) ((own_keep HOC.out hb3).alloc _) hg4 (Nat.le_refl _)
        have HO4 := Lib.hid hown4
        clear hown4 hg4 hb3
        go_wp2
        go_roundw
        case rel =>
          refine ⟨k + 1, stepV vs (x, y) ([] : List Int), by omega, by go_num, ?_, HS2, HE2, hsm2, hbl4, by rw [HN.out]; first | (simp; done) | (simp; omega)⟩
          have ho := HO4.out
          rw [HN.out, ivs_append, List.length_append, List.length_take, Nat.min_eq_left hrs1]
          exact ho
        case measure => simp [intOf]; omega
      · injection hv with hv1 hv2 hv3
        subst hv1; subst hv3
        have hoc := (own_cut hown2 hrs1).drew
        rw [hit] at hoc
        have HOC := Lib.hid hoc
        have hrt : Rd w2.drew w1.heap.size w2.heap.size 1 (some ⟨g, rs, none⟩) (st.length - rs) (ivs (st.drop rs)) := by
          refine ⟨by rw [ivs_length, List.length_drop, Nat.mul_one], fun _ => ⟨g, rs, rfl, hg1, (Array.getElem?_eq_some_iff.1 hgh).1, fun j u hu => ?_⟩⟩
          have := (Rd.of_own hown2).2 (by omega)
          obtain ⟨b1, o1, e1, _, _, hcc⟩ := this
          injection e1 with e1; injection e1 with e2 e3
          subst e2; subst e3
          have := hcc (rs + j) u (by rw [← hu]; simp [ivs, List.getElem?_drop])
          rw [Nat.zero_add] at this
          exact this
        by_cases hcr : cs = rs
        · subst hcr
          have hlr : st.length = cs := by omega
          have hcall := (puts_any x y HP.out w1.heap.size w2.heap.size 0 0 lo' hi' c' (some ⟨g, 0, none⟩) A' (st.drop cs) vs w2.drew (by rw [List.drop_of_length_le (by omega)]; exact Rd.nil _ _ _ _ _) (by omega) hsd hrv2 (Nat.le_refl _) (Nat.le_trans hB' (Nat.le_trans hsz1 hsz2)))
          rw [hq] at hcall
          have HC := Lib.hid hcall
          clear hsd hrv2 hown2 hit hrt hoc hgh hcall hq hlr
          go_region_law (first | (refine step_append_lies _ (by rfl) (.tmp 36) (.tmp 46) 26 (by rfl) w1.heap.size 3 i0 (.int .i64 0) 1 8 Tryz.underlying26 hi0 hz0 hz1 hz2 rfl (by omega) _ cs (ivs (st.take cs)) (by rfl) ((own_keep HOC.out hb3).alloc _) ⟨w3.heap.size, 0, none⟩ 1 1 [.int .i64 q] (by rfl) (by rfl) (World.news_of_block (heap_alloc_new _ _)) (by intro u hu; simp at hu; subst hu; rfl) (by omega) (by unfold maxLen; omega) (by omega) (by have := hb3.size; simp at this; simp; omega) _ rfl ?_; intro g4 cap4 w4 hown4 hg4 _ _) | (go_simp; refine HC.out.mono ?_; rintro e w3 ⟨rfl, hb3⟩))
          have hbl4 := up_grown (up_alloc (up (up_drew hbl2') hb3) _) ((own_keep HOC.out hb3).alloc _) hg4 (Nat.le_refl _)
          have HO4 := Lib.hid hown4
          clear hown4 hg4 hb3
          go_wp2
          go_roundw
          case rel =>
            refine ⟨k + 1, stepV vs (x, y) st, by omega, by go_num, ?_, HS2, HE2, hsm2, hbl4, by rw [HN.out]; first | (simp; done) | (simp; omega)⟩
            have ho := HO4.out
            rw [HN.out, ivs_append, List.length_append, List.length_take, Nat.min_eq_left hrs1]
            exact ho
          case measure => simp [intOf]; omega
        · have hcall := (puts_any x y HP.out w1.heap.size w2.heap.size (st.length - rs) (cs - rs) lo' hi' c' (some ⟨g, rs, none⟩) A' (st.drop rs) vs w2.drew hrt (by omega) hsd hrv2 (Nat.le_refl _) (Nat.le_trans hB' (Nat.le_trans hsz1 hsz2)))
          rw [hq] at hcall
          have HC := Lib.hid hcall
          clear hsd hrv2 hown2 hit hrt hoc hgh hcall hq
          go_region_law (first | (refine step_append_lies _ (by rfl) (.tmp 36) (.tmp 46) 26 (by rfl) w1.heap.size 3 i0 (.int .i64 0) 1 8 Tryz.underlying26 hi0 hz0 hz1 hz2 rfl (by omega) _ rs (ivs (st.take rs)) (by rfl) ((own_keep HOC.out hb3).alloc _) ⟨w3.heap.size, 0, none⟩ 1 1 [.int .i64 q] (by rfl) (by rfl) (World.news_of_block (heap_alloc_new _ _)) (by intro u hu; simp at hu; subst hu; rfl) (by omega) (by unfold maxLen; omega) (by omega) (by have := hb3.size; simp at this; simp; omega) _ rfl ?_; intro g4 cap4 w4 hown4 hg4 _ _) | (go_simp; refine HC.out.mono ?_; rintro e w3 ⟨rfl, hb3⟩))
          have hbl4 := up_grown (up_alloc (up (up_drew hbl2') hb3) _) ((own_keep HOC.out hb3).alloc _) hg4 (Nat.le_refl _)
          have HO4 := Lib.hid hown4
          clear hown4 hg4 hb3
          go_wp2
          go_roundw
          case rel =>
            refine ⟨k + 1, stepV vs (x, y) st, by omega, by go_num, ?_, HS2, HE2, hsm2, hbl4, by rw [HN.out]; first | (simp; done) | (simp; omega)⟩
            have ho := HO4.out
            rw [HN.out, ivs_append, List.length_append, List.length_take, Nat.min_eq_left hrs1]
            exact ho
          case measure => simp [intOf]; omega
    · obtain rfl : k = n := by omega
      have hS' := hS.out
      rw [List.drop_of_length_le (by rw [HL.out]; omega)] at hS'
      have hst1 : st.length = 1 := by
        simp only [scanD] at hS'
        have := Option.some.inj hS'
        omega
      have hE' := hE.out
      rw [List.drop_of_length_le (by rw [HL.out]; omega)] at hE'
      have HE := Lib.hid hE'
      obtain ⟨z, rfl⟩ : ∃ z, st = [z] := by
        match st, hst1 with
        | [z], _ => exact ⟨z, rfl⟩
      obtain ⟨g, cc, hv, hg1, hg2, hgc⟩ := own_first hown (by simp)
      injection hv with hv1 hv2 hv3
      subst hv1; subst hv3
      have hd := hown.cellAt 0 (by simp)
      simp only [ivs, List.map_cons, List.map_nil, List.getElem?_cons_zero] at hd
      clear hS hS' hE hE' hown hst1
      go_wp2
      go_ret
      exact ⟨ret_int (by rw [HE.out]; rfl), up hb1 hbl⟩

theorem EvalConditionI_any (lo hi n c lo' hi' n' c' : Nat) (A A' : Option Addr) (ps : List (Int × Int)) (vs : List Int) (w : World) (hr : Rd w lo hi 2 A n (pvs ps)) (hB : hi ≤ w.heap.size) (hn : n ≤ 1048576) (hr' : Rd w lo' hi' 1 A' n' (ivs vs)) (hB' : hi' ≤ w.heap.size) (hn' : n' ≤ 9223372036854775807) :
    Calls Tryz.prog 215 #[.slice A n c, .slice A' n' c'] w fun e w' => e = .returned (.int .i64 (evalOf ps vs)) ∧ Below w.heap.size w w' := by
  by_cases hV : vCond ps = true
  · by_cases hvs : vVals vs = true
    · rw [show evalOf ps vs = (evalL vs ps []).getD 0 0 by simp [evalOf, hV, hvs]]
      exact evalI_yes lo hi n c lo' hi' n' c' A A' ps vs w hr hB hn hr' hB' hn' hV hvs
    · have hvs' : vVals vs = false := by simpa using hvs
      have HE : Hid (evalOf ps vs = 0) := by simp [Hid, evalOf, hvs']
      have HL := Lib.hid hr.len2
      go_enter Tryz.func215, Tryz.ntmps215
      go_wp2_with (fail)
      (with_reducible refine (partsAtWork_any lo hi n c A ps w hr hB hn).mono ?_)
      rintro e w1 (⟨_, A1, c1, rfl, hrl, hb1⟩ | ⟨hVf, _⟩)
      case inr => rw [hV] at hVf; cases hVf
      rw [HL.out]
      go_wp2_with (fail)
      (with_reducible refine (validValuesI_any lo' hi' n' c' A' vs w1 (hr'.keep hb1 hB') hn').mono ?_)
      rintro e w2 ⟨rfl, rfl⟩
      rw [hvs']
      go_wp2
      go_ret
      exact ⟨ret_int HE.out.symm, hb1⟩
  · have hV' : vCond ps = false := by simpa using hV
    have HE : Hid (evalOf ps vs = 0) := by simp [Hid, evalOf, hV']
    go_enter Tryz.func215, Tryz.ntmps215
    go_wp2_with (fail)
    (with_reducible refine (partsAtWork_any lo hi n c A ps w hr hB hn).mono ?_)
    rintro e w1 (⟨hVf, _⟩ | ⟨_, rfl, hb1⟩)
    case inl => rw [hV'] at hVf; cases hVf
    go_wp2
    go_ret
    exact ⟨ret_int HE.out.symm, hb1⟩
end Go.Proofs.YtknphikoikdcjaaGreat

