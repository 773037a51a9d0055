/- impl.EvalCondition: what the parts put. -/
import Derived.Test.YthlcbdjjegageaaEvalVals
import Derived.StillTailTactics
namespace Go.Proofs.Ythlcbdjjegageaa
open Go.RowKit

def fpk (k : Int) : FuncId :=
  if k = 0 then 144 else if k = 1 then 145 else if k = 2 then 146 else if k = 3 then 150 else if k = 4 then 152
  else if k = 5 then 153 else if k = 6 then 154 else if k = 7 then 155 else 156
theorem method_puts {k v : Int} (h : vPart k v = true) (fuel : Nat) (w : World) :
    (method (fuel + 1) (opT k) (pay k v) "loop.example/processengine/impl.puts").run Try.prog w = .ok (fpk k, pay k v) w := by
  rcases vPart_kinds h with rfl | rfl | rfl | rfl | rfl | rfl | rfl | rfl | rfl <;> kernel_rfl
theorem nil_puts {k v : Int} (h : vPart k v = true) (fuel : Nat) (w : World) :
    (nilAhead (fuel + 1) (opT k) (pay k v) "loop.example/processengine/impl.puts").run Try.prog w = .ok (some false) w := by
  rcases vPart_kinds h with rfl | rfl | rfl | rfl | rfl | rfl | rfl | rfl | rfl <;> kernel_rfl
theorem call_puts {k v : Int} (h : vPart k v = true) (a b c : Value) (w : World) : (callFunc (fpk k) #[a, b, c]).run Try.prog w = .ok (.enter (fpk k) #[a, b, c]) w := by
  rcases vPart_kinds h with rfl | rfl | rfl | rfl | rfl | rfl | rfl | rfl | rfl <;> kernel_rfl

set_option maxHeartbeats 1600000 in
theorem puts_any (k v : Int) (h : vPart k v = true) (lo hi nt ct lo' hi' c' : Nat) (At A' : Option Addr) (taken vs : List Int) (w : World) (hrt : Rd w lo hi 1 At nt (ivs taken)) (hnt : (nt : Int) = needs1 k) (hsm : Small taken) (hr' : Rd w lo' hi' 1 A' 4 (ivs vs)) (hB : hi ≤ w.heap.size) (hB' : hi' ≤ w.heap.size) :
    Calls Try.prog (fpk k) #[pay k v, .slice At nt ct, .slice A' 4 c'] w fun e w' => e = .returned (.int .i64 (putV k v taken vs)) ∧ Below w.heap.size w w' := by
  have hrt1 := hrt.len1
  rcases vPart_kinds h with rfl | rfl | rfl | rfl | rfl | rfl | rfl | rfl | rfl
  · have hv : Hid (putV 0 v taken vs = v) := by simp [Hid, putV]
    clear hrt1 hnt
    simp only [fpk, pay]
    go_enter Try.func144, Try.ntmps144
    go_wp2
    go_ret
    exact ⟨ret_int hv.out.symm, up_alloc (Below.refl _ _) _⟩
  · have hy := vPart_var h
    obtain ⟨j, rfl⟩ := Int.eq_ofNat_of_zero_le (show 0 ≤ v by omega)
    have hj : j < 4 := by omega
    obtain ⟨b', off', z, rfl, hbz, _, hgz, hcz⟩ := hr'.one hj
    have hv : Hid (putV 1 (j : Int) taken vs = z) := by simp [Hid, putV, List.getD_eq_getElem?_getD, hgz]
    have hz4 : (j : Int) < 4 := by omega
    have hbw : b' < w.heap.size := by omega
    have hj0 : (0 : Int) ≤ (j : Int) := by omega
    clear hrt1 hnt hgz hy
    simp only [fpk, pay]
    go_enter Try.func145, Try.ntmps145
    go_wp2
    go_ret
    exact ⟨ret_int hv.out.symm, up_alloc (Below.refl _ _) _⟩
  · obtain rfl : nt = 1 := by simp [needs1] at hnt; omega
    obtain ⟨b', off', a, rfl, hbz, _, hgz, hcz⟩ := hrt.one (k := 0) (by omega)
    have hbw : b' < w.heap.size := by omega
    have hv : Hid (putV 2 v taken vs = tr (a == 0)) := by simp [Hid, putV, List.getD_eq_getElem?_getD, hgz]
    simp only [Nat.add_zero] at hcz
    clear hrt1 hnt hgz
    simp only [fpk, pay]
    go_enter Try.func146, Try.ntmps146
    go_wp2_with (go_at_call 148; refine (truth_any _ _).mono ?_; rintro e w' ⟨rfl, rfl⟩)
    go_ret
    exact ⟨ret_int hv.out.symm, up_alloc (Below.refl _ _) _⟩
  · obtain rfl : nt = 2 := by simp [needs1] at hnt; omega
    obtain ⟨b', off', a, hA, hbz, _, hgz, hcz⟩ := hrt.one (k := 0) (by omega)
    subst hA
    obtain ⟨b3, off3, b, hA, _, _, hgz', hcz'⟩ := hrt.one (k := 1) (by omega)
    injection hA with hA; injection hA with hA1 hA2; subst hA1; subst hA2
    have ha := hsm a (List.mem_of_getElem? hgz)
    have hb := hsm b (List.mem_of_getElem? hgz')
    obtain ⟨ha0, ha1⟩ := ha
    obtain ⟨hb0, hb1⟩ := hb
    have hbw : b' < w.heap.size := by omega
    have hv : Hid (putV 3 v taken vs = opv 3 a b) := by simp [Hid, putV, List.getD_eq_getElem?_getD, hgz, hgz']
    simp only [Nat.add_zero] at hcz
    clear hrt1 hnt hgz hgz' hsm
    simp only [fpk, pay]
    have hw : Hid (opv 3 a b = lim (a + b)) := by simp [Hid, opv]
    have hs : IntKind.i64.wrap (a + b) = a + b := IntWalk.i64_in _ (by omega)
    go_enter Try.func150, Try.ntmps150
    go_wp2_with (fail)
    go_quiet ((go_at_call 151; exact Calls.quiet_of_same ((limited_any _ _).mono fun _ _ h => ⟨h.1, h.2.symm⟩)))
    go_wp2
    go_ret
    exact ⟨ret_int (by rw [hv.out, hw.out]), up_drewN (up_alloc (Below.refl _ _) _) _⟩
  · obtain rfl : nt = 2 := by simp [needs1] at hnt; omega
    obtain ⟨b', off', a, hA, hbz, _, hgz, hcz⟩ := hrt.one (k := 0) (by omega)
    subst hA
    obtain ⟨b3, off3, b, hA, _, _, hgz', hcz'⟩ := hrt.one (k := 1) (by omega)
    injection hA with hA; injection hA with hA1 hA2; subst hA1; subst hA2
    have ha := hsm a (List.mem_of_getElem? hgz)
    have hb := hsm b (List.mem_of_getElem? hgz')
    obtain ⟨ha0, ha1⟩ := ha
    obtain ⟨hb0, hb1⟩ := hb
    have hbw : b' < w.heap.size := by omega
    have hv : Hid (putV 4 v taken vs = opv 4 a b) := by simp [Hid, putV, List.getD_eq_getElem?_getD, hgz, hgz']
    simp only [Nat.add_zero] at hcz
    clear hrt1 hnt hgz hgz' hsm
    simp only [fpk, pay]
    have hw : Hid (opv 4 a b = lim (a - b)) := by simp [Hid, opv]
    have hs : IntKind.i64.wrap (a - b) = a - b := IntWalk.i64_in _ (by omega)
    go_enter Try.func152, Try.ntmps152
    go_wp2_with (fail)
    go_quiet ((go_at_call 151; exact Calls.quiet_of_same ((limited_any _ _).mono fun _ _ h => ⟨h.1, h.2.symm⟩)))
    go_wp2
    go_ret
    exact ⟨ret_int (by rw [hv.out, hw.out]), up_drewN (up_alloc (Below.refl _ _) _) _⟩
  · obtain rfl : nt = 2 := by simp [needs1] at hnt; omega
    obtain ⟨b', off', a, hA, hbz, _, hgz, hcz⟩ := hrt.one (k := 0) (by omega)
    subst hA
    obtain ⟨b3, off3, b, hA, _, _, hgz', hcz'⟩ := hrt.one (k := 1) (by omega)
    injection hA with hA; injection hA with hA1 hA2; subst hA1; subst hA2
    have ha := hsm a (List.mem_of_getElem? hgz)
    have hb := hsm b (List.mem_of_getElem? hgz')
    obtain ⟨ha0, ha1⟩ := ha
    obtain ⟨hb0, hb1⟩ := hb
    have hbw : b' < w.heap.size := by omega
    have hv : Hid (putV 5 v taken vs = opv 5 a b) := by simp [Hid, putV, List.getD_eq_getElem?_getD, hgz, hgz']
    simp only [Nat.add_zero] at hcz
    clear hrt1 hnt hgz hgz' hsm
    simp only [fpk, pay]
    by_cases hz : a = 0
    · subst hz
      have hw : Hid (opv 5 0 b = tr false) := by simp [Hid, opv]
      go_enter Try.func153, Try.ntmps153
      go_wp2_with (go_at_call 148; refine (truth_any _ _).mono ?_; rintro e w' ⟨rfl, rfl⟩)
      go_ret
      exact ⟨ret_int (by rw [hv.out, hw.out]), up_alloc (Below.refl _ _) _⟩
    · have g : (a != 0) = true := by simpa using hz
      have g' : (a == 0) = false := by simpa using hz
      have hw : Hid (opv 5 a b = tr (b != 0)) := by simp [Hid, opv, g]
      go_enter Try.func153, Try.ntmps153
      go_wp2_with (go_at_call 148; refine (truth_any _ _).mono ?_; rintro e w' ⟨rfl, rfl⟩)
      go_ret
      exact ⟨ret_int (by rw [hv.out, hw.out]), up_alloc (Below.refl _ _) _⟩
  · obtain rfl : nt = 2 := by simp [needs1] at hnt; omega
    obtain ⟨b', off', a, hA, hbz, _, hgz, hcz⟩ := hrt.one (k := 0) (by omega)
    subst hA
    obtain ⟨b3, off3, b, hA, _, _, hgz', hcz'⟩ := hrt.one (k := 1) (by omega)
    injection hA with hA; injection hA with hA1 hA2; subst hA1; subst hA2
    have ha := hsm a (List.mem_of_getElem? hgz)
    have hb := hsm b (List.mem_of_getElem? hgz')
    obtain ⟨ha0, ha1⟩ := ha
    obtain ⟨hb0, hb1⟩ := hb
    have hbw : b' < w.heap.size := by omega
    have hv : Hid (putV 6 v taken vs = opv 6 a b) := by simp [Hid, putV, List.getD_eq_getElem?_getD, hgz, hgz']
    simp only [Nat.add_zero] at hcz
    clear hrt1 hnt hgz hgz' hsm
    simp only [fpk, pay]
    by_cases hz : a = 0
    · subst hz
      have hw : Hid (opv 6 0 b = tr (b != 0)) := by simp [Hid, opv]
      go_enter Try.func154, Try.ntmps154
      go_wp2_with (go_at_call 148; refine (truth_any _ _).mono ?_; rintro e w' ⟨rfl, rfl⟩)
      go_ret
      exact ⟨ret_int (by rw [hv.out, hw.out]), up_alloc (Below.refl _ _) _⟩
    · have g : (a != 0) = true := by simpa using hz
      have g' : (a == 0) = false := by simpa using hz
      have hw : Hid (opv 6 a b = tr true) := by simp [Hid, opv, g]
      go_enter Try.func154, Try.ntmps154
      go_wp2_with (go_at_call 148; refine (truth_any _ _).mono ?_; rintro e w' ⟨rfl, rfl⟩)
      go_ret
      exact ⟨ret_int (by rw [hv.out, hw.out]), up_alloc (Below.refl _ _) _⟩
  · obtain rfl : nt = 2 := by simp [needs1] at hnt; omega
    obtain ⟨b', off', a, hA, hbz, _, hgz, hcz⟩ := hrt.one (k := 0) (by omega)
    subst hA
    obtain ⟨b3, off3, b, hA, _, _, hgz', hcz'⟩ := hrt.one (k := 1) (by omega)
    injection hA with hA; injection hA with hA1 hA2; subst hA1; subst hA2
    have ha := hsm a (List.mem_of_getElem? hgz)
    have hb := hsm b (List.mem_of_getElem? hgz')
    obtain ⟨ha0, ha1⟩ := ha
    obtain ⟨hb0, hb1⟩ := hb
    have hbw : b' < w.heap.size := by omega
    have hv : Hid (putV 7 v taken vs = opv 7 a b) := by simp [Hid, putV, List.getD_eq_getElem?_getD, hgz, hgz']
    simp only [Nat.add_zero] at hcz
    clear hrt1 hnt hgz hgz' hsm
    simp only [fpk, pay]
    have hw : Hid (opv 7 a b = tr (decide (a < b))) := by simp [Hid, opv]
    go_enter Try.func155, Try.ntmps155
    go_wp2_with (fail)
    go_quiet ((go_at_call 148; exact Calls.quiet_of_same ((truth_any _ _).mono fun _ _ h => ⟨h.1, h.2.symm⟩)))
    go_wp2
    go_ret
    exact ⟨ret_int (by rw [hv.out, hw.out]), up_drewN (up_alloc (Below.refl _ _) _) _⟩
  · obtain rfl : nt = 2 := by simp [needs1] at hnt; omega
    obtain ⟨b', off', a, hA, hbz, _, hgz, hcz⟩ := hrt.one (k := 0) (by omega)
    subst hA
    obtain ⟨b3, off3, b, hA, _, _, hgz', hcz'⟩ := hrt.one (k := 1) (by omega)
    injection hA with hA; injection hA with hA1 hA2; subst hA1; subst hA2
    have ha := hsm a (List.mem_of_getElem? hgz)
    have hb := hsm b (List.mem_of_getElem? hgz')
    obtain ⟨ha0, ha1⟩ := ha
    obtain ⟨hb0, hb1⟩ := hb
    have hbw : b' < w.heap.size := by omega
    have hv : Hid (putV 8 v taken vs = opv 8 a b) := by simp [Hid, putV, List.getD_eq_getElem?_getD, hgz, hgz']
    simp only [Nat.add_zero] at hcz
    clear hrt1 hnt hgz hgz' hsm
    simp only [fpk, pay]
    have hw : Hid (opv 8 a b = tr (a == b)) := by simp [Hid, opv]
    go_enter Try.func156, Try.ntmps156
    go_wp2_with (fail)
    go_quiet ((go_at_call 148; exact Calls.quiet_of_same ((truth_any _ _).mono fun _ _ h => ⟨h.1, h.2.symm⟩)))
    go_wp2
    go_ret
    exact ⟨ret_int (by rw [hv.out, hw.out]), up_drewN (up_alloc (Below.refl _ _) _) _⟩
end Go.Proofs.Ythlcbdjjegageaa
