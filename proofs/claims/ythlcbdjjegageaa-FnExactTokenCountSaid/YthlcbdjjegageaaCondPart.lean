/- impl.partAtWork: what a part does on the stack; false if it is not valid. -/
import Derived.Test.YthlcbdjjegageaaCondImpl
namespace Go.Proofs.Ythlcbdjjegageaa
open Go.RowKit

theorem validValue_same (n : Int) (w : World) : Calls Try.prog 104 #[.int .i64 n] w fun e w' => e = .returned (.bool (inR n (-9999) 9999)) ∧ w' = w :=
  (validValue_any n w).mono fun _ _ h => ⟨h.1, h.2.symm⟩
theorem validVariable_same (n : Int) (w : World) : Calls Try.prog 125 #[.int .i64 n] w fun e w' => e = .returned (.bool (inR n 0 3)) ∧ w' = w :=
  (validVariable_any n w).mono fun _ _ h => ⟨h.1, h.2.symm⟩

/-- The call ends with false beside something. -/
def FalseBeside (w : World) (e : Ending) (w' : World) : Prop := ∃ x, e = .returned (.tuple #[x, .bool false]) ∧ Below w.heap.size w w'

theorem partAtWork_0 (v : Int) (w : World) :
    Calls Try.prog 119 #[.agg #[.int .i64 0, .int .i64 v]] w fun e w' => e = .returned (.tuple #[sv (0, v), .bool (inR v (-9999) 9999)]) ∧ Below w.heap.size w w' := by
  simp only [sv, opT, pay]
  go_enter Try.func119, Try.ntmps119
  go_wp2
  go_quiet ((go_at_call 104; exact Calls.quiet_of_same (validValue_same _ _)))
  go_wp2
  go_ret2
  exact ⟨by simp, up_drewN (up_alloc (Below.refl _ _) _) _⟩

theorem partAtWork_1 (v : Int) (w : World) :
    Calls Try.prog 119 #[.agg #[.int .i64 1, .int .i64 v]] w fun e w' => e = .returned (.tuple #[sv (1, v), .bool (inR v 0 3)]) ∧ Below w.heap.size w w' := by
  simp only [sv, opT, pay]
  go_enter Try.func119, Try.ntmps119
  go_wp2
  go_quiet ((go_at_call 125; exact Calls.quiet_of_same (validVariable_same _ _)))
  go_wp2
  go_ret2
  exact ⟨by simp, up_drewN (up_alloc (Below.refl _ _) _) _⟩

theorem partAtWork_op {k v : Int} (h : inR k 2 8 = true) (w : World) :
    Calls Try.prog 119 #[.agg #[.int .i64 k, .int .i64 v]] w fun e w' => e = .returned (.tuple #[sv (k, v), .bool (v == 0)]) ∧ Below w.heap.size w w' := by
  have hk := inR_iff.1 h
  have g0 : (k == 0) = false := by simp; omega
  have g1 : (k == 1) = false := by simp; omega
  have hp : pay k v = .agg #[] := by unfold pay; rw [if_neg (by omega)]
  have H := Lib.hid h; clear h hk
  simp only [sv, hp]
  clear hp
  go_enter Try.func119, Try.ntmps119
  go_wp2_with (go_at_call 126; refine (operator_yes H.out _).mono ?_; rintro e w' ⟨rfl, rfl⟩)
  go_quiet (fail)
  go_wp2
  go_ret2
  exact ⟨by simp, up_drewN (up_alloc (Below.refl _ _) _) _⟩

theorem partAtWork_bad {k v : Int} (g0 : (k == 0) = false) (g1 : (k == 1) = false) (h : inR k 2 8 = false) (w : World) :
    Calls Try.prog 119 #[.agg #[.int .i64 k, .int .i64 v]] w (FalseBeside w) := by
  have H := Lib.hid h; clear h
  go_enter Try.func119, Try.ntmps119
  go_wp2_with (go_at_call 126; refine (operator_no H.out _).mono ?_; rintro e w' ⟨rfl, rfl⟩)
  go_quiet (fail)
  go_wp2
  go_ret2
  exact ⟨_, rfl, up_drewN (up_alloc (Below.refl _ _) _) _⟩

theorem partAtWork_yes {k v : Int} (h : vPart k v = true) (w : World) :
    Calls Try.prog 119 #[.agg #[.int .i64 k, .int .i64 v]] w fun e w' => e = .returned (.tuple #[sv (k, v), .bool true]) ∧ Below w.heap.size w w' := by
  unfold vPart at h
  by_cases h0 : k = 0
  · subst h0
    rw [if_pos rfl] at h
    have := partAtWork_0 v w
    rwa [h] at this
  by_cases h1 : k = 1
  · subst h1
    rw [if_neg h0, if_pos rfl] at h
    have := partAtWork_1 v w
    rwa [h] at this
  rw [if_neg h0, if_neg h1] at h
  simp at h
  have := partAtWork_op (v := v) h.1 w
  rwa [show (v == 0) = true by simp [h.2]] at this

theorem partAtWork_no {k v : Int} (h : vPart k v = false) (w : World) :
    Calls Try.prog 119 #[.agg #[.int .i64 k, .int .i64 v]] w (FalseBeside w) := by
  unfold vPart at h
  by_cases h0 : k = 0
  · subst h0
    rw [if_pos rfl] at h
    have := partAtWork_0 v w
    rw [h] at this
    exact this.mono fun _ _ ⟨a, b⟩ => ⟨_, a, b⟩
  by_cases h1 : k = 1
  · subst h1
    rw [if_neg h0, if_pos rfl] at h
    have := partAtWork_1 v w
    rw [h] at this
    exact this.mono fun _ _ ⟨a, b⟩ => ⟨_, a, b⟩
  rw [if_neg h0, if_neg h1] at h
  by_cases hr : inR k 2 8 = true
  · have hv : (v == 0) = false := by simp [hr] at h; simpa using h
    have := partAtWork_op (v := v) hr w
    rw [hv] at this
    exact this.mono fun _ _ ⟨a, b⟩ => ⟨_, a, b⟩
  · exact partAtWork_bad (by simpa using h0) (by simpa using h1) (by simpa using hr) w
end Go.Proofs.Ythlcbdjjegageaa
