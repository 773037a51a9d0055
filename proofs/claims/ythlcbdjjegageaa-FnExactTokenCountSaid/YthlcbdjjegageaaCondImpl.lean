/- The program's functions on the parts of conditions: what each part does on the stack. -/
import Derived.Test.YthlcbdjjegageaaRows
import Derived.Test.YthlcbdjjegageaaCondMath
import Derived.BigQuiet
import Derived.Deep.QuietTactic
import Derived.WalkLawsBesides
namespace Go.Proofs.Ythlcbdjjegageaa
open Go.RowKit

/-- The dynamic type of the part at work. -/
def opT (k : Int) : TypeId :=
  if k = 0 then 152 else if k = 1 then 154 else if k = 2 then 156 else if k = 3 then 159 else if k = 4 then 160
  else if k = 5 then 161 else if k = 6 then 162 else if k = 7 then 163 else 164
/-- What it holds. -/
def pay (k v : Int) : Value := if k = 0 ∨ k = 1 then .agg #[.int .i64 v] else .agg #[]
def sv (p : Int × Int) : Value := .iface (opT p.1) (pay p.1 p.2)
def ftk (k : Int) : FuncId := if k = 0 ∨ k = 1 then 143 else if k = 2 then 147 else 149

theorem kinds {k : Int} (h : inR k 2 8 = true) : k = 2 ∨ k = 3 ∨ k = 4 ∨ k = 5 ∨ k = 6 ∨ k = 7 ∨ k = 8 := by
  have := inR_iff.1 h; omega
theorem vPart_kinds {k v : Int} (h : vPart k v = true) : k = 0 ∨ k = 1 ∨ k = 2 ∨ k = 3 ∨ k = 4 ∨ k = 5 ∨ k = 6 ∨ k = 7 ∨ k = 8 := by
  unfold vPart at h
  by_cases h0 : k = 0
  · exact .inl h0
  by_cases h1 : k = 1
  · exact .inr (.inl h1)
  rw [if_neg h0, if_neg h1] at h
  simp at h
  exact .inr (.inr (kinds h.1))

theorem method_takes {k v : Int} (h : vPart k v = true) (fuel : Nat) (w : World) :
    (method (fuel + 1) (opT k) (pay k v) "loop.example/processengine/impl.takes").run Try.prog w = .ok (ftk k, .agg #[]) w := by
  rcases vPart_kinds h with rfl | rfl | rfl | rfl | rfl | rfl | rfl | rfl | rfl <;> kernel_rfl

theorem call_takes (k : Int) (v : Value) (w : World) : (callFunc (ftk k) #[v]).run Try.prog w = .ok (.enter (ftk k) #[v]) w := by
  unfold ftk
  split
  · kernel_rfl
  · split <;> kernel_rfl

theorem takes_any (k : Int) (w : World) :
    Calls Try.prog (ftk k) #[.agg #[]] w fun e w' => e = .returned (.int .i64 (needs1 k)) ∧ Below w.heap.size w w' := by
  unfold ftk needs1
  by_cases h0 : k = 0 ∨ k = 1
  · rw [if_pos h0, if_pos h0]
    go_enter Try.func143, Try.ntmps143
    go_wp2
    go_ret
    exact ⟨rfl, by first | exact Below.refl _ _ | exact up_alloc (Below.refl _ _) _⟩
  by_cases h2 : k = 2
  · rw [if_neg h0, if_neg h0, if_pos h2, if_pos h2]
    go_enter Try.func147, Try.ntmps147
    go_wp2
    go_ret
    exact ⟨rfl, by first | exact Below.refl _ _ | exact up_alloc (Below.refl _ _) _⟩
  rw [if_neg h0, if_neg h0, if_neg h2, if_neg h2]
  go_enter Try.func149, Try.ntmps149
  go_wp2
  go_ret
  exact ⟨rfl, by first | exact Below.refl _ _ | exact up_alloc (Below.refl _ _) _⟩

theorem validValue_any (n : Int) (w : World) :
    Calls Try.prog 104 #[.int .i64 n] w fun e w' => e = .returned (.bool (inR n (-9999) 9999)) ∧ w = w' := by
  unfold inR
  by_cases h : -9999 ≤ n
  · have h' : decide (-9999 ≤ n) = true := by simpa using h
    go_enter Try.func104, Try.ntmps104
    go_wp2
    go_ret
    simp [h]
  · have h' : decide (-9999 ≤ n) = false := by simpa using h
    go_enter Try.func104, Try.ntmps104
    go_wp2
    go_ret
    simp

theorem validVariable_any (n : Int) (w : World) :
    Calls Try.prog 125 #[.int .i64 n] w fun e w' => e = .returned (.bool (inR n 0 3)) ∧ w = w' := by
  have e : inR n 0 3 = (decide (0 ≤ n) && decide (n < 4)) := by unfold inR; congr 1; simp; omega
  rw [e]
  by_cases h : 0 ≤ n
  · have h' : decide (0 ≤ n) = true := by simpa using h
    go_enter Try.func125, Try.ntmps125
    go_wp2
    go_ret
    simp [h]
  · have h' : decide (0 ≤ n) = false := by simpa using h
    go_enter Try.func125, Try.ntmps125
    go_wp2
    go_ret
    simp

theorem operator_yes {k : Int} (h : inR k 2 8 = true) (w : World) :
    Calls Try.prog 126 #[.int .i64 k] w fun e w' => e = .returned (.tuple #[.iface (opT k) (.agg #[]), .bool true]) ∧ w = w' := by
  rcases kinds h with rfl | rfl | rfl | rfl | rfl | rfl | rfl
  all_goals
    clear h
    simp only [opT]
    go_enter Try.func126, Try.ntmps126
    go_wp2
    go_ret2
    exact ⟨by simp, rfl⟩

theorem operator_no {k : Int} (h : inR k 2 8 = false) (w : World) :
    Calls Try.prog 126 #[.int .i64 k] w fun e w' => e = .returned (.tuple #[.nilIface, .bool false]) ∧ w = w' := by
  have hk : ¬ (2 ≤ k ∧ k ≤ 8) := fun g => by rw [inR_iff.2 g] at h; cases h
  have g2 : (k == 2) = false := by simp; omega
  have g3 : (k == 3) = false := by simp; omega
  have g4 : (k == 4) = false := by simp; omega
  have g5 : (k == 5) = false := by simp; omega
  have g6 : (k == 6) = false := by simp; omega
  have g7 : (k == 7) = false := by simp; omega
  have g8 : (k == 8) = false := by simp; omega
  clear h hk
  go_enter Try.func126, Try.ntmps126
  go_wp2
  go_ret2
  exact ⟨rfl, rfl⟩
end Go.Proofs.Ythlcbdjjegageaa
