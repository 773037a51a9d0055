/- What the laws on DropLetters ask. -/
import Derived.Test.YtgnffodnimafoaaDropI
import Derived.Test.YtgnffodnimafoaaDropS
import Derived.Test.YtgnffodnimafoaaSendMath
set_option linter.unusedSimpArgs false
set_option linter.unusedVariables false
namespace Go.Proofs.Ytgnffodnimafoaa
open Go.RowKit

section
variable {P : Program} {F : FuncId} {args : Array Value} {w wx : World} {ns fs d1 d2 : List Tri} {z : Int} {m1 m2 : Nat}
/-- A post office in rows that are known, somewhere behind w. -/
def KnownD (d1 d2 : List Tri) (m1 m2 : Nat) (w : World) (e : Ending) (w' : World) : Prop :=
  ∃ A1 c1 A2 c2, e = .returned (.agg #[.slice A1 m1 c1, .slice A2 m2 c2]) ∧ Rd w' 0 w'.heap.size 3 A1 m1 (tvs d1) ∧ Rd w' 0 w'.heap.size 3 A2 m2 (tvs d2) ∧ Below w.heap.size w w'
theorem dropS_at (hb : Below w.heap.size w wx) (h : Calls P F args wx (DropPost ns fs z wx)) (hd : dropOf ns fs z = (d1, d2)) (hl1 : d1.length = m1) (hl2 : d2.length = m2) : Calls P F args wx (KnownD d1 d2 m1 m2 w) := by
  refine h.mono ?_
  rintro e w' ⟨A1, n1, c1, A2, n2, c2, rfl, h1, h2, hb2⟩
  rw [hd] at h1 h2
  dsimp only at h1 h2
  have e1 : n1 = m1 := by rw [← hl1, h1.len3]
  have e2 : n2 = m2 := by rw [← hl2, h2.len3]
  subst e1; subst e2
  exact ⟨A1, c1, A2, c2, rfl, h1.wide (Nat.zero_le _) (Nat.le_refl _), h2.wide (Nat.zero_le _) (Nat.le_refl _), up hb hb2⟩
end
theorem dropI_at {w wx : World} {d1 d2 : List Tri} {m1 m2 : Nat} (hb : Below w.heap.size w wx) (lo hi nn cn : Nat) (An : Option Addr) (ns : List Tri) (lo' hi' n c : Nat) (A : Option Addr) (fs : List Tri) (z : Int) (hrn : Rd wx lo hi 3 An nn (tvs ns)) (hB : hi ≤ wx.heap.size) (hnn : nn ≤ 1048576)
    (hr : Rd wx lo' hi' 3 A n (tvs fs)) (hB' : hi' ≤ wx.heap.size) (hn : n ≤ 1048576) (hd : dropOf ns fs z = (d1, d2)) (hl1 : d1.length = m1) (hl2 : d2.length = m2) :
    Calls Try.prog 13 #[.agg #[.slice An nn cn, .slice A n c], .int .i64 z] wx (KnownD d1 d2 m1 m2 w) := by
  refine dropS_at hb ((DropLettersI_any lo hi nn cn An ns lo' hi' n c A fs z wx hrn hB hnn hr hB' hn).mono ?_) hd hl1 hl2
  rintro e w' ⟨A1, n1, c1, A2, n2, c2, rfl, hcr, hb2⟩
  exact ⟨A1, n1, c1, A2, n2, c2, rfl, Rd.of_own hcr.1, Rd.of_own hcr.2.1, hb2⟩
theorem fieldPost1 (A B : Option Addr) (n c m k : Nat) (w : World) : (Instr.field 26 (.agg #[.slice A n c, .slice B m k]) 1).run Try.prog w = .ok (.slice B m k) w := by kernel_rfl
theorem drop_lens (ns fs : List Tri) (z : Int) : (dropOf ns fs z).1.length ≤ ns.length ∧ (dropOf ns fs z).2.length ≤ fs.length := by
  unfold dropOf
  cases vPost ns fs
  · exact ⟨Nat.zero_le _, Nat.zero_le _⟩
  · exact ⟨Nat.le_refl _, kept_le _ _⟩
theorem drop_yes {ns fs : List Tri} (h : vPost ns fs = true) (z : Int) : dropOf ns fs z = (ns, keptOf fs z) := by unfold dropOf; rw [h]; rfl
theorem drop_zero {ns fs : List Tri} (h : vPost ns fs = true) : dropOf ns fs 0 = (ns, fs) := by
  rw [drop_yes h]
  have := (vPost_and.1 h).2.2.2.1
  have e : keptOf fs 0 = fs := List.filter_eq_self.2 fun t ht => by
    have := this t ht
    simp only [vLet, inR, Bool.and_eq_true, decide_eq_true_eq] at this
    exact decide_eq_true (by omega)
  rw [e]
theorem kept_more {fs : List Tri} {a b : Int} (h : a ≤ b) : (keptOf fs b).length ≤ (keptOf fs a).length := by
  induction fs with
  | nil => exact Nat.le_refl _
  | cons t fs ih =>
    unfold keptOf at ih ⊢
    rw [List.filter_cons, List.filter_cons]
    by_cases h2 : b ≤ t.2.2
    · have h1 : a ≤ t.2.2 := by omega
      simp only [h1, h2, decide_true, if_true, List.length_cons]; omega
    · by_cases h1 : a ≤ t.2.2
      · simp only [h1, h2, decide_true, decide_false, if_true, Bool.false_eq_true, if_false, List.length_cons]; omega
      · simp only [h1, h2, decide_false, Bool.false_eq_true, if_false]; exact ih
theorem drop_more {ns fs d1 d2 e1 e2 : List Tri} {z : Int} (h : vPost ns fs = true) (hd : dropOf ns fs z = (d1, d2)) (he : dropOf ns fs (z + 20) = (e1, e2)) : e2.length ≤ d2.length := by
  rw [drop_yes h] at hd he
  injection hd with _ h2; injection he with _ h4
  rw [← h2, ← h4]
  exact kept_more (by omega)
end Go.Proofs.Ytgnffodnimafoaa
