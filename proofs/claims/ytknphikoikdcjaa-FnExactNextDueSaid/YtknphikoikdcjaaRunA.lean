/- An instance that runs, in memory: what its cells lead to. -/
import Derived.Test.YtknphikoikdcjaaInstMath
import Derived.Test.YtknphikoikdcjaaTokFireA
import Derived.Test.YtknphikoikdcjaaTokReadyI
set_option linter.unusedSimpArgs false
set_option linter.unusedVariables false
namespace Go.Proofs.Ytknphikoikdcjaa
open Go.RowKit

/-- The process' nodes and flows, its two maps, the tokens' map. -/
structure NetM (w : World) (ns : List (Int × Int)) (fs : List Flw) (ms : List Int) (An : Option Addr) (nn : Nat) (Af : Option Addr) (lf bo bi mb m : Nat) : Prop where
  nodes : Rd w 0 w.heap.size 2 An nn (pvs ns)
  flows : Fls w 0 w.heap.size Af lf fs
  om : RowMap Try.prog 3 w 0 w.heap.size bo (fun z => flOf fs true z)
  im : RowMap Try.prog 3 w 0 w.heap.size bi (fun z => flOf fs false z)
  cm : IMap Try.prog 3 w mb m (markAt ms)
  mm : m ≤ 14
  vp : vProc ns fs = true
  vm : vMarks fs ms = true
section
variable {w w' : World} {ns : List (Int × Int)} {fs : List Flw} {ms : List Int} {An : Option Addr} {nn : Nat} {Af : Option Addr} {lf bo bi mb m : Nat}
theorem NetM.keep (h : NetM w ns fs ms An nn Af lf bo bi mb m) (hb : Below w.heap.size w w') : NetM w' ns fs ms An nn Af lf bo bi mb m :=
  ⟨(h.nodes.keep hb (Nat.le_refl _)).wide (Nat.le_refl _) hb.size, (h.flows.keep hb (Nat.le_refl _)).wide (Nat.le_refl _) hb.size, (h.om.keep hb (Nat.le_refl _)).wide (Nat.le_refl _) hb.size, (h.im.keep hb (Nat.le_refl _)).wide (Nat.le_refl _) hb.size, h.cm.keep hb h.cm.lt, h.mm, h.vp, h.vm⟩
theorem NetM.nl (h : NetM w ns fs ms An nn Af lf bo bi mb m) : ns.length = nn := h.nodes.len2
end
theorem vMarks_lenR {fs : List Flw} {ms : List Int} (h : vMarks fs ms = true) : ms.length = fs.length := by
  simp only [vMarks, Bool.and_eq_true, decide_eq_true_eq] at h
  exact h.1
theorem vMarks_03 {fs : List Flw} {ms : List Int} (h : vMarks fs ms = true) : ∀ z ∈ ms, 0 ≤ z ∧ z ≤ 3 := fun z hz => by
  simp only [vMarks, Bool.and_eq_true, decide_eq_true_eq, List.all_eq_true] at h
  have := inR_iff.1 (h.2 z hz)
  omega
/-- A row of a slice, wherever it lies. -/
theorem rd_up {w w' : World} {k n : Nat} {A : Option Addr} {zs : List Value} (h : Rd w 0 w.heap.size k A n zs) (hb : Below w.heap.size w w') : Rd w' 0 w'.heap.size k A n zs := (h.keep hb (Nat.le_refl _)).wide (Nat.le_refl _) hb.size
end Go.Proofs.Ytknphikoikdcjaa
