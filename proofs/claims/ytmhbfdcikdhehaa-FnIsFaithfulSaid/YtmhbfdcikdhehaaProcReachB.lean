/- Merged: ProcReachS, ProcReachT, ProcCircT. -/
import Derived.Test.YtmhbfdcikdhehaaProcOutS
import Derived.Test.YtmhbfdcikdhehaaStartA
import Derived.Test.YtmhbfdcikdhehaaProcReachA
import Derived.Laws.OwnMore
import Derived.Deep.RegionHeld3
import Derived.Maps.AppendAt
import Derived.Deep.RegionLaw
/- spec.reach: which nodes flows lead to. -/
set_option linter.unusedSimpArgs false
set_option linter.unusedVariables false
namespace Go.Proofs.Ytmhbfdcikdhehaa
open Go.RowKit

theorem infoBool : (Try.prog.info? 4).map (fun i => (i.zero, i.size, i.bytes)) = some (some (.bool false), 1, 1) := by kernel_rfl
def bls (s : List Bool) : List Value := s.map Value.bool
theorem bls_length (s : List Bool) : (bls s).length = s.length := by simp [bls]
theorem bls_set (s : List Bool) (i : Nat) (b : Bool) : (bls s).set i (.bool b) = bls (s.set i b) := by simp [bls, List.map_set]
theorem bls_get {s : List Bool} {i : Nat} {b : Bool} (h : s[i]? = some b) : (bls s)[i]? = some (.bool b) := by simp [bls, h]
/-- A list of what is reachable from a, in memory of its own. -/
def Reached (fs : List Flw) (a : Int) (nn : Nat) (w : World) (e : Ending) (w' : World) : Prop :=
  ∃ s : List Bool, s.length = nn ∧ (∀ i : Nat, i < nn → s[i]? = some (rchB fs a (i : Int))) ∧ Fresh (bls s) 1 nn w e w'

end Go.Proofs.Ytmhbfdcikdhehaa


/- spec.Reachable. -/
namespace Go.Proofs.Ytmhbfdcikdhehaa
open Go.RowKit

end Go.Proofs.Ytmhbfdcikdhehaa


/- spec.HasCircle. -/
namespace Go.Proofs.Ytmhbfdcikdhehaa
open Go.RowKit

theorem backUp_yes {fs : List Flw} {k : Nat} {f : Flw} (hg : fs[k]? = some f) (hr : rchB fs f.2.1 f.1 = true) : backUp fs fs.length = true := by
  unfold backUp
  rw [List.take_length]
  exact List.any_eq_true.2 ⟨f, List.mem_of_getElem? hg, hr⟩
theorem backUp_no {fs : List Flw} {k : Nat} {f : Flw} (hg : fs[k]? = some f) (h : backUp fs k = false) (hr : rchB fs f.2.1 f.1 = false) : backUp fs (k + 1) = false := by
  unfold backUp at h ⊢
  rw [take_snoc hg, List.any_append, h]
  simp [hr]

end Go.Proofs.Ytmhbfdcikdhehaa

