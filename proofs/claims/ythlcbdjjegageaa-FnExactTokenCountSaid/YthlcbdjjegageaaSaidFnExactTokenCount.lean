/- FnExactTokenCount returns true for every input, and leaves it as it was. No condition. -/
import Derived.Test.YthlcbdjjegageaaLiftP
import Derived.Test.YthlcbdjjegageaaLawExTokenCount
namespace Go.Proofs.Ythlcbdjjegageaa
open Go.ChangeShapes Go.WideShapes Go.ChangeAt Go.RowKit Go.Deep

set_option maxRecDepth 100000 in
theorem fnExactTokenCount_lifted (os : Os) (started : os.Started) (H : Type) (enc : TypeId × Value → H) :
    ReturnsInHanded {} Try.checked os 14 .any (Rows.fnExactTokenCountSpec.pre6 enc Try.prog Try.f14 Rows.fnExactTokenCountRow.domain false) (Rows.fnExactTokenCountSpec.post enc Try.prog Try.f14 false true false false) := by
  refine returnsInHanded_of_change (C := Try.checked) Try.own started (by kernel_rfl) Try.func14
    (ChangeSpec.witness6 (enc := enc) (C := Try.checked) false ⟨#[], #[.agg #[.slice none 0 0, .slice none 0 0], .slice none 0 0], []⟩ 8 (by kernel_rfl) (by kernel_rfl) (by kernel_rfl) (by kernel_rfl)) ?_
  intro W base args ds gs before hval0 hW hcnd _
  have hval : ∀ (j : Nat) t v, Try.f14.params[j]? = some t → args[j]? = some v → Value.okWide Try.prog W .any base t v := hval0
  have hW' := hW
  obtain ⟨p, q, hA0, hV, rfl, hfz, hnd⟩ := hW
  have hA : DataW.TrodAll enc Try.prog W 0 (fun _ => true) true Try.f14.params.toList args.toList ds p := hA0
  rw [Try.params14] at hA hval
  obtain ⟨v0, v1, d0, d1, p0, p1, rfl, rfl, rfl, h0, h1⟩ := trodAll_two hA
  obtain ⟨An, nn, cn, A, n, c, ns, fs, rfl, hnn, hn, hrn, hr⟩ := open_process (hval 0 46 v0 rfl rfl) h0
  obtain ⟨A', n', c', ys, rfl, hn', hr'⟩ := open_intS Try.underlying29 Try.underlying3 (by kernel_rfl) (hval 1 29 v1 rfl rfl) h1
  refine (exTokenCount_any nn cn n c An A ns fs W hnn hn hrn hr n' c' A' ys hn' hr').mono fun e W' ⟨he, hb⟩ => ?_
  exact ⟨_, he, post_law (tb := 4) Try.laidOut rfl (by kernel_rfl) Try.underlying4 (by intro t ht; rw [Try.params14] at ht; simp at ht; rcases ht with rfl | rfl <;> exact ⟨by kernel_rfl, of_decide_eq_true (by kernel_rfl)⟩) hW' rfl hb⟩

theorem fnExactTokenCount_holds : Rows.FnExactTokenCountSaid :=
  OpenClaim.holds_of_wide 14 Try.f14 rfl rfl rfl rfl rfl rfl rfl ⟨rfl, rfl, rfl, rfl, rfl⟩ rfl rfl rfl rfl rfl (by kernel_rfl) Try.func14 (by kernel_rfl)
    (of_decide_eq_true (by kernel_rfl)) (by unfold Func.isWrapper; first | (rw [if_pos (by decide +kernel)]; kernel_rfl) | (rw [if_neg (by decide +kernel)]; exact ⟨rfl, rfl⟩))
    (fun os started H enc _ => fnExactTokenCount_lifted os started H enc)
end Go.Proofs.Ythlcbdjjegageaa
