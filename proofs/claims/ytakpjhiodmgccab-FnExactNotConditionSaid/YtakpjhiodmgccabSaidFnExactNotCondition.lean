/- FnExactNotCondition returns true for every input, and leaves it as it was. No condition. -/
import Derived.Test.YtakpjhiodmgccabLift
import Derived.Test.YtakpjhiodmgccabLawExNot
namespace Go.Proofs.Ytakpjhiodmgccab
open Go.ChangeShapes Go.WideShapes Go.ChangeAt Go.RowKit Go.Deep

theorem partFields : ∃ fs f0 f1, Try.prog.underlying 92 = some (.struct fs) ∧ fs = #[f0, f1] ∧ Try.prog.underlying f0.type = some (.int .i64) ∧ Try.prog.underlying f1.type = some (.int .i64) ∧ oneCellFields Try.prog fs = true :=
  ⟨_, _, _, Try.underlying92, rfl, by kernel_rfl, by kernel_rfl, by kernel_rfl⟩

set_option maxRecDepth 100000 in
theorem fnExactNotCondition_lifted (os : Os) (started : os.Started) (H : Type) (enc : TypeId × Value → H) :
    ReturnsInHanded {} Try.checked os 10 .any (Rows.fnExactNotConditionSpec.pre6 enc Try.prog Try.f10 Rows.fnExactNotConditionRow.domain false) (Rows.fnExactNotConditionSpec.post enc Try.prog Try.f10 false true false false) := by
  refine returnsInHanded_of_change (C := Try.checked) Try.own started (by kernel_rfl) Try.func10
    (ChangeSpec.witness6 (enc := enc) (C := Try.checked) false ⟨#[], #[.slice none 0 0], []⟩ 8 (by kernel_rfl) (by kernel_rfl) (by kernel_rfl) (by kernel_rfl)) ?_
  intro W base args ds gs before hval0 hW hcnd _
  have hval : ∀ (j : Nat) t v, Try.f10.params[j]? = some t → args[j]? = some v → Value.okWide Try.prog W .any base t v := hval0
  have hW' := hW
  obtain ⟨p, q, hA0, hV, rfl, hfz, hnd⟩ := hW
  have hA : DataW.TrodAll enc Try.prog W 0 (fun _ => true) true Try.f10.params.toList args.toList ds p := hA0
  rw [Try.params10] at hA hval
  obtain ⟨v0, d0, rfl, rfl, h0⟩ := trodAll_one hA
  obtain ⟨fs, f0, f1, hu, hfs, hf0, hf1, hone⟩ := partFields
  obtain ⟨A, n, c, ps, rfl, hn, hr⟩ := open_pairs (ti := 0) Try.underlying47 hu hfs hf0 hf1 hone (by kernel_rfl) (hval 0 47 v0 rfl rfl) h0
  refine (exNot_any n c A ps W hn hr).mono fun e W' ⟨he, hb⟩ => ?_
  exact ⟨_, he, post_law (tb := 4) Try.laidOut rfl (by kernel_rfl) Try.underlying4 (by intro t ht; rw [Try.params10] at ht; simp at ht; subst ht; exact ⟨by kernel_rfl, of_decide_eq_true (by kernel_rfl)⟩) hW' rfl hb⟩

theorem fnExactNotCondition_holds : Rows.FnExactNotConditionSaid :=
  OpenClaim.holds_of_wide 10 Try.f10 rfl rfl rfl rfl rfl rfl rfl ⟨rfl, rfl, rfl, rfl, rfl⟩ rfl rfl rfl rfl rfl (by kernel_rfl) Try.func10 (by kernel_rfl)
    (of_decide_eq_true (by kernel_rfl)) (by unfold Func.isWrapper; first | (rw [if_pos (by decide +kernel)]; kernel_rfl) | (rw [if_neg (by decide +kernel)]; exact ⟨rfl, rfl⟩))
    (fun os started H enc _ => fnExactNotCondition_lifted os started H enc)
end Go.Proofs.Ytakpjhiodmgccab
