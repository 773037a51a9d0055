/- FnExactWaitLetter returns true for every input, and leaves it as it was. No condition. -/
import Derived.Test.YtlfflppjlmpklaaLiftO
import Derived.Test.YtlfflppjlmpklaaLawExWaitLetter
import Derived.Test.YtlfflppjlmpklaaEnter
set_option linter.unusedSimpArgs false
set_option linter.unusedVariables false
namespace Go.Proofs.Ytlfflppjlmpklaa
open Go.ChangeShapes Go.WideShapes Go.ChangeAt Go.RowKit Go.Deep

set_option maxRecDepth 100000 in
theorem fnExactWaitLetter_lifted (os : Os) (started : os.Started) (H : Type) (enc : TypeId × Value → H) :
    ReturnsInHanded {} Try.checked os 13 .any (Rows.fnExactWaitLetterSpec.pre6 enc Try.prog Try.f13 Rows.fnExactWaitLetterRow.domain false) (Rows.fnExactWaitLetterSpec.post enc Try.prog Try.f13 false true false false) := by
  refine returnsInHanded_of_change (C := Try.checked) Try.own started (by kernel_rfl) Try.func13
    (ChangeSpec.witness6 (enc := enc) (C := Try.checked) false ⟨#[], #[.agg #[.slice none 0 0, .slice none 0 0], .agg #[.int .i64 0, .int .i64 0, .int .i64 0]], []⟩ 8 (by kernel_rfl) (by kernel_rfl) (by kernel_rfl) (by kernel_rfl)) ?_
  intro W base args ds gs before hval0 hW hcnd _
  have hval : ∀ (j : Nat) t v, Try.f13.params[j]? = some t → args[j]? = some v → Value.okWide Try.prog W .any base t v := hval0
  have hW' := hW
  obtain ⟨p, q, hA0, hV, rfl, hfz, hnd⟩ := hW
  have hA : DataW.TrodAll enc Try.prog W 0 (fun _ => true) true Try.f13.params.toList args.toList ds p := hA0
  rw [Try.params13] at hA hval
  obtain ⟨v0, v1, d0, d1, p0, p1, rfl, rfl, rfl, h0, h1⟩ := trodAll_two hA
  obtain ⟨An, nn, cn, A, n, c, ns, fs, rfl, hnn, hn, hrn, hr⟩ := open_post (hval 0 51 v0 rfl rfl) h0
  obtain ⟨x0, x1, x2, rfl⟩ := open_trip_arg subFields (by kernel_rfl) (hval 1 58 v1 rfl rfl) h1
  refine (exWaitLetter_any nn cn n c An A ns fs W hnn hn hrn hr  x0 x1 x2).mono fun e W' ⟨he, hb⟩ => ?_
  exact ⟨_, he, post_law (tb := 4) Try.laidOut rfl (by kernel_rfl) Try.underlying4 (by intro t ht; rw [Try.params13] at ht; simp at ht; rcases ht with rfl | rfl <;> exact ⟨by kernel_rfl, of_decide_eq_true (by kernel_rfl)⟩) hW' rfl hb⟩

theorem fnExactWaitLetter_holds : Rows.FnExactWaitLetterSaid :=
  OpenClaim.holds_of_wide 13 Try.f13 rfl rfl rfl rfl rfl rfl rfl ⟨rfl, rfl, rfl, rfl, rfl⟩ rfl rfl rfl rfl rfl (by kernel_rfl) Try.func13 (by unfold joinedFacts; rw [enter_ok, lifts_ok, make_ok]; kernel_rfl)
    (of_decide_eq_true (by kernel_rfl)) (by unfold Func.isWrapper; first | (rw [if_pos (by decide +kernel)]; kernel_rfl) | (rw [if_neg (by decide +kernel)]; exact ⟨rfl, rfl⟩))
    (fun os started H enc _ => fnExactWaitLetter_lifted os started H enc)
end Go.Proofs.Ytlfflppjlmpklaa
