/- FnExactIsFaithful returns true for every input, and leaves it as it was. No condition. -/
import Derived.Test.YtmhbfdcikdhehaaLiftP
import Derived.Test.YtmhbfdcikdhehaaLawExIsFaithful
import Derived.Test.YtmhbfdcikdhehaaEnter
set_option linter.unusedSimpArgs false
set_option linter.unusedVariables false
namespace Go.Proofs.Ytmhbfdcikdhehaa
open Go.ChangeShapes Go.WideShapes Go.ChangeAt Go.RowKit Go.Deep

set_option maxRecDepth 100000 in
theorem fnExactIsFaithful_lifted (os : Os) (started : os.Started) (H : Type) (enc : TypeId × Value → H) :
    ReturnsInHanded {} Try.checked os 8 .any (Rows.fnExactIsFaithfulSpec.pre6 enc Try.prog Try.f8 Rows.fnExactIsFaithfulRow.domain false) (Rows.fnExactIsFaithfulSpec.post enc Try.prog Try.f8 false true false false) := by
  refine returnsInHanded_of_change (C := Try.checked) Try.own started (by kernel_rfl) Try.func8
    (ChangeSpec.witness6 (enc := enc) (C := Try.checked) false ⟨#[], #[.agg #[.slice none 0 0, .slice none 0 0], .agg #[.slice none 0 0, .slice none 0 0], .slice none 0 0], []⟩ 8 (by kernel_rfl) (by kernel_rfl) (by kernel_rfl) (by kernel_rfl)) ?_
  intro W base args ds gs before hval0 hW hcnd _
  have hval : ∀ (j : Nat) t v, Try.f8.params[j]? = some t → args[j]? = some v → Value.okWide Try.prog W .any base t v := hval0
  have hW' := hW
  obtain ⟨p, q, hA0, hV, rfl, hfz, hnd⟩ := hW
  have hA : DataW.TrodAll enc Try.prog W 0 (fun _ => true) true Try.f8.params.toList args.toList ds p := hA0
  rw [Try.params8] at hA hval
  obtain ⟨v0, v1, v2, d0, d1, d2, p0, p1, p2, rfl, rfl, rfl, h0, h1, h2⟩ := trodAll_three hA
  obtain ⟨An0, nn0, cn0, A0, n0, c0, ns0, fs0, rfl, hnn0, hn0, hrn0, hr0⟩ := open_process (hval 0 51 v0 rfl rfl) h0
  obtain ⟨An1, nn1, cn1, A1, n1, c1, ns1, fs1, rfl, hnn1, hn1, hrn1, hr1⟩ := open_process (hval 1 51 v1 rfl rfl) h1
  obtain ⟨A2, n2, c2, m2, rfl, hn2, hr2⟩ := open_intS Try.underlying27 Try.underlying3 (by kernel_rfl) (hval 2 27 v2 rfl rfl) h2
  refine (exIsFaithful_any nn0 cn0 n0 c0 An0 A0 ns0 fs0 W hnn0 hn0 hrn0 hr0 nn1 cn1 n1 c1 An1 A1 ns1 fs1 hnn1 hn1 hrn1 hr1 n2 c2 A2 m2 hn2 hr2).mono fun e W' ⟨he, hb⟩ => ?_
  exact ⟨_, he, post_law (tb := 4) Try.laidOut rfl (by kernel_rfl) Try.underlying4 (by intro t ht; rw [Try.params8] at ht; simp at ht; rcases ht with rfl | rfl | rfl <;> exact ⟨by kernel_rfl, of_decide_eq_true (by kernel_rfl)⟩) hW' rfl hb⟩

theorem fnExactIsFaithful_holds : Rows.FnExactIsFaithfulSaid :=
  OpenClaim.holds_of_wide 8 Try.f8 rfl rfl rfl rfl rfl rfl rfl ⟨rfl, rfl, rfl, rfl, rfl⟩ rfl rfl rfl rfl rfl (by kernel_rfl) Try.func8 (by unfold joinedFacts; rw [enter_ok, lifts_ok, make_ok]; kernel_rfl)
    (of_decide_eq_true (by kernel_rfl)) (by unfold Func.isWrapper; first | (rw [if_pos (by decide +kernel)]; kernel_rfl) | (rw [if_neg (by decide +kernel)]; exact ⟨rfl, rfl⟩))
    (fun os started H enc _ => fnExactIsFaithful_lifted os started H enc)
end Go.Proofs.Ytmhbfdcikdhehaa
