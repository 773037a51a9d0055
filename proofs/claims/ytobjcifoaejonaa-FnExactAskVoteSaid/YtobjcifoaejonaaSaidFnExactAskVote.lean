/- FnExactAskVote returns true for every input, and leaves it as it was. No condition. -/
import Derived.Test.YtobjcifoaejonaaLiftV
import Derived.Test.YtobjcifoaejonaaLawExAskVote
import Derived.Test.YtobjcifoaejonaaEnter
import Derived.Carry
set_option linter.unusedSimpArgs false
set_option linter.unusedVariables false
namespace Go.Proofs.Ytobjcifoaejonaa
open Go.ChangeShapes Go.WideShapes Go.ChangeAt Go.RowKit Go.Deep

theorem entryFields : ∃ fs f0 f1, Try.prog.underlying 67 = some (.struct fs) ∧ fs = #[f0, f1] ∧ Try.prog.underlying f0.type = some (.int .i64) ∧ Try.prog.underlying f1.type = some (.int .i64) ∧ oneCellFields Try.prog fs = true :=
  ⟨_, _, _, Try.underlying67, rfl, by kernel_rfl, by kernel_rfl, by kernel_rfl⟩

set_option maxRecDepth 100000 in
theorem fnExactAskVote_lifted (os : Os) (started : os.Started) (H : Type) (enc : TypeId × Value → H) :
    ReturnsInHanded {} Try.checked os 8 .any (Rows.fnExactAskVoteSpec.pre6 enc Try.prog Try.f8 Rows.fnExactAskVoteRow.domain false) (Rows.fnExactAskVoteSpec.post enc Try.prog Try.f8 false true false false) := by
  refine returnsInHanded_of_change (C := Try.checked) Try.own started (by kernel_rfl) Try.func8
    (ChangeSpec.witness6 (enc := enc) (C := Try.checked) false ⟨#[], #[.agg #[.int .i64 0, .int .i64 0, .slice none 0 0], .int .i64 0, .int .i64 0, .slice none 0 0], []⟩ 8 (by kernel_rfl) (by kernel_rfl) (by kernel_rfl) (by kernel_rfl)) ?_
  intro W base args ds gs before hval0 hW hcnd _
  have hval : ∀ (j : Nat) t v, Try.f8.params[j]? = some t → args[j]? = some v → Value.okWide Try.prog W .any base t v := hval0
  have hW' := hW
  obtain ⟨p, q, hA0, hV, rfl, hfz, hnd⟩ := hW
  have hA : DataW.TrodAll enc Try.prog W 0 (fun _ => true) true Try.f8.params.toList args.toList ds p := hA0
  rw [Try.params8] at hA hval
  obtain ⟨v0, v1, v2, v3, d0, d1, d2, d3, p0, p1, p2, p3, rfl, rfl, rfl, h0, h1, h2, h3⟩ := trodAll_four hA
  obtain ⟨x0, y0, A0, n0, c0, m0, rfl, hn0, hr0⟩ := open_voter (hval 0 41 v0 rfl rfl) h0
  obtain ⟨fuel1, hf1⟩ := h1
  obtain ⟨y1, hy1, _, hw1⟩ := DataW.trod_int Try.underlying3 hf1
  obtain ⟨z1, rfl⟩ := okWide_int Try.underlying3 (hval 1 3 v1 rfl rfl)
  simp [Value.cells] at hy1
  subst hy1
  have hz1 : in64 z1 := by simpa [in64, Lit.wf, IntKind.min, IntKind.max, IntKind.signed, IntKind.bits] using hw1
  obtain ⟨fuel2, hf2⟩ := h2
  obtain ⟨y2, hy2, _, hw2⟩ := DataW.trod_int Try.underlying3 hf2
  obtain ⟨z2, rfl⟩ := okWide_int Try.underlying3 (hval 2 3 v2 rfl rfl)
  simp [Value.cells] at hy2
  subst hy2
  have hz2 : in64 z2 := by simpa [in64, Lit.wf, IntKind.min, IntKind.max, IntKind.signed, IntKind.bits] using hw2
  obtain ⟨fs3, fa3, fb3, hu3, hfs3, hfa3, hfb3, hone3⟩ := entryFields
  obtain ⟨A3, n3, c3, m3, rfl, hn3, hr3⟩ := open_pairs Try.underlying22 hu3 hfs3 hfa3 hfb3 hone3 (by kernel_rfl) (hval 3 22 v3 rfl rfl) h3
  refine (exAskVote_any x0 y0 n0 c0 A0 m0 z1 z2 n3 c3 A3 m3 W hn0 hr0 hz1 hz2 hn3 hr3).mono fun e W' ⟨he, hb⟩ => ?_
  exact ⟨_, he, post_law (tb := 4) Try.laidOut rfl (by kernel_rfl) Try.underlying4 (by intro t ht; rw [Try.params8] at ht; simp at ht; rcases ht with rfl | rfl | rfl | rfl <;> exact ⟨by kernel_rfl, of_decide_eq_true (by kernel_rfl)⟩) hW' rfl hb⟩

theorem fnExactAskVote_holds : Rows.FnExactAskVoteSaid :=
  OpenClaim.holds_of_wide 8 Try.f8 rfl rfl rfl rfl rfl rfl rfl ⟨rfl, rfl, rfl, rfl, rfl⟩ rfl rfl rfl rfl rfl (by kernel_rfl) Try.func8 (by unfold joinedFacts; rw [enter_ok, lifts_ok, make_ok]; kernel_rfl)
    (of_decide_eq_true (by kernel_rfl)) (by unfold Func.isWrapper; first | (rw [if_pos (by decide +kernel)]; kernel_rfl) | (rw [if_neg (by decide +kernel)]; exact ⟨rfl, rfl⟩))
    (fun os started H enc _ => fnExactAskVote_lifted os started H enc)
end Go.Proofs.Ytobjcifoaejonaa
