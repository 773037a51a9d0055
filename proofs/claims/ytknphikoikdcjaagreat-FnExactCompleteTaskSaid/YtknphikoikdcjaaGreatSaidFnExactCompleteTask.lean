/- FnExactCompleteTask returns true for every input, and leaves it as it was. No condition. -/
import Derived.Test.YtknphikoikdcjaaGreatLiftX
import Derived.Test.YtknphikoikdcjaaGreatLawExCompleteTask
import Derived.Test.YtknphikoikdcjaaGreatEnter
import Derived.Carry
set_option linter.unusedSimpArgs false
set_option linter.unusedVariables false
namespace Go.Proofs.YtknphikoikdcjaaGreat
open Go.ChangeShapes Go.WideShapes Go.ChangeAt Go.RowKit Go.Deep

theorem entryFields : ∃ fs f0 f1, Tryz.prog.underlying 147 = some (.struct fs) ∧ fs = #[f0, f1] ∧ Tryz.prog.underlying f0.type = some (.int .i64) ∧ Tryz.prog.underlying f1.type = some (.int .i64) ∧ oneCellFields Tryz.prog fs = true :=
  ⟨_, _, _, Tryz.underlying147, rfl, by kernel_rfl, by kernel_rfl, by kernel_rfl⟩

set_option maxRecDepth 100000 in
theorem fnExactCompleteTask_lifted (os : Os) (started : os.Started) (H : Type) (enc : TypeId × Value → H) :
    ReturnsInHanded {} Tryz.checked os 6 .any (Rows.fnExactCompleteTaskSpec.pre6 enc Tryz.prog Tryz.f6 Rows.fnExactCompleteTaskRow.domain false) (Rows.fnExactCompleteTaskSpec.post enc Tryz.prog Tryz.f6 false true false false) := by
  refine returnsInHanded_of_change (C := Tryz.checked) Tryz.own started (by kernel_rfl) Tryz.func6
    (ChangeSpec.witness6 (enc := enc) (C := Tryz.checked) false ⟨#[], #[.agg #[.slice none 0 0, .slice none 0 0], .agg #[.slice none 0 0, .slice none 0 0, .int .i64 0, .slice none 0 0], .int .i64 0, .slice none 0 0], []⟩ 8 (by kernel_rfl) (by kernel_rfl) (by kernel_rfl) (by kernel_rfl)) ?_
  intro W base args ds gs before hval0 hW hcnd _
  have hval : ∀ (j : Nat) t v, Tryz.f6.params[j]? = some t → args[j]? = some v → Value.okWide Tryz.prog W .any base t v := hval0
  have hW' := hW
  obtain ⟨p, q, hA0, hV, rfl, hfz, hnd⟩ := hW
  have hA : DataW.TrodAll enc Tryz.prog W 0 (fun _ => true) true Tryz.f6.params.toList args.toList ds p := hA0
  rw [Tryz.params6] at hA hval
  obtain ⟨v0, v1, v2, v3, d0, d1, d2, d3, p0, p1, p2, p3, rfl, rfl, rfl, h0, h1, h2, h3⟩ := trodAll_four hA
  obtain ⟨An, nn, cn, A, n, c, ns, fs, rfl, hnn, hn, hrn, hr⟩ := open_process (hval 0 25 v0 rfl rfl) h0
  obtain ⟨nm1, cm1, nv1, cv1, nt1, ct1, Am1, Av1, At1, cl1, ms1, vs1, ts1, rfl, hnm1, hnv1, hnt1, hrm1, hrv1, hrt1⟩ := open_instance (hval 1 29 v1 rfl rfl) h1
  obtain ⟨fuel2, hf2⟩ := h2
  obtain ⟨y2, hy2, _, hw2⟩ := DataW.trod_int Tryz.underlying3 hf2
  obtain ⟨z2, rfl⟩ := okWide_int Tryz.underlying3 (hval 2 3 v2 rfl rfl)
  simp [Value.cells] at hy2
  subst hy2
  have hz2 : in64 z2 := by simpa [in64, Lit.wf, IntKind.min, IntKind.max, IntKind.signed, IntKind.bits] using hw2
  obtain ⟨fs3, fa3, fb3, hu3, hfs3, hfa3, hfb3, hone3⟩ := entryFields
  obtain ⟨A3, n3, c3, m3, rfl, hn3, hr3⟩ := open_pairs Tryz.underlying55 hu3 hfs3 hfa3 hfb3 hone3 (by kernel_rfl) (hval 3 55 v3 rfl rfl) h3
  refine (exCompleteTask_any nn cn n c An A ns fs W hnn hn hrn hr nm1 cm1 nv1 cv1 nt1 ct1 Am1 Av1 At1 cl1 ms1 vs1 ts1 hnm1 hnv1 hnt1 hrm1 hrv1 hrt1 z2 hz2 n3 c3 A3 m3 hn3 hr3).mono fun e W' ⟨he, hb⟩ => ?_
  exact ⟨_, he, post_law (tb := 4) Tryz.laidOut rfl (by kernel_rfl) Tryz.underlying4 (by intro t ht; rw [Tryz.params6] at ht; simp at ht; rcases ht with rfl | rfl | rfl | rfl <;> exact ⟨by kernel_rfl, of_decide_eq_true (by kernel_rfl)⟩) hW' rfl hb⟩

theorem fnExactCompleteTask_holds : Rows.FnExactCompleteTaskSaid :=
  OpenClaim.holds_of_wide 6 Tryz.f6 rfl rfl rfl rfl rfl rfl rfl ⟨rfl, rfl, rfl, rfl, rfl⟩ rfl rfl rfl rfl rfl (by kernel_rfl) Tryz.func6 (by unfold joinedFacts; rw [enter_ok, lifts_ok, make_ok]; kernel_rfl)
    (of_decide_eq_true (by kernel_rfl)) (by unfold Func.isWrapper; first | (rw [if_pos (by decide +kernel)]; kernel_rfl) | (rw [if_neg (by decide +kernel)]; exact ⟨rfl, rfl⟩))
    (fun os started H enc _ => fnExactCompleteTask_lifted os started H enc)
end Go.Proofs.YtknphikoikdcjaaGreat
