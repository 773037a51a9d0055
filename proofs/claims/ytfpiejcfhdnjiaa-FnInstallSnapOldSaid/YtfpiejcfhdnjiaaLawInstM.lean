/- What the laws on installed snapshots ask: plain mathematics. -/
import Derived.Test.YtfpiejcfhdnjiaaLawSnapM
set_option linter.unusedSimpArgs false
set_option linter.unusedVariables false
namespace Go.Proofs.Ytfpiejcfhdnjiaa
open Go.RowKit

theorem inst_old {N T S : Int} {R : List En} {N' T' S' : Int} {R' : List En} (h : vSnap N T S R = true) (h' : vSnap N' T' S' R' = true) (hle : N' ≤ N) : instOf N T S R N' T' S' R' = (N, T, S, R) := by
  unfold instOf
  rw [h, h']
  simp [hle]
theorem inst_new {N T S : Int} {R : List En} {N' T' S' : Int} {R' : List En} (h : vSnap N T S R = true) (h' : vSnap N' T' S' R' = true) (hlt : N < N') : instOf N T S R N' T' S' R' = (N', T', S', restB N R N' T') := by
  unfold instOf
  rw [h, h']
  simp [show ¬ N' ≤ N by omega]
theorem inst_bad {N T S : Int} {R : List En} {N' T' S' : Int} {R' : List En} (h : (vSnap N T S R && vSnap N' T' S' R') = false) : instOf N T S R N' T' S' R' = (0, 0, 0, []) := by
  unfold instOf
  rw [h]; rfl
theorem restB_valid {N T S : Int} {R : List En} {N' T' S' : Int} {R' : List En} (h : vSnap N T S R = true) (h' : vSnap N' T' S' R' = true) (hlt : N < N') : vSnap N' T' S' (restB N R N' T') = true := by
  obtain ⟨_, _, _, h4, h5⟩ := vSnap_iff.1 h
  obtain ⟨g1, g2, g3, _, _⟩ := vSnap_iff.1 h'
  rw [vSnap_iff]
  refine ⟨g1, g2, g3, ?_⟩
  unfold restB
  split
  · rename_i hh
    refine ⟨vLog_sub (List.drop_sublist _ _) h4, ?_⟩
    have := headOk_drop h4 h5 (N' - N).toNat
    rw [if_neg (by omega), hh.2] at this
    exact this
  · exact ⟨by simpa using vLog_take h4 0, rfl⟩
/-- What installing comes to, with its parts named. -/
theorem inst_facts {N T S : Int} {R : List En} {N' T' S' : Int} {R' : List En} {N3 T3 S3 : Int} {R3 : List En} (h : vSnap N T S R = true) (h' : vSnap N' T' S' R' = true) (hu : instOf N T S R N' T' S' R' = (N3, T3, S3, R3)) :
    N3 = (if N' ≤ N then N else N') ∧ vSnap N3 T3 S3 R3 = true ∧ instOf N3 T3 S3 R3 N' T' S' R' = (N3, T3, S3, R3) := by
  by_cases hle : N' ≤ N
  · rw [inst_old h h' hle] at hu
    injection hu with e1 hu
    injection hu with e2 hu
    injection hu with e3 e4
    subst e1; subst e2; subst e3; subst e4
    exact ⟨by rw [if_pos hle], h, inst_old h h' hle⟩
  · rw [inst_new h h' (by omega)] at hu
    injection hu with e1 hu
    injection hu with e2 hu
    injection hu with e3 e4
    subst e1; subst e2; subst e3; subst e4
    have hv := restB_valid h h' (show N < N' by omega)
    exact ⟨by rw [if_neg hle], hv, inst_old hv h' (Int.le_refl _)⟩
end Go.Proofs.Ytfpiejcfhdnjiaa
