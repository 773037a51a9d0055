/- What the laws on clients come to. Plain mathematics; no program. -/
import Derived.Test.YtipoakimjhfhfabLawWorkM
import Derived.Test.YtipoakimjhfhfabDelRun
set_option linter.unusedSimpArgs false
set_option linter.unusedVariables false
namespace Go.Proofs.Ytipoakimjhfhfab
open Go.RowKit

theorem cls_iff {ps : List Qd} : vCls ps = true ↔ (∀ p ∈ ps, okCl p = true) ∧ Asc Prod.fst ps := good_iff
theorem cls_filter {ps : List Qd} (h : vCls ps = true) (q : Qd → Bool) : vCls (ps.filter q) = true := by
  rw [cls_iff] at *
  exact ⟨fun p hp => h.1 p (List.mem_filter.1 hp).1, h.2.filter q⟩
theorem cls_cut {ps : List Qd} (h : vCls ps = true) (k : Nat) : vCls (ps.take k ++ ps.drop (k + 1)) = true := by
  have hs : List.Sublist (ps.take k ++ ps.drop (k + 1)) ps := by
    have e : ps.take k ++ ps.drop k = ps := List.take_append_drop k ps
    conv => rhs; rw [← e]
    refine List.Sublist.append_left ?_ _
    rw [← List.drop_drop]
    exact List.drop_sublist 1 _
  rw [cls_iff] at *
  exact ⟨fun p hp => h.1 p (hs.subset hp), List.Pairwise.sublist hs h.2⟩
theorem last_at {ps : List Qd} (hv : vCls ps = true) {q : Qd} (hq : q ∈ ps) : lastOf ps q.1 = q.2.1 ∧ repOf ps q.1 = q.2.2.1 := by
  unfold lastOf repOf
  rw [atNum_mem (vCls_asc hv) hq]
  exact ⟨rfl, rfl⟩
theorem check_at {ps : List Qd} (hv : vCls ps = true) {z call : Int} (hz : 0 ≤ z ∧ z ≤ 9) (hc : 1 ≤ call ∧ call ≤ 999) : checkOf ps z call = sortOf ps z call := by
  simp [checkOf, hv, inR_iff.2 hz, inR_iff.2 hc]
theorem check_new {ps : List Qd} (hv : vCls ps = true) {z call : Int} (hz : 0 ≤ z ∧ z ≤ 9) (hc : 1 ≤ call ∧ call ≤ 999) (h : lastOf ps z + 1 = call) : checkOf ps z call = 1 := by
  rw [check_at hv hz hc, sortOf, if_pos h.symm]
theorem check_again {ps : List Qd} (hv : vCls ps = true) {z call : Int} (hz : 0 ≤ z ∧ z ≤ 9) (hc : 1 ≤ call ∧ call ≤ 999) (h : lastOf ps z = call) : checkOf ps z call = 2 := by
  rw [check_at hv hz hc, sortOf, if_neg (by omega), if_pos h.symm]
theorem check_old {ps : List Qd} (hv : vCls ps = true) {z call : Int} (hz : 0 ≤ z ∧ z ≤ 9) (hc : 1 ≤ call ∧ call ≤ 999) (h : call < lastOf ps z) : checkOf ps z call = 3 := by
  rw [check_at hv hz hc, sortOf, if_neg (by omega), if_neg (by omega), if_pos h]
/-- A call was recorded. -/
theorem record_facts {ps l : List Qd} {z call re no : Int} (h : recordOf ps z call re no = some l) : vCls ps = true ∧ vCls l = true ∧ l = insNum Prod.fst ps (z, call, re, no) ∧ (0 ≤ z ∧ z ≤ 9) ∧ (1 ≤ call ∧ call ≤ 999) := by
  unfold recordOf at h
  split at h
  · rename_i hc
    rw [Bool.and_eq_true, beq_iff_eq] at hc
    obtain ⟨hv, hz, hk, _⟩ := checkOf_v (ps := ps) (z := z) (call := call) (by rw [hc.1]; omega)
    injection h with h
    subst h
    refine ⟨hv, ?_, rfl, hz, hk⟩
    rw [cls_iff] at *
    refine ⟨fun p hp => ?_, hv.2.ins _⟩
    rcases mem_insNum.1 hp with rfl | ⟨h1, _⟩
    · simp only [okCl, Bool.and_eq_true]
      exact ⟨⟨inR_iff.2 hz, inR_iff.2 ⟨by omega, by omega⟩⟩, hc.2⟩
    · exact hv.1 p h1
  · cases h
theorem rec_last {ps : List Qd} (hv : vCls ps = true) (z call re no : Int) : lastOf (insNum Prod.fst ps (z, call, re, no)) z = call ∧ repOf (insNum Prod.fst ps (z, call, re, no)) z = re := by
  unfold lastOf repOf
  rw [atNum_ins (vCls_asc hv), if_pos rfl]
  exact ⟨rfl, rfl⟩
theorem rec_other {ps : List Qd} {q : Qd} {z call re no : Int} (hq : q ∈ ps) (hz : q.1 ≠ z) : q ∈ insNum Prod.fst ps (z, call, re, no) := mem_insNum.2 (.inr ⟨hq, hz⟩)
/-- One of them has had its last call answered so. -/
def wasLast (z call : Int) (q : Qd) : Bool := q.1 == z && q.2.1 == call && decide (0 < call)
theorem was_reply {ps : List Qd} (hv : vCls ps = true) {z call : Int} {q : Qd} (hq : q ∈ ps) (h : wasLast z call q = true) : replyOf ps z call = some q.2.2.1 := by
  simp only [wasLast, Bool.and_eq_true, beq_iff_eq, decide_eq_true_eq] at h
  obtain ⟨⟨rfl, rfl⟩, h0⟩ := h
  have hb := vCls_ok hv hq
  have hl := last_at hv hq
  unfold replyOf
  rw [check_again hv hb.1 ⟨by omega, hb.2.1.2⟩ hl.1, hl.2]
  rfl
theorem any_reply {ps : List Qd} (hv : vCls ps = true) (z call : Int) : ps.any (wasLast z call) = (replyOf ps z call).isSome := by
  rw [Bool.eq_iff_iff]
  constructor
  · intro h
    obtain ⟨q, hq, h1⟩ := List.any_eq_true.1 h
    rw [was_reply hv hq h1]; rfl
  · intro h
    have hc : checkOf ps z call = 2 := by
      unfold replyOf at h
      split at h
      · rename_i h1; simpa using h1
      · cases h
    obtain ⟨_, hz, hk, hs⟩ := checkOf_v (ps := ps) (z := z) (call := call) (by omega)
    rw [hc] at hs
    have hl : lastOf ps z = call := by
      unfold sortOf at hs
      split at hs
      · omega
      · split at hs
        · omega
        · split at hs <;> omega
    unfold lastOf at hl
    cases ha : atNum Prod.fst ps z with
    | none => rw [ha] at hl; simp at hl; omega
    | some q =>
      rw [ha] at hl
      obtain ⟨hm, hqz⟩ := atNum_some ha
      refine List.any_eq_true.2 ⟨q, hm, ?_⟩
      have hl' : q.2.1 = call := hl
      simp [wasLast, hqz, hl']
      omega
theorem any_more {α : Type} {ps : List α} {k : Nat} {p : α} (q : α → Bool) (hg : ps[k]? = some p) : (ps.take (k + 1)).any q = ((ps.take k).any q || q p) := by
  rw [take_snoc hg, List.any_append]
  simp
theorem forget_v {ps : List Qd} (hv : vCls ps = true) (b : Int) : forgetOf ps b = keptCls ps b ∧ vCls (keptCls ps b) = true := ⟨by simp [forgetOf, hv], cls_filter hv _⟩
theorem forget_check {ps : List Qd} (hv : vCls ps = true) {b : Int} {q : Qd} (hq : q ∈ ps) (h : q.2.2.2 < b) : checkOf (keptCls ps b) q.1 1 = 1 := by
  refine check_new (forget_v hv b).2 (vCls_ok hv hq).1 (by omega) ?_
  have : atNum Prod.fst (keptCls ps b) q.1 = none := by
    rw [atNum_none]
    intro p hp he
    obtain ⟨h1, h2⟩ := List.mem_filter.1 hp
    have := (vCls_asc hv).inj h1 hq he
    subst this
    simp at h2
    omega
  rw [lastOf, this]; rfl
theorem forget_more {ps : List Qd} (hv : vCls ps = true) (b : Int) : forgetOf (keptCls ps b) (b + 10) = forgetOf ps (b + 10) := by
  rw [(forget_v (forget_v hv b).2 _).1, (forget_v hv _).1, keptCls, keptCls, keptCls, List.filter_filter]
  refine List.filter_congr fun q _ => ?_
  by_cases h : b + 10 ≤ q.2.2.2
  · simp [h]; omega
  · simp [h]
theorem forget_none {ps : List Qd} (hv : vCls ps = true) : forgetOf ps 0 = ps := by
  rw [(forget_v hv 0).1]
  exact List.filter_eq_self.2 fun q hq => by have := (vCls_ok hv hq).2.2; simp; omega
theorem record_first {ps : List Qd} (hv : vCls ps = true) (h : ∀ q ∈ ps, q.1 ≠ 7) (re : Int) : (recordOf ps 7 1 re 5).isSome = true ∧ (recordOf ps 7 2 re 5).isSome = false := by
  have ha : atNum Prod.fst ps 7 = none := atNum_none.2 h
  have hl : lastOf ps 7 = 0 := by rw [lastOf, ha]
  constructor
  · unfold recordOf
    rw [check_new hv (by omega) (by omega) (by rw [hl]; rfl)]
    rfl
  · unfold recordOf
    rw [check_at hv (by omega) (by omega), sortOf, hl]
    rfl
theorem qvs_take (ps : List Qd) (k : Nat) : (qvs ps).take (k * 4) = qvs (ps.take k) := by
  induction ps generalizing k with
  | nil => simp [qvs]
  | cons p ps ih =>
    cases k with
    | zero => simp [qvs]
    | succ k =>
      have e : (k + 1) * 4 = k * 4 + 4 := by omega
      have := ih k
      rw [e]
      simpa [qvs, qv] using this
theorem qvs_drop (ps : List Qd) (k : Nat) : (qvs ps).drop (k * 4) = qvs (ps.drop k) := by
  induction ps generalizing k with
  | nil => simp [qvs]
  | cons p ps ih =>
    cases k with
    | zero => simp [qvs]
    | succ k =>
      have e : (k + 1) * 4 = k * 4 + 4 := by omega
      have := ih k
      rw [e]
      simpa [qvs, qv] using this
theorem Rd.behind4 {w : World} {lo hi b off n c i : Nat} {ss : List Qd} (h : Rd w lo hi 4 (some ⟨b, off, none⟩) n (qvs ss)) (hi' : i < n) (hc : n ≤ c) :
    ∃ A : Addr, (if c = i + 1 then some (⟨b, off, none⟩ : Addr) else some ⟨b, off + (i + 1) * 4, none⟩) = some A ∧ Rd w lo hi 4 (some A) (n - (i + 1)) (qvs (ss.drop (i + 1))) := by
  have hl : ss.length = n := h.len4
  by_cases hcc : c = i + 1
  · have h0 : n - (i + 1) = 0 := by omega
    have h1 : ss.drop (i + 1) = [] := List.drop_of_length_le (by omega)
    rw [h0, h1]
    exact ⟨⟨b, off, none⟩, by simp [hcc], Rd.nil _ _ _ _ _⟩
  · refine ⟨⟨b, off + (i + 1) * 4, none⟩, by simp [hcc], by rw [qvs_length, List.length_drop, hl], fun hn => ?_⟩
    obtain ⟨b', off', e, h1, h2, hcell⟩ := h.2 (by omega)
    injection e with e; injection e with e1 e2
    subst e1; subst e2
    refine ⟨b, off + (i + 1) * 4, rfl, h1, h2, fun j u hu => ?_⟩
    rw [← qvs_drop, List.getElem?_drop] at hu
    have := hcell _ u hu
    rwa [← Nat.add_assoc] at this
end Go.Proofs.Ytipoakimjhfhfab
