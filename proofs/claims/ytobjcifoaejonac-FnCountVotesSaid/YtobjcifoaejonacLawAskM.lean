/- What the laws on voters ask: plain mathematics, the calls with their answers named, equalVoter. -/
import Derived.Test.YtobjcifoaejonacAskI
import Derived.Test.YtobjcifoaejonacEqLists
set_option linter.unusedSimpArgs false
set_option linter.unusedVariables false
namespace Go.Proofs.Ytobjcifoaejonac
open Go.RowKit

theorem ask_valid {t v : Int} {ls : List En} {c term : Int} {log : List En} {T V : Int} {S : List En} {b : Bool} (hU : askOf t v ls c term log = ((T, V, S), b)) (h : T ≠ 0 ∨ b = true) : vVoter t v ls = true ∧ inR c 0 6 = true ∧ inR term 1 9 = true ∧ vLog log = true := by
  have key : ∀ q : Prop, askOf t v ls c term log = ((0, 0, []), false) → q := fun q e => by
    rw [e] at hU
    injection hU with e1 e2
    injection e1 with e1 _
    subst e2
    rcases h with h | h
    · exact absurd e1.symm h
    · cases h
  refine ⟨?_, ?_, ?_, ?_⟩ <;> (apply Decidable.byContradiction; intro hh; rw [Bool.not_eq_true] at hh)
  · exact key _ (askOf_no (.inl hh))
  · exact key _ (askOf_no (.inr (.inl hh)))
  · exact key _ (askOf_no (.inr (.inr (.inl hh))))
  · exact key _ (askOf_no (.inr (.inr (.inr hh))))
theorem ask_ways {t v : Int} {ls : List En} {c term : Int} {log : List En} (h1 : vVoter t v ls = true) (h2 : inR c 0 6 = true) (h3 : inR term 1 9 = true) (h4 : vLog log = true) :
    (term < t ∧ askOf t v ls c term log = ((t, v, ls), false)) ∨ (t < term ∧ newerOf log ls = true ∧ askOf t v ls c term log = ((term, c, ls), true)) ∨ (t < term ∧ newerOf log ls = false ∧ askOf t v ls c term log = ((term, -1, ls), false)) ∨
    (t = term ∧ newerOf log ls = true ∧ (v = -1 ∨ v = c) ∧ askOf t v ls c term log = ((term, c, ls), true)) ∨ (t = term ∧ (newerOf log ls = false ∨ v ≠ -1 ∧ v ≠ c) ∧ askOf t v ls c term log = ((term, v, ls), false)) := by
  rw [askOf_yes h1 h2 h3 h4]
  by_cases hlt : term < t
  · exact .inl ⟨hlt, by rw [if_pos hlt]⟩
  rw [if_neg hlt]
  by_cases hgt : t < term
  · rw [if_pos hgt]
    cases hn : newerOf log ls with
    | true => exact .inr (.inl ⟨hgt, rfl, rfl⟩)
    | false => exact .inr (.inr (.inl ⟨hgt, rfl, rfl⟩))
  · rw [if_neg hgt]
    have he : t = term := by omega
    cases hn : newerOf log ls with
    | false => exact .inr (.inr (.inr (.inr ⟨he, .inl rfl, by simp⟩)))
    | true =>
      by_cases hv : v = -1 ∨ v = c
      · refine .inr (.inr (.inr (.inl ⟨he, rfl, hv, ?_⟩)))
        rw [show (v == -1 || v == c) = true by simpa using hv]; rfl
      · refine .inr (.inr (.inr (.inr ⟨he, .inr ⟨fun e => hv (.inl e), fun e => hv (.inr e)⟩, ?_⟩)))
        rw [show (v == -1 || v == c) = false by simpa using hv]; rfl
theorem pair_eq {T V T' V' : Int} {S S' : List En} {b b' : Bool} (h : ((T, V, S), b) = ((T', V', S'), b')) : T = T' ∧ V = V' ∧ S = S' ∧ b = b' := by
  injection h with h1 h2
  injection h1 with h3 h4
  injection h4 with h5 h6
  exact ⟨h3, h5, h6, h2⟩
theorem ask_true {t v : Int} {ls : List En} {c term : Int} {log : List En} {T V : Int} {S : List En} (hU : askOf t v ls c term log = ((T, V, S), true)) :
    T = term ∧ V = c ∧ S = ls ∧ newerOf log ls = true ∧ t ≤ term ∧ (vVoter t v ls = true ∧ inR c 0 6 = true ∧ inR term 1 9 = true ∧ vLog log = true) := by
  have hv := ask_valid hU (.inr rfl)
  rcases ask_ways hv.1 hv.2.1 hv.2.2.1 hv.2.2.2 with ⟨_, e⟩ | ⟨h, hn, e⟩ | ⟨_, _, e⟩ | ⟨h, hn, _, e⟩ | ⟨_, _, e⟩
  all_goals
    rw [e] at hU
    obtain ⟨h1, h2, h3, h4⟩ := pair_eq hU
  · cases h4
  · exact ⟨h1.symm, h2.symm, h3.symm, hn, by omega, hv⟩
  · cases h4
  · exact ⟨h1.symm, h2.symm, h3.symm, hn, by omega, hv⟩
  · cases h4
theorem vVoter_log {t v : Int} {ls : List En} (h : vVoter t v ls = true) : vLog ls = true := by
  simp only [vVoter, Bool.and_eq_true] at h; exact h.2
theorem inR_term {term : Int} (h : inR term 1 9 = true) : inR term 0 9 = true := by
  simp only [inR, Bool.and_eq_true, decide_eq_true_eq] at h ⊢; omega
theorem vVoter_mk {term c : Int} {ls : List En} (h1 : inR term 1 9 = true) (h2 : inR c 0 6 = true) (h3 : vLog ls = true) : vVoter term c ls = true := by
  rw [vVoter, inR_term h1, inR_voted, h2, h3]; simp
theorem ask_again {ls : List En} {c term : Int} {log : List En} (h1 : vLog ls = true) (h2 : inR c 0 6 = true) (h3 : inR term 1 9 = true) (h4 : vLog log = true) (hn : newerOf log ls = true) :
    askOf term c ls c term log = ((term, c, ls), true) := by
  rcases ask_ways (vVoter_mk h3 h2 h1) h2 h3 h4 with ⟨h, _⟩ | ⟨h, _⟩ | ⟨h, _⟩ | ⟨_, _, _, e⟩ | ⟨_, h, _⟩
  · omega
  · omega
  · omega
  · exact e
  · rcases h with h | h
    · rw [hn] at h; cases h
    · exact absurd rfl h.2
theorem ask_other {ls : List En} {c d term : Int} {log : List En} (h1 : vLog ls = true) (h2 : inR c 0 6 = true) (h2d : inR d 0 6 = true) (hd : d ≠ c) (h3 : inR term 1 9 = true) (h4 : vLog log = true) :
    askOf term c ls d term log = ((term, c, ls), false) := by
  rcases ask_ways (vVoter_mk h3 h2 h1) h2d h3 h4 with ⟨h, _⟩ | ⟨h, _⟩ | ⟨h, _⟩ | ⟨_, _, h, _⟩ | ⟨_, _, e⟩
  · omega
  · omega
  · omega
  · rcases h with h | h
    · subst h; simp [inR] at h2
    · exact absurd h.symm hd
  · exact e
theorem ask_max {t v : Int} {ls : List En} {c term : Int} {log : List En} {T V : Int} {S : List En} {b : Bool} (hU : askOf t v ls c term log = ((T, V, S), b)) (hT : T ≠ 0) :
    (t ≤ term → T = term) ∧ (term ≤ t → T = t) ∧ (b = false → term ≤ t → T = t ∧ V = v ∧ S = ls) := by
  have hv := ask_valid hU (.inl hT)
  rcases ask_ways hv.1 hv.2.1 hv.2.2.1 hv.2.2.2 with ⟨h, e⟩ | ⟨h, hn, e⟩ | ⟨h, _, e⟩ | ⟨h, hn, _, e⟩ | ⟨h, _, e⟩
  all_goals
    rw [e] at hU
    obtain ⟨h1, h2, h3, h4⟩ := pair_eq hU
    subst h1; subst h2; subst h3; subst h4
  · exact ⟨fun _ => by omega, fun _ => rfl, fun _ _ => ⟨rfl, rfl, rfl⟩⟩
  · exact ⟨fun _ => rfl, fun _ => by omega, fun h => by cases h⟩
  · exact ⟨fun _ => rfl, fun _ => by omega, fun _ _ => by omega⟩
  · exact ⟨fun _ => rfl, fun _ => by omega, fun h => by cases h⟩
  · exact ⟨fun _ => rfl, fun _ => h.symm, fun _ _ => ⟨h.symm, rfl, rfl⟩⟩
theorem ask_old {t v : Int} {ls : List En} {c term : Int} {log : List En} {T V : Int} {S : List En} {b : Bool} (hU : askOf t v ls c term log = ((T, V, S), b)) (hT : T ≠ 0) (h2 : 2 ≤ t) :
    askOf t v ls c (t - 1) log = ((t, v, ls), false) := by
  have hv := ask_valid hU (.inl hT)
  have ht : t ≤ 9 := by
    have := hv.1
    simp only [vVoter, inR, Bool.and_eq_true, decide_eq_true_eq] at this
    omega
  rw [askOf_yes hv.1 hv.2.1 (by simp only [inR, Bool.and_eq_true, decide_eq_true_eq]; omega) hv.2.2.2, if_pos (by omega)]
/-- The answer with its parts named. -/
def VtP (T V : Int) (S : List En) (b : Bool) (k : Nat) (w : World) (e : Ending) (w' : World) : Prop :=
  ∃ A c, e = .returned (.tuple #[.agg #[.int .i64 T, .int .i64 V, .slice A k c], .bool b]) ∧ k ≤ c ∧ Rd w' w.heap.size w'.heap.size 2 A k (pvs S) ∧ Below w.heap.size w w'
theorem VtPost.p {u : (Int × Int × List En) × Bool} {T V : Int} {S : List En} {b : Bool} {k : Nat} {w w' : World} {e : Ending} (hu : u = ((T, V, S), b)) (hk : S.length = k) (h : VtPost u w e w') : VtP T V S b k w e w' := by
  subst hu; subst hk
  obtain ⟨A, c, he, hc, hr, _, hb⟩ := h
  exact ⟨A, c, he, hc, hr, hb⟩
theorem askI_at {t v : Int} {lo hi n c : Nat} {A : Option Addr} {ls : List En} {cand term : Int} {lo2 hi2 n2 c2 : Nat} {A2 : Option Addr} {log : List En} {w : World} {T V : Int} {S : List En} {b : Bool} {k : Nat} (hU : askOf t v ls cand term log = ((T, V, S), b)) (hk : S.length = k) (hr : Rd w lo hi 2 A n (pvs ls)) (hB : hi ≤ w.heap.size) (hn : n ≤ 1048576) (hcap : n ≤ c) (hr2 : Rd w lo2 hi2 2 A2 n2 (pvs log)) (hB2 : hi2 ≤ w.heap.size) (hn2 : n2 ≤ 1048576) (hcap2 : n2 ≤ c2) :
    Calls Try.prog 16 #[.agg #[.int .i64 t, .int .i64 v, .slice A n c], .int .i64 cand, .int .i64 term, .slice A2 n2 c2] w (VtP T V S b k w) :=
  (AskVoteI_any t v lo hi n c A ls cand term lo2 hi2 n2 c2 A2 log w hr hB hn hcap hr2 hB2 hn2 hcap2).mono fun _ _ h => h.p hU hk
theorem askS_at {t v : Int} {lo hi n c : Nat} {A : Option Addr} {ls : List En} {cand term : Int} {lo2 hi2 n2 c2 : Nat} {A2 : Option Addr} {log : List En} {w : World} {T V : Int} {S : List En} {b : Bool} {k : Nat} (hU : askOf t v ls cand term log = ((T, V, S), b)) (hk : S.length = k) (hr : Rd w lo hi 2 A n (pvs ls)) (hB : hi ≤ w.heap.size) (hn : n ≤ 1048576) (hr2 : Rd w lo2 hi2 2 A2 n2 (pvs log)) (hB2 : hi2 ≤ w.heap.size) (hn2 : n2 ≤ 1048576) :
    Calls Try.prog 17 #[.agg #[.int .i64 t, .int .i64 v, .slice A n c], .int .i64 cand, .int .i64 term, .slice A2 n2 c2] w (VtP T V S b k w) :=
  (AskVoteS_any t v lo hi n c A ls cand term lo2 hi2 n2 c2 A2 log w hr hB hn hr2 hB2 hn2).mono fun _ _ h => h.p hU hk
set_option maxHeartbeats 800000 in
theorem equalVoter_same (x y : Int) (lo hi n c lo' hi' c' : Nat) (A A' : Option Addr) (ps : List En) (w : World) (hr : Rd w lo hi 2 A n (pvs ps)) (hB : hi ≤ w.heap.size) (hn : n ≤ 1048576) (hr' : Rd w lo' hi' 2 A' n (pvs ps)) (hB' : hi' ≤ w.heap.size) :
    Calls Try.prog 18 #[.agg #[.int .i64 x, .int .i64 y, .slice A n c], .agg #[.int .i64 x, .int .i64 y, .slice A' n c']] w fun e w' => e = .returned (.bool true) ∧ Below w.heap.size w w' := by
  have hb0 := up_alloc (up_alloc (Below.refl _ w) (.cells #[.int .i64 x, .int .i64 y, .slice A n c] 25)) (.cells #[.int .i64 x, .int .i64 y, .slice A' n c'] 25)
  have HB0 := Lib.hid hb0
  have HR := Lib.hid (hr.keep hb0 hB)
  have HR' := Lib.hid (hr'.keep hb0 hB')
  have hz0 := hb0.size
  have hxx : (x == x) = true := by simp
  have hyy : (y == y) = true := by simp
  clear hr hr' hb0
  go_enter Try.func18, Try.ntmps18
  go_wp2_with (fail)
  (with_reducible refine (equalLog_any _ _ n c _ _ n c' A A' ps ps _ HR.out (by omega) hn HR'.out (by omega) hn).mono ?_)
  rintro e w1 ⟨rfl, hb1⟩
  rw [beq_self_eq_true]
  have HB1 := Lib.hid (up HB0.out hb1)
  clear hb1
  go_wp2
  go_ret
  exact ⟨rfl, HB1.out⟩
end Go.Proofs.Ytobjcifoaejonac
