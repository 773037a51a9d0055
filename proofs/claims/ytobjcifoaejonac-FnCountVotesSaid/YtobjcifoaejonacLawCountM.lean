/- What the laws on CountVotes ask: plain mathematics, the calls with their answers named. -/
import Derived.Test.YtobjcifoaejonacCountI
import Derived.Test.YtobjcifoaejonacCountS
import Derived.Test.YtobjcifoaejonacLawAskM
set_option linter.unusedSimpArgs false
set_option linter.unusedVariables false
namespace Go.Proofs.Ytobjcifoaejonac
open Go.RowKit

theorem countOf_cases (fs : List Flw) (c term : Int) (log : List En) : (countOf fs c term log = (-1, [])) ∨ (vAsk c term log = true ∧ vVs fs = true ∧ fs.length ≤ 7 ∧ countOf fs c term log = ((gaveOf fs c term log : Int), behindOf fs c term log)) := by
  by_cases h1 : fs.length ≤ 7
  · cases h2 : vAsk c term log with
    | false => exact .inl (countOf_no (.inr (.inl h2)))
    | true =>
      cases h3 : vVs fs with
      | false => exact .inl (countOf_no (.inr (.inr h3)))
      | true => exact .inr ⟨rfl, rfl, h1, countOf_yes h1 h2 h3⟩
  · exact .inl (countOf_no (.inl (by omega)))
theorem two_le {c d term : Int} {log : List En} (hd : d ≠ c) (hd6 : inR d 0 6 = true) : ∀ fs : List Flw, gaveOf fs c term log + gaveOf (behindOf fs c term log) d term log ≤ fs.length
  | [] => by simp [gaveOf, behindOf]
  | f :: fs => by
    have ih := two_le (log := log) (term := term) hd hd6 fs
    have e1 : gaveOf (f :: fs) c term log = gaveOf fs c term log + (if (askOf f.1 f.2.1 f.2.2 c term log).2 then 1 else 0) := by simp [gaveOf, List.countP_cons]
    have e2 : gaveOf (behindOf (f :: fs) c term log) d term log = gaveOf (behindOf fs c term log) d term log + (if (askOf (askOf f.1 f.2.1 f.2.2 c term log).1.1 (askOf f.1 f.2.1 f.2.2 c term log).1.2.1 (askOf f.1 f.2.1 f.2.2 c term log).1.2.2 d term log).2 then 1 else 0) := by simp [gaveOf, behindOf, List.countP_cons]
    have key : (askOf f.1 f.2.1 f.2.2 c term log).2 = true → (askOf (askOf f.1 f.2.1 f.2.2 c term log).1.1 (askOf f.1 f.2.1 f.2.2 c term log).1.2.1 (askOf f.1 f.2.1 f.2.2 c term log).1.2.2 d term log).2 = false := by
      intro h
      obtain ⟨⟨⟨T, V, S⟩, b⟩, hU⟩ : ∃ u, askOf f.1 f.2.1 f.2.2 c term log = u := ⟨_, rfl⟩
      rw [hU] at h ⊢
      dsimp only at h ⊢
      subst h
      obtain ⟨h1, h2, h3, _, _, hv, hv2, hv3, hv4⟩ := ask_true hU
      subst h1; subst h2; subst h3
      rw [ask_other (vVoter_log hv) hv2 hd6 hd hv3 hv4]
    rw [e1, e2, List.length_cons]
    cases h : (askOf f.1 f.2.1 f.2.2 c term log).2 with
    | true => rw [key h]; simp; omega
    | false =>
      rw [if_neg (by simp : ¬ (false = true))]
      split <;> omega
theorem behind_term {fs : List Flw} {c term : Int} {log : List En} (h1 : vAsk c term log = true) (h2 : vVs fs = true) : ∀ f ∈ behindOf fs c term log, term ≤ f.1 := by
  intro f hf
  obtain ⟨g, hg, rfl⟩ := List.mem_map.1 hf
  have hv : vVoter g.1 g.2.1 g.2.2 = true := by rw [vVs, List.all_eq_true] at h2; exact h2 g hg
  simp only [vAsk, Bool.and_eq_true] at h1
  rcases ask_ways hv h1.1.1 h1.1.2 h1.2 with ⟨h, e⟩ | ⟨_, _, e⟩ | ⟨_, _, e⟩ | ⟨_, _, _, e⟩ | ⟨h, _, e⟩
  all_goals (rw [e]; dsimp only; omega)
def VsP (g : Int) (bs : List Flw) (k : Nat) (w : World) (e : Ending) (w' : World) : Prop :=
  ∃ A c, e = .returned (.tuple #[.int .i64 g, .slice A k c]) ∧ k ≤ c ∧ Vls w' w.heap.size w'.heap.size A k bs ∧ Below w.heap.size w w'
theorem VsPost.p {u : Int × List Flw} {g : Int} {bs : List Flw} {k : Nat} {w w' : World} {e : Ending} (hu : u = (g, bs)) (hk : bs.length = k) (h : VsPost u w e w') : VsP g bs k w e w' := by
  subst hu
  obtain ⟨A, n, c, he, hv, hc, hb⟩ := h
  have hn := hv.len
  dsimp only at hn
  obtain rfl : n = k := by omega
  exact ⟨A, c, he, hc, hv, hb⟩
theorem countI_at {lo hi n c : Nat} {A : Option Addr} {fs : List Flw} {cand term : Int} {lo2 hi2 n2 c2 : Nat} {A2 : Option Addr} {log : List En} {w : World} {g : Int} {bs : List Flw} {k : Nat} (hU : countOf fs cand term log = (g, bs)) (hk : bs.length = k) (hr : Vls w lo hi A n fs) (hB : hi ≤ w.heap.size) (hn : n ≤ 1048576) (hr2 : Rd w lo2 hi2 2 A2 n2 (pvs log)) (hB2 : hi2 ≤ w.heap.size) (hn2 : n2 ≤ 1048576) (hcap2 : n2 ≤ c2) :
    Calls Try.prog 29 #[.slice A n c, .int .i64 cand, .int .i64 term, .slice A2 n2 c2] w (VsP g bs k w) :=
  (CountVotesI_any lo hi n c A fs cand term lo2 hi2 n2 c2 A2 log w hr hB hn hr2 hB2 hn2 hcap2).mono fun _ _ h => h.p hU hk
theorem countS_at {lo hi n c : Nat} {A : Option Addr} {fs : List Flw} {cand term : Int} {lo2 hi2 n2 c2 : Nat} {A2 : Option Addr} {log : List En} {w : World} {g : Int} {bs : List Flw} {k : Nat} (hU : countOf fs cand term log = (g, bs)) (hk : bs.length = k) (hr : Vls w lo hi A n fs) (hB : hi ≤ w.heap.size) (hn : n ≤ 1048576) (hr2 : Rd w lo2 hi2 2 A2 n2 (pvs log)) (hB2 : hi2 ≤ w.heap.size) (hn2 : n2 ≤ 1048576) :
    Calls Try.prog 30 #[.slice A n c, .int .i64 cand, .int .i64 term, .slice A2 n2 c2] w (VsP g bs k w) :=
  (CountVotesS_any lo hi n c A fs cand term lo2 hi2 n2 c2 A2 log w hr hB hn hr2 hB2 hn2).mono fun _ _ h => h.p hU hk
end Go.Proofs.Ytobjcifoaejonac
