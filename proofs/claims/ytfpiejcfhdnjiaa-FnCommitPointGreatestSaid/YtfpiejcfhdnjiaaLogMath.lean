/- What logs and votes come to: entries are pairs of a term and an operation. Plain mathematics; no program. -/
import Derived.Test.YtfpiejcfhdnjiaaBase
set_option linter.unusedSimpArgs false
set_option linter.unusedVariables false
namespace Go.Proofs.Ytfpiejcfhdnjiaa
open Go.RowKit

abbrev En := Int × Int
/-- Terms that do not fall, behind one that is known. -/
def notOver (z : Option Int) (x : Int) : Bool := match z with | none => true | some y => decide (y ≤ x)
def riseFrom : Option Int → List En → Bool
  | _, [] => true
  | z, p :: ps => inR p.1 1 9 && inR p.2 0 99 && notOver z p.1 && riseFrom (some p.1) ps
def rise (ps : List En) : Bool := riseFrom none ps
def Ris (ps : List En) : Prop := ps.Pairwise fun a b => a.1 ≤ b.1
def okEn (p : En) : Bool := inR p.1 1 9 && inR p.2 0 99
theorem riseFrom_iff : ∀ {ps : List En} {z : Option Int}, riseFrom z ps = true ↔ (∀ p ∈ ps, okEn p = true) ∧ Ris ps ∧ ∀ y, z = some y → ∀ p ∈ ps, y ≤ p.1
  | [], z => by simp [riseFrom, Ris]
  | p :: ps, z => by
    rw [riseFrom, Bool.and_eq_true, Bool.and_eq_true, riseFrom_iff]
    simp only [List.mem_cons, Ris, List.pairwise_cons]
    constructor
    · rintro ⟨⟨h1, h2⟩, h3, h4, h5⟩
      refine ⟨?_, ⟨h5 _ rfl, h4⟩, ?_⟩
      · rintro q (rfl | hq)
        · exact h1
        · exact h3 q hq
      · rintro y rfl q (rfl | hq)
        · simpa [notOver] using h2
        · have := h5 _ rfl q hq
          have h2 : y ≤ p.1 := by simpa [notOver] using h2
          omega
    · rintro ⟨h1, ⟨h2, h3⟩, h4⟩
      refine ⟨⟨h1 p (.inl rfl), ?_⟩, fun q hq => h1 q (.inr hq), h3, fun y hy q hq => by injection hy with hy; rw [← hy]; exact h2 q hq⟩
      cases z with
      | none => rfl
      | some y => simpa [notOver] using h4 y rfl p (.inl rfl)
theorem rise_iff {ps : List En} : rise ps = true ↔ (∀ p ∈ ps, okEn p = true) ∧ Ris ps := by
  unfold rise
  rw [riseFrom_iff]
  simp
/-- The term ahead of place k. -/
def aheadT (ps : List En) : Nat → Option Int
  | 0 => none
  | k + 1 => ps[k]?.map Prod.fst
theorem aheadT_get {ps : List En} {k : Nat} {p : En} (hg : ps[k]? = some p) : aheadT ps (k + 1) = some p.1 := by simp [aheadT, hg]
theorem rise_step {ps : List En} {k : Nat} {p : En} (hg : ps[k]? = some p) (h : okEn p = true) (h2 : ∀ y, aheadT ps k = some y → y ≤ p.1) : riseFrom (aheadT ps k) (ps.drop k) = riseFrom (aheadT ps (k + 1)) (ps.drop (k + 1)) := by
  rw [drop_cons2 hg, riseFrom, show (inR p.1 1 9 && inR p.2 0 99) = true from h, Bool.true_and, aheadT_get hg]
  cases hz : aheadT ps k with
  | none => rfl
  | some y =>
    have := h2 y hz
    simp [notOver, this]
theorem rise_bad {ps : List En} {k : Nat} {p : En} (hg : ps[k]? = some p) (h : okEn p = false ∨ ∃ y, aheadT ps k = some y ∧ p.1 < y) : riseFrom (aheadT ps k) (ps.drop k) = false := by
  rw [drop_cons2 hg, riseFrom]
  rcases h with h | ⟨y, h1, h2⟩
  · rw [show (inR p.1 1 9 && inR p.2 0 99) = false from h]; rfl
  · rw [h1]
    have : decide (y ≤ p.1) = false := decide_eq_false (by omega)
    simp [notOver, this]
def vLog (ps : List En) : Bool := rise ps && decide (ps.length ≤ 16)
theorem vLog_iff {ps : List En} : vLog ps = true ↔ (∀ p ∈ ps, okEn p = true) ∧ Ris ps ∧ ps.length ≤ 16 := by
  simp only [vLog, Bool.and_eq_true, decide_eq_true_eq, rise_iff, and_assoc]
theorem vLog_len {ps : List En} (h : vLog ps = true) : ps.length ≤ 16 := (vLog_iff.1 h).2.2
theorem vLog_ok {ps : List En} (h : vLog ps = true) {p : En} (hp : p ∈ ps) : (1 ≤ p.1 ∧ p.1 ≤ 9) ∧ (0 ≤ p.2 ∧ p.2 ≤ 99) := by
  have := (vLog_iff.1 h).1 p hp
  simp only [okEn, Bool.and_eq_true, inR_iff] at this
  exact this
theorem vLog_sub {ps qs : List En} (hs : List.Sublist qs ps) (h : vLog ps = true) : vLog qs = true := by
  rw [vLog_iff] at *
  exact ⟨fun p hp => h.1 p (hs.subset hp), List.Pairwise.sublist hs h.2.1, Nat.le_trans hs.length_le h.2.2⟩
theorem vLog_take {ps : List En} (h : vLog ps = true) (k : Nat) : vLog (ps.take k) = true := vLog_sub (List.take_sublist k ps) h
/-- The term of an entry, nought for number nought. -/
def termOf (ps : List En) : Nat → Int
  | 0 => 0
  | k + 1 => (ps[k]?.map Prod.fst).getD 0
theorem termOf_get {ps : List En} {k : Nat} {p : En} (hg : ps[k]? = some p) : termOf ps (k + 1) = p.1 := by simp [termOf, hg]
def lastTerm (ps : List En) : Int := termOf ps ps.length
/-- Entries laid from a place on. -/
def mergeFrom : Nat → List En → List En → List En
  | _, out, [] => out
  | at_, out, m :: ms => mergeFrom (at_ + 1) (if out[at_]?.map Prod.fst = some m.1 then out else out.take at_ ++ [m]) ms
/-- What AppendEntries answers. -/
def appendOf (ps : List En) (z term : Int) (more : List En) : List En × Bool :=
  if vLog ps && vLog more && decide (0 ≤ z) then
    if decide (z ≤ (ps.length : Int)) && termOf ps z.toNat == term then
      if vLog (mergeFrom z.toNat ps more) then (mergeFrom z.toNat ps more, true) else ([], false)
    else (ps, false)
  else ([], false)
def newerOf (a b : List En) : Bool := vLog a && vLog b && (decide (lastTerm b < lastTerm a) || (lastTerm a == lastTerm b && decide (b.length ≤ a.length)))
def comLen : List En → List En → Nat
  | p :: ps, q :: qs => if p = q then comLen ps qs + 1 else 0
  | _, _ => 0
def commonOf (a b : List En) : Int := if vLog a && vLog b then (comLen a b : Int) else -1
def haveN (has : List Int) (n : Int) : Nat := has.countP fun h => decide (n ≤ h)
def topFrom (ps : List En) (has : List Int) (term : Int) : Nat → Nat
  | 0 => 0
  | n + 1 => if termOf ps (n + 1) = term ∧ has.length < 2 * haveN has (n + 1 : Nat) then n + 1 else topFrom ps has term n
def vHas (has : List Int) : Bool := inR (has.length : Int) 1 7 && has.all fun h => inR h 0 16
def commitOf (ps : List En) (has : List Int) (term : Int) : Int := if vLog ps && vHas has then (topFrom ps has term ps.length : Int) else -1
/-! ### Groups -/
def up2 (xs : List Int) : Prop := xs.Pairwise fun a b => a < b
def upFrom : Option Int → List Int → Bool
  | _, [] => true
  | z, x :: xs => (match z with | none => true | some y => decide (y < x)) && upFrom (some x) xs
def vGroup (xs : List Int) : Bool := upFrom none xs && inR (xs.length : Int) 1 7 && xs.all fun x => inR x 0 6
def quorumOf (g s : List Int) : Bool := vGroup g && decide (g.length < 2 * g.countP fun x => s.contains x)
def stepOf (a b : List Int) : Bool := vGroup a && vGroup b && decide (([0, 1, 2, 3, 4, 5, 6] : List Int).countP (fun s => a.contains s != b.contains s) = 1)
/-! ### Votes -/
def vVoter (t v : Int) (ls : List En) : Bool := inR t 0 9 && inR v (-1) 6 && vLog ls
/-- What AskVote answers: the voter's term, vote and log, and whether the vote is given. -/
def askOf (t v : Int) (ls : List En) (c term : Int) (log : List En) : (Int × Int × List En) × Bool :=
  if vVoter t v ls && inR c 0 6 && inR term 1 9 && vLog log then
    if term < t then ((t, v, ls), false)
    else
      let v1 := if t < term then -1 else v
      if (v1 == -1 || v1 == c) && newerOf log ls then ((term, c, ls), true) else ((term, v1, ls), false)
  else ((0, 0, []), false)
theorem askOf_len (t v : Int) (ls : List En) (c term : Int) (log : List En) : (askOf t v ls c term log).1.2.2.length ≤ ls.length := by
  unfold askOf
  dsimp only
  repeat' split
  all_goals first | exact Nat.le_refl _ | exact Nat.zero_le _
theorem merge_len : ∀ (more : List En) (at_ : Nat) (out : List En), (mergeFrom at_ out more).length ≤ max out.length (at_ + more.length)
  | [], at_, out => by rw [mergeFrom]; exact Nat.le_max_left _ _
  | m :: ms, at_, out => by
    rw [mergeFrom]
    refine Nat.le_trans (merge_len ms (at_ + 1) _) ?_
    split
    · simp only [List.length_cons]; omega
    · simp only [List.length_append, List.length_take, List.length_cons, List.length_nil]; omega
theorem comLen_le : ∀ (a b : List En), comLen a b ≤ a.length ∧ comLen a b ≤ b.length
  | [], _ => by simp [comLen]
  | _ :: _, [] => by simp [comLen]
  | p :: ps, q :: qs => by
    rw [comLen]
    split
    · have := comLen_le ps qs; simp only [List.length_cons]; omega
    · simp
/-- As far as they are equal. -/
theorem comLen_step : ∀ {k : Nat} {a b : List En} {p q : En}, a.take k = b.take k → a[k]? = some p → b[k]? = some q → p ≠ q → comLen a b = k
  | 0, _ :: _, _ :: _, _, _, _, hp, hq, hne => by
    simp at hp hq
    subst hp; subst hq
    rw [comLen, if_neg hne]
  | k + 1, x :: a, y :: b, p, q, ht, hp, hq, hne => by
    simp at ht hp hq
    rw [comLen, if_pos ht.1, comLen_step ht.2 hp hq hne]
  | 0, [], _, _, _, _, hp, _, _ => by simp at hp
  | _ + 1, [], _, _, _, _, hp, _, _ => by simp at hp
  | 0, _ :: _, [], _, _, _, _, hq, _ => by simp at hq
  | _ + 1, _ :: _, [], _, _, _, _, hq, _ => by simp at hq
theorem comLen_all : ∀ {k : Nat} {a b : List En}, a.take k = b.take k → (k = a.length ∨ k = b.length) → k ≤ a.length → k ≤ b.length → comLen a b = k
  | 0, [], _, _, _, _, _ => by simp [comLen]
  | 0, _ :: _, [], _, _, _, _ => by simp [comLen]
  | 0, _ :: _, _ :: _, _, h, _, _ => by simp at h
  | k + 1, x :: a, y :: b, ht, hk, ha, hb => by
    simp at ht hk ha hb
    rw [comLen, if_pos ht.1, comLen_all ht.2 hk ha hb]
  | _ + 1, [], _, _, _, ha, _ => by simp at ha
  | _ + 1, _ :: _, [], _, _, _, hb => by simp at hb
end Go.Proofs.Ytfpiejcfhdnjiaa
