/- What worklists and calls of clients lead to. Plain mathematics; no program. -/
import Derived.Test.YtfpiejcfhdnjiaaNumMath
import Derived.Test.YtfpiejcfhdnjiaaQuadMem
import Derived.Test.YtfpiejcfhdnjiaaTripMem
set_option linter.unusedSimpArgs false
set_option linter.unusedVariables false
namespace Go.Proofs.Ytfpiejcfhdnjiaa
open Go.RowKit

theorem asc_len {α : Type} {f : α → Int} : ∀ {qs : List α} {y hi : Int}, y ≤ hi → (∀ p ∈ qs, y < f p ∧ f p ≤ hi) → Asc f qs → (qs.length : Int) ≤ hi - y
  | [], y, hi, h, _, _ => by simp; omega
  | p :: qs, y, hi, h, hb, ha => by
    obtain ⟨h1, h2⟩ := List.pairwise_cons.1 ha
    have h3 := hb p (by simp)
    have h4 := asc_len (y := f p) h3.2 (fun q hq => ⟨h1 q hq, (hb q (by simp [hq])).2⟩) h2
    rw [List.length_cons]
    omega

/-- Where the record with a number stands, -1 for nowhere. -/
def AtPost {α : Type} (f : α → Int) (ps : List α) (m : Int) (w : World) (e : Ending) (w' : World) : Prop :=
  ∃ z : Int, e = .returned (.int .i64 z) ∧ ((z = -1 ∧ atNum f ps m = .none) ∨ ∃ (k : Nat) (p : α), z = k ∧ ps[k]? = some p ∧ atNum f ps m = some p ∧ f p = m) ∧ w = w'
/-- The third cell of one of the structs set anew. -/
theorem tvs_set : ∀ {ps : List Tri} {k : Nat} {p : Tri}, ps[k]? = some p → ∀ z : Int, (tvs ps).set (k * 3 + 2) (.int .i64 z) = tvs (ps.set k (p.1, p.2.1, z))
  | [], _, _, h, _ => by simp at h
  | q :: ps, 0, p, h, z => by
    simp at h
    subst h
    simp [tvs, tv]
  | q :: ps, k + 1, p, h, z => by
    have ih := tvs_set (ps := ps) (k := k) (p := p) (by simpa using h) z
    have e : (k + 1) * 3 + 2 = k * 3 + 2 + 1 + 1 + 1 := by omega
    rw [e]
    simp only [List.set_cons_succ]
    have e2 : tvs (q :: ps) = .int .i64 q.1 :: .int .i64 q.2.1 :: .int .i64 q.2.2 :: tvs ps := by simp [tvs, tv]
    have e3 : ∀ rs : List Tri, tvs (q :: rs) = .int .i64 q.1 :: .int .i64 q.2.1 :: .int .i64 q.2.2 :: tvs rs := fun rs => by simp [tvs, tv]
    rw [e2, e3, List.set_cons_succ, List.set_cons_succ, List.set_cons_succ, ih]
/-! ### Worklists: number, role, owner -/
def svT (p : Tri) : Value := .agg #[.int .i64 p.1, .int .i64 p.2.1, .int .i64 p.2.2]
def okItem (p : Tri) : Bool := inR p.1 1 999 && inR p.2.1 0 5 && inR p.2.2 0 9
def goodWork (ps : List Tri) : Bool := good Prod.fst okItem ps
def vWork (ps : List Tri) : Bool := goodWork ps && decide (ps.length ≤ 12)
def nextNum (ps : List Tri) : Int := match ps.getLast? with | none => 1 | some p => p.1 + 1
def offered (ps : List Tri) (role : Int) : List Tri := ps ++ [(nextNum ps, role, 0)]
def offerOf (ps : List Tri) (role : Int) : Option (List Tri) := if vWork ps && vWork (offered ps role) then some (offered ps role) else none
/-- There is an item with a number, an owner may have items, and it is as is told. -/
def mayBe (ps : List Tri) (z o : Int) (p : Tri → Bool) : Bool := vWork ps && inR o 1 9 && (match atNum Prod.fst ps z with | some q => p q | none => false)
def givenOf (ps : List Tri) (z o : Int) : List Tri := match atNum Prod.fst ps z with | some q => insNum Prod.fst ps (z, q.2.1, o) | none => ps
def canClaim (roles : List Int) (q : Tri) : Bool := q.2.2 == 0 && roles.contains q.2.1
def claimOf (ps : List Tri) (z o : Int) (roles : List Int) : Option (List Tri) := if mayBe ps z o (canClaim roles) then some (givenOf ps z o) else none
def freeOf (ps : List Tri) (z o : Int) : Option (List Tri) := if mayBe ps z o (fun q => q.2.2 == o) then some (givenOf ps z 0) else none
def leftOf (ps : List Tri) (z : Int) : List Tri := ps.filter fun q => !(q.1 == z)
def doneOf (ps : List Tri) (z o : Int) : Option (List Tri) := if mayBe ps z o (fun q => q.2.2 == o) then some (leftOf ps z) else none
def mineOf (o : Int) (roles : List Int) (q : Tri) : Bool := if q.2.2 = 0 then roles.contains q.2.1 else q.2.2 == o
def minesOf (ps : List Tri) (o : Int) (roles : List Int) : List Int := (ps.filter (mineOf o roles)).map (·.1)
def forOf (ps : List Tri) (o : Int) (roles : List Int) : List Int := if vWork ps then minesOf ps o roles else []

theorem vWork_asc {ps : List Tri} (h : vWork ps = true) : Asc Prod.fst ps := by
  simp only [vWork, goodWork, Bool.and_eq_true] at h
  exact (good_iff.1 h.1).2
theorem vWork_len {ps : List Tri} (h : vWork ps = true) : ps.length ≤ 12 := by
  simp only [vWork, Bool.and_eq_true, decide_eq_true_eq] at h
  exact h.2
theorem vWork_ok {ps : List Tri} (h : vWork ps = true) {p : Tri} (hp : p ∈ ps) : (1 ≤ p.1 ∧ p.1 ≤ 999) ∧ (0 ≤ p.2.1 ∧ p.2.1 ≤ 5) ∧ (0 ≤ p.2.2 ∧ p.2.2 ≤ 9) := by
  simp only [vWork, goodWork, Bool.and_eq_true] at h
  have := (good_iff.1 h.1).1 p hp
  simp only [okItem, Bool.and_eq_true, inR_iff] at this
  exact ⟨this.1.1, this.1.2, this.2⟩
theorem nextNum_bd {ps : List Tri} (h : vWork ps = true) : 1 ≤ nextNum ps ∧ nextNum ps ≤ 1000 ∧ ∀ p ∈ ps, p.1 < nextNum ps := by
  unfold nextNum
  cases e : ps.getLast? with
  | none =>
    rw [List.getLast?_eq_none_iff] at e
    subst e
    exact ⟨by show (1 : Int) ≤ 1; omega, by show (1 : Int) ≤ 1000; omega, fun p hp => by simp at hp⟩
  | some q =>
    have hq := vWork_ok h (List.mem_of_getLast? e)
    exact ⟨by show 1 ≤ q.1 + 1; omega, by show q.1 + 1 ≤ 1000; omega, fun p hp => by have := asc_last (vWork_asc h) e p hp; show p.1 < q.1 + 1; omega⟩
theorem offered_ins {ps : List Tri} (h : vWork ps = true) (role : Int) : insNum Prod.fst ps (nextNum ps, role, 0) = offered ps role :=
  insNum_last fun p hp => (nextNum_bd h).2.2 p hp
theorem offered_ok {ps : List Tri} {role : Int} (h : vWork (offered ps role) = true) : 0 ≤ role ∧ role ≤ 5 := by
  have := vWork_ok h (p := (nextNum ps, role, 0)) (by simp [offered])
  exact this.2.1
theorem offerOf_len (ps : List Tri) (role : Int) (_ : ps.length ≤ 1048576) : ((offerOf ps role).getD []).length ≤ 1048576 := by
  unfold offerOf
  split
  · rename_i h
    rw [Bool.and_eq_true] at h
    have := vWork_len h.2
    simp only [Option.getD_some]
    omega
  · simp
theorem givenOf_len {ps : List Tri} (h : vWork ps = true) (z o : Int) : (givenOf ps z o).length ≤ 13 := by
  have h1 := vWork_len h
  unfold givenOf
  split
  · rename_i q _
    have := insNum_len (vWork_asc h) (z, q.2.1, o)
    omega
  · omega
theorem mayBe_v {ps : List Tri} {z o : Int} {p : Tri → Bool} (h : mayBe ps z o p = true) : vWork ps = true := by
  simp only [mayBe, Bool.and_eq_true] at h
  exact h.1.1
theorem mayBe_o {ps : List Tri} {z o : Int} {p : Tri → Bool} (h : mayBe ps z o p = true) : 1 ≤ o ∧ o ≤ 9 := by
  simp only [mayBe, Bool.and_eq_true, inR_iff] at h
  exact h.1.2
theorem mayBe_at {ps : List Tri} {z o : Int} {p : Tri → Bool} (h : mayBe ps z o p = true) : ∃ q, atNum Prod.fst ps z = some q ∧ p q = true := by
  simp only [mayBe, Bool.and_eq_true] at h
  have h2 := h.2
  split at h2
  · rename_i q hq; exact ⟨q, hq, h2⟩
  · cases h2
theorem claimOf_len (ps : List Tri) (z o : Int) (roles : List Int) (_ : ps.length ≤ 1048576) : ((claimOf ps z o roles).getD []).length ≤ 1048576 := by
  unfold claimOf
  split
  · rename_i h
    have := givenOf_len (mayBe_v h) z o
    simp only [Option.getD_some]; omega
  · simp
theorem freeOf_len (ps : List Tri) (z o : Int) (_ : ps.length ≤ 1048576) : ((freeOf ps z o).getD []).length ≤ 1048576 := by
  unfold freeOf
  split
  · rename_i h
    have := givenOf_len (mayBe_v h) z 0
    simp only [Option.getD_some]; omega
  · simp
theorem doneOf_len (ps : List Tri) (z o : Int) (hl : ps.length ≤ 1048576) : ((doneOf ps z o).getD []).length ≤ 1048576 := by
  unfold doneOf
  split
  · have := List.length_filter_le (fun q : Tri => !(q.1 == z)) ps
    simp only [Option.getD_some, leftOf]; omega
  · simp
theorem minesOf_le (ps : List Tri) (o : Int) (roles : List Int) : (minesOf ps o roles).length ≤ ps.length := by
  unfold minesOf
  rw [List.length_map]
  exact List.length_filter_le _ _
theorem forOf_len (ps : List Tri) (o : Int) (roles : List Int) (hl : ps.length ≤ 1048576) : (forOf ps o roles).length ≤ 1048576 := by
  unfold forOf
  split
  · exact Nat.le_trans (minesOf_le ps o roles) hl
  · simp
theorem minesOf_step {ps : List Tri} {o : Int} {roles : List Int} {k : Nat} {p : Tri} (hg : ps[k]? = some p) : minesOf (ps.take (k + 1)) o roles = minesOf (ps.take k) o roles ++ (if mineOf o roles p then [p.1] else []) := by
  unfold minesOf
  rw [take_snoc hg, List.filter_append, List.map_append, List.filter_cons]
  split <;> rfl
theorem mineOf_eq (o : Int) (roles : List Int) (q : Tri) : (q.2.2 == 0 && roles.contains q.2.1 || o != 0 && q.2.2 == o) = mineOf o roles q := by
  unfold mineOf
  by_cases h : q.2.2 = 0
  · rw [if_pos h, h]
    by_cases ho : o = 0
    · subst ho; simp
    · have : ((0 : Int) == o) = false := by simpa using fun e => ho e.symm
      simp [this]
  · rw [if_neg h]
    have h1 : (q.2.2 == 0) = false := by simpa using h
    rw [h1]
    by_cases ho : o = 0
    · subst ho
      rw [h1]; rfl
    · simp [ho]
/-- Cut and joined anew without one of them: what is left. -/
theorem left_cut {α : Type} {f : α → Int} {ps : List α} (h : Asc f ps) {k : Nat} {p : α} (hk : ps[k]? = some p) : ps.filter (fun q => !(f q == f p)) = ps.take k ++ ps.drop (k + 1) := by
  have e : ps = ps.take k ++ p :: ps.drop (k + 1) := by rw [← drop_cons2 hk, List.take_append_drop]
  have h' := h
  rw [e] at h'
  obtain ⟨_, h2, h3⟩ := List.pairwise_append.1 h'
  obtain ⟨h4, _⟩ := List.pairwise_cons.1 h2
  conv => lhs; rw [e]
  rw [List.filter_append, List.filter_cons]
  rw [List.filter_eq_self.2 (fun q hq => by have := h3 q hq p (by simp); simp; omega)]
  rw [if_neg (by simp)]
  rw [List.filter_eq_self.2 (fun q hq => by have := h4 q hq; simp; omega)]

/-- A slice of the call's own and whether there is one. -/
def FreshT (xs : List Value) (size n : Nat) (b : Bool) (w : World) (e : Ending) (w' : World) : Prop :=
  ∃ A c, e = .returned (.tuple #[.slice A n c, .bool b]) ∧ n ≤ c ∧ Rd w' w.heap.size w'.heap.size size A n xs ∧ Soft w' size A n ∧ Below w.heap.size w w'
theorem FreshT.nope {w w' : World} (size : Nat) (hb : Below w.heap.size w w') : FreshT [] size 0 false w (.returned (.tuple #[.slice none 0 0, .bool false])) w' :=
  ⟨none, 0, rfl, Nat.le_refl _, Rd.nil _ _ _ _ _, (fun _ _ e => nomatch e), hb⟩
/-- A list or nothing, as the program tells it. -/
def MayT {α : Type} (vs : List α → List Value) (size : Nat) (u : Option (List α)) (w : World) (e : Ending) (w' : World) : Prop :=
  FreshT (vs (u.getD [])) size (u.getD []).length u.isSome w e w'
theorem MayT.no {α : Type} {vs : List α → List Value} {size : Nat} {u : Option (List α)} {w w' : World} (hv : vs [] = []) (hu : u = .none) (hb : Below w.heap.size w w') : MayT vs size u w (.returned (.tuple #[.slice none 0 0, .bool false])) w' := by
  subst hu
  unfold MayT
  rw [show (Option.getD .none [] : List α) = [] from rfl, hv]
  exact FreshT.nope size hb
theorem MayT.yes {α : Type} {vs : List α → List Value} {size n c : Nat} {A : Option Addr} {u : Option (List α)} {l : List α} {w w' : World} (hu : u = some l) (hn : l.length = n) (hc : n ≤ c) (hr : Rd w' w.heap.size w'.heap.size size A n (vs l)) (hs : Soft w' size A n) (hb : Below w.heap.size w w') : MayT vs size u w (.returned (.tuple #[.slice A n c, .bool true])) w' := by
  subst hu; subst hn
  exact ⟨A, c, rfl, hc, hr, hs, hb⟩

/-- A row of the call's own and whether there is one; the row whole. -/
def OwnT {α : Type} (T : TypeId) (vs : List α → List Value) (size : Nat) (u : Option (List α)) (w : World) (e : Ending) (w' : World) : Prop :=
  ∃ v, e = .returned (.tuple #[v, .bool u.isSome]) ∧ w'.ownsRow w.heap.size T size v (u.getD []).length (vs (u.getD [])) ∧ Below w.heap.size w w'
theorem OwnT.no {α : Type} {T : TypeId} {vs : List α → List Value} {size : Nat} {u : Option (List α)} {w w' : World} (hv : vs [] = []) (hu : u = .none) (hb : Below w.heap.size w w') : OwnT T vs size u w (.returned (.tuple #[.slice none 0 0, .bool false])) w' := by
  subst hu
  exact ⟨_, rfl, ⟨by simp [hv], .inl ⟨rfl, rfl⟩⟩, hb⟩
theorem OwnT.yes {α : Type} {T : TypeId} {vs : List α → List Value} {size n : Nat} {v : Value} {u : Option (List α)} {l : List α} {w w' : World} (hu : u = some l) (hn : l.length = n) (ho : w'.ownsRow w.heap.size T size v n (vs l)) (hb : Below w.heap.size w w') : OwnT T vs size u w (.returned (.tuple #[v, .bool true])) w' := by
  subst hu; subst hn
  exact ⟨v, rfl, ho, hb⟩
theorem OwnT.may {α : Type} {T : TypeId} {vs : List α → List Value} {size : Nat} {u : Option (List α)} {w w' : World} {e : Ending} (h : OwnT T vs size u w e w') : MayT vs size u w e w' := by
  obtain ⟨v, rfl, ho, hb⟩ := h
  obtain ⟨A, c, rfl, hc, hr, hs⟩ := own_form ho
  exact ⟨A, c, rfl, hc, hr, hs, hb⟩
/-- The same without a Bool. -/
def OwnR (T : TypeId) (xs : List Value) (size n : Nat) (w : World) (e : Ending) (w' : World) : Prop :=
  ∃ v, e = .returned v ∧ w'.ownsRow w.heap.size T size v n xs ∧ Below w.heap.size w w'
theorem OwnR.fresh {T : TypeId} {xs : List Value} {size n : Nat} {w w' : World} {e : Ending} (h : OwnR T xs size n w e w') : Fresh xs size n w e w' := by
  obtain ⟨v, rfl, ho, hb⟩ := h
  obtain ⟨A, c, rfl, hc, hr, hs⟩ := own_form ho
  exact ⟨A, c, rfl, hc, hr, hs, hb⟩

/-! ### Clients: number, last call, reply, seen -/
def svQ (p : Qd) : Value := .agg #[.int .i64 p.1, .int .i64 p.2.1, .int .i64 p.2.2.1, .int .i64 p.2.2.2]
def okCl (p : Qd) : Bool := inR p.1 0 9 && inR p.2.1 0 999 && inR p.2.2.2 0 9999
def vCls (ps : List Qd) : Bool := good Prod.fst okCl ps
def lastOf (ps : List Qd) (z : Int) : Int := match atNum Prod.fst ps z with | some q => q.2.1 | none => 0
def repOf (ps : List Qd) (z : Int) : Int := match atNum Prod.fst ps z with | some q => q.2.2.1 | none => 0
def sortOf (ps : List Qd) (z call : Int) : Int := if call = lastOf ps z + 1 then 1 else if call = lastOf ps z then 2 else if call < lastOf ps z then 3 else 4
def checkOf (ps : List Qd) (z call : Int) : Int := if vCls ps && inR z 0 9 && inR call 1 999 then sortOf ps z call else 4
def recordOf (ps : List Qd) (z call reply now : Int) : Option (List Qd) := if checkOf ps z call == 1 && inR now 0 9999 then some (insNum Prod.fst ps (z, call, reply, now)) else none
def replyOf (ps : List Qd) (z call : Int) : Option Int := if checkOf ps z call == 2 then some (repOf ps z) else none
def keptCls (ps : List Qd) (b : Int) : List Qd := ps.filter fun q => decide (b ≤ q.2.2.2)
def forgetOf (ps : List Qd) (b : Int) : List Qd := if vCls ps then keptCls ps b else []
theorem vCls_asc {ps : List Qd} (h : vCls ps = true) : Asc Prod.fst ps := (good_iff.1 h).2
theorem vCls_ok {ps : List Qd} (h : vCls ps = true) {p : Qd} (hp : p ∈ ps) : (0 ≤ p.1 ∧ p.1 ≤ 9) ∧ (0 ≤ p.2.1 ∧ p.2.1 ≤ 999) ∧ (0 ≤ p.2.2.2 ∧ p.2.2.2 ≤ 9999) := by
  have := (good_iff.1 h).1 p hp
  simp only [okCl, Bool.and_eq_true, inR_iff] at this
  exact ⟨this.1.1, this.1.2, this.2⟩
theorem vCls_len {ps : List Qd} (h : vCls ps = true) : ps.length ≤ 10 := by
  have := asc_len (f := Prod.fst) (y := -1) (hi := 9) (by omega) (fun p hp => by have := (vCls_ok h hp).1; omega) (vCls_asc h)
  omega
theorem checkOf_v {ps : List Qd} {z call : Int} (h : ¬ checkOf ps z call = 4) : vCls ps = true ∧ (0 ≤ z ∧ z ≤ 9) ∧ (1 ≤ call ∧ call ≤ 999) ∧ checkOf ps z call = sortOf ps z call := by
  unfold checkOf at *
  by_cases hv : (vCls ps && inR z 0 9 && inR call 1 999) = true
  · rw [if_pos hv]
    simp only [Bool.and_eq_true, inR_iff] at hv
    exact ⟨hv.1.1, hv.1.2, hv.2, rfl⟩
  · rw [if_neg hv] at h
    exact absurd rfl h
theorem lastOf_bd {ps : List Qd} (h : vCls ps = true) (z : Int) : 0 ≤ lastOf ps z ∧ lastOf ps z ≤ 999 := by
  unfold lastOf
  split
  · rename_i q hq
    exact (vCls_ok h (atNum_some hq).1).2.1
  · omega
theorem recordOf_len (ps : List Qd) (z call reply now : Int) (_ : ps.length ≤ 1048576) : ((recordOf ps z call reply now).getD []).length ≤ 1048576 := by
  unfold recordOf
  split
  · rename_i h
    rw [Bool.and_eq_true, beq_iff_eq] at h
    have hv := (checkOf_v (ps := ps) (z := z) (call := call) (by rw [h.1]; omega)).1
    have := vCls_len hv
    have := insNum_len (vCls_asc hv) (z, call, reply, now)
    simp only [Option.getD_some]; omega
  · simp
theorem keptCls_le (ps : List Qd) (b : Int) : (keptCls ps b).length ≤ ps.length := List.length_filter_le _ _
theorem forgetOf_len (ps : List Qd) (b : Int) (hl : ps.length ≤ 1048576) : (forgetOf ps b).length ≤ 1048576 := by
  unfold forgetOf
  split
  · exact Nat.le_trans (keptCls_le ps b) hl
  · simp
theorem keptCls_step {ps : List Qd} {b : Int} {k : Nat} {p : Qd} (hg : ps[k]? = some p) : keptCls (ps.take (k + 1)) b = keptCls (ps.take k) b ++ (if b ≤ p.2.2.2 then [p] else []) := by
  unfold keptCls
  rw [take_snoc hg, List.filter_append, List.filter_cons]
  by_cases h : b ≤ p.2.2.2 <;> simp [h]
end Go.Proofs.Ytfpiejcfhdnjiaa
