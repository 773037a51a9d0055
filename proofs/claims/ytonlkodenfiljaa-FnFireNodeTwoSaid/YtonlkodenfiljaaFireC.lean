/- Merged: FireMath, LawFireA, TwoMath. -/
import Derived.Test.YtonlkodenfiljaaTokFireB
import Derived.Test.YtonlkodenfiljaaLawTokM
import Derived.Test.YtonlkodenfiljaaDrawP15
/- What a node that goes on has done to the tokens, in plain mathematics. No program. -/
set_option linter.unusedSimpArgs false
set_option linter.unusedVariables false
namespace Go.Proofs.Ytonlkodenfiljaa
open Go.RowKit

theorem set_sum : ∀ (ms : List Int) (k : Nat) (d : Int), k < ms.length → (ms.set k (ms.getD k 0 + d)).sum = ms.sum + d
  | [], k, d, h => by simp at h
  | x :: ms, 0, d, _ => by
    rw [List.set_cons_zero, List.sum_cons, List.sum_cons]
    show x + d + ms.sum = _
    omega
  | x :: ms, k + 1, d, h => by
    rw [List.set_cons_succ, List.sum_cons, List.sum_cons]
    have := set_sum ms k d (by simpa using h)
    have e : (x :: ms).getD (k + 1) 0 = ms.getD k 0 := rfl
    rw [e, this]; omega
theorem bump_sum (d : Int) : ∀ (is ms : List Int), (∀ q ∈ is, q.toNat < ms.length) → (bump d ms is).sum = ms.sum + d * (is.length : Int)
  | [], ms, _ => by simp [bump]
  | q :: is, ms, h => by
    rw [bump, bump_sum d is _ (fun z hz => by rw [List.length_set]; exact h z (by simp [hz])), set_sum _ _ _ (h q (by simp))]
    have : ((q :: is).length : Int) = (is.length : Int) + 1 := by simp
    rw [this, Int.mul_add]; omega
/-- A flow that is one of them, and no other is. -/
theorem bump_once (d : Int) : ∀ (is ms : List Int) (k : Nat), k < ms.length → (is.map Int.toNat).Nodup → (∃ q ∈ is, q.toNat = k) → (bump d ms is).getD k 0 = ms.getD k 0 + d
  | [], _, _, _, _, h => by obtain ⟨q, hq, _⟩ := h; simp at hq
  | a :: is, ms, k, hk, hn, h => by
    rw [List.map_cons, List.nodup_cons] at hn
    rw [bump]
    by_cases e : a.toNat = k
    · subst e
      rw [bump_other is _ _ (fun z hz e => hn.1 (by rw [← e]; exact List.mem_map_of_mem hz)), List.getD_eq_getElem?_getD, List.getElem?_set_self hk]; rfl
    · obtain ⟨q, hq, he⟩ := h
      have hq' : q ∈ is := by
        rcases List.mem_cons.1 hq with rfl | h'
        · exact absurd he e
        · exact h'
      rw [bump_once d is _ k (by rw [List.length_set]; exact hk) hn.2 ⟨q, hq', he⟩, List.getD_eq_getElem?_getD, List.getElem?_set_ne e, ← List.getD_eq_getElem?_getD]
theorem flOf_lt {fs : List Flw} {out : Bool} {node q : Int} (h : q ∈ flOf fs out node) : 0 ≤ q ∧ q.toNat < fs.length := by
  obtain ⟨k, f, rfl, hf, _⟩ := flOf_mem.1 h
  have := (List.getElem?_eq_some_iff.1 hf).1
  exact ⟨by omega, by omega⟩
theorem flOf_nodup (fs : List Flw) (out : Bool) (node : Int) : ((flOf fs out node).map Int.toNat).Nodup := by
  rw [List.Nodup, List.pairwise_map]
  refine (List.Pairwise.imp_of_mem (fun {a b} ha hb h => ?_) (flOf_sorted fs out node))
  have h1 := flOf_lt ha
  have h2 := flOf_lt hb
  omega
theorem takes_mem {x : Int} {ms ids : List Int} {q : Int} (h : q ∈ takesOf x ms ids) : q ∈ ids := (having_sub ms ids).mem ((takes_sub x ms ids).mem h)
theorem takes_len {x : Int} {ms ids : List Int} (h : readyB x ms ids = true) : (takesOf x ms ids).length = if x = 8 then ids.length else 1 := by
  unfold takesOf
  unfold readyB at h
  by_cases hx : x = 8
  · rw [if_pos hx] at h
    rw [if_pos hx, if_pos hx]
    rw [Bool.and_eq_true] at h
    have h2 := having_all.2 h.2
    rw [if_neg (by omega), h2]
  · rw [if_neg hx] at h
    rw [if_neg hx, if_neg hx, List.length_take]
    have : havingOf ms ids ≠ [] := fun e => by rw [having_any.1 e] at h; cases h
    have := List.length_pos_iff.2 this
    omega
/-- A node has gone on: all that is known. -/
structure Fired (ns : List (Int × Int)) (fs : List Flw) (ms : List Int) (node : Int) (vs : List Int) (M : List Int) (k : Nat) (x y : Int) : Prop where
  valid : vProc ns fs = true
  marks : vMarks fs ms = true
  at' : node = (k : Int)
  nd : ns[k]? = some (x, y)
  ready : readyB x ms (flOf fs false (k : Int)) = true
  res : M = behindOf x fs ms vs (k : Int)
  after : vMarks fs M = true
  puts : ∀ q ∈ putsOf x fs vs (k : Int), q ∈ flOf fs true (k : Int)
theorem fired {ns : List (Int × Int)} {fs : List Flw} {ms : List Int} {node : Int} {vs : List Int} {M : List Int} (h : fireOf ns fs ms node vs = some M) : ∃ k x y, Fired ns fs ms node vs M k x y := by
  unfold fireOf at h
  split at h
  case isFalse => cases h
  case isTrue hc =>
    simp only [Bool.and_eq_true] at hc
    obtain ⟨⟨⟨⟨hv, hm⟩, hi⟩, _⟩, hf⟩ := hc
    obtain ⟨i0, i1⟩ := inR_iff.1 hi
    obtain ⟨k, rfl⟩ := Int.eq_ofNat_of_zero_le i0
    have hk : k < ns.length := by omega
    obtain ⟨⟨x, y⟩, hxy⟩ : ∃ p, ns[k]? = some p := ⟨_, List.getElem?_eq_getElem hk⟩
    rw [Int.toNat_natCast, kindAt_is hxy] at hf
    injection h with h
    rw [Int.toNat_natCast, kindAt_is hxy] at h
    simp only [canFire, Bool.and_eq_true] at hf
    obtain ⟨⟨hr, hc⟩, ha⟩ := hf
    refine ⟨k, x, y, hv, hm, rfl, hxy, hr, h.symm, ?_, ?_⟩
    · rw [vMarks, Bool.and_eq_true, ← h]
      exact ⟨by rw [behind_len, marks_len hm]; simp, ha⟩
    · intro q hq
      unfold putsOf at hq
      split at hq
      case isTrue h5 =>
        rw [List.mem_singleton] at hq
        rcases chooseR_mem fs vs (flOf fs true (k : Int)) (-1) with h6 | h6
        · rw [h6] at hc
          simp [h5] at hc
        · rw [hq]; exact h6
      case isFalse => exact hq
section
variable {ns : List (Int × Int)} {fs : List Flw} {ms : List Int} {node : Int} {vs : List Int} {M : List Int} {k : Nat} {x y : Int}
theorem Fired.lt (h : Fired ns fs ms node vs M k x y) : k < ns.length := (List.getElem?_eq_some_iff.1 h.nd).1
theorem Fired.takesLt (h : Fired ns fs ms node vs M k x y) : ∀ q ∈ takesOf x ms (flOf fs false (k : Int)), q.toNat < ms.length := fun q hq => by
  rw [marks_len h.marks]; exact (flOf_lt (takes_mem hq)).2
theorem Fired.putsLt (h : Fired ns fs ms node vs M k x y) : ∀ q ∈ putsOf x fs vs (k : Int), q.toNat < (bump (-1) ms (takesOf x ms (flOf fs false (k : Int)))).length := fun q hq => by
  rw [bump_len, marks_len h.marks]; exact (flOf_lt (h.puts q hq)).2
theorem Fired.sum (h : Fired ns fs ms node vs M k x y) : M.sum = ms.sum - (if x = 8 then ((flOf fs false (k : Int)).length : Int) else 1) + (if x = 5 then 1 else ((flOf fs true (k : Int)).length : Int)) := by
  rw [h.res, behindOf, bump_sum 1 _ _ h.putsLt, bump_sum (-1) _ _ h.takesLt, takes_len h.ready]
  have e : (putsOf x fs vs (k : Int)).length = if x = 5 then 1 else (flOf fs true (k : Int)).length := by
    unfold putsOf
    split <;> rfl
  rw [e]
  split <;> split <;> omega
theorem Fired.other (h : Fired ns fs ms node vs M k x y) {i : Nat} (h1 : inL (flOf fs false (k : Int)) (i : Int) = false) (h2 : inL (flOf fs true (k : Int)) (i : Int) = false) : M.getD i 0 = ms.getD i 0 := by
  have n1 : ∀ q ∈ flOf fs false (k : Int), q.toNat ≠ i := fun q hq e => by
    have h3 := (flOf_lt hq).1
    have : (i : Int) ∈ flOf fs false (k : Int) := by rw [show (i : Int) = q by omega]; exact hq
    rw [inL, List.contains_iff_mem.2 this] at h1; cases h1
  have n2 : ∀ q ∈ flOf fs true (k : Int), q.toNat ≠ i := fun q hq e => by
    have h3 := (flOf_lt hq).1
    have : (i : Int) ∈ flOf fs true (k : Int) := by rw [show (i : Int) = q by omega]; exact hq
    rw [inL, List.contains_iff_mem.2 this] at h2; cases h2
  rw [h.res, behindOf, bump_other _ _ _ (fun q hq => n2 q (h.puts q hq)), bump_other _ _ _ (fun q hq => n1 q (takes_mem hq))]
theorem Fired.fork (h : Fired ns fs ms node vs M k x y) (hx : x ≠ 5) {q : Int} (hq : q ∈ flOf fs true (k : Int)) (h1 : inL (flOf fs false (k : Int)) q = false) : M.getD q.toNat 0 = ms.getD q.toNat 0 + 1 := by
  have hql := flOf_lt hq
  have n1 : ∀ z ∈ flOf fs false (k : Int), z.toNat ≠ q.toNat := fun z hz e => by
    have h3 := (flOf_lt hz).1
    have : q ∈ flOf fs false (k : Int) := by rw [show q = z by omega]; exact hz
    rw [inL, List.contains_iff_mem.2 this] at h1; cases h1
  have e : putsOf x fs vs (k : Int) = flOf fs true (k : Int) := by unfold putsOf; rw [if_neg hx]
  rw [h.res, behindOf, e, bump_once 1 _ _ _ (by rw [bump_len, marks_len h.marks]; exact hql.2) (flOf_nodup _ _ _) ⟨q, hq, rfl⟩, bump_other _ _ _ (fun z hz => n1 z (takes_mem hz))]
theorem Fired.isReady (h : Fired ns fs ms node vs M k x y) : inL (readyOf ns fs ms) node = true := by
  rw [h.at', ready_mem (by rw [h.valid, h.marks]; rfl) h.lt, kindAt_is h.nd]; exact h.ready
theorem Fired.kind (h : Fired ns fs ms node vs M k x y) : vKind x (flOf fs false (k : Int)).length (flOf fs true (k : Int)).length = true := (vProc_node h.valid h.nd).2
theorem Fired.count (h : Fired ns fs ms node vs M k x y) : countOf ns fs M = M.sum := count_yes (by rw [h.valid, h.after]; rfl)
theorem Fired.count0 (h : Fired ns fs ms node vs M k x y) : countOf ns fs ms = ms.sum := count_yes (by rw [h.valid, h.marks]; rfl)
theorem Fired.some_in (h : Fired ns fs ms node vs M k x y) : 1 ≤ (flOf fs false (k : Int)).length := by
  have hr := h.ready
  rcases Nat.eq_zero_or_pos (flOf fs false (k : Int)).length with h0 | h0
  · rw [List.eq_nil_of_length_eq_zero h0, readyB_nil] at hr; cases hr
  · exact h0
theorem Fired.diff (h : Fired ns fs ms node vs M k x y) : M.sum - ms.sum < ((flOf fs true (k : Int)).length : Int) ∧ -(M.sum - ms.sum) ≤ ((flOf fs false (k : Int)).length : Int) := by
  have h1 := h.sum
  have h2 := h.kind
  have h3 := h.some_in
  generalize (flOf fs true (k : Int)).length = b at *
  generalize (flOf fs false (k : Int)).length = a at *
  simp only [vKind] at h2
  by_cases h8 : x = 8
  · subst h8
    simp at h1 h2
    omega
  · rw [if_neg h8] at h1
    by_cases h5 : x = 5
    · subst h5
      simp at h1 h2
      omega
    · rw [if_neg h5] at h1
      omega
end
theorem sum_le {B : Int} : ∀ {ms : List Int}, (∀ z ∈ ms, z ≤ B) → ms.sum ≤ B * (ms.length : Int)
  | [], _ => by simp
  | z :: ms, h => by
    have h1 := h z (by simp)
    have h2 := sum_le (B := B) (ms := ms) fun y hy => h y (by simp [hy])
    have e : ((z :: ms).length : Int) = (ms.length : Int) + 1 := by simp
    rw [List.sum_cons, e, Int.mul_add]; omega
end Go.Proofs.Ytonlkodenfiljaa


/- What the laws on a node that goes on need. -/
namespace Go.Proofs.Ytonlkodenfiljaa
open Go.RowKit

section
variable {w w' : World} {lo hi g : Nat} {An : Option Addr} {nn cn : Nat} {Af : Option Addr} {lf cf : Nat} {ns : List (Int × Int)} {fs : List Flw}
theorem Pc.fireI (h : Pc w g An nn cn Af lf cf ns fs) (lo' hi' n' c' : Nat) (A' : Option Addr) (ms : List Int) (node : Int) (lo5 hi5 n5 c5 : Nat) (A5 : Option Addr) (vs : List Int) (hv : Rd w lo' hi' 1 A' n' (ivs ms)) (hB' : hi' ≤ w.heap.size) (hn' : n' ≤ 1048576) (hw : Rd w lo5 hi5 1 A5 n5 (ivs vs)) (hB5 : hi5 ≤ w.heap.size) (hn5 : n5 ≤ 1048576) :
    Calls Try.prog 24 #[.agg #[.slice An nn cn, .slice Af lf cf], .slice A' n' c', .int .i64 node, .slice A5 n5 c5] w (FreshB ((fireOf ns fs ms node vs).getD []) (fireOf ns fs ms node vs).isSome w) :=
  FireNodeI_ex 0 g nn cn An ns 0 g lf cf Af fs lo' hi' n' c' A' ms node lo5 hi5 n5 c5 A5 vs w h.prs.nodes (Nat.le_of_lt h.lt) (Nat.le_trans h.prs.n21 (by omega)) h.prs.flows (Nat.le_of_lt h.lt) (Nat.le_trans h.prs.f21 (by omega)) hv hB' hn' hw hB5 hn5
theorem Pc.fireS (h : Pc w g An nn cn Af lf cf ns fs) (lo' hi' n' c' : Nat) (A' : Option Addr) (ms : List Int) (node : Int) (lo5 hi5 n5 c5 : Nat) (A5 : Option Addr) (vs : List Int) (hv : Rd w lo' hi' 1 A' n' (ivs ms)) (hB' : hi' ≤ w.heap.size) (hn' : n' ≤ 1048576) (hw : Rd w lo5 hi5 1 A5 n5 (ivs vs)) (hB5 : hi5 ≤ w.heap.size) (hn5 : n5 ≤ 1048576) :
    Calls Try.prog 25 #[.agg #[.slice An nn cn, .slice Af lf cf], .slice A' n' c', .int .i64 node, .slice A5 n5 c5] w (FreshB ((fireOf ns fs ms node vs).getD []) (fireOf ns fs ms node vs).isSome w) :=
  FireNodeS_ex 0 g nn cn An ns 0 g lf cf Af fs lo' hi' n' c' A' ms node lo5 hi5 n5 c5 A5 vs w h.prs.nodes (Nat.le_of_lt h.lt) (Nat.le_trans h.prs.n21 (by omega)) h.prs.flows (Nat.le_of_lt h.lt) (Nat.le_trans h.prs.f21 (by omega)) hv hB' hn' hw hB5 hn5
end
/-- A law stands so: a process in its cell, its tokens, values, and a list. -/
structure Lf (w0 w : World) (g : Nat) (An : Option Addr) (nn cn : Nat) (Af : Option Addr) (lf cf : Nat) (ns : List (Int × Int)) (fs : List Flw) (h1 : Nat) (A1 : Option Addr) (n1 : Nat) (ms : List Int) (h3 : Nat) (A3 : Option Addr) (n3 : Nat) (vs : List Int) (h2 : Nat) (A2 : Option Addr) (n2 : Nat) (M : List Int) : Prop where
  pc : Pc w g An nn cn Af lf cf ns fs
  tok : Rd w 0 h1 1 A1 n1 (ivs ms)
  mh : h1 ≤ w.heap.size
  va : Rd w 0 h3 1 A3 n3 (ivs vs)
  vh : h3 ≤ w.heap.size
  out : Rd w 0 h2 1 A2 n2 (ivs M)
  hh : h2 ≤ w.heap.size
  bel : Below w0.heap.size w0 w
section
variable {w0 w w' : World} {g : Nat} {An : Option Addr} {nn cn : Nat} {Af : Option Addr} {lf cf : Nat} {ns : List (Int × Int)} {fs : List Flw} {h1 : Nat} {A1 : Option Addr} {n1 : Nat} {ms : List Int} {h3 : Nat} {A3 : Option Addr} {n3 : Nat} {vs : List Int} {h2 : Nat} {A2 : Option Addr} {n2 : Nat} {M : List Int}
theorem Lf.below (h : Lf w0 w g An nn cn Af lf cf ns fs h1 A1 n1 ms h3 A3 n3 vs h2 A2 n2 M) (hb : Below w.heap.size w w') : Lf w0 w' g An nn cn Af lf cf ns fs h1 A1 n1 ms h3 A3 n3 vs h2 A2 n2 M :=
  ⟨h.pc.below hb, h.tok.keep hb h.mh, Nat.le_trans h.mh hb.size, h.va.keep hb h.vh, Nat.le_trans h.vh hb.size, h.out.keep hb h.hh, Nat.le_trans h.hh hb.size, up h.bel hb⟩
theorem Lf.drew (h : Lf w0 w g An nn cn Af lf cf ns fs h1 A1 n1 ms h3 A3 n3 vs h2 A2 n2 M) : Lf w0 w.drew g An nn cn Af lf cf ns fs h1 A1 n1 ms h3 A3 n3 vs h2 A2 n2 M := h.below (up_drew (Below.refl _ _))
end
end Go.Proofs.Ytonlkodenfiljaa


/- Two nodes that touch different flows may go on in either order. No program. -/
namespace Go.Proofs.Ytonlkodenfiljaa
open Go.RowKit

/-- What a list of flows adds to a flow's tokens. -/
def cntF (is : List Int) (q : Nat) : Int := ((is.filter fun z => z.toNat == q).length : Int)
theorem cntF_none {is : List Int} {q : Nat} (h : ∀ z ∈ is, z.toNat ≠ q) : cntF is q = 0 := by
  unfold cntF
  rw [List.filter_eq_nil_iff.2 fun z hz => by simpa using h z hz]; rfl
theorem bump_at (d : Int) : ∀ (is ms : List Int) (q : Nat), q < ms.length → (bump d ms is).getD q 0 = ms.getD q 0 + d * cntF is q
  | [], ms, q, _ => by simp [bump, cntF]
  | a :: is, ms, q, h => by
    rw [bump, bump_at d is _ q (by rw [List.length_set]; exact h)]
    by_cases e : a.toNat = q
    · subst e
      have h1 : cntF (a :: is) a.toNat = cntF is a.toNat + 1 := by simp [cntF]
      rw [h1, List.getD_eq_getElem?_getD, List.getElem?_set_self h, Int.mul_add]
      simp only [Option.getD_some]
      omega
    · have h1 : cntF (a :: is) q = cntF is q := by simp [cntF, e]
      rw [h1, List.getD_eq_getElem?_getD, List.getElem?_set_ne e, ← List.getD_eq_getElem?_getD]
/-- What a node changes in a flow's tokens. -/
def delta (x : Int) (fs : List Flw) (ms vs : List Int) (node : Int) (q : Nat) : Int := cntF (putsOf x fs vs node) q - cntF (takesOf x ms (flOf fs false node)) q
theorem behind_at {x : Int} {fs : List Flw} {ms vs : List Int} {node : Int} {q : Nat} (h : q < ms.length) : (behindOf x fs ms vs node).getD q 0 = ms.getD q 0 + delta x fs ms vs node q := by
  unfold behindOf delta
  rw [bump_at 1 _ _ q (by rw [bump_len]; exact h), bump_at (-1) _ _ q h]
  omega
/-- Two lists of tokens agree on these flows. -/
def Agree (a b ids : List Int) : Prop := ∀ q ∈ ids, a.getD q.toNat 0 = b.getD q.toNat 0
theorem Agree.pos {a b ids : List Int} (h : Agree a b ids) : ∀ q ∈ ids, pos a q = pos b q := fun q hq => by unfold Go.Proofs.Ytonlkodenfiljaa.pos; rw [h q hq]
theorem Agree.having {a b ids : List Int} (h : Agree a b ids) : havingOf a ids = havingOf b ids := List.filter_congr h.pos
theorem Agree.takes {a b ids : List Int} (h : Agree a b ids) (x : Int) : takesOf x a ids = takesOf x b ids := by unfold takesOf; rw [h.having]
theorem Agree.ready {a b ids : List Int} (h : Agree a b ids) (x : Int) : readyB x a ids = readyB x b ids := by rw [← takes_ready, ← takes_ready, h.takes]
theorem Agree.delta {a b : List Int} {fs : List Flw} {node : Int} (h : Agree a b (flOf fs false node)) (x : Int) (vs : List Int) (q : Nat) : delta x fs a vs node q = Go.Proofs.Ytonlkodenfiljaa.delta x fs b vs node q := by
  unfold Go.Proofs.Ytonlkodenfiljaa.delta; rw [h.takes]
/-- A node has a flow to put a token on. -/
def putsB (x : Int) (fs : List Flw) (vs : List Int) (node : Int) : Bool := !(x == 5 && decide (chooseR fs vs (flOf fs true node) (-1) < 0))
theorem putsB_mem {x : Int} {fs : List Flw} {vs : List Int} {node : Int} (h : putsB x fs vs node = true) : ∀ q ∈ putsOf x fs vs node, q ∈ flOf fs true node := by
  intro q hq
  unfold putsOf at hq
  split at hq
  case isTrue h5 =>
    rw [List.mem_singleton] at hq
    rcases chooseR_mem fs vs (flOf fs true node) (-1) with h6 | h6
    · unfold putsB at h
      rw [h6] at h
      simp [h5] at h
    · rw [hq]; exact h6
  case isFalse => exact hq
/-- A node changes nothing but its own flows. -/
theorem delta_away {x : Int} {fs : List Flw} {ms vs : List Int} {node : Int} (h : putsB x fs vs node = true) {q : Nat} (h1 : (q : Int) ∉ flOf fs false node) (h2 : (q : Int) ∉ flOf fs true node) : delta x fs ms vs node q = 0 := by
  have n1 : ∀ z ∈ takesOf x ms (flOf fs false node), z.toNat ≠ q := fun z hz e => by
    have h3 := takes_mem hz
    have h4 := (flOf_lt h3).1
    exact h1 (by rw [show (q : Int) = z by omega]; exact h3)
  have n2 : ∀ z ∈ putsOf x fs vs node, z.toNat ≠ q := fun z hz e => by
    have h3 := putsB_mem h z hz
    have h4 := (flOf_lt h3).1
    exact h2 (by rw [show (q : Int) = z by omega]; exact h3)
  unfold delta
  rw [cntF_none n1, cntF_none n2]; omega
def inAll (l : List Int) : Bool := l.all fun m => inR m 0 3
theorem inAll_iff {l : List Int} : inAll l = true ↔ ∀ q, q < l.length → 0 ≤ l.getD q 0 ∧ l.getD q 0 ≤ 3 := by
  unfold inAll
  rw [List.all_eq_true]
  constructor
  · intro h q hq
    have := inR_iff.1 (h l[q] (List.getElem_mem hq))
    rw [List.getD_eq_getElem?_getD, List.getElem?_eq_getElem hq]
    exact this
  · intro h z hz
    obtain ⟨i, hi, rfl⟩ := List.getElem_of_mem hz
    have := h i hi
    rw [List.getD_eq_getElem?_getD, List.getElem?_eq_getElem hi] at this
    exact inR_iff.2 this
theorem getD_ext {a b : List Int} (hl : a.length = b.length) (h : ∀ q, q < a.length → a.getD q 0 = b.getD q 0) : a = b := by
  apply List.ext_getElem? 
  intro i
  by_cases hi : i < a.length
  · have := h i hi
    rw [List.getD_eq_getElem?_getD, List.getD_eq_getElem?_getD, List.getElem?_eq_getElem hi, List.getElem?_eq_getElem (by omega : i < b.length)] at this
    rw [List.getElem?_eq_getElem hi, List.getElem?_eq_getElem (by omega : i < b.length)]
    simp only [Option.getD_some] at this
    rw [this]
  · rw [List.getElem?_eq_none (by omega), List.getElem?_eq_none (by omega)]
theorem canFire_is (x : Int) (fs : List Flw) (ms vs : List Int) (node : Int) : canFire x fs ms vs node = (readyB x ms (flOf fs false node) && putsB x fs vs node && inAll (behindOf x fs ms vs node)) := rfl
/-- The two nodes' flows are not the same. -/
def ApartF (fs : List Flw) (j k : Int) : Prop := ∀ q : Int, (q ∈ flOf fs false j ∨ q ∈ flOf fs true j) → ¬ (q ∈ flOf fs false k ∨ q ∈ flOf fs true k)
theorem ApartF.symm {fs : List Flw} {j k : Int} (h : ApartF fs j k) : ApartF fs k j := fun q h1 h2 => h q h2 h1
theorem agree_behind {x : Int} {fs : List Flw} {ms vs : List Int} {j k : Int} (hl : ms.length = fs.length) (h : ApartF fs j k) (hp : putsB x fs vs k = true) : Agree (behindOf x fs ms vs k) ms (flOf fs false j) := fun q hq => by
  have h1 := flOf_lt hq
  have h2 := h q (.inl hq)
  rw [behind_at (by rw [hl]; exact h1.2), delta_away hp (by rw [show ((q.toNat : Nat) : Int) = q by omega]; exact fun h3 => h2 (.inl h3)) (by rw [show ((q.toNat : Nat) : Int) = q by omega]; exact fun h3 => h2 (.inr h3))]
  omega
/-- In either order, the same. -/
theorem two_ways {ns : List (Int × Int)} {fs : List Flw} {ms vs M : List Int} {k : Nat} {x y : Int} {z : Int} (hF : Fired ns fs ms (k : Int) vs M k x y) (hV : vVals vs = true) (hP : putsB x fs vs (k : Int) = true) (hz : z ∈ readyOf ns fs ms) (ha : ApartF fs z (k : Int)) :
    (fireOf ns fs M z vs).isSome = (fireOf ns fs ms z vs).isSome ∧ ∀ R b, fireOf ns fs M z vs = some R → fireOf ns fs ms z vs = some b → fireOf ns fs b (k : Int) vs = some R := by
  obtain ⟨z0, z1⟩ := ready_mem_lt hz
  obtain ⟨j, rfl⟩ := Int.eq_ofNat_of_zero_le z0
  have hj : j < ns.length := by omega
  obtain ⟨⟨xj, yj⟩, hxy⟩ : ∃ p, ns[j]? = some p := ⟨_, List.getElem?_eq_getElem hj⟩
  have hM := hF.res
  have hml := marks_len hF.marks
  have hMl := marks_len hF.after
  have hrj : inR (j : Int) 0 ((ns.length : Int) - 1) = true := inR_iff.2 ⟨by omega, by omega⟩
  have hrk : inR (k : Int) 0 ((ns.length : Int) - 1) = true := inR_iff.2 ⟨by omega, by have := hF.lt; omega⟩
  have hag : Agree M ms (flOf fs false (j : Int)) := by rw [hM]; exact agree_behind hml ha hP
  rw [fireOf_yes hF.valid hF.after hxy hrj hV, fireOf_yes hF.valid hF.marks hxy hrj hV, canFire_is, canFire_is, hag.ready]
  cases hpj : putsB xj fs vs (j : Int) with
  | false => simp
  | true =>
    have hagk : Agree (behindOf xj fs ms vs (j : Int)) ms (flOf fs false (k : Int)) := agree_behind hml ha.symm hpj
    have e1 : ∀ q, q < fs.length → (behindOf xj fs M vs (j : Int)).getD q 0 = ms.getD q 0 + delta x fs ms vs (k : Int) q + delta xj fs ms vs (j : Int) q := fun q hq => by
      rw [behind_at (by omega), hag.delta, hM, behind_at (by omega)]
    have e2 : ∀ q, q < fs.length → (behindOf xj fs ms vs (j : Int)).getD q 0 = ms.getD q 0 + delta xj fs ms vs (j : Int) q := fun q hq => behind_at (by omega)
    have e3 : ∀ q, q < fs.length → M.getD q 0 = ms.getD q 0 + delta x fs ms vs (k : Int) q := fun q hq => by rw [hM, behind_at (by omega)]
    have hms := inAll_iff.1 (show inAll ms = true from by have := hF.marks; unfold vMarks at this; rw [Bool.and_eq_true] at this; exact this.2)
    have hMs := inAll_iff.1 (show inAll M = true from by have := hF.after; unfold vMarks at this; rw [Bool.and_eq_true] at this; exact this.2)
    have hd : ∀ q, delta x fs ms vs (k : Int) q = 0 ∨ delta xj fs ms vs (j : Int) q = 0 := fun q => by
      by_cases hq : (q : Int) ∈ flOf fs false (j : Int) ∨ (q : Int) ∈ flOf fs true (j : Int)
      · left
        have := ha q hq
        exact delta_away hP (fun h => this (.inl h)) (fun h => this (.inr h))
      · right
        exact delta_away hpj (fun h => hq (.inl h)) (fun h => hq (.inr h))
    have hall : inAll (behindOf xj fs M vs (j : Int)) = inAll (behindOf xj fs ms vs (j : Int)) := by
      rw [Bool.eq_iff_iff, inAll_iff, inAll_iff, behind_len, behind_len, hml, hMl]
      constructor
      · intro h q hq
        have a1 := h q hq
        have a2 := hms q (by omega)
        rw [e1 q hq] at a1
        rw [e2 q hq]
        rcases hd q with h0 | h0 <;> omega
      · intro h q hq
        have a1 := h q hq
        have a2 := hMs q (by omega)
        rw [e2 q hq] at a1
        rw [e3 q hq] at a2
        rw [e1 q hq]
        rcases hd q with h0 | h0 <;> omega
    rw [hall]
    refine ⟨by split <;> rfl, ?_⟩
    intro R b h1 h2
    split at h1
    case isFalse => cases h1
    case isTrue hc =>
      rw [if_pos hc] at h2
      injection h1 with h1
      injection h2 with h2
      rw [Bool.and_eq_true] at hc
      have hbl : b.length = fs.length := by rw [← h2, behind_len]; exact hml
      have hvb : vMarks fs b = true := by
        unfold vMarks
        rw [Bool.and_eq_true]
        exact ⟨by simp [hbl], by rw [← h2]; exact hc.2⟩
      have hagb : Agree b ms (flOf fs false (k : Int)) := by rw [← h2]; exact hagk
      have hR : behindOf x fs b vs (k : Int) = R := by
        rw [← h1]
        apply getD_ext
        · rw [behind_len, behind_len]; omega
        · intro q hq
          rw [behind_len] at hq
          rw [behind_at hq, hagb.delta, e1 q (by omega), ← h2, e2 q (by omega)]
          omega
      rw [fireOf_yes hF.valid hvb hF.nd hrk hV, canFire_is, hagb.ready, hF.ready, hP, hR]
      have : inAll R = true := by rw [← h1, hall]; exact hc.2
      rw [this]; rfl
theorem fired2 {ns : List (Int × Int)} {fs : List Flw} {ms : List Int} {node : Int} {vs M : List Int} (h : fireOf ns fs ms node vs = some M) : ∃ k x y, Fired ns fs ms node vs M k x y ∧ vVals vs = true ∧ putsB x fs vs (k : Int) = true := by
  obtain ⟨k, x, y, hF⟩ := fired h
  refine ⟨k, x, y, hF, ?_⟩
  unfold fireOf at h
  split at h
  case isFalse => cases h
  case isTrue hc =>
    simp only [Bool.and_eq_true] at hc
    obtain ⟨⟨_, hv⟩, hf⟩ := hc
    rw [hF.at', Int.toNat_natCast, kindAt_is hF.nd, canFire_is] at hf
    simp only [Bool.and_eq_true] at hf
    exact ⟨hv, hf.1.2⟩
/-- Whether the first k of these are not among those. -/
def apartB (mine other : List Int) (k : Nat) : Bool := (other.take k).all fun q => !inL mine q
theorem apartB_step {mine other : List Int} {k : Nat} {q : Int} (h : other[k]? = some q) : apartB mine other (k + 1) = (apartB mine other k && !inL mine q) := by
  unfold apartB; rw [take_snoc h, List.all_append]; simp
theorem apartB_all {fs : List Flw} {j k : Int} (h : apartB (flOf fs false k ++ flOf fs true k) (flOf fs false j ++ flOf fs true j) (flOf fs false j ++ flOf fs true j).length = true) : ApartF fs j k := by
  unfold apartB at h
  rw [List.take_length, List.all_eq_true] at h
  intro q hq hk
  have h1 := h q (List.mem_append.2 hq)
  rw [inL, List.contains_iff_mem.2 (List.mem_append.2 hk)] at h1
  cases h1
end Go.Proofs.Ytonlkodenfiljaa

