/- What the laws on ChooseFlow need. -/
import Derived.Test.YtcckmabdflhfmaaLawProc
import Derived.Test.YtcckmabdflhfmaaDrawP16
import Derived.Test.YtcckmabdflhfmaaTokChooseJ
import Derived.Test.YtcckmabdflhfmaaTokChooseT
namespace Go.Proofs.Ytcckmabdflhfmaa
open Go.RowKit

/-- The condition of a flow holds. -/
def Hld (fs : List Flw) (vs : List Int) (q : Int) : Prop := (fs.getD q.toNat (0, 0, [])).2.2 ≠ [] ∧ evalOf (fs.getD q.toNat (0, 0, [])).2.2 vs ≠ 0
theorem chooseR_hit (fs : List Flw) (vs : List Int) (i : Int) (is : List Int) (rest : Int) (h : Hld fs vs i) : chooseR fs vs (i :: is) rest = i := by
  unfold Hld at h
  rw [chooseR, if_pos h]
theorem chooseR_miss (fs : List Flw) (vs : List Int) (i : Int) (is : List Int) (rest : Int) (h : ¬ Hld fs vs i) : ∃ rest', chooseR fs vs (i :: is) rest = chooseR fs vs is rest' ∧ (rest' = rest ∨ (rest' = i ∧ (fs.getD i.toNat (0, 0, [])).2.2 = [])) := by
  unfold Hld at h
  rw [chooseR, if_neg h]
  refine ⟨_, rfl, ?_⟩
  split
  · exact .inr ⟨rfl, (by rename_i h2; exact h2.1)⟩
  · exact .inl rfl
theorem chooseR_all (fs : List Flw) (vs : List Int) : ∀ (L : List Int) (rest : Int), L.Pairwise (· < ·) →
    ((∃ q ∈ L, Hld fs vs q) → chooseR fs vs L rest ∈ L ∧ Hld fs vs (chooseR fs vs L rest) ∧ ∀ q ∈ L, Hld fs vs q → chooseR fs vs L rest ≤ q) ∧
    ((∀ q ∈ L, ¬ Hld fs vs q) → chooseR fs vs L rest = rest ∨ (chooseR fs vs L rest ∈ L ∧ (fs.getD (chooseR fs vs L rest).toNat (0, 0, [])).2.2 = []))
  | [], rest, _ => ⟨fun ⟨q, hq, _⟩ => by simp at hq, fun _ => .inl rfl⟩
  | i :: is, rest, hs => by
    rw [List.pairwise_cons] at hs
    by_cases h : Hld fs vs i
    · rw [chooseR_hit fs vs i is rest h]
      refine ⟨fun _ => ⟨by simp, h, fun q hq _ => ?_⟩, fun hn => absurd h (hn i (by simp))⟩
      rcases List.mem_cons.1 hq with rfl | hq
      · exact Int.le_refl _
      · have := hs.1 q hq; omega
    · obtain ⟨rest', e, hr⟩ := chooseR_miss fs vs i is rest h
      rw [e]
      obtain ⟨h1, h2⟩ := chooseR_all fs vs is rest' hs.2
      refine ⟨fun ⟨q, hq, hh⟩ => ?_, fun hn => ?_⟩
      · have hq' : q ∈ is := by
          rcases List.mem_cons.1 hq with rfl | hq
          · exact absurd hh h
          · exact hq
        obtain ⟨a, b, c⟩ := h1 ⟨q, hq', hh⟩
        refine ⟨by simp [a], b, fun z hz hzh => ?_⟩
        rcases List.mem_cons.1 hz with rfl | hz
        · exact absurd hzh h
        · exact c z hz hzh
      · rcases h2 fun q hq => hn q (by simp [hq]) with h3 | ⟨h3, h4⟩
        · rcases hr with hr | ⟨hr, he⟩
          · exact .inl (h3.trans hr)
          · refine .inr ⟨by rw [h3, hr]; simp, by rw [h3, hr]; exact he⟩
        · exact .inr ⟨by simp [h3], h4⟩
theorem chooseR_facts {fs : List Flw} {vs : List Int} {L : List Int} (hs : L.Pairwise (· < ·)) (hk : 0 ≤ chooseR fs vs L (-1)) :
    chooseR fs vs L (-1) ∈ L ∧ (∀ q ∈ L, Hld fs vs q → chooseR fs vs L (-1) ≤ q ∧ Hld fs vs (chooseR fs vs L (-1))) ∧ ((fs.getD (chooseR fs vs L (-1)).toNat (0, 0, [])).2.2 ≠ [] → Hld fs vs (chooseR fs vs L (-1))) := by
  obtain ⟨h1, h2⟩ := chooseR_all fs vs L (-1) hs
  by_cases h : ∃ q ∈ L, Hld fs vs q
  · obtain ⟨a, b, c⟩ := h1 h
    exact ⟨a, fun q hq hh => ⟨c q hq hh, b⟩, fun _ => b⟩
  · have hn : ∀ q ∈ L, ¬ Hld fs vs q := fun q hq hh => h ⟨q, hq, hh⟩
    rcases h2 hn with h3 | ⟨h3, h4⟩
    · omega
    · exact ⟨h3, fun q hq hh => absurd hh (hn q hq), fun hne => absurd h4 hne⟩
theorem chooseAt_no {ns : List (Int × Int)} {fs : List Flw} {node : Int} {vs : List Int} (h : 0 ≤ chooseAt ns fs node vs) : ∃ (k : Nat) (y : Int), node = (k : Int) ∧ vProc ns fs = true ∧ ns[k]? = some (5, y) ∧ vVals vs = true ∧ chooseAt ns fs node vs = chooseR fs vs (flOf fs true (k : Int)) (-1) := by
  unfold chooseAt at h ⊢
  split at h
  case isFalse => omega
  case isTrue hc =>
    rw [if_pos hc]
    simp only [Bool.and_eq_true] at hc
    obtain ⟨⟨⟨h1, h2⟩, h3⟩, h4⟩ := hc
    obtain ⟨k, rfl⟩ := Int.eq_ofNat_of_zero_le (inR_iff.1 h2).1
    rw [Int.toNat_natCast] at h3
    cases hk : ns[k]? with
    | none => rw [hk] at h3; cases h3
    | some p =>
      obtain ⟨x, y⟩ := p
      rw [hk] at h3
      have hx : x = 5 := by simpa using h3
      subst hx
      exact ⟨k, y, rfl, h1, hk, h4, rfl⟩
theorem eval_one (vs : List Int) : evalOf [(0, 1)] vs = if vVals vs = true then 1 else 0 := by
  unfold evalOf
  have : vCond [(0, 1)] = true := by decide
  rw [this, Bool.true_and]
  split
  · rfl
  · rfl
section
variable {w w' : World} {lo hi g : Nat} {An : Option Addr} {nn cn : Nat} {Af : Option Addr} {lf cf : Nat} {ns : List (Int × Int)} {fs : List Flw}
theorem Pc.chooseI (h : Pc w g An nn cn Af lf cf ns fs) (node : Int) (lo' hi' n' c' : Nat) (A' : Option Addr) (vs : List Int) (hnode : in64 node) (hv : Rd w lo' hi' 1 A' n' (ivs vs)) (hB' : hi' ≤ w.heap.size) (hn' : n' ≤ 1048576) : Calls Try.prog 38 #[.agg #[.slice An nn cn, .slice Af lf cf], .int .i64 node, .slice A' n' c'] w fun e w' => e = .returned (.int .i64 (chooseAt ns fs node vs)) ∧ Below w.heap.size w w' :=
  ChooseFlowI_any 0 g nn cn An ns 0 g lf cf Af fs node lo' hi' n' c' A' vs w h.prs.nodes (Nat.le_of_lt h.lt) (Nat.le_trans h.prs.n21 (by omega)) h.prs.flows (Nat.le_of_lt h.lt) (Nat.le_trans h.prs.f21 (by omega)) hnode hv hB' hn'
theorem Pc.chooseS (h : Pc w g An nn cn Af lf cf ns fs) (node : Int) (lo' hi' n' c' : Nat) (A' : Option Addr) (vs : List Int) (hv : Rd w lo' hi' 1 A' n' (ivs vs)) (hB' : hi' ≤ w.heap.size) (hn' : n' ≤ 1048576) : Calls Try.prog 39 #[.agg #[.slice An nn cn, .slice Af lf cf], .int .i64 node, .slice A' n' c'] w fun e w' => e = .returned (.int .i64 (chooseAt ns fs node vs)) ∧ Below w.heap.size w w' :=
  ChooseFlowS_any 0 g nn cn An ns 0 g lf cf Af fs node lo' hi' n' c' A' vs w h.prs.nodes (Nat.le_of_lt h.lt) (Nat.le_trans h.prs.n21 (by omega)) h.prs.flows (Nat.le_of_lt h.lt) (Nat.le_trans h.prs.f21 (by omega)) hv hB' hn'
end
/-- A law stands so: a process in its cell, values, and a list. -/
structure Lc (w0 w : World) (g : Nat) (An : Option Addr) (nn cn : Nat) (Af : Option Addr) (lf cf : Nat) (ns : List (Int × Int)) (fs : List Flw) (h3 : Nat) (A3 : Option Addr) (n3 : Nat) (vs : List Int) (h2 : Nat) (A2 : Option Addr) (n2 : Nat) (L : List Int) : Prop where
  pc : Pc w g An nn cn Af lf cf ns fs
  va : Rd w 0 h3 1 A3 n3 (ivs vs)
  vh : h3 ≤ w.heap.size
  out : Rd w 0 h2 1 A2 n2 (ivs L)
  hh : h2 ≤ w.heap.size
  bel : Below w0.heap.size w0 w
section
variable {w0 w w' : World} {g : Nat} {An : Option Addr} {nn cn : Nat} {Af : Option Addr} {lf cf : Nat} {ns : List (Int × Int)} {fs : List Flw} {h3 : Nat} {A3 : Option Addr} {n3 : Nat} {vs : List Int} {h2 : Nat} {A2 : Option Addr} {n2 : Nat} {L : List Int}
theorem Lc.below (h : Lc w0 w g An nn cn Af lf cf ns fs h3 A3 n3 vs h2 A2 n2 L) (hb : Below w.heap.size w w') : Lc w0 w' g An nn cn Af lf cf ns fs h3 A3 n3 vs h2 A2 n2 L :=
  ⟨h.pc.below hb, h.va.keep hb h.vh, Nat.le_trans h.vh hb.size, h.out.keep hb h.hh, Nat.le_trans h.hh hb.size, up h.bel hb⟩
end
end Go.Proofs.Ytcckmabdflhfmaa
