/- Lists of voters: their cells are those of a list of flows; each log lies within its capacity. And what CountVotes answers. -/
import Derived.Test.YtobjcifoaejonacExInt
import Derived.Test.YtobjcifoaejonacExWithin
import Derived.Test.YtobjcifoaejonacAskS
set_option linter.unusedSimpArgs false
set_option linter.unusedVariables false
namespace Go.Proofs.Ytobjcifoaejonac
open Go.RowKit

def Vls (w : World) (lo hi : Nat) (A : Option Addr) (n : Nat) (fs : List Flw) : Prop :=
  fs.length = n ∧ ∃ hs : List Hd, hs.length = n ∧ Rd w lo hi 3 A n (fvs fs hs) ∧ ∀ (k : Nat) (f : Flw) (h : Hd), fs[k]? = some f → hs[k]? = some h → Rd w lo hi 2 h.1 h.2.1 (pvs f.2.2) ∧ h.2.1 ≤ 1048576 ∧ h.2.1 ≤ h.2.2
theorem Vls.len {w : World} {lo hi : Nat} {A : Option Addr} {n : Nat} {fs : List Flw} (h : Vls w lo hi A n fs) : fs.length = n := h.1
theorem Vls.keep {w w' : World} {lo hi B : Nat} {A : Option Addr} {n : Nat} {fs : List Flw} (h : Vls w lo hi A n fs) (hb : Below B w w') (hB : hi ≤ B) : Vls w' lo hi A n fs := by
  obtain ⟨hl, hs, hl', hr, hc⟩ := h
  exact ⟨hl, hs, hl', hr.keep hb hB, fun k f x e e' => ⟨(hc k f x e e').1.keep hb hB, (hc k f x e e').2⟩⟩
theorem Vls.wide {w : World} {lo hi lo' hi' : Nat} {A : Option Addr} {n : Nat} {fs : List Flw} (h : Vls w lo hi A n fs) (h1 : lo' ≤ lo) (h2 : hi ≤ hi') : Vls w lo' hi' A n fs := by
  obtain ⟨hl, hs, hl', hr, hc⟩ := h
  exact ⟨hl, hs, hl', hr.wide h1 h2, fun k f x e e' => ⟨(hc k f x e e').1.wide h1 h2, (hc k f x e e').2⟩⟩
theorem Vls.nil (w : World) (lo hi : Nat) (A : Option Addr) : Vls w lo hi A 0 [] :=
  ⟨rfl, [], rfl, Rd.nil _ _ _ _ _, fun k f h e _ => by simp at e⟩
/-- The cells of voter k. -/
theorem Vls.at {w : World} {lo hi : Nat} {A : Option Addr} {n : Nat} {fs : List Flw} (h : Vls w lo hi A n fs) {k : Nat} (hk : k < n) :
    ∃ b off x y ps A' m c', A = some ⟨b, off, none⟩ ∧ b < hi ∧ lo ≤ b ∧ fs[k]? = some (x, y, ps) ∧ w.cell? ⟨b, off + k * 3, none⟩ = some (.int .i64 x) ∧ w.cell? ⟨b, off + k * 3 + 1, none⟩ = some (.int .i64 y) ∧
      w.cell? ⟨b, off + k * 3 + 2, none⟩ = some (.slice A' m c') ∧ Rd w lo hi 2 A' m (pvs ps) ∧ m ≤ 1048576 ∧ m ≤ c' := by
  obtain ⟨hl, hs, hl', hr, hc⟩ := h
  obtain ⟨b, off, e, h1, h2, hcl⟩ := hr.2 (by omega)
  have e1 : fs[k]? = some fs[k] := List.getElem?_eq_getElem (by omega)
  have e2 : hs[k]? = some hs[k] := List.getElem?_eq_getElem (by omega)
  have g := fvs_get fs hs k _ _ e1 e2
  have hr2 := hc k _ _ e1 e2
  refine ⟨b, off, fs[k].1, fs[k].2.1, fs[k].2.2, hs[k].1, hs[k].2.1, hs[k].2.2, e, h2, h1, e1, hcl _ _ g.1, ?_, ?_, hr2.1, hr2.2.1, hr2.2.2⟩
  · have := hcl _ _ g.2.1; rwa [← Nat.add_assoc] at this
  · have := hcl _ _ g.2.2; rwa [← Nat.add_assoc] at this
/-- A list of voters under way: a row of the call's own, no log in its block. -/
def VlsO (w : World) (base : Nat) (v : Value) (n : Nat) (fs : List Flw) : Prop :=
  fs.length = n ∧ ∃ hs : List Hd, hs.length = n ∧ w.ownsRow base 25 3 v n (fvs fs hs) ∧ ∀ (k : Nat) (f : Flw) (h : Hd), fs[k]? = some f → hs[k]? = some h → Rd w base w.heap.size 2 h.1 h.2.1 (pvs f.2.2) ∧ h.2.1 ≤ 1048576 ∧ h.2.1 ≤ h.2.2 ∧ ∀ b off, h.1 = some ⟨b, off, none⟩ → 0 < h.2.1 → v.ownBlock ≠ some b
theorem VlsO.nil (w : World) (base : Nat) : VlsO w base (.slice none 0 0) 0 [] :=
  ⟨rfl, [], rfl, World.ownsRow_nil _ _ _ _, fun k f h e _ => by simp at e⟩
theorem VlsO.made {w : World} {base : Nat} {v : Value} (h : w.ownsRow base 25 3 v 0 []) : VlsO w base v 0 [] :=
  ⟨rfl, [], rfl, h, fun k f h e _ => by simp at e⟩
theorem VlsO.keep {w w' : World} {base : Nat} {v : Value} {n : Nat} {fs : List Flw} (h : VlsO w base v n fs) (hb : Below w.heap.size w w') : VlsO w' base v n fs := by
  obtain ⟨hl, hs, hl', hr, hc⟩ := h
  exact ⟨hl, hs, hl', own_keep hr hb, fun k f x e e' => ⟨((hc k f x e e').1.keep hb (Nat.le_refl _)).wide (Nat.le_refl _) hb.size, (hc k f x e e').2⟩⟩
theorem VlsO.form {w : World} {base : Nat} {v : Value} {n : Nat} {fs : List Flw} (h : VlsO w base v n fs) : ∃ A c, v = .slice A n c ∧ n ≤ c ∧ Vls w base w.heap.size A n fs := by
  obtain ⟨hl, hs, hl', hr, hc⟩ := h
  obtain ⟨A, c, e, hk, hrd, _⟩ := own_form hr
  exact ⟨A, c, e, hk, hl, hs, hl', hrd, fun k f x e e' => ⟨(hc k f x e e').1, (hc k f x e e').2.1, (hc k f x e e').2.2.1⟩⟩
theorem VlsO.lt {w : World} {base : Nat} {v : Value} {n : Nat} {fs : List Flw} (h : VlsO w base v n fs) : ∀ k, v.ownBlock = some k → base ≤ k ∧ k < w.heap.size := by
  obtain ⟨hl, hs, hl', hr, hc⟩ := h
  exact fun k hk => hr.lt k hk
theorem VlsO.snoc {w w2 : World} {base n m c N : Nat} (hN : w.heap.size = N) {v v2 : Value} {fs : List Flw} {hs : List Hd} {x y : Int} {A : Option Addr} {ls : List En} (hl : fs.length = n) (hl' : hs.length = n)
    (hc : ∀ (k : Nat) (f : Flw) (h : Hd), fs[k]? = some f → hs[k]? = some h → Rd w base w.heap.size 2 h.1 h.2.1 (pvs f.2.2) ∧ h.2.1 ≤ 1048576 ∧ h.2.1 ≤ h.2.2 ∧ ∀ b off, h.1 = some ⟨b, off, none⟩ → 0 < h.2.1 → v.ownBlock ≠ some b)
    (hg : w.grownBy w2 v.ownBlock) (hat : v2.ownBlock = v.ownBlock ∨ v2.ownBlock = some N) (hown2 : w2.ownsRow base 25 3 v2 (n + 1) (fvs fs hs ++ [.int .i64 x, .int .i64 y, .slice A m c]))
    (hx : Rd w base w.heap.size 2 A m (pvs ls)) (hm : m ≤ 1048576) (hmc : m ≤ c) (hap : ∀ b off, A = some ⟨b, off, none⟩ → 0 < m → v.ownBlock ≠ some b) : VlsO w2 base v2 (n + 1) (fs ++ [(x, y, ls)]) := by
  have one : ∀ (f : Flw) (h : Hd), (Rd w base w.heap.size 2 h.1 h.2.1 (pvs f.2.2) ∧ h.2.1 ≤ 1048576 ∧ h.2.1 ≤ h.2.2 ∧ ∀ b off, h.1 = some ⟨b, off, none⟩ → 0 < h.2.1 → v.ownBlock ≠ some b) → Rd w2 base w2.heap.size 2 h.1 h.2.1 (pvs f.2.2) ∧ h.2.1 ≤ 1048576 ∧ h.2.1 ≤ h.2.2 ∧ ∀ b off, h.1 = some ⟨b, off, none⟩ → 0 < h.2.1 → v2.ownBlock ≠ some b := by
    rintro f h ⟨h1, h2, h3, h4⟩
    refine ⟨(h1.apart hg (Nat.le_refl _) h4).wide (Nat.le_refl _) hg.size, h2, h3, fun b off e hp => ?_⟩
    rcases hat with hh | hh
    · rw [hh]; exact h4 b off e hp
    · obtain ⟨b', off', e', _, hlt⟩ := h1.form hp
      rw [e] at e'
      injection e' with e'
      injection e' with e1 _
      rw [hh]
      intro e2
      injection e2 with e2
      omega
  refine ⟨by simp [hl], hs ++ [(A, m, c)], by simp [hl'], by rw [fvs_snoc _ _ _ _ (by omega)]; exact hown2, fun k f h e e' => ?_⟩
  by_cases hk : k < n
  · rw [List.getElem?_append_left (by omega)] at e e'
    exact one f h (hc k f h e e')
  · have hkn : k = n := by
      obtain ⟨h1, _⟩ := List.getElem?_eq_some_iff.1 e
      simp at h1
      omega
    subst hkn
    rw [List.getElem?_append_right (by omega), hl, Nat.sub_self] at e
    rw [List.getElem?_append_right (by omega), hl', Nat.sub_self] at e'
    simp at e e'
    subst e; subst e'
    exact one (x, y, ls) (A, m, c) ⟨hx, hm, hmc, hap⟩
/-! ### What CountVotes answers -/
def vAsk (c term : Int) (log : List En) : Bool := inR c 0 6 && inR term 1 9 && vLog log
def vVs (fs : List Flw) : Bool := fs.all fun f => vVoter f.1 f.2.1 f.2.2
def gaveOf (fs : List Flw) (c term : Int) (log : List En) : Nat := fs.countP fun f => (askOf f.1 f.2.1 f.2.2 c term log).2
def behindOf (fs : List Flw) (c term : Int) (log : List En) : List Flw := fs.map fun f => (askOf f.1 f.2.1 f.2.2 c term log).1
def countOf (fs : List Flw) (c term : Int) (log : List En) : Int × List Flw :=
  if decide (fs.length ≤ 7) && vAsk c term log && vVs fs then ((gaveOf fs c term log : Int), behindOf fs c term log) else (-1, [])
theorem countOf_no {fs : List Flw} {c term : Int} {log : List En} (h : 7 < fs.length ∨ vAsk c term log = false ∨ vVs fs = false) : countOf fs c term log = (-1, []) := by
  unfold countOf
  rcases h with h | h | h
  · rw [decide_eq_false (by omega)]; rfl
  · rw [h]; simp
  · rw [h]; simp
theorem countOf_yes {fs : List Flw} {c term : Int} {log : List En} (h1 : fs.length ≤ 7) (h2 : vAsk c term log = true) (h3 : vVs fs = true) : countOf fs c term log = ((gaveOf fs c term log : Int), behindOf fs c term log) := by
  unfold countOf
  rw [decide_eq_true h1, h2, h3]; rfl
theorem vVs_step {fs : List Flw} {k : Nat} {f : Flw} (hg : fs[k]? = some f) (h : vVs (fs.take k) = true) (hv : vVoter f.1 f.2.1 f.2.2 = true) : vVs (fs.take (k + 1)) = true := by
  rw [take_snoc hg, vVs, List.all_append]
  rw [vVs] at h
  rw [h]
  simp [hv]
theorem vVs_bad {fs : List Flw} {k : Nat} {f : Flw} (hg : fs[k]? = some f) (hv : vVoter f.1 f.2.1 f.2.2 = false) : vVs fs = false := by
  rw [vVs, List.all_eq_false]
  exact ⟨f, List.mem_of_getElem? hg, by simp [hv]⟩
theorem gaveOf_step {fs : List Flw} {k : Nat} {f : Flw} {c term : Int} {log : List En} (hg : fs[k]? = some f) : gaveOf (fs.take (k + 1)) c term log = gaveOf (fs.take k) c term log + (if (askOf f.1 f.2.1 f.2.2 c term log).2 then 1 else 0) := by
  rw [take_snoc hg, gaveOf, gaveOf, List.countP_append]
  simp [List.countP_cons]
theorem behindOf_step {fs : List Flw} {k : Nat} {f : Flw} {c term : Int} {log : List En} (hg : fs[k]? = some f) : behindOf (fs.take (k + 1)) c term log = behindOf (fs.take k) c term log ++ [(askOf f.1 f.2.1 f.2.2 c term log).1] := by
  rw [take_snoc hg, behindOf, behindOf, List.map_append]; rfl
theorem gaveOf_le (fs : List Flw) (c term : Int) (log : List En) : gaveOf fs c term log ≤ fs.length := List.countP_le_length
theorem behindOf_len (fs : List Flw) (c term : Int) (log : List En) : (behindOf fs c term log).length = fs.length := by simp [behindOf]
/-- CountVotes' answer in memory of the call's own. -/
def VsPost (u : Int × List Flw) (w : World) (e : Ending) (w' : World) : Prop :=
  ∃ A n c, e = .returned (.tuple #[.int .i64 u.1, .slice A n c]) ∧ Vls w' w.heap.size w'.heap.size A n u.2 ∧ n ≤ c ∧ Below w.heap.size w w'
theorem VsPost.no {u : Int × List Flw} {w w' : World} (hu : u = (-1, [])) (hb : Below w.heap.size w w') : VsPost u w (.returned (.tuple #[.int .i64 (-1), .slice none 0 0])) w' := by
  subst hu
  exact ⟨none, 0, 0, rfl, Vls.nil _ _ _ _, Nat.le_refl _, hb⟩
theorem VsPost.yes {u : Int × List Flw} {w w' : World} {g : Int} {fs : List Flw} {v : Value} {n base : Nat} (hu : u = (g, fs)) (hv : VlsO w' base v n fs) (hbase : w.heap.size ≤ base) (hb : Below w.heap.size w w') : VsPost u w (.returned (.tuple #[.int .i64 g, v])) w' := by
  subst hu
  obtain ⟨A, c, rfl, hk, hr⟩ := hv.form
  exact ⟨A, n, c, rfl, hr.wide hbase (Nat.le_refl _), hk, hb⟩
theorem infoVoter : (Try.prog.info? 25).map (fun i => (i.zero, i.size, i.bytes)) = some (some (.agg #[.int .i64 0, .int .i64 0, .slice none 0 0]), 3, 40) := by kernel_rfl
end Go.Proofs.Ytobjcifoaejonac
