/- What an argument that is a process reads as. -/
import Derived.Test.YtknphikoikdcjaaGreatLift
import Derived.Test.YtknphikoikdcjaaGreatExProcA
import Derived.Test.YtknphikoikdcjaaGreatBase
import Derived.Lib.SmallJoins
set_option linter.unusedSimpArgs false
set_option linter.unusedVariables false
namespace Go.Proofs.YtknphikoikdcjaaGreat
open Go.ChangeShapes Go.WideShapes Go.ChangeAt Go.RowKit Go.Deep

section
variable {H : Type} {enc : TypeId × Value → H} {P : Program} {W : World} {spare : Nat → Bool} {held : Bool}

/-- A slice of structs of two ints, read as a field. -/
theorem open_pairs_at {t e : TypeId} {fs : Array Field} {f0 f1 : Field} {fuel : Nat} {v : Value} {y : DataW H × List MemPlace} (ht : P.underlying t = some (.slice e)) (he : P.underlying e = some (.struct fs)) (hfs : fs = #[f0, f1]) (h0 : P.underlying f0.type = some (.int .i64)) (h1 : P.underlying f1.type = some (.int .i64))
    (hone : oneCellFields P fs = true) (hC : P.cellsOf e = 2) (h : DataW.trod enc P W 0 spare held fuel t [v] = some y) :
    ∃ A n c ps, v = .slice A n c ∧ n ≤ 9223372036854775807 ∧ Rd W 0 W.heap.size 2 A n (pvs ps) := by
  rcases open_slice_fields ht he hone (by rw [hC, hfs]; rfl) h with ⟨hcs, _⟩ | ⟨a, len, cap, m, D, Pl, hcs, _, hl, hm, hmm, _, hi⟩
  · simp at hcs
    subst hcs
    exact ⟨none, 0, 0, [], rfl, by omega, Rd.nil _ _ _ _ _⟩
  · simp at hcs
    subst hcs
    unfold maxLen at hm
    have hmn : len ≤ m := by rw [hmm]; split <;> omega
    have key : ∀ i, i < len → ∃ x y : Int, W.cell? (a.add (i * 2)) = some (.int .i64 x) ∧ W.cell? (a.add (i * 2 + 1)) = some (.int .i64 y) := by
      intro i hin
      obtain ⟨ys, n, _, _, _, hj⟩ := hi i (by omega)
      obtain ⟨u, y, hc, _, ht0⟩ := hj 0 f0 (by rw [hfs]; rfl)
      obtain ⟨u', y', hc', _, ht1⟩ := hj 1 f1 (by rw [hfs]; rfl)
      obtain ⟨k, e1, _⟩ := DataW.trod_int h0 ht0
      obtain ⟨k', e1', _⟩ := DataW.trod_int h1 ht1
      have e2 : fs.size = 2 := by rw [hfs]; rfl
      rw [e2] at hc hc'
      simp at e1 e1'
      subst e1; subst e1'
      exact ⟨k, k', hc, hc'⟩
    rcases Nat.eq_zero_or_pos len with rfl | hpos
    · exact ⟨_, 0, _, [], rfl, by omega, Rd.nil _ _ _ _ _⟩
    obtain ⟨x0, y0, hc00, _⟩ := key 0 hpos
    obtain ⟨b, off, spot⟩ := a
    have hspot : spot = none := by simpa [Addr.add] using World.cell?_spot hc00
    subst hspot
    have hblt : b < W.heap.size := by
      have := World.block_lt_of_cell? W _ hc00
      rwa [addr_add] at this
    obtain ⟨ps, hpl, hps⟩ := list_of (fun i (q : Int × Int) => W.cell? ⟨b, off + i * 2, none⟩ = some (.int .i64 q.1) ∧ W.cell? ⟨b, off + (i * 2 + 1), none⟩ = some (.int .i64 q.2)) len fun i hi => by
      obtain ⟨x, y, e1, e2⟩ := key i hi
      rw [addr_add] at e1 e2
      exact ⟨(x, y), e1, e2⟩
    refine ⟨_, len, _, ps, rfl, by omega, ?_, fun _ => ⟨b, off, rfl, Nat.zero_le _, hblt, ?_⟩⟩
    · rw [pvs_length, hpl]
    · intro j u hu
      have hjl : j < len * 2 := by
        obtain ⟨hj, _⟩ := List.getElem?_eq_some_iff.1 hu
        rw [pvs_length] at hj; omega
      have hk : j / 2 < ps.length := by omega
      have hg := pvs_get _ (j / 2) hk
      have kx := hps (j / 2) _ (List.getElem?_eq_getElem hk)
      rcases Nat.mod_two_eq_zero_or_one j with hm0 | hm1
      · have ej : j / 2 * 2 = j := by omega
        rw [ej] at hg kx
        rw [hg.1] at hu
        rw [← Option.some.inj hu]
        exact kx.1
      · have ej : j / 2 * 2 + 1 = j := by omega
        rw [ej] at hg kx
        rw [hg.2] at hu
        rw [← Option.some.inj hu]
        exact kx.2

/-- A slice of flows, read as a field. -/
theorem open_flows_at {t e tp ep : TypeId} {fs ps : Array Field} {f0 f1 f2 p0 p1 : Field} {fuel : Nat} {v : Value} {y : DataW H × List MemPlace} (ht : P.underlying t = some (.slice e)) (he : P.underlying e = some (.struct fs)) (hfs : fs = #[f0, f1, f2]) (h0 : P.underlying f0.type = some (.int .i64)) (h1 : P.underlying f1.type = some (.int .i64))
    (h2 : f2.type = tp) (hone : oneCellFields P fs = true) (hC : P.cellsOf e = 3) (htp : P.underlying tp = some (.slice ep)) (hep : P.underlying ep = some (.struct ps)) (hps : ps = #[p0, p1]) (hp0 : P.underlying p0.type = some (.int .i64)) (hp1 : P.underlying p1.type = some (.int .i64)) (honep : oneCellFields P ps = true) (hCp : P.cellsOf ep = 2)
    (h : DataW.trod enc P W 0 spare held fuel t [v] = some y) :
    ∃ A n c fl, v = .slice A n c ∧ n ≤ 9223372036854775807 ∧ FlsU W 0 W.heap.size A n fl := by
  rcases open_slice_fields ht he hone (by rw [hC, hfs]; rfl) h with ⟨hcs, _⟩ | ⟨a, len, cap, m, D, Pl, hcs, _, hl, hm, hmm, _, hi⟩
  · simp at hcs
    subst hcs
    exact ⟨none, 0, 0, [], rfl, by omega, rfl, [], rfl, Rd.nil _ _ _ _ _, fun k f h e => by simp at e⟩
  · simp at hcs
    subst hcs
    unfold maxLen at hm
    have hmn : len ≤ m := by rw [hmm]; split <;> omega
    have key : ∀ i, i < len → ∃ (f : Flw) (h : Hd), W.cell? (a.add (i * 3)) = some (.int .i64 f.1) ∧ W.cell? (a.add (i * 3 + 1)) = some (.int .i64 f.2.1) ∧ W.cell? (a.add (i * 3 + 2)) = some (hdv h) ∧ Rd W 0 W.heap.size 2 h.1 h.2.1 (pvs f.2.2) ∧ h.2.1 ≤ 9223372036854775807 := by
      intro i hin
      obtain ⟨ys, n, _, _, _, hj⟩ := hi i (by omega)
      obtain ⟨u, y, hc, _, ht0⟩ := hj 0 f0 (by rw [hfs]; rfl)
      obtain ⟨u', y', hc', _, ht1⟩ := hj 1 f1 (by rw [hfs]; rfl)
      obtain ⟨u2, y2, hc2, _, ht2⟩ := hj 2 f2 (by rw [hfs]; rfl)
      obtain ⟨k, e1, _⟩ := DataW.trod_int h0 ht0
      obtain ⟨k', e1', _⟩ := DataW.trod_int h1 ht1
      rw [h2] at ht2
      obtain ⟨A', n', c', qs, e3, hn', hr'⟩ := open_pairs_at htp hep hps hp0 hp1 honep hCp ht2
      have e2 : fs.size = 3 := by rw [hfs]; rfl
      rw [e2] at hc hc' hc2
      simp at e1 e1'
      subst e1; subst e1'; subst e3
      exact ⟨(k, k', qs), (A', n', c'), hc, hc', hc2, hr', hn'⟩
    rcases Nat.eq_zero_or_pos len with rfl | hpos
    · exact ⟨_, 0, _, [], rfl, by omega, rfl, [], rfl, Rd.nil _ _ _ _ _, fun k f h e => by simp at e⟩
    obtain ⟨fx, hx, hc00, _⟩ := key 0 hpos
    obtain ⟨b, off, spot⟩ := a
    have hspot : spot = none := by simpa [Addr.add] using World.cell?_spot hc00
    subst hspot
    have hblt : b < W.heap.size := by
      have := World.block_lt_of_cell? W _ hc00
      rwa [addr_add] at this
    obtain ⟨l, hll, hlq⟩ := list_of (fun i (q : Flw × Hd) => W.cell? ⟨b, off + i * 3, none⟩ = some (.int .i64 q.1.1) ∧ W.cell? ⟨b, off + (i * 3 + 1), none⟩ = some (.int .i64 q.1.2.1) ∧ W.cell? ⟨b, off + (i * 3 + 2), none⟩ = some (hdv q.2) ∧
        Rd W 0 W.heap.size 2 q.2.1 q.2.2.1 (pvs q.1.2.2) ∧ q.2.2.1 ≤ 9223372036854775807) len fun i hi => by
      obtain ⟨f, h, e1, e2, e3, e4, e5⟩ := key i hi
      rw [addr_add] at e1 e2 e3
      exact ⟨(f, h), e1, e2, e3, e4, e5⟩
    have hat : ∀ (k : Nat) (f : Flw) (h : Hd), (l.map Prod.fst)[k]? = some f → (l.map Prod.snd)[k]? = some h → l[k]? = some (f, h) := by
      intro k f h e e'
      rw [List.getElem?_map] at e e'
      cases hk : l[k]? with
      | none => rw [hk] at e; cases e
      | some q =>
        rw [hk] at e e'
        simp at e e'
        rw [← e, ← e']
    have hlen3 : (fvs (l.map Prod.fst) (l.map Prod.snd)).length = len * 3 := by
      rw [fvs_length _ _ (by simp), List.length_map, hll]
    refine ⟨_, len, _, l.map Prod.fst, rfl, by omega, by simp [hll], l.map Prod.snd, by simp [hll], ⟨hlen3, fun _ => ⟨b, off, rfl, Nat.zero_le _, hblt, fun j u hu => ?_⟩⟩, fun k f h e e' => ?_⟩
    · have hjl : j < len * 3 := by
        obtain ⟨hj, _⟩ := List.getElem?_eq_some_iff.1 hu
        rw [hlen3] at hj; exact hj
      have hk : j / 3 < l.length := by omega
      have hq := hlq (j / 3) _ (List.getElem?_eq_getElem hk)
      have hg := fvs_get (l.map Prod.fst) (l.map Prod.snd) (j / 3) l[j / 3].1 l[j / 3].2 (by simp [hk]) (by simp [hk])
      rcases (show j % 3 = 0 ∨ j % 3 = 1 ∨ j % 3 = 2 by omega) with hm | hm | hm
      · have ej : j / 3 * 3 = j := by omega
        rw [ej] at hg hq
        rw [hg.1] at hu
        rw [← Option.some.inj hu]
        exact hq.1
      · have ej : j / 3 * 3 + 1 = j := by omega
        rw [ej] at hg hq
        rw [hg.2.1] at hu
        rw [← Option.some.inj hu]
        exact hq.2.1
      · have ej : j / 3 * 3 + 2 = j := by omega
        rw [ej] at hg hq
        rw [hg.2.2] at hu
        rw [← Option.some.inj hu]
        exact hq.2.2.1
    · have := hlq k _ (hat k f h e e')
      exact ⟨this.2.2.2.1, this.2.2.2.2⟩
end

theorem procFields : ∃ f0 f1, Tryz.prog.underlying 25 = some (.struct #[f0, f1]) ∧ f0.type = 22 ∧ f1.type = 23 ∧ oneCellFields Tryz.prog #[f0, f1] = true :=
  ⟨_, _, Tryz.underlying25, rfl, rfl, by kernel_rfl⟩
theorem nodeFields : ∃ f0 f1, Tryz.prog.underlying 169 = some (.struct #[f0, f1]) ∧ Tryz.prog.underlying f0.type = some (.int .i64) ∧ Tryz.prog.underlying f1.type = some (.int .i64) ∧ oneCellFields Tryz.prog #[f0, f1] = true :=
  ⟨_, _, Tryz.underlying169, by kernel_rfl, by kernel_rfl, by kernel_rfl⟩
theorem partFieldsP : ∃ f0 f1, Tryz.prog.underlying 226 = some (.struct #[f0, f1]) ∧ Tryz.prog.underlying f0.type = some (.int .i64) ∧ Tryz.prog.underlying f1.type = some (.int .i64) ∧ oneCellFields Tryz.prog #[f0, f1] = true :=
  ⟨_, _, Tryz.underlying226, by kernel_rfl, by kernel_rfl, by kernel_rfl⟩
theorem flowFields : ∃ f0 f1 f2, Tryz.prog.underlying 158 = some (.struct #[f0, f1, f2]) ∧ Tryz.prog.underlying f0.type = some (.int .i64) ∧ Tryz.prog.underlying f1.type = some (.int .i64) ∧ f2.type = 156 ∧ oneCellFields Tryz.prog #[f0, f1, f2] = true :=
  ⟨_, _, _, Tryz.underlying158, by kernel_rfl, by kernel_rfl, rfl, by kernel_rfl⟩
set_option maxRecDepth 100000 in
/-- An argument that is a process. -/
theorem open_process {H : Type} {enc : TypeId × Value → H} {W : World} {spare : Nat → Bool} {held : Bool} {r : Reach} {b0 : Nat} {v : Value} {d : DataW H} {p : List MemPlace} (hv : Value.okWide Tryz.prog W r b0 25 v) (h : DataW.Trod enc Tryz.prog W 0 spare held 25 v d p) :
    ∃ An nn cn A n c ns fs, v = .agg #[.slice An nn cn, .slice A n c] ∧ nn ≤ 9223372036854775807 ∧ n ≤ 9223372036854775807 ∧ Rd W 0 W.heap.size 2 An nn (pvs ns) ∧ FlsU W 0 W.heap.size A n fs := by
  obtain ⟨f0, f1, hu, e0, e1, hone⟩ := procFields
  obtain ⟨g0, g1, gu, ge0, ge1, gone⟩ := nodeFields
  obtain ⟨p0, p1, pu, pe0, pe1, pone⟩ := partFieldsP
  obtain ⟨q0, q1, q2, qu, qe0, qe1, qe2, qone⟩ := flowFields
  obtain ⟨v0, v1, y0, y1, n, rfl, _, _, t0, t1⟩ := Go.Joins.open_agg2 hu hone (by kernel_rfl) hv h
  rw [e0] at t0
  rw [e1] at t1
  obtain ⟨An, nn, cn, ns, rfl, hn1, hr1⟩ := open_pairs_at Tryz.underlying22 gu rfl ge0 ge1 gone (by kernel_rfl) t0
  obtain ⟨A, n', c, fs, rfl, hn2, hr2⟩ := open_flows_at Tryz.underlying23 qu rfl qe0 qe1 qe2 qone (by kernel_rfl) Tryz.underlying156 pu rfl pe0 pe1 pone (by kernel_rfl) t1
  exact ⟨An, nn, cn, A, n', c, ns, fs, rfl, hn1, hn2, hr1, hr2⟩
end Go.Proofs.YtknphikoikdcjaaGreat
