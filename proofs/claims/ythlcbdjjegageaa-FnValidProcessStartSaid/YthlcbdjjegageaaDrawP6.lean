/- The drawing of processes: what is stored into a process; how a function ends that builds one. -/
import Derived.Test.YthlcbdjjegageaaDrawP5
namespace Go.Proofs.Ythlcbdjjegageaa
open Go.RowKit

theorem off_zero (v : Value) : Off v 0 0 := fun g _ => .inr (Nat.zero_le g)
theorem off_new {v : Value} {l u B : Nat} (h : ∀ g, v.ownBlock = some g → B ≤ g) (hu : u ≤ B) : Off v l u := fun g hg => .inr (Nat.le_trans hu (h g hg))
section
variable {Bad : Nat → Prop} {r : Nat} {A : Option Addr} {n c : Nat} {xs : List Int} {g q : Nat} {w w' : World} {An : Option Addr} {ln cn : Nat} {Af : Option Addr} {lf cf : Nat} {ns : List (Int × Int)} {fs : List Flw} {p : Int}

theorem At.k0 (h : At Bad r A n c xs g q w w' An ln cn Af lf cf ns fs p) : w'.cell? ⟨g, 0, none⟩ = some (.slice An ln cn) := h.here.cell 0
theorem At.k1 (h : At Bad r A n c xs g q w w' An ln cn Af lf cf ns fs p) : w'.cell? ⟨g, 1, none⟩ = some (.slice Af lf cf) := h.here.cell 1
theorem At.f0 (h : At Bad r A n c xs g q w w' An ln cn Af lf cf ns fs p) : w'.frozen? ⟨g, 0, none⟩ = false := h.here.soft 0
theorem At.f1 (h : At Bad r A n c xs g q w w' An ln cn Af lf cf ns fs p) : w'.frozen? ⟨g, 1, none⟩ = false := h.here.soft 1
theorem At.r0 (h : At Bad r A n c xs g q w w' An ln cn Af lf cf ns fs p) : w'.cell? ⟨q, 0, none⟩ = some (.slice none 0 0) := h.res.cell 0
theorem At.r1 (h : At Bad r A n c xs g q w w' An ln cn Af lf cf ns fs p) : w'.cell? ⟨q, 1, none⟩ = some (.slice none 0 0) := h.res.cell 1
theorem At.q0 (h : At Bad r A n c xs g q w w' An ln cn Af lf cf ns fs p) : w'.frozen? ⟨q, 0, none⟩ = false := h.res.soft 0
theorem At.q1 (h : At Bad r A n c xs g q w w' An ln cn Af lf cf ns fs p) : w'.frozen? ⟨q, 1, none⟩ = false := h.res.soft 1
theorem At.drew (h : At Bad r A n c xs g q w w' An ln cn Af lf cf ns fs p) : At Bad r A n c xs g q w w'.drew An ln cn Af lf cf ns fs p := h.below (up_drew (Below.refl _ _))

theorem At.addK (h : At Bad r A n c xs g q w w' An ln cn Af lf cf ns fs p) (kd vl : Int) (hn : ln ≤ 1000) :
    Calls Try.prog 88 #[.agg #[.slice An ln cn, .slice Af lf cf], .int .i64 kd, .int .i64 vl] w'
      (fun e w2 => ∃ v, e = .returned (.tuple #[v, .int .i64 (ln : Int)]) ∧ Gave Bad r A n c xs g q w w2 An ln cn Af lf cf ns fs v (ln + 1) lf p) := by
  refine (add_any Bad ln cn lf cf An Af ns fs kd vl w' h.prc h.en.symm hn h.bad).mono ?_
  rintro e w2 ⟨vn, rfl, hP, _, hb⟩
  obtain ⟨An2, cn2, _, _, rfl, _, _⟩ := hP.form
  have h2 := h.below hb
  have e1 : (ns ++ [(kd, vl)]).length = ln + 1 := by rw [List.length_append, List.length_singleton, h.en]
  rw [e1] at hP ⊢
  exact ⟨_, rfl, An2, cn2, Af, cf, ns ++ [(kd, vl)], fs, p, rfl, Int.le_refl _, h2, h2.put hP e1 h.ef, hP, e1, h.ef⟩
theorem At.block (h : At Bad r A n c xs g q w w' An ln cn Af lf cf ns fs p) (fr : Int) (hp : p ≤ 800000) (h100 : ln ≤ 90) (h200 : lf ≤ 90) :
    Calls Try.prog 107 #[.pointer (some ⟨r, 0, none⟩), .agg #[.slice An ln cn, .slice Af lf cf], .int .i64 fr] w'
      (fun e w2 => ∃ v k, e = .returned (.tuple #[v, .int .i64 k]) ∧ Gave Bad r A n c xs g q w w2 An ln cn Af lf cf ns fs v (ln + 4) (lf + 5) (p + 200)) := by
  refine (addBlock_any Bad r A n c xs p ln cn lf cf An Af ns fs fr w' h.rdr hp h.rb h.bad h.prc h.en.symm h.ef.symm h100 h200).mono ?_
  rintro e w2 ⟨An2, cn2, Af2, cf2, ns2, fs2, k, p2, rfl, e1, e2, hP, hR, hp2, hgg⟩
  have h2 := h.moved hgg hR
  rw [h.en] at e1
  rw [h.ef] at e2
  rw [e1, e2] at hP ⊢
  exact ⟨_, _, rfl, An2, cn2, Af2, cf2, ns2, fs2, p2, rfl, hp2, h2, h2.put hP e1 e2, hP, e1, e2⟩
/-- A node more, the process itself as it was: the new one's row is new. -/
theorem At.addV (h : At Bad r A n c xs g q w w' An ln cn Af lf cf ns fs p) (kd vl : Int) (hn : ln ≤ 1000) :
    Calls Try.prog 88 #[.agg #[.slice An ln cn, .slice Af lf cf], .int .i64 kd, .int .i64 vl] w'
      (fun e w2 => ∃ An2 cn2 ns2, e = .returned (.tuple #[.agg #[.slice An2 (ln + 1) cn2, .slice Af lf cf], .int .i64 (ln : Int)]) ∧ At Bad r A n c xs g q w w2 An ln cn Af lf cf ns fs p ∧ Prc w2 Bad (.slice An2 (ln + 1) cn2) (.slice Af lf cf) ns2 fs ∧ ns2.length = ln + 1 ∧
        (∀ g, (Value.slice An2 (ln + 1) cn2).ownBlock = some g → w'.heap.size ≤ g) ∧ Below w'.heap.size w' w2) := by
  refine (add_any Bad ln cn lf cf An Af ns fs kd vl w' h.prc h.en.symm hn h.bad).mono ?_
  rintro e w2 ⟨vn, rfl, hP, hn2, hb⟩
  obtain ⟨An2, cn2, _, _, rfl, _, _⟩ := hP.form
  have e1 : (ns ++ [(kd, vl)]).length = ln + 1 := by rw [List.length_append, List.length_singleton, h.en]
  rw [e1] at hP hn2 ⊢
  exact ⟨An2, cn2, ns ++ [(kd, vl)], rfl, h.below hb, hP, e1, hn2, hb⟩
/-- A flow more, of another process; the result is to be stored into this one's cell. -/
theorem At.linkV (h : At Bad r A n c xs g q w w' An ln cn Af lf cf ns fs p) {An1 : Option Addr} {ln1 cn1 : Nat} {Af1 : Option Addr} {lf1 cf1 : Nat} {ns1 : List (Int × Int)} {fs1 : List Flw}
    (hP : Prc w' Bad (.slice An1 ln1 cn1) (.slice Af1 lf1 cf1) ns1 fs1) (e1 : ns1.length = ln1) (e2 : fs1.length = lf1) (x y : Int) (l u nw cw : Nat) (Aw : Option Addr) (ps : List (Int × Int)) (hf : lf1 ≤ 1000)
    (hw : Rd w' l u 2 Aw nw (pvs ps)) (hl : ∀ b, Bad b → b < l ∨ u ≤ b) (hu : u ≤ w'.heap.size) (hnw : nw ≤ 16) (hoff : Off (.slice An1 ln1 cn1) l u) :
    Calls Try.prog 87 #[.agg #[.slice An1 ln1 cn1, .slice Af1 lf1 cf1], .int .i64 x, .int .i64 y, .slice Aw nw cw] w'
      (fun e w2 => ∃ v, e = .returned v ∧ Gave Bad r A n c xs g q w w2 An ln cn Af lf cf ns fs v ln1 (lf1 + 1) p) := by
  refine (link_any Bad l u ln1 cn1 An1 Af1 Aw lf1 cf1 nw cw ns1 fs1 x y ps w' hP e2.symm hf h.bad hw hl hu hnw hoff).mono ?_
  rintro e w2 ⟨vf, rfl, hP2, hb⟩
  obtain ⟨_, _, Af2, cf2, _, rfl, _⟩ := hP2.form
  have h2 := h.below hb
  have e3 : (fs1 ++ [(x, y, ps)]).length = lf1 + 1 := by rw [List.length_append, List.length_singleton, e2]
  rw [e3] at hP2 ⊢
  exact ⟨_, rfl, An1, cn1, Af2, cf2, ns1, fs1 ++ [(x, y, ps)], p, rfl, Int.le_refl _, h2, h2.put hP2 e1 e3, hP2, e1, e3⟩
/-- A cell of one of the process's rows is stored. -/
theorem At.store (h : At Bad r A n c xs g q w w' An ln cn Af lf cf ns fs p) {a : Addr} {v : Value} {ns' : List (Int × Int)} {fs' : List Flw} (hP : Prc (w'.setCell a v) Bad (.slice An ln cn) (.slice Af lf cf) ns' fs') (e1 : ns'.length = ln) (e2 : fs'.length = lf) (hb : ¬ Bad a.block) (hw : w.heap.size ≤ a.block) :
    At Bad r A n c xs g q w (w'.setCell a v) An ln cn Af lf cf ns' fs' p :=
  ⟨hP, rdr_set h.rdr a v (Nat.lt_of_lt_of_le h.lt hw), but_put h.but (.inr hw) v, h.here.far (fun e => hb (e ▸ h.gb)) v, h.res.far (fun e => hb (e ▸ h.qb)) v, h.lt, fun b q => by simpa [World.setCell] using h.bad b q, h.rb, h.gb, h.qb, h.wg, h.wq, h.ne, e1, e2⟩
/-- The function ends: the process lies in its result's cell. -/
theorem At.done {Bad0 : Nat → Prop} (h : At Bad r A n c xs g q w w' An ln cn Af lf cf ns fs p) {An' : Option Addr} {ln' cn' : Nat} {Af' : Option Addr} {lf' cf' : Nat} {ns' : List (Int × Int)} {fs' : List Flw}
    (hP : Prc w' Bad (.slice An' ln' cn') (.slice Af' lf' cf') ns' fs') (hl : ∀ b, Bad0 b → Bad b) :
    ((w'.setCell ⟨q, 0, none⟩ (.slice An' ln' cn')).setCell ⟨q, 1, none⟩ (.slice Af' lf' cf')).cell? ⟨q, 0, none⟩ = some (.slice An' ln' cn') ∧
    ((w'.setCell ⟨q, 0, none⟩ (.slice An' ln' cn')).setCell ⟨q, 1, none⟩ (.slice Af' lf' cf')).cell? ⟨q, 1, none⟩ = some (.slice Af' lf' cf') ∧
    Hid (Prc ((w'.setCell ⟨q, 0, none⟩ (.slice An' ln' cn')).setCell ⟨q, 1, none⟩ (.slice Af' lf' cf')) Bad0 (.slice An' ln' cn') (.slice Af' lf' cf') ns' fs' ∧ Rdr ((w'.setCell ⟨q, 0, none⟩ (.slice An' ln' cn')).setCell ⟨q, 1, none⟩ (.slice Af' lf' cf')) r A n c xs p ∧ But r w ((w'.setCell ⟨q, 0, none⟩ (.slice An' ln' cn')).setCell ⟨q, 1, none⟩ (.slice Af' lf' cf'))) := by
  have hZ := (h.res.put 0 (.slice An' ln' cn')).put 1 (.slice Af' lf' cf')
  have b0 := hZ.cell 0
  have b1 := hZ.cell 1
  simp at b0 b1
  have hq : r < q := Nat.lt_of_lt_of_le h.lt h.wq
  exact ⟨b0, b1, Lib.hid ⟨((hP.set ⟨q, 0, none⟩ _ h.qb).set ⟨q, 1, none⟩ _ h.qb).less hl, rdr_set (rdr_set h.rdr ⟨q, 0, none⟩ _ hq) ⟨q, 1, none⟩ _ hq, but_put (but_put h.but (p := ⟨q, 0, none⟩) (.inr h.wq) _) (p := ⟨q, 1, none⟩) (.inr h.wq) _⟩⟩
end

/-- A function gave a process that it built. -/
def Drawn (Bad : Nat → Prop) (r : Nat) (A : Option Addr) (n c : Nat) (xs : List Int) (p K : Int) (w : World) (e : Ending) (w' : World) : Prop :=
  ∃ An ln cn Af lf cf ns fs p', e = .returned (.agg #[.slice An ln cn, .slice Af lf cf]) ∧ ns.length = ln ∧ fs.length = lf ∧ 2 ≤ ln ∧ ln ≤ 20 ∧ 1 ≤ lf ∧ lf ≤ 20 ∧
    Prc w' Bad (.slice An ln cn) (.slice Af lf cf) ns fs ∧ Rdr w' r A n c xs p' ∧ p' ≤ p + K ∧ But r w w'

/-! ### What is stored into a process -/
theorem pvs_set1 : ∀ (ns : List (Int × Int)) (k : Nat) (x y v : Int), ns[k]? = some (x, y) → (pvs ns).set (k * 2 + 1) (.int .i64 v) = pvs (ns.set k (x, v))
  | [], k, x, y, v, h => by simp at h
  | m :: ns, 0, x, y, v, h => by
    simp at h
    subst h
    simp [pvs, pv]
  | m :: ns, k + 1, x, y, v, h => by
    have := pvs_set1 ns k x y v (by simpa using h)
    have e : (k + 1) * 2 = k * 2 + 2 := by omega
    rw [e]
    simpa [pvs, pv] using this
theorem fvs_set1 : ∀ (fs : List Flw) (hs : List Hd) (k : Nat) (x y v : Int) (ps : List (Int × Int)), hs.length = fs.length → fs[k]? = some (x, y, ps) → (fvs fs hs).set (k * 3 + 1) (.int .i64 v) = fvs (fs.set k (x, v, ps)) hs
  | [], _, k, x, y, v, ps, _, h => by simp at h
  | _ :: _, [], k, x, y, v, ps, hl, h => by simp at hl
  | f :: fs, d :: hs, 0, x, y, v, ps, hl, h => by
    simp at h
    subst h
    simp [fvs]
  | f :: fs, d :: hs, k + 1, x, y, v, ps, hl, h => by
    have := fvs_set1 fs hs k x y v ps (by simpa using hl) (by simpa using h)
    have e : (k + 1) * 3 = k * 3 + 3 := by omega
    rw [e]
    simpa [fvs] using this
theorem own_raise {w : World} {H : Nat} {e : TypeId} {size : Nat} {v : Value} {n : Nat} {xs : List Value} (h : w.ownsRow 0 e size v n xs) (hv : ∀ g, v.ownBlock = some g → H ≤ g) : w.ownsRow H e size v n xs := by
  rcases h with ⟨h1, h2 | ⟨g, cap, cur, hv', hb, r⟩⟩
  · exact ⟨h1, .inl h2⟩
  · exact ⟨h1, .inr ⟨g, cap, cur, hv', hv g (by rw [hv']; rfl), r⟩⟩
section
variable {Bad : Nat → Prop} {w : World} {ns : List (Int × Int)} {fs : List Flw}
theorem Prc.setNode {gn nn cn : Nat} {vf : Value} (h : Prc w Bad (.slice (some ⟨gn, 0, Option.none⟩) nn cn) vf ns fs) (hnn : nn = ns.length) {k : Nat} {x y : Int} (hk : ns[k]? = some (x, y)) (v : Int) :
    Prc (w.setCell ⟨gn, k * 2 + 1, Option.none⟩ (.int .i64 v)) Bad (.slice (some ⟨gn, 0, Option.none⟩) nn cn) vf (ns.set k (x, v)) fs := by
  subst hnn
  obtain ⟨h1, h2, b1, b2, hs, h3, h4, h5⟩ := h
  have hlow : Low (fun b => b = gn) w (w.setCell ⟨gn, k * 2 + 1, Option.none⟩ (.int .i64 v)) := low_set w _ _ rfl
  have hne : ∀ g, vf.ownBlock = some g → ¬ g = gn := fun g hg e => by
    subst e
    rcases h2 with h2 | h2
    · simp [Value.ownBlock] at h2
    · exact h2 (by rw [hg]; rfl)
  have hst := (h1.stored (k * 2 + 1) (.int .i64 v)).1
  rw [pvs_set1 ns k x y v hk] at hst
  refine ⟨by rw [List.length_set]; exact hst, h2, b1, b2, hs, h3, own_low h4 hne hlow, fun j f d e e' => ?_⟩
  obtain ⟨l, u, q1, q2, q3, q4, q5, q6⟩ := h5 j f d e e'
  exact ⟨l, u, Nat.le_trans q1 hlow.size, q2, rd_low q3 hlow (fun b hb => by subst hb; exact q5 _ rfl) q1, q4, q5, q6⟩
theorem Prc.setTo {gf n c : Nat} {vn : Value} (h : Prc w Bad vn (.slice (some ⟨gf, 0, Option.none⟩) n c) ns fs) (hn : n = fs.length) {k : Nat} {x y : Int} {ps : List (Int × Int)} (hk : fs[k]? = some (x, y, ps)) (v : Int) :
    Prc (w.setCell ⟨gf, k * 3 + 1, Option.none⟩ (.int .i64 v)) Bad vn (.slice (some ⟨gf, 0, Option.none⟩) n c) ns (fs.set k (x, v, ps)) := by
  subst hn
  obtain ⟨h1, h2, b1, b2, hs, h3, h4, h5⟩ := h
  have hlow : Low (fun b => b = gf) w (w.setCell ⟨gf, k * 3 + 1, Option.none⟩ (.int .i64 v)) := low_set w _ _ rfl
  have hne : ∀ g, vn.ownBlock = some g → ¬ g = gf := fun g hg e => by
    subst e
    rcases h2 with h2 | h2
    · rw [h2] at hg; cases hg
    · exact h2 (by rw [hg]; rfl)
  have hst := (h4.stored (k * 3 + 1) (.int .i64 v)).1
  rw [fvs_set1 fs hs k x y v ps h3 hk] at hst
  refine ⟨own_low h1 hne hlow, h2, b1, b2, hs, by simpa using h3, by rw [List.length_set]; exact hst, fun j f d e e' => ?_⟩
  have hw : ∃ f0, fs[j]? = some f0 ∧ f0.2.2 = f.2.2 := by
    by_cases hj : j = k
    · subst hj
      have hlt := (List.getElem?_eq_some_iff.1 hk).1
      rw [List.getElem?_set_self hlt] at e
      injection e with e
      exact ⟨_, hk, by rw [← e]⟩
    · rw [List.getElem?_set_ne (fun e => hj e.symm)] at e
      exact ⟨f, e, rfl⟩
  obtain ⟨f0, ef, ew⟩ := hw
  obtain ⟨l, u, q1, q2, q3, q4, q5, q6⟩ := h5 j f0 d ef e'
  rw [ew] at q3
  exact ⟨l, u, Nat.le_trans q1 hlow.size, q2, rd_low q3 hlow (fun b hb => by subst hb; exact q6 _ rfl) q1, q4, q5, q6⟩
/-- The condition of the first flow is stored. -/
theorem Prc.setWhen {gf n c : Nat} {vn : Value} {f0 : Flw} {fs' : List Flw} (h : Prc w Bad vn (.slice (some ⟨gf, 0, Option.none⟩) n c) ns (f0 :: fs')) (hn : n = (f0 :: fs').length) {d : Hd} {ps : List (Int × Int)} (hd : Wh w Bad vn (.slice (some ⟨gf, 0, Option.none⟩) n c) d ps) :
    Prc (w.setCell ⟨gf, 2, Option.none⟩ (hdv d)) Bad vn (.slice (some ⟨gf, 0, Option.none⟩) n c) ns ((f0.1, f0.2.1, ps) :: fs') := by
  subst hn
  obtain ⟨h1, h2, b1, b2, hs, h3, h4, h5⟩ := h
  have hlow : Low (fun b => b = gf) w (w.setCell ⟨gf, 2, Option.none⟩ (hdv d)) := low_set w _ _ rfl
  have hne : ∀ g, vn.ownBlock = some g → ¬ g = gf := fun g hg e => by
    subst e
    rcases h2 with h2 | h2
    · rw [h2] at hg; cases hg
    · exact h2 (by rw [hg]; rfl)
  have hst := (h4.stored 2 (hdv d)).1
  cases hs with
  | nil => simp at h3
  | cons d0 hs' =>
    refine ⟨own_low h1 hne hlow, h2, b1, b2, d :: hs', by simpa using h3, by simpa [fvs] using hst, fun j f e ef ee => ?_⟩
    have hw : Wh w Bad vn (.slice (some ⟨gf, 0, Option.none⟩) (f0 :: fs').length c) e f.2.2 := by
      cases j with
      | zero =>
        simp at ef ee
        subst ef; subst ee
        exact hd
      | succ j => exact h5 (j + 1) f e (by simpa using ef) (by simpa using ee)
    obtain ⟨l, u, q1, q2, q3, q4, q5, q6⟩ := hw
    exact ⟨l, u, Nat.le_trans q1 hlow.size, q2, rd_low q3 hlow (fun b hb => by subst hb; exact q6 _ rfl) q1, q4, q5, q6⟩
theorem Wh.high {H : Nat} {vn vf : Value} {d : Hd} {ps : List (Int × Int)} (h : Wh w (fun b => b < H) vn vf d ps) : Rd w H w.heap.size 2 d.1 d.2.1 (pvs ps) := by
  obtain ⟨l, u, q1, q2, q3, q4⟩ := h
  refine ⟨q3.1, fun hn => ?_⟩
  obtain ⟨b, off, e, h1, h2, hc⟩ := q3.2 hn
  refine ⟨b, off, e, ?_, by omega, hc⟩
  rcases Nat.lt_or_ge b H with hb | hb
  · have := q2 b hb; omega
  · exact hb
/-- What a process reads as that lies in new blocks. -/
theorem Prc.high {H : Nat} {An A : Option Addr} {nn cn n c : Nat} (h : Prc w (fun b => b < H) (.slice An nn cn) (.slice A n c) ns fs) (hn : nn = ns.length) (hf : n = fs.length) : Rd w H w.heap.size 2 An nn (pvs ns) ∧ Fls w H w.heap.size A n fs := by
  subst hn; subst hf
  obtain ⟨h1, _, b1, b2, hs, h3, h4, h5⟩ := h
  refine ⟨Rd.of_own (own_raise h1 fun g hg => by have := b1 g hg; omega), rfl, hs, h3, Rd.of_own (own_raise h4 fun g hg => by have := b2 g hg; omega), fun k f x e e' => ?_⟩
  have hw := h5 k f x e e'
  obtain ⟨_, _, _, _, _, q4, _⟩ := h5 k f x e e'
  exact ⟨hw.high, by omega⟩
end
theorem fvs_tail : ∀ (fs : List Flw) (hs : List Hd), hs.length = fs.length → (fvs fs hs).drop 3 = fvs fs.tail hs.tail
  | [], _, _ => by simp [fvs]
  | _ :: _, [], h => by simp at h
  | f :: fs, d :: hs, _ => by simp [fvs]
theorem Fls.tail {w : World} {lo hi b off n : Nat} {fs : List Flw} (h : Fls w lo hi (some ⟨b, off, none⟩) (n + 1) fs) : Fls w lo hi (some ⟨b, off + 3, none⟩) n fs.tail := by
  obtain ⟨hl, hs, hl', hr, hc⟩ := h
  have ht := hr.tail
  rw [fvs_tail fs hs (by omega)] at ht
  exact ⟨by simp [hl], hs.tail, by simp [hl'], ht, fun k f d e e' => hc (k + 1) f d (by simpa using e) (by simpa using e')⟩

/-- A drawn process, valid or not, all of it in new blocks. -/
def DrawnP (r : Nat) (A : Option Addr) (n c : Nat) (xs : List Int) (p K : Int) (w : World) (e : Ending) (w' : World) : Prop :=
  ∃ An nn cn Af lf cf ns fs p', e = .returned (.agg #[.slice An nn cn, .slice Af lf cf]) ∧ nn ≤ 21 ∧ lf ≤ 21 ∧ nn ≤ cn ∧ cn ≤ 9223372036854775807 ∧ lf ≤ cf ∧ cf ≤ 9223372036854775807 ∧
    Rd w' w.heap.size w'.heap.size 2 An nn (pvs ns) ∧ Fls w' w.heap.size w'.heap.size Af lf fs ∧ Rdr w' r A n c xs p' ∧ p' ≤ p + K ∧ But r w w'
end Go.Proofs.Ythlcbdjjegageaa
