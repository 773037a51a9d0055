/- Merged: ProcBehind, ProcReachI. -/
import Derived.Test.YtonlkodenfiljaaProcOutI
import Derived.Test.YtonlkodenfiljaaBase
import Derived.Test.YtonlkodenfiljaaStartA
import Derived.Deep.LoopGhost
/- impl.nodesBehind: a search with a queue. -/
set_option linter.unusedSimpArgs false
set_option linter.unusedVariables false
namespace Go.Proofs.Ytonlkodenfiljaa
open Go.RowKit

theorem zeroBool (w : World) : (zeroValue 4).run Try.prog w = .ok (.bool false) w := by kernel_rfl
/-- What stands in the map of those that are found. -/
def foundAt (bh : Int → Bool) (z : Int) : Option Value := if bh z then some (.bool true) else none
theorem foundAt_get (bh : Int → Bool) (z : Int) : (foundAt bh z).getD (.bool false) = .bool (bh z) := by unfold foundAt; cases bh z <;> rfl
theorem foundAt_put (bh : Int → Bool) (y z : Int) : (if z = y then some (Value.bool true) else foundAt bh z) = foundAt (fun z => z == y || bh z) z := by
  unfold foundAt
  by_cases h : z = y
  · simp [h]
  · simp [h]
/-- What nodesBehind leaves. -/
def Behind (fs : List Flw) (a : Int) (w : World) (e : Ending) (w' : World) : Prop :=
  ∃ b m, e = .returned (.map (some b)) ∧ w.heap.size ≤ b ∧ IMap Try.prog 3 w' b m (foundAt fun z => rch1B fs a z) ∧ Below w.heap.size w w'
/-- The state of the search between two rounds; k bounds what is to come. -/
def BfsRel (fs : List Flw) (a : Int) (N : Nat) (w : World) (B M bo : Nat) (vn vf : Value) (k : Nat) (qv : Value) (wr : World) : Prop :=
  ∃ (bh : Int → Bool) (q : List Int) (m : Nat), QRow wr (M + 1) 3 qv q.length (ivs q) ∧ Bfs fs a bh q ∧ (∀ z ∈ q, 0 ≤ z ∧ z < (N : Int)) ∧ IMap Try.prog 3 wr M m (foundAt bh) ∧ m + unfound bh N ≤ N ∧ 2 * unfound bh N + q.length ≤ k ∧ k ≤ 2 * N + 1 ∧
    RowMap Try.prog 3 wr 0 M bo (fun z => flOf fs true z) ∧ Blk wr B 26 #[vn, vf] ∧ Below w.heap.size w wr
/-- In the midst of a round at x: the first j flows out of it are done. -/
def BfsMid (fs : List Flw) (a : Int) (N : Nat) (w : World) (B M bo : Nat) (vn vf : Value) (k : Nat) (x : Int) (j : Nat) (qv : Value) (wr : World) : Prop :=
  ∃ (bh : Int → Bool) (q : List Int) (m : Nat), QRow wr (M + 1) 3 qv (x :: q).length (ivs (x :: q)) ∧ Bfs fs a bh (x :: q) ∧ (∀ z ∈ x :: q, 0 ≤ z ∧ z < (N : Int)) ∧ IMap Try.prog 3 wr M m (foundAt bh) ∧ m + unfound bh N ≤ N ∧ 2 * unfound bh N + (x :: q).length ≤ k ∧ k ≤ 2 * N + 1 ∧
    (∀ (i : Nat) (f : Int) (g : Flw), i < j → (flOf fs true x)[i]? = some f → fs[f.toNat]? = some g → bh g.2.1 = true) ∧
    RowMap Try.prog 3 wr 0 M bo (fun z => flOf fs true z) ∧ Blk wr B 26 #[vn, vf] ∧ Below w.heap.size w wr
theorem unfound_le (bh : Int → Bool) (N : Nat) : unfound bh N ≤ N := by
  have := List.countP_le_length (p := fun (i : Nat) => !bh (i : Int)) (l := List.range N)
  simpa [unfound] using this
/-- All flows out of x are done: the round is over. -/
theorem BfsMid.done {fs : List Flw} {a : Int} {x : Int} {bh : Int → Bool} {q : List Int} (h : Bfs fs a bh (x :: q))
    (hd : ∀ (i : Nat) (f : Int) (g : Flw), i < (flOf fs true x).length → (flOf fs true x)[i]? = some f → fs[f.toNat]? = some g → bh g.2.1 = true) : Bfs fs a bh q := by
  refine h.pop fun c hs => ?_
  obtain ⟨f, hf, h1, rfl⟩ := hs
  obtain ⟨i, hi, e⟩ := List.getElem_of_mem hf
  have hm : (i : Int) ∈ flOf fs true x := flOf_mem.2 ⟨i, f, rfl, by rw [List.getElem?_eq_getElem hi, e], h1⟩
  obtain ⟨j, hj, e2⟩ := List.getElem_of_mem hm
  exact hd j (i : Int) f hj (by rw [List.getElem?_eq_getElem hj, e2]) (by simp [List.getElem?_eq_getElem hi, e])

theorem below_grown {w w' : World} {row : Option Nat} {M : Nat} (h : w.grownBy w' row) (hM : M ≤ w.heap.size) (hr : ∀ j, row = some j → M ≤ j) : Below M w w' :=
  ⟨h.os, h.tape, h.output, h.size, fun i hi => h.block i (by omega) (fun e => by have := hr i e.symm; omega)⟩
theorem ivs_cons (x : Int) (q : List Int) : ivs (x :: q) = .int .i64 x :: ivs q := rfl

set_option maxRecDepth 100000 in
set_option maxHeartbeats 3200000 in
theorem nodesBehind_any (nn cn : Nat) (An : Option Addr) (lo' hi' n c : Nat) (A : Option Addr) (fs : List Flw) (a : Int) (N : Nat) (w : World) (hN : N ≤ 1048576)
    (hr : Fls w lo' hi' A n fs) (hB' : hi' ≤ w.heap.size) (hn : n ≤ 14) (hin : Inside fs N) (ha : 0 ≤ a ∧ a < (N : Int)) :
    Calls Try.prog 40 #[.agg #[.slice An nn cn, .slice A n c], .int .i64 a] w (Behind fs a w) := by
  have HF := Lib.hid hr.1
  have HIN := Lib.hid hin
  have HI := Lib.hid (inside_in64 hin hN)
  have hb1 := up_alloc (Below.refl _ w) (.cells #[.slice An nn cn, .slice A n c] 26)
  have hblk1 := Blk.new w 26 #[.slice An nn cn, .slice A n c]
  have hlt1 := hblk1.lt
  have hmm := @run_makeMap Try.prog
  have HK1 := Lib.hid hblk1
  obtain ⟨i0, hi0, hz0, hz1, hz2⟩ := info_parts infoInt
  obtain ⟨ha0, ha1⟩ := ha
  clear hin hblk1
  go_enter Try.func40, Try.ntmps40
  go_wp2_with (fail)
  (with_reducible refine (mapFlows_any lo' hi' n c A fs _ (hr.keep hb1 hB') (Nat.le_trans hB' hb1.size) hn HI.out).mono ?_)
  rintro e w1 ⟨bo, bi, rfl, hmo, _, hb2⟩
  have hfld0 := fieldMaps0 bo bi w1
  have hb02 := up hb1 hb2
  have hblk2 := HK1.out.below hb2 hlt1
  have hlt2 := hblk2.lt
  have hlt12 : w.heap.size + 1 ≤ w1.heap.size := by have := hb2.size; simp at this; omega
  have hm3 := (IMap.made Try.prog 3 w1).alloc (.cells #[.int .i64 a] 3)
  have hb3 := up_alloc (up_alloc hb02 (.map #[] 0)) (.cells #[.int .i64 a] 3)
  have hblk3 := (hblk2.alloc (.map #[] 0)).alloc (.cells #[.int .i64 a] 3)
  have hmo3 := (hmo.wide (Nat.zero_le _) (Nat.le_refl _)).keep (up_alloc (up_alloc (Below.refl _ w1) (.map #[] 0)) (.cells #[.int .i64 a] 3)) (Nat.le_refl _)
  have hq3 : QRow ((w1.alloc (.map #[] 0)).alloc (.cells #[.int .i64 a] 3)) (w1.heap.size + 1) 3 (.slice (some ⟨w1.heap.size + 1, 0, none⟩) 1 1) 1 [.int .i64 a] := by
    have := QRow.of_blk (base := w1.heap.size + 1) (Blk.new (w1.alloc (.map #[] 0)) 3 #[.int .i64 a]) (by simp) (by unfold maxLen; simp)
    simpa using this
  have HREL : Hid (BfsRel fs a N w w.heap.size w1.heap.size bo (.slice An nn cn) (.slice A n c) (2 * N + 1) (.slice (some ⟨w1.heap.size + 1, 0, none⟩) 1 1) ((w1.alloc (.map #[] 0)).alloc (.cells #[.int .i64 a] 3))) :=
    ⟨fun _ => false, [a], 0, hq3, Bfs.start fs a, fun z hz => by simp at hz; omega, hm3.congr (fun z => by simp [foundAt]), by have := unfound_le (fun _ => false) N; omega, by have := unfound_le (fun _ => false) N; simp; omega, Nat.le_refl _, hmo3, hblk3, hb3⟩
  clear hm3 hb3 hblk3 hmo3 hq3 hmo hb02 hblk2 hb2
  go_wp2
  clear hmm hfld0
  go_loopg [7] (2 * N + 1) (fun gk qv wr => BfsRel fs a N w w.heap.size w1.heap.size bo (.slice An nn cn) (.slice A n c) gk qv wr)
  case atStart => exact HREL.out
  case round =>
    clear HREL
    generalize hM : w1.heap.size = M at *
    obtain ⟨bh, q, m, hq, hbfs, hqr, hmap, hmu, hgk, hkN, hrow, hblk, hbl⟩ := hrel
    have hMlt := hmap.lt
    cases q with
    | nil =>
      obtain ⟨g, off, cap, rfl, _, _, _, _, _⟩ := hq.form
      have HMAP := Lib.hid (hmap.congr (fun z => by unfold foundAt; rw [hbfs.done z]))
      clear hq hbfs hqr hmap hrow hblk
      go_wp2
      go_ret
      exact ⟨M, m, rfl, by omega, HMAP.out, hbl⟩
    | cons x q =>
      obtain ⟨hx0, hx1⟩ := hqr x (by simp)
      have hx64 : in64 x := by unfold in64; omega
      obtain ⟨g, off, cap, hqv, hg1, hg2, hcap, hcap2, hcell⟩ := hq.form
      subst hqv
      have hc0 := hcell 0 _ rfl
      rw [Nat.add_zero] at hc0
      obtain ⟨Ao, co, hlo, hco, hro, _⟩ := hrow.look keyedInt Try.underlying3 Try.underlying48 zeroInts hx64
      have hul := flUp_le fs true x fs.length
      have hGl : (flOf fs true x).length ≤ 14 := by have := HF.out; unfold flOf; omega
      have HMID : Hid (BfsMid fs a N w w.heap.size M bo (.slice An nn cn) (.slice A n c) gk x 0 (.slice (some ⟨g, off, none⟩) (x :: q).length cap) wr) :=
        ⟨bh, q, m, hq, hbfs, hqr, hmap, hmu, hgk, hkN, fun i f g hi => by omega, hrow, hblk, hbl⟩
      have HRO := Lib.hid hro
      have hql : (x :: q).length = q.length + 1 := rfl
      rw [hql] at HMID ⊢
      clear hq hbfs hqr hmap hrow hblk hbl hro hcell hul hql hgk hmu
      go_wp2
      go_loopw [7, 27] (fun qv iv wq => ∃ (j : Nat), j ≤ (flOf fs true x).length ∧ iv = .int .i64 j ∧ Rd wq 0 M 1 Ao (flOf fs true x).length (ivs (flOf fs true x)) ∧ BfsMid fs a N w w.heap.size M bo (.slice An nn cn) (.slice A n c) gk x j qv wq)
         (fun _ iv _ => (flOf fs true x).length - (intOf iv).toNat)
      case atStart => exact ⟨0, by omega, rfl, HRO.out, HMID.out⟩
      case round =>
        clear HMID HRO hc0 hlo
        obtain ⟨j, hj, rfl, hro, bh, q, m, hq, hbfs, hqr, hmap, hmu, hgk, hkN, hdn, hrow, hblk, hbl⟩ := hrel
        have hMlt := hmap.lt
        have hlw := hblk.lt
        by_cases hjn : j < (flOf fs true x).length
        · obtain ⟨b, bo2, f, hAo, hbM, _, hgf, hcf⟩ := hro.one hjn
          subst hAo
          obtain ⟨kf, fl, rfl, hfl, hfe⟩ := flOf_mem.1 (List.mem_of_getElem? hgf)
          have hkf : kf < n := by
            have := (List.getElem?_eq_some_iff.1 hfl).1
            have := HF.out
            omega
          obtain ⟨b3, off3, fx, fy, fps, A3, m3, c3, hA3, hb3, _, hg3, hcx, hcy, hcz, _, _⟩ := (hr.keep hbl hB').at hkf
          subst hA3
          rw [hg3] at hfl
          injection hfl with hfl
          subst hfl
          have hfx : fx = x := hfe
          subst hfx
          obtain ⟨_, _, hy0, hy1⟩ := HIN.out _ (List.mem_of_getElem? hg3)
          simp only at hy0 hy1
          have hy64 : in64 fy := by unfold in64; omega
          have hd1 : wr.cell? ⟨w.heap.size, 1, none⟩ = some (.slice (some ⟨b3, off3, none⟩) n c) := hblk.cell 1
          have hlb := hmap.look keyedInt Try.underlying3 Try.underlying62 (zeroBool wr) hy64 rfl
          rw [foundAt_get] at hlb
          have hnext : ∀ bh' : Int → Bool, (∀ z, bh z = true → bh' z = true) → bh' fy = true → ∀ (i : Nat) (f : Int) (g : Flw), i < j + 1 → (flOf fs true fx)[i]? = some f → fs[f.toNat]? = some g → bh' g.2.1 = true := by
            intro bh' hle hbf i f g hi e e'
            by_cases hij : i = j
            · subst hij
              rw [hgf] at e
              injection e with e
              subst e
              rw [Int.toNat_natCast, hg3] at e'
              injection e' with e'
              subst e'
              exact hbf
            · exact hle _ (hdn i f g (by omega) e e')
          have HN := Lib.hid hnext
          have HG3 := Lib.hid hg3
          by_cases hbv : bh fy = true
          · rw [hbv] at hlb
            have HM := Lib.hid (show BfsMid fs a N w w.heap.size M bo (.slice An nn cn) (.slice (some ⟨b3, off3, none⟩) n c) gk fx (j + 1) _ wr from ⟨bh, q, m, hq, hbfs, hqr, hmap, hmu, hgk, hkN, HN.out bh (fun _ h => h) hbv, hrow, hblk, hbl⟩)
            have HRO := Lib.hid hro
            clear hro hq hbfs hqr hmap hmu hgk hdn hrow hblk hnext hg3 hgf hfe hbv hcx hcz
            go_wp2
            go_roundw
            case rel => exact ⟨j + 1, by omega, by go_num, HRO.out, HM.out⟩
            case measure => simp [intOf]; omega
          · have hbf : bh fy = false := by simpa using hbv
            rw [hbf] at hlb
            have hup := unfound_push hbf hy0 hy1
            obtain ⟨w2, hrun2, hmap2, hgrow2⟩ := hmap.put keyedInt Try.underlying3 Try.underlying62 (by unfold maxLen; omega) hy64 (.bool true)
            have hbM2 := below_grown hgrow2 (Nat.le_of_lt hMlt) (fun i e => by injection e with e; omega)
            have hq2 := (hq.grown hgrow2 (fun i e => by injection e with e; omega)).keep (up_alloc (Below.refl _ w2) (.cells #[.int .i64 fy] 3))
            have hmap3 := hmap2.alloc (.cells #[.int .i64 fy] 3)
            have hbM3 := hbM2.alloc (Nat.le_trans (Nat.le_of_lt hMlt) hgrow2.size) (.cells #[.int .i64 fy] 3)
            have HQ2 := Lib.hid hq2
            have HMAP3 := Lib.hid hmap3
            have HBM3 := Lib.hid hbM3
            have HRO := Lib.hid hro
            have HROW := Lib.hid hrow
            have HBLK := Lib.hid hblk
            have HBFS := Lib.hid (hbfs.push ⟨_, List.mem_of_getElem? hg3, rfl, rfl⟩ : Bfs fs a (fun z => z == fy || bh z) (fx :: q ++ [fy]))
            have HQR : Hid (∀ z ∈ fx :: (q ++ [fy]), 0 ≤ z ∧ z < (N : Int)) := by
              intro z hz
              rw [← List.cons_append, List.mem_append] at hz
              rcases hz with hz | hz
              · exact hqr z hz
              · simp at hz; omega
            have hlq : (fx :: q).length ≤ 1048576 * 4 := by
              have := unfound_le bh N
              omega
            have hs2 := hgrow2.size
            have HGK := Lib.hid hgk
            have HMU := Lib.hid hmu
            have HUP := Lib.hid hup
            have hlen1 : (fx :: q).length = q.length + 1 := rfl
            clear hro hq hbfs hqr hmap hmu hgk hdn hrow hblk hnext hg3 hgf hfe hbv hcx hcz hq2 hmap3 hbM3 hbM2 hup
            go_wp2_with (at_builtin; refine wpList_append_q rfl _ _ 27 rfl Try.underlying27 hi0 hz0 hz1 hz2 rfl rfl HQ2.out _ 1 (.int .i64 fy) rfl (cell_of_row _ _ 0 #[.int .i64 fy] 3 (0, 0) (heap_alloc_new w2 _)) rfl ?c3 ?c4 ?c5 ?_)
            case c3 => unfold maxLen; omega
            case c4 => omega
            case c5 => first | omega | (simp; omega)
            intro v4 w4 g4 hq4 hg4 hgr4
            have hbM4 : Below M w4 w4 := Below.refl _ _
            have hB4 := HBM3.out.trans (below_grown hgr4 (by first | omega | (simp; omega)) (fun i e => by injection e with e; omega))
            have HM : Hid (BfsMid fs a N w w.heap.size M bo (.slice An nn cn) (.slice (some ⟨b3, off3, none⟩) n c) gk fx (j + 1) v4 w4) := by
              refine ⟨fun z => z == fy || bh z, q ++ [fy], m + 1, ?_, HBFS.out, HQR.out, ?_, ?_, ?_, hkN, HN.out _ (fun z h => by show (z == fy || bh z) = true; rw [h]; exact Bool.or_true _) (by show (fy == fy || bh fy) = true; rw [beq_self_eq_true]; rfl), HROW.out.keep hB4 (Nat.le_refl _), HBLK.out.below hB4 (by omega), hbl.trans (hB4.mono (by omega))⟩
              · rw [← List.cons_append, ivs_append, List.length_append]
                exact hq4
              · exact (HMAP3.out.kept hgr4 (fun e => by injection e with e; omega)).congr (foundAt_put bh fy)
              · have h1 := HMU.out; have h2 := HUP.out; omega
              · have h1 := HGK.out; have h2 := HUP.out
                simp only [List.length_cons, List.length_append, List.length_nil] at h1 ⊢
                omega
            have HRO4 := Lib.hid (HRO.out.keep hB4 (Nat.le_refl _))
            clear hq4 hg4 hgr4 hbM4 hB4 HQ2 HMAP3 HBM3 HROW HBLK HBFS HQR HRO hbl
            go_wp2
            go_roundw
            case rel => exact ⟨j + 1, by omega, by go_num, HRO4.out, HM.out⟩
            case measure => simp [intOf]; omega
        · obtain rfl : j = (flOf fs true x).length := by omega
          have HBFS := Lib.hid (BfsMid.done hbfs hdn)
          obtain ⟨g, off, cap, hqv, _, _, hcap, hcap2, _⟩ := hq.form
          subst hqv
          have hql : (x :: q).length = q.length + 1 := rfl
          rw [hql] at hq hcap hgk ⊢
          have ht := hq.tail
          have HT := Lib.hid ht
          have HQR : Hid (∀ z ∈ q, 0 ≤ z ∧ z < (N : Int)) := fun z hz => hqr z (by simp [hz])
          have HMAP := Lib.hid hmap
          have HROW := Lib.hid hrow
          have HBLK := Lib.hid hblk
          by_cases hc1 : cap = 1
          · subst hc1
            obtain rfl : q = [] := List.eq_nil_of_length_eq_zero (by omega)
            clear hq hbfs hqr hmap hrow hblk ht hdn hql
            go_wp2
            go_roundg (2 * unfound bh N)
            case measure => simp at hgk; omega
            case rel => exact ⟨bh, [], m, (HT.out.2 (by trivial)).2, HBFS.out, HQR.out, HMAP.out, hmu, by simp, by simp at hgk; omega, HROW.out, HBLK.out, hbl⟩
          · clear hq hbfs hqr hmap hrow hblk ht hdn hql
            go_wp2
            go_roundg (2 * unfound bh N + q.length)
            case measure => omega
            case rel => exact ⟨bh, q, m, HT.out.1 (by omega), HBFS.out, HQR.out, HMAP.out, hmu, Nat.le_refl _, by omega, HROW.out, HBLK.out, hbl⟩
end Go.Proofs.Ytonlkodenfiljaa


/- impl.Reachable, impl.HasCircle. -/
namespace Go.Proofs.Ytonlkodenfiljaa
open Go.RowKit

theorem startAt_in {ns : List (Int × Int)} {fs : List Flw} (h : vProc ns fs = true) : 0 ≤ startAt ns 0 ∧ startAt ns 0 < (ns.length : Int) := by
  obtain ⟨j, y, e, hs⟩ := startAt_spec ns 0 (by rw [vProc_starts h]; exact Nat.le_refl _)
  have := (List.getElem?_eq_some_iff.1 e).1
  omega
theorem rch_eq (fs : List Flw) (a : Int) (i : Int) : rchB fs a i = (i == a || rch1B fs a i) := by
  rw [Bool.eq_iff_iff]
  simp only [Bool.or_eq_true, beq_iff_eq, rchB_iff, rch1B_iff]
  constructor
  · intro h
    rcases h.cases' with h | h
    · exact .inl h.symm
    · exact .inr h
  · rintro (rfl | h)
    · exact .refl
    · exact h.rch


theorem circUp_no {fs : List Flw} {k : Nat} (h : circUp fs k = false) (hr : rch1B fs (k : Int) (k : Int) = false) : circUp fs (k + 1) = false := by
  unfold circUp at h ⊢
  rw [List.range_succ, List.any_append, h]
  simp [hr]
theorem circUp_yes {fs : List Flw} {k N : Nat} (hr : rch1B fs (k : Int) (k : Int) = true) (hk : k < N) : circUp fs N = true := by
  unfold circUp
  exact List.any_eq_true.2 ⟨k, List.mem_range.2 hk, hr⟩

set_option maxRecDepth 100000 in
set_option maxHeartbeats 3200000 in
theorem HasCircleI_any (lo hi nn cn : Nat) (An : Option Addr) (ns : List (Int × Int)) (lo' hi' n c : Nat) (A : Option Addr) (fs : List Flw) (w : World) (hrn : Rd w lo hi 2 An nn (pvs ns)) (hB : hi ≤ w.heap.size) (hnn : nn ≤ 1048576)
    (hr : Fls w lo' hi' A n fs) (hB' : hi' ≤ w.heap.size) (hn : n ≤ 1048576) :
    Calls Try.prog 20 #[.agg #[.slice An nn cn, .slice A n c]] w fun e w' => e = .returned (.bool (circOf ns fs)) ∧ Below w.heap.size w w' := by
  have hb1 := up_alloc (Below.refl _ w) (.cells #[.slice An nn cn, .slice A n c] 26)
  have hbp := Blk.new w 26 #[.slice An nn cn, .slice A n c]
  have hs0 := hbp.lt
  have HF := Lib.hid hr.1
  have HL := Lib.hid hrn.len2
  have HBP := Lib.hid hbp
  clear hbp
  go_enter Try.func20, Try.ntmps20
  go_wp2_with (fail)
  (with_reducible refine (ValidProcessI_any lo hi nn cn An ns lo' hi' n c A fs _ (hrn.keep hb1 hB) (Nat.le_trans hB hb1.size) hnn (hr.keep hb1 hB') (Nat.le_trans hB' hb1.size) hn).mono ?_)
  rintro e w1 ⟨rfl, hb2⟩
  have hbp2 := HBP.out.below hb2 hs0
  have hb02 := up hb1 hb2
  have hlt2 := hbp2.lt
  clear hb2
  by_cases hV : vProc ns fs = true
  · have HV := Lib.hid hV
    have h14 : n ≤ 14 := by have := HF.out; have := vProc_len hV; omega
    have HU : Hid (circOf ns fs = circUp fs nn) := by rw [Hid, circOf, hV, HL.out]; rfl
    rw [hV]
    have hd0 : w1.cell? ⟨w.heap.size, 0, none⟩ = some (.slice An nn cn) := hbp2.cell 0
    have HBP2 := Lib.hid hbp2
    have HB2 := Lib.hid hb02
    clear hV hbp2 hb02
    go_wp2
    go_loopw [10] (fun iv wr => ∃ (k : Nat), k ≤ nn ∧ iv = .int .i64 k ∧ Hid (circUp fs k = false) ∧ Blk wr w.heap.size 26 #[.slice An nn cn, .slice A n c] ∧ Below w.heap.size w wr)
       (fun iv _ => nn - (intOf iv).toNat)
    case atStart => exact ⟨0, by omega, rfl, rfl, HBP2.out, HB2.out⟩
    case round =>
      clear HBP2 HB2 hd0
      obtain ⟨k, hk, rfl, hS, hblk, hbl⟩ := hrel
      have hlt := hblk.lt
      by_cases hkn : k < nn
      · have hk64 : in64 (k : Int) := by unfold in64; omega
        have e0 : wr.cell? ⟨w.heap.size, 0, none⟩ = some (.slice An nn cn) := hblk.cell 0
        have e1 : wr.cell? ⟨w.heap.size, 1, none⟩ = some (.slice A n c) := hblk.cell 1
        go_wp2_with (fail)
        (with_reducible refine (nodesBehind_any nn cn An lo' hi' n c A fs (k : Int) nn wr hnn (hr.keep hbl hB') (Nat.le_trans hB' hbl.size) h14 (by rw [← HL.out]; exact vProc_inside HV.out) ⟨by omega, by omega⟩).mono ?_)
        rintro e w3 ⟨M, m, rfl, hMlo, hmap, hb4⟩
        have hlb := hmap.look keyedInt Try.underlying3 Try.underlying62 (zeroBool w3) hk64 rfl
        rw [foundAt_get] at hlb
        have HB := Lib.hid (up hbl hb4)
        have HK := Lib.hid (hblk.below hb4 hlt)
        clear hmap hb4 hblk hbl e0 e1
        cases hrv : rch1B fs (k : Int) (k : Int) with
        | true =>
          have HC := Lib.hid (circUp_yes hrv hkn)
          rw [hrv] at hlb
          clear hrv
          go_wp2
          go_ret
          exact ⟨ret_bool (by rw [HU.out, HC.out]), HB.out⟩
        | false =>
          have HC := Lib.hid (circUp_no hS.out hrv)
          rw [hrv] at hlb
          clear hrv hS
          go_wp2
          go_roundw
          case rel => exact ⟨k + 1, by omega, by go_num, HC, HK.out, HB.out⟩
          case measure => simp [intOf]; omega
      · obtain rfl : k = nn := by omega
        clear hblk
        go_wp2
        go_ret
        exact ⟨ret_bool (by rw [HU.out, hS.out]), hbl⟩
  · have hV' : vProc ns fs = false := by simpa using hV
    have HU : Hid (circOf ns fs = false) := by simp [Hid, circOf, hV']
    rw [hV']; clear hV hV' hbp2
    go_wp2
    go_ret
    exact ⟨ret_bool HU.out.symm, hb02⟩
end Go.Proofs.Ytonlkodenfiljaa

