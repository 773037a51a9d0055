/- (running).settled. (Written by gen/runk.py.) -/
import Derived.Test.YtknphikoikdcjaaGreatRunCC
set_option linter.unusedSimpArgs false
set_option linter.unusedVariables false
namespace Go.Proofs.YtknphikoikdcjaaGreat
open Go.RowKit Go.Maps

theorem firstAuto_at {ns : List (Int × Int)} {fs : List Flw} {ms : List Int} {k : Nat} (h : firstAuto ns fs ms = some k) : k < ns.length := (find_got h).1
theorem fire_none {ns : List (Int × Int)} {fs : List Flw} {ms vs : List Int} {k : Nat} {x y : Int} (h1 : vProc ns fs = true) (h2 : vMarks fs ms = true) (hk : ns[k]? = some (x, y)) (h4 : vVals vs = true) (hc : canFire x fs ms vs (k : Int) = false) : fireOf ns fs ms (k : Int) vs = none := by
  rw [fireOf_yes h1 h2 hk (inR_iff.2 (by have := (List.getElem?_eq_some_iff.1 hk).1; omega)) h4, hc]; rfl
theorem fire_some {ns : List (Int × Int)} {fs : List Flw} {ms vs : List Int} {k : Nat} {x y : Int} (h1 : vProc ns fs = true) (h2 : vMarks fs ms = true) (hk : ns[k]? = some (x, y)) (h4 : vVals vs = true) (hc : canFire x fs ms vs (k : Int) = true) : fireOf ns fs ms (k : Int) vs = some (behindOf x fs ms vs (k : Int)) := by
  rw [fireOf_yes h1 h2 hk (inR_iff.2 (by have := (List.getElem?_eq_some_iff.1 hk).1; omega)) h4, hc]; rfl
theorem NetM.at {w w' : World} {ns : List (Int × Int)} {fs : List Flw} {ms ms2 : List Int} {An : Option Addr} {nn : Nat} {Af : Option Addr} {lf bo bi mb m mb2 m2 : Nat} (h : NetM w ns fs ms An nn Af lf bo bi mb m) (hb : Below w.heap.size w w') (hc : MkM Tryz.prog 3 w' mb2 m2 (markAt ms2)) (hm : m2 ≤ 14) (hv : vMarks fs ms2 = true) : NetM w' ns fs ms2 An nn Af lf bo bi mb2 m2 :=
  ⟨rd_up h.nodes hb, (h.flows.keep hb (Nat.le_refl _)).wide (Nat.le_refl _) hb.size, (h.om.keep hb (Nat.le_refl _)).wide (Nat.le_refl _) hb.size, (h.im.keep hb (Nat.le_refl _)).wide (Nat.le_refl _) hb.size, hc, hm, h.vp, hv⟩
theorem imap_eight {P : Program} {kt : TypeId} {w : World} {b n c : Nat} {g : Int → Option Value} {u0 u1 u2 u3 u4 u5 u6 u7 : Value} (h : IMap P kt w b n g) (h2 : b ≠ c) :
    IMap P kt ((((((((w.setCell ⟨c, 0, none⟩ (u0)).setCell ⟨c, 1, none⟩ (u1)).setCell ⟨c, 2, none⟩ (u2)).setCell ⟨c, 3, none⟩ (u3)).setCell ⟨c, 4, none⟩ (u4)).setCell ⟨c, 5, none⟩ (u5)).setCell ⟨c, 6, none⟩ (u6)).setCell ⟨c, 7, none⟩ (u7)) b n g :=
  imap_set (imap_set (imap_set (imap_set (imap_set (imap_set (imap_set (imap_set h (p := ⟨c, 0, none⟩) h2 u0) (p := ⟨c, 1, none⟩) h2 u1) (p := ⟨c, 2, none⟩) h2 u2) (p := ⟨c, 3, none⟩) h2 u3) (p := ⟨c, 4, none⟩) h2 u4) (p := ⟨c, 5, none⟩) h2 u5) (p := ⟨c, 6, none⟩) h2 u6) (p := ⟨c, 7, none⟩) h2 u7
/-- What a running gives back that went on: nothing, or one with these tokens and their timers. -/
def GoPost (ns : List (Int × Int)) (fs : List Flw) (r : Option (List Int)) (ts : List Tm) (An : Option Addr) (nn cn : Nat) (Af : Option Addr) (lf cf bo bi : Nat) (Av : Option Addr) (nv cv : Nat) (cl : Int) (w : World) (e : Ending) (w' : World) : Prop :=
  (r = none ∧ e = .returned (.tuple #[.agg #[.slice none 0 0, .slice none 0 0, .map none, .map none, .map none, .slice none 0 0, .int .i64 0, .slice none 0 0], .bool false]) ∧ Below w.heap.size w w') ∨
  (∃ ms' mb2 m2 A9 c9 us, r = some ms' ∧ e = .returned (.tuple #[.agg #[.slice An nn cn, .slice Af lf cf, .map (some bo), .map (some bi), .map (some mb2), .slice Av nv cv, .int .i64 cl, .slice A9 us.length c9], .bool true]) ∧ NetM w' ns fs ms' An nn Af lf bo bi mb2 m2 ∧ us.Perm (withUp ns fs ms' cl ts nn) ∧ HeapN us us.length ∧ us.length ≤ ts.length + 3 * nn ∧ Rd w' w.heap.size w'.heap.size 2 A9 us.length (pvs us) ∧ Below w.heap.size w w')
set_option maxRecDepth 100000 in
set_option maxHeartbeats 6400000 in
theorem settled_any (An : Option Addr) (nn cn : Nat) (ns : List (Int × Int)) (Af : Option Addr) (lf cf : Nat) (fs : List Flw) (bo bi mb m : Nat) (ms : List Int) (Av : Option Addr) (nv cv : Nat) (vs : List Int) (cl : Int) (At : Option Addr) (nt ct : Nat) (ts : List Tm) (w : World) (hN : NetM w ns fs ms An nn Af lf bo bi mb m) (hnn : nn ≤ 10) (hlf : lf ≤ 1048576) (hv : Rd w 0 w.heap.size 1 Av nv (ivs vs)) (hvv : vVals vs = true) (ht : Rd w 0 w.heap.size 2 At nt (pvs ts)) (hnt : nt ≤ 1000) (h64 : ∀ t ∈ ts, in64 t.1) (hH : HeapN ts ts.length) (hcl : 0 ≤ cl ∧ cl ≤ 20000) :
    Calls Tryz.prog 89 #[.agg #[.slice An nn cn, .slice Af lf cf, .map (some bo), .map (some bi), .map (some mb), .slice Av nv cv, .int .i64 cl, .slice At nt ct]] w (GoPost ns fs (settleM ns fs vs 30 ms) ts An nn cn Af lf cf bo bi Av nv cv cl w) := by
  have hb1 := up_alloc (up_alloc (Below.refl _ w) (.cells #[.slice An nn cn, .slice Af lf cf, .map (some bo), .map (some bi), .map (some mb), .slice Av nv cv, .int .i64 cl, .slice At nt ct] 114)) (.cells #[.slice none 0 0, .slice none 0 0, .map none, .map none, .map none, .slice none 0 0, .int .i64 0, .slice none 0 0] 114)
  have hk1 := (Blk.new w 114 #[.slice An nn cn, .slice Af lf cf, .map (some bo), .map (some bi), .map (some mb), .slice Av nv cv, .int .i64 cl, .slice At nt ct]).alloc (.cells #[.slice none 0 0, .slice none 0 0, .map none, .map none, .map none, .slice none 0 0, .int .i64 0, .slice none 0 0] 114)
  have hk2 : Blk ((w.alloc (.cells #[.slice An nn cn, .slice Af lf cf, .map (some bo), .map (some bi), .map (some mb), .slice Av nv cv, .int .i64 cl, .slice At nt ct] 114)).alloc (.cells #[.slice none 0 0, .slice none 0 0, .map none, .map none, .map none, .slice none 0 0, .int .i64 0, .slice none 0 0] 114)) (w.heap.size + 1) 114 #[.slice none 0 0, .slice none 0 0, .map none, .map none, .map none, .slice none 0 0, .int .i64 0, .slice none 0 0] := by
    simpa using Blk.new (w.alloc (.cells #[.slice An nn cn, .slice Af lf cf, .map (some bo), .map (some bi), .map (some mb), .slice Av nv cv, .int .i64 cl, .slice At nt ct] 114)) 114 #[.slice none 0 0, .slice none 0 0, .map none, .map none, .map none, .slice none 0 0, .int .i64 0, .slice none 0 0]
  have HN0 := Lib.hid hN
  have HV0 := Lib.hid hv
  have HT0 := Lib.hid ht
  have HNW := Lib.hid (hN.keep hb1)
  have hmb0 := hN.cm.lt
  have HVV := Lib.hid hvv
  have H64 := Lib.hid h64
  have HHN := Lib.hid hH
  have HNL := Lib.hid hN.nl
  have HLT := Lib.hid ht.len2
  have HLV := Lib.hid hv.len1
  have h14 := (vProc_len hN.vp).2.2
  have hc1 := hcl.1
  have hc2 := hcl.2
  have hnv : nv ≤ 1048576 := by have := vVals_len hvv; have := hv.len1; omega
  have HB1 := Lib.hid hb1
  have HK1 := Lib.hid hk1
  have HK2 := Lib.hid hk2
  have hs2 : ((w.alloc (.cells #[.slice An nn cn, .slice Af lf cf, .map (some bo), .map (some bi), .map (some mb), .slice Av nv cv, .int .i64 cl, .slice At nt ct] 114)).alloc (.cells #[.slice none 0 0, .slice none 0 0, .map none, .map none, .map none, .slice none 0 0, .int .i64 0, .slice none 0 0] 114)).heap.size = w.heap.size + 1 + 1 := by simp
  clear hb1 hk1 hk2 hN hv ht hcl hvv h64 hH
  go_enter Tryz.func89, Tryz.ntmps89
  go_wp2_with (fail)
  generalize (w.alloc (.cells #[.slice An nn cn, .slice Af lf cf, .map (some bo), .map (some bi), .map (some mb), .slice Av nv cv, .int .i64 cl, .slice At nt ct] 114)).alloc (.cells #[.slice none 0 0, .slice none 0 0, .map none, .map none, .map none, .slice none 0 0, .int .i64 0, .slice none 0 0] 114) = w1 at *
  go_loopw [4] (fun iv wr => ∃ (j mbx mx : Nat) (mk : List Int), j ≤ 30 ∧ mbx ≠ w.heap.size ∧ mbx ≠ w.heap.size + 1 ∧ iv = .int .i64 j ∧ Hid (settleM ns fs vs 30 ms = settleM ns fs vs (30 - j) mk) ∧ Hid (NetM wr ns fs mk An nn Af lf bo bi mbx mx) ∧ Hid (Blk wr w.heap.size 114 #[.slice An nn cn, .slice Af lf cf, .map (some bo), .map (some bi), .map (some mbx), .slice Av nv cv, .int .i64 cl, .slice At nt ct]) ∧ Hid (Blk wr (w.heap.size + 1) 114 #[.slice none 0 0, .slice none 0 0, .map none, .map none, .map none, .slice none 0 0, .int .i64 0, .slice none 0 0]) ∧ Hid (Below w.heap.size w wr) ∧ w.heap.size + 1 + 1 ≤ wr.heap.size)
     (fun iv _ => 30 - (intOf iv).toNat)
  case atStart => exact ⟨0, mb, m, ms, by omega, by omega, by omega, rfl, rfl, HNW.out, HK1.out, HK2.out, HB1.out, by omega⟩
  case round =>
    clear HNW HK1 HK2
    obtain ⟨j, mbx, mx, mk, hj, hm0, hm1, rfl, HS, HN, HK1, HK2, HB, hsz⟩ := hrel
    have HMV := Lib.hid (moving_any An nn cn ns Af lf cf fs bo bi mbx mx mk Av nv cv cl At nt ct wr HN.out (by omega))
    have e0 : wr.cell? ⟨w.heap.size, 0, none⟩ = some (.slice An nn cn) := HK1.out.cell 0
    have e1 : wr.cell? ⟨w.heap.size, 1, none⟩ = some (.slice Af lf cf) := HK1.out.cell 1
    have e2 : wr.cell? ⟨w.heap.size, 2, none⟩ = some (.map (some bo)) := HK1.out.cell 2
    have e3 : wr.cell? ⟨w.heap.size, 3, none⟩ = some (.map (some bi)) := HK1.out.cell 3
    have e4 : wr.cell? ⟨w.heap.size, 4, none⟩ = some (.map (some mbx)) := HK1.out.cell 4
    have e5 : wr.cell? ⟨w.heap.size, 5, none⟩ = some (.slice Av nv cv) := HK1.out.cell 5
    have e6 : wr.cell? ⟨w.heap.size, 6, none⟩ = some (.int .i64 cl) := HK1.out.cell 6
    have e7 : wr.cell? ⟨w.heap.size, 7, none⟩ = some (.slice At nt ct) := HK1.out.cell 7
    go_wp2_with (fail)
    (with_reducible refine HMV.out.mono ?_)
    clear HMV e0 e1 e2 e3 e4 e5 e6 e7
    rintro e w3 ⟨rfl, hb3⟩
    have HB3 := Lib.hid (up HB.out hb3)
    have HN3 := Lib.hid (HN.out.keep hb3)
    have HK3 := Lib.hid (HK1.out.below hb3 HK1.out.lt)
    have HZ3 := Lib.hid (HK2.out.below hb3 HK2.out.lt)
    have hs3 := hb3.size
    clear hb3 HB HN HK1 HK2
    have e0 : w3.cell? ⟨w.heap.size, 0, none⟩ = some (.slice An nn cn) := HK3.out.cell 0
    have e1 : w3.cell? ⟨w.heap.size, 1, none⟩ = some (.slice Af lf cf) := HK3.out.cell 1
    have e2 : w3.cell? ⟨w.heap.size, 2, none⟩ = some (.map (some bo)) := HK3.out.cell 2
    have e3 : w3.cell? ⟨w.heap.size, 3, none⟩ = some (.map (some bi)) := HK3.out.cell 3
    have e4 : w3.cell? ⟨w.heap.size, 4, none⟩ = some (.map (some mbx)) := HK3.out.cell 4
    have e5 : w3.cell? ⟨w.heap.size, 5, none⟩ = some (.slice Av nv cv) := HK3.out.cell 5
    have e6 : w3.cell? ⟨w.heap.size, 6, none⟩ = some (.int .i64 cl) := HK3.out.cell 6
    have e7 : w3.cell? ⟨w.heap.size, 7, none⟩ = some (.slice At nt ct) := HK3.out.cell 7
    cases hfa : firstAuto ns fs mk with
    | none =>
      have HSS := Lib.hid (show settleM ns fs vs 30 ms = some mk from HS.out.trans (settleM_stop _ hfa))
      have HWT := Lib.hid (withTimers_any An nn cn ns Af lf cf fs bo bi mbx mx mk Av nv cv vs cl At nt ct ts w3 HN3.out hnn (rd_up HT0.out HB3.out) hnt H64.out HHN.out ⟨hc1, hc2⟩)
      clear hfa HS
      go_wp2_with (fail)
      (with_reducible refine HWT.out.mono ?_)
      clear HWT e0 e1 e2 e3 e4 e5 e6 e7
      rintro e w5 ⟨A9, c9, us, rfl, hp, hh, hlen, hr, hb5⟩
      have HP := Lib.hid hp
      have HH := Lib.hid hh
      have HB5 := Lib.hid (up HB3.out hb5)
      have HM5 := Lib.hid (HN3.out.cm.keep hb5 HN3.out.cm.lt)
      have HZ5 := Lib.hid (HZ3.out.below hb5 HZ3.out.lt)
      have HR := Lib.hid hr
      clear hp hh hr hb5
      have q0 : w5.cell? ⟨w.heap.size + 1, 0, none⟩ = some (.slice none 0 0) := HZ5.out.cell 0
      have q1 : w5.cell? ⟨w.heap.size + 1, 1, none⟩ = some (.slice none 0 0) := HZ5.out.cell 1
      have q2 : w5.cell? ⟨w.heap.size + 1, 2, none⟩ = some (.map none) := HZ5.out.cell 2
      have q3 : w5.cell? ⟨w.heap.size + 1, 3, none⟩ = some (.map none) := HZ5.out.cell 3
      have q4 : w5.cell? ⟨w.heap.size + 1, 4, none⟩ = some (.map none) := HZ5.out.cell 4
      have q5 : w5.cell? ⟨w.heap.size + 1, 5, none⟩ = some (.slice none 0 0) := HZ5.out.cell 5
      have q6 : w5.cell? ⟨w.heap.size + 1, 6, none⟩ = some (.int .i64 0) := HZ5.out.cell 6
      have q7 : w5.cell? ⟨w.heap.size + 1, 7, none⟩ = some (.slice none 0 0) := HZ5.out.cell 7
      have fq0 := HZ5.out.soft 0
      have fq1 := HZ5.out.soft 1
      have fq2 := HZ5.out.soft 2
      have fq3 := HZ5.out.soft 3
      have fq4 := HZ5.out.soft 4
      have fq5 := HZ5.out.soft 5
      have fq6 := HZ5.out.soft 6
      have fq7 := HZ5.out.soft 7
      have hzz := ((((((((HZ5.out.put 0 (.slice An nn cn)).put 1 (.slice Af lf cf)).put 2 (.map (some bo))).put 3 (.map (some bi))).put 4 (.map (some mbx))).put 5 (.slice Av nv cv)).put 6 (.int .i64 cl)).put 7 (.slice A9 us.length c9))
      have z0 := hzz.cell 0
      have z1 := hzz.cell 1
      have z2 := hzz.cell 2
      have z3 := hzz.cell 3
      have z4 := hzz.cell 4
      have z5 := hzz.cell 5
      have z6 := hzz.cell 6
      have z7 := hzz.cell 7
      simp at z0 z1 z2 z3 z4 z5 z6 z7
      have HBZ := Lib.hid ((((((((HB5.out.setCell (p := ⟨w.heap.size + 1, 0, none⟩) (by show w.heap.size ≤ w.heap.size + 1; omega) (.slice An nn cn)).setCell (p := ⟨w.heap.size + 1, 1, none⟩) (by show w.heap.size ≤ w.heap.size + 1; omega) (.slice Af lf cf)).setCell (p := ⟨w.heap.size + 1, 2, none⟩) (by show w.heap.size ≤ w.heap.size + 1; omega) (.map (some bo))).setCell (p := ⟨w.heap.size + 1, 3, none⟩) (by show w.heap.size ≤ w.heap.size + 1; omega) (.map (some bi))).setCell (p := ⟨w.heap.size + 1, 4, none⟩) (by show w.heap.size ≤ w.heap.size + 1; omega) (.map (some mbx))).setCell (p := ⟨w.heap.size + 1, 5, none⟩) (by show w.heap.size ≤ w.heap.size + 1; omega) (.slice Av nv cv)).setCell (p := ⟨w.heap.size + 1, 6, none⟩) (by show w.heap.size ≤ w.heap.size + 1; omega) (.int .i64 cl)).setCell (p := ⟨w.heap.size + 1, 7, none⟩) (by show w.heap.size ≤ w.heap.size + 1; omega) (.slice A9 us.length c9))
      have HNZ := Lib.hid (HN0.out.at HBZ.out (HM5.out.lift fun _ h => imap_eight (c := w.heap.size + 1) h hm1 : MkM Tryz.prog 3 ((((((((w5.setCell ⟨w.heap.size + 1, 0, none⟩ (.slice An nn cn)).setCell ⟨w.heap.size + 1, 1, none⟩ (.slice Af lf cf)).setCell ⟨w.heap.size + 1, 2, none⟩ (.map (some bo))).setCell ⟨w.heap.size + 1, 3, none⟩ (.map (some bi))).setCell ⟨w.heap.size + 1, 4, none⟩ (.map (some mbx))).setCell ⟨w.heap.size + 1, 5, none⟩ (.slice Av nv cv)).setCell ⟨w.heap.size + 1, 6, none⟩ (.int .i64 cl)).setCell ⟨w.heap.size + 1, 7, none⟩ (.slice A9 us.length c9)) mbx mx (markAt mk)) HN3.out.mm HN3.out.vm)
      have HRZ := Lib.hid (show Rd ((((((((w5.setCell ⟨w.heap.size + 1, 0, none⟩ (.slice An nn cn)).setCell ⟨w.heap.size + 1, 1, none⟩ (.slice Af lf cf)).setCell ⟨w.heap.size + 1, 2, none⟩ (.map (some bo))).setCell ⟨w.heap.size + 1, 3, none⟩ (.map (some bi))).setCell ⟨w.heap.size + 1, 4, none⟩ (.map (some mbx))).setCell ⟨w.heap.size + 1, 5, none⟩ (.slice Av nv cv)).setCell ⟨w.heap.size + 1, 6, none⟩ (.int .i64 cl)).setCell ⟨w.heap.size + 1, 7, none⟩ (.slice A9 us.length c9)) w.heap.size ((((((((w5.setCell ⟨w.heap.size + 1, 0, none⟩ (.slice An nn cn)).setCell ⟨w.heap.size + 1, 1, none⟩ (.slice Af lf cf)).setCell ⟨w.heap.size + 1, 2, none⟩ (.map (some bo))).setCell ⟨w.heap.size + 1, 3, none⟩ (.map (some bi))).setCell ⟨w.heap.size + 1, 4, none⟩ (.map (some mbx))).setCell ⟨w.heap.size + 1, 5, none⟩ (.slice Av nv cv)).setCell ⟨w.heap.size + 1, 6, none⟩ (.int .i64 cl)).setCell ⟨w.heap.size + 1, 7, none⟩ (.slice A9 us.length c9)).heap.size 2 A9 us.length (pvs us) from Rd.wide (Rd.setCell (Rd.setCell (Rd.setCell (Rd.setCell (Rd.setCell (Rd.setCell (Rd.setCell (Rd.setCell HR.out (p := ⟨w.heap.size + 1, 0, none⟩) (.inl (by show w.heap.size + 1 < w3.heap.size; omega)) (.slice An nn cn)) (p := ⟨w.heap.size + 1, 1, none⟩) (.inl (by show w.heap.size + 1 < w3.heap.size; omega)) (.slice Af lf cf)) (p := ⟨w.heap.size + 1, 2, none⟩) (.inl (by show w.heap.size + 1 < w3.heap.size; omega)) (.map (some bo))) (p := ⟨w.heap.size + 1, 3, none⟩) (.inl (by show w.heap.size + 1 < w3.heap.size; omega)) (.map (some bi))) (p := ⟨w.heap.size + 1, 4, none⟩) (.inl (by show w.heap.size + 1 < w3.heap.size; omega)) (.map (some mbx))) (p := ⟨w.heap.size + 1, 5, none⟩) (.inl (by show w.heap.size + 1 < w3.heap.size; omega)) (.slice Av nv cv)) (p := ⟨w.heap.size + 1, 6, none⟩) (.inl (by show w.heap.size + 1 < w3.heap.size; omega)) (.int .i64 cl)) (p := ⟨w.heap.size + 1, 7, none⟩) (.inl (by show w.heap.size + 1 < w3.heap.size; omega)) (.slice A9 us.length c9)) (by omega) (by simp))
      clear hzz
      go_wp2
      exact bodyPost_ret (v := .tuple #[.agg #[.slice An nn cn, .slice Af lf cf, .map (some bo), .map (some bi), .map (some mbx), .slice Av nv cv, .int .i64 cl, .slice A9 us.length c9], .bool true]) (by simp [results, Tryz.results89, go_sem, z0, z1, z2, z3, z4, z5, z6, z7]) rfl (.inr ⟨mk, mbx, mx, A9, c9, us, HSS.out, rfl, HNZ.out, HP.out, HH.out, hlen, HRZ.out, HBZ.out⟩)
    | some k =>
      have hk := firstAuto_at hfa
      rw [HNL.out] at hk
      by_cases hj30 : j = 30
      · subst hj30
        have HSS := Lib.hid (show settleM ns fs vs 30 ms = none from HS.out.trans (settleM_end hfa))
        clear hfa HS
        clear e0 e1 e2 e3 e4 e5 e6 e7
        have q0 : w3.cell? ⟨w.heap.size + 1, 0, none⟩ = some (.slice none 0 0) := HZ3.out.cell 0
        have q1 : w3.cell? ⟨w.heap.size + 1, 1, none⟩ = some (.slice none 0 0) := HZ3.out.cell 1
        have q2 : w3.cell? ⟨w.heap.size + 1, 2, none⟩ = some (.map none) := HZ3.out.cell 2
        have q3 : w3.cell? ⟨w.heap.size + 1, 3, none⟩ = some (.map none) := HZ3.out.cell 3
        have q4 : w3.cell? ⟨w.heap.size + 1, 4, none⟩ = some (.map none) := HZ3.out.cell 4
        have q5 : w3.cell? ⟨w.heap.size + 1, 5, none⟩ = some (.slice none 0 0) := HZ3.out.cell 5
        have q6 : w3.cell? ⟨w.heap.size + 1, 6, none⟩ = some (.int .i64 0) := HZ3.out.cell 6
        have q7 : w3.cell? ⟨w.heap.size + 1, 7, none⟩ = some (.slice none 0 0) := HZ3.out.cell 7
        have fq0 := HZ3.out.soft 0
        have fq1 := HZ3.out.soft 1
        have fq2 := HZ3.out.soft 2
        have fq3 := HZ3.out.soft 3
        have fq4 := HZ3.out.soft 4
        have fq5 := HZ3.out.soft 5
        have fq6 := HZ3.out.soft 6
        have fq7 := HZ3.out.soft 7
        have hzz := ((((((((HZ3.out.put 0 (.slice none 0 0)).put 1 (.slice none 0 0)).put 2 (.map none)).put 3 (.map none)).put 4 (.map none)).put 5 (.slice none 0 0)).put 6 (.int .i64 0)).put 7 (.slice none 0 0))
        have z0 := hzz.cell 0
        have z1 := hzz.cell 1
        have z2 := hzz.cell 2
        have z3 := hzz.cell 3
        have z4 := hzz.cell 4
        have z5 := hzz.cell 5
        have z6 := hzz.cell 6
        have z7 := hzz.cell 7
        simp at z0 z1 z2 z3 z4 z5 z6 z7
        have HBZ := Lib.hid ((((((((HB3.out.setCell (p := ⟨w.heap.size + 1, 0, none⟩) (by show w.heap.size ≤ w.heap.size + 1; omega) (.slice none 0 0)).setCell (p := ⟨w.heap.size + 1, 1, none⟩) (by show w.heap.size ≤ w.heap.size + 1; omega) (.slice none 0 0)).setCell (p := ⟨w.heap.size + 1, 2, none⟩) (by show w.heap.size ≤ w.heap.size + 1; omega) (.map none)).setCell (p := ⟨w.heap.size + 1, 3, none⟩) (by show w.heap.size ≤ w.heap.size + 1; omega) (.map none)).setCell (p := ⟨w.heap.size + 1, 4, none⟩) (by show w.heap.size ≤ w.heap.size + 1; omega) (.map none)).setCell (p := ⟨w.heap.size + 1, 5, none⟩) (by show w.heap.size ≤ w.heap.size + 1; omega) (.slice none 0 0)).setCell (p := ⟨w.heap.size + 1, 6, none⟩) (by show w.heap.size ≤ w.heap.size + 1; omega) (.int .i64 0)).setCell (p := ⟨w.heap.size + 1, 7, none⟩) (by show w.heap.size ≤ w.heap.size + 1; omega) (.slice none 0 0))
        go_wp2
        exact bodyPost_ret (v := .tuple #[.agg #[.slice none 0 0, .slice none 0 0, .map none, .map none, .map none, .slice none 0 0, .int .i64 0, .slice none 0 0], .bool false]) (by simp [results, Tryz.results89, go_sem, z0, z1, z2, z3, z4, z5, z6, z7]) rfl (.inl ⟨HSS.out, rfl, HBZ.out⟩)
      · obtain ⟨b, off, x, y, hA, _, _, hg, _, _⟩ := HN3.out.nodes.pair hk
        have HG := Lib.hid hg
        have HF := Lib.hid (fired_any An nn cn ns Af lf cf fs bo bi mbx mx mk Av nv cv vs cl At nt ct k x y w3 HN3.out (by omega) hlf h14 (rd_up HV0.out HB3.out) hnv hk hg)
        have HFA := Lib.hid hfa
        have hjn : ((j : Int) == 30) = false := by rw [beq_eq_false_iff_ne]; omega
        clear hg hfa hA
        go_wp2_with (fail)
        (with_reducible refine HF.out.mono ?_)
        clear HF e0 e1 e2 e3 e4 e5 e6 e7
        rintro e w4 (⟨hc, rfl, hb4⟩ | ⟨hc, mb2, m2, rfl, hn4, hmb2, hb4⟩)
        · have HSS := Lib.hid (show settleM ns fs vs 30 ms = none from HS.out.trans (settleM_fail HFA.out (fire_none HN3.out.vp HN3.out.vm HG.out HVV.out hc)))
          have HB4 := Lib.hid (up HB3.out hb4)
          have HK4 := Lib.hid (HK3.out.below hb4 HK3.out.lt)
          have HZ4 := Lib.hid (HZ3.out.below hb4 HZ3.out.lt)
          clear hb4 hc HS HK3 HZ3 HN3 HG HFA
          have e0 : w4.cell? ⟨w.heap.size, 0, none⟩ = some (.slice An nn cn) := HK4.out.cell 0
          have e1 : w4.cell? ⟨w.heap.size, 1, none⟩ = some (.slice Af lf cf) := HK4.out.cell 1
          have e2 : w4.cell? ⟨w.heap.size, 2, none⟩ = some (.map (some bo)) := HK4.out.cell 2
          have e3 : w4.cell? ⟨w.heap.size, 3, none⟩ = some (.map (some bi)) := HK4.out.cell 3
          have e4 : w4.cell? ⟨w.heap.size, 4, none⟩ = some (.map (some mbx)) := HK4.out.cell 4
          have e5 : w4.cell? ⟨w.heap.size, 5, none⟩ = some (.slice Av nv cv) := HK4.out.cell 5
          have e6 : w4.cell? ⟨w.heap.size, 6, none⟩ = some (.int .i64 cl) := HK4.out.cell 6
          have e7 : w4.cell? ⟨w.heap.size, 7, none⟩ = some (.slice At nt ct) := HK4.out.cell 7
          have fe0 := HK4.out.soft 0
          have fe1 := HK4.out.soft 1
          have fe2 := HK4.out.soft 2
          have fe3 := HK4.out.soft 3
          have fe4 := HK4.out.soft 4
          have fe5 := HK4.out.soft 5
          have fe6 := HK4.out.soft 6
          have fe7 := HK4.out.soft 7
          have HZ4R := Lib.hid (show Blk ((((((((w4.setCell ⟨w.heap.size, 0, none⟩ (.slice none 0 0)).setCell ⟨w.heap.size, 1, none⟩ (.slice none 0 0)).setCell ⟨w.heap.size, 2, none⟩ (.map none)).setCell ⟨w.heap.size, 3, none⟩ (.map none)).setCell ⟨w.heap.size, 4, none⟩ (.map none)).setCell ⟨w.heap.size, 5, none⟩ (.slice none 0 0)).setCell ⟨w.heap.size, 6, none⟩ (.int .i64 0)).setCell ⟨w.heap.size, 7, none⟩ (.slice none 0 0)) (w.heap.size + 1) 114 #[.slice none 0 0, .slice none 0 0, .map none, .map none, .map none, .slice none 0 0, .int .i64 0, .slice none 0 0] from (Blk.far (Blk.far (Blk.far (Blk.far (Blk.far (Blk.far (Blk.far (Blk.far HZ4.out (p := ⟨w.heap.size, 0, none⟩) (by show w.heap.size + 1 ≠ w.heap.size; omega) (.slice none 0 0)) (p := ⟨w.heap.size, 1, none⟩) (by show w.heap.size + 1 ≠ w.heap.size; omega) (.slice none 0 0)) (p := ⟨w.heap.size, 2, none⟩) (by show w.heap.size + 1 ≠ w.heap.size; omega) (.map none)) (p := ⟨w.heap.size, 3, none⟩) (by show w.heap.size + 1 ≠ w.heap.size; omega) (.map none)) (p := ⟨w.heap.size, 4, none⟩) (by show w.heap.size + 1 ≠ w.heap.size; omega) (.map none)) (p := ⟨w.heap.size, 5, none⟩) (by show w.heap.size + 1 ≠ w.heap.size; omega) (.slice none 0 0)) (p := ⟨w.heap.size, 6, none⟩) (by show w.heap.size + 1 ≠ w.heap.size; omega) (.int .i64 0)) (p := ⟨w.heap.size, 7, none⟩) (by show w.heap.size + 1 ≠ w.heap.size; omega) (.slice none 0 0)))
          have HK4R := Lib.hid (show Blk ((((((((w4.setCell ⟨w.heap.size, 0, none⟩ (.slice none 0 0)).setCell ⟨w.heap.size, 1, none⟩ (.slice none 0 0)).setCell ⟨w.heap.size, 2, none⟩ (.map none)).setCell ⟨w.heap.size, 3, none⟩ (.map none)).setCell ⟨w.heap.size, 4, none⟩ (.map none)).setCell ⟨w.heap.size, 5, none⟩ (.slice none 0 0)).setCell ⟨w.heap.size, 6, none⟩ (.int .i64 0)).setCell ⟨w.heap.size, 7, none⟩ (.slice none 0 0)) w.heap.size 114 #[.slice none 0 0, .slice none 0 0, .map none, .map none, .map none, .slice none 0 0, .int .i64 0, .slice none 0 0] from ((((((((HK4.out.put 0 (.slice none 0 0)).put 1 (.slice none 0 0)).put 2 (.map none)).put 3 (.map none)).put 4 (.map none)).put 5 (.slice none 0 0)).put 6 (.int .i64 0)).put 7 (.slice none 0 0)))
          have HB4R := Lib.hid (show Below w.heap.size w ((((((((w4.setCell ⟨w.heap.size, 0, none⟩ (.slice none 0 0)).setCell ⟨w.heap.size, 1, none⟩ (.slice none 0 0)).setCell ⟨w.heap.size, 2, none⟩ (.map none)).setCell ⟨w.heap.size, 3, none⟩ (.map none)).setCell ⟨w.heap.size, 4, none⟩ (.map none)).setCell ⟨w.heap.size, 5, none⟩ (.slice none 0 0)).setCell ⟨w.heap.size, 6, none⟩ (.int .i64 0)).setCell ⟨w.heap.size, 7, none⟩ (.slice none 0 0)) from ((((((((HB4.out.setCell (p := ⟨w.heap.size, 0, none⟩) (by show w.heap.size ≤ w.heap.size; omega) (.slice none 0 0)).setCell (p := ⟨w.heap.size, 1, none⟩) (by show w.heap.size ≤ w.heap.size; omega) (.slice none 0 0)).setCell (p := ⟨w.heap.size, 2, none⟩) (by show w.heap.size ≤ w.heap.size; omega) (.map none)).setCell (p := ⟨w.heap.size, 3, none⟩) (by show w.heap.size ≤ w.heap.size; omega) (.map none)).setCell (p := ⟨w.heap.size, 4, none⟩) (by show w.heap.size ≤ w.heap.size; omega) (.map none)).setCell (p := ⟨w.heap.size, 5, none⟩) (by show w.heap.size ≤ w.heap.size; omega) (.slice none 0 0)).setCell (p := ⟨w.heap.size, 6, none⟩) (by show w.heap.size ≤ w.heap.size; omega) (.int .i64 0)).setCell (p := ⟨w.heap.size, 7, none⟩) (by show w.heap.size ≤ w.heap.size; omega) (.slice none 0 0)))
          have q0 : ((((((((w4.setCell ⟨w.heap.size, 0, none⟩ (.slice none 0 0)).setCell ⟨w.heap.size, 1, none⟩ (.slice none 0 0)).setCell ⟨w.heap.size, 2, none⟩ (.map none)).setCell ⟨w.heap.size, 3, none⟩ (.map none)).setCell ⟨w.heap.size, 4, none⟩ (.map none)).setCell ⟨w.heap.size, 5, none⟩ (.slice none 0 0)).setCell ⟨w.heap.size, 6, none⟩ (.int .i64 0)).setCell ⟨w.heap.size, 7, none⟩ (.slice none 0 0)).cell? ⟨w.heap.size + 1, 0, none⟩ = some (.slice none 0 0) := HZ4R.out.cell 0
          have q1 : ((((((((w4.setCell ⟨w.heap.size, 0, none⟩ (.slice none 0 0)).setCell ⟨w.heap.size, 1, none⟩ (.slice none 0 0)).setCell ⟨w.heap.size, 2, none⟩ (.map none)).setCell ⟨w.heap.size, 3, none⟩ (.map none)).setCell ⟨w.heap.size, 4, none⟩ (.map none)).setCell ⟨w.heap.size, 5, none⟩ (.slice none 0 0)).setCell ⟨w.heap.size, 6, none⟩ (.int .i64 0)).setCell ⟨w.heap.size, 7, none⟩ (.slice none 0 0)).cell? ⟨w.heap.size + 1, 1, none⟩ = some (.slice none 0 0) := HZ4R.out.cell 1
          have q2 : ((((((((w4.setCell ⟨w.heap.size, 0, none⟩ (.slice none 0 0)).setCell ⟨w.heap.size, 1, none⟩ (.slice none 0 0)).setCell ⟨w.heap.size, 2, none⟩ (.map none)).setCell ⟨w.heap.size, 3, none⟩ (.map none)).setCell ⟨w.heap.size, 4, none⟩ (.map none)).setCell ⟨w.heap.size, 5, none⟩ (.slice none 0 0)).setCell ⟨w.heap.size, 6, none⟩ (.int .i64 0)).setCell ⟨w.heap.size, 7, none⟩ (.slice none 0 0)).cell? ⟨w.heap.size + 1, 2, none⟩ = some (.map none) := HZ4R.out.cell 2
          have q3 : ((((((((w4.setCell ⟨w.heap.size, 0, none⟩ (.slice none 0 0)).setCell ⟨w.heap.size, 1, none⟩ (.slice none 0 0)).setCell ⟨w.heap.size, 2, none⟩ (.map none)).setCell ⟨w.heap.size, 3, none⟩ (.map none)).setCell ⟨w.heap.size, 4, none⟩ (.map none)).setCell ⟨w.heap.size, 5, none⟩ (.slice none 0 0)).setCell ⟨w.heap.size, 6, none⟩ (.int .i64 0)).setCell ⟨w.heap.size, 7, none⟩ (.slice none 0 0)).cell? ⟨w.heap.size + 1, 3, none⟩ = some (.map none) := HZ4R.out.cell 3
          have q4 : ((((((((w4.setCell ⟨w.heap.size, 0, none⟩ (.slice none 0 0)).setCell ⟨w.heap.size, 1, none⟩ (.slice none 0 0)).setCell ⟨w.heap.size, 2, none⟩ (.map none)).setCell ⟨w.heap.size, 3, none⟩ (.map none)).setCell ⟨w.heap.size, 4, none⟩ (.map none)).setCell ⟨w.heap.size, 5, none⟩ (.slice none 0 0)).setCell ⟨w.heap.size, 6, none⟩ (.int .i64 0)).setCell ⟨w.heap.size, 7, none⟩ (.slice none 0 0)).cell? ⟨w.heap.size + 1, 4, none⟩ = some (.map none) := HZ4R.out.cell 4
          have q5 : ((((((((w4.setCell ⟨w.heap.size, 0, none⟩ (.slice none 0 0)).setCell ⟨w.heap.size, 1, none⟩ (.slice none 0 0)).setCell ⟨w.heap.size, 2, none⟩ (.map none)).setCell ⟨w.heap.size, 3, none⟩ (.map none)).setCell ⟨w.heap.size, 4, none⟩ (.map none)).setCell ⟨w.heap.size, 5, none⟩ (.slice none 0 0)).setCell ⟨w.heap.size, 6, none⟩ (.int .i64 0)).setCell ⟨w.heap.size, 7, none⟩ (.slice none 0 0)).cell? ⟨w.heap.size + 1, 5, none⟩ = some (.slice none 0 0) := HZ4R.out.cell 5
          have q6 : ((((((((w4.setCell ⟨w.heap.size, 0, none⟩ (.slice none 0 0)).setCell ⟨w.heap.size, 1, none⟩ (.slice none 0 0)).setCell ⟨w.heap.size, 2, none⟩ (.map none)).setCell ⟨w.heap.size, 3, none⟩ (.map none)).setCell ⟨w.heap.size, 4, none⟩ (.map none)).setCell ⟨w.heap.size, 5, none⟩ (.slice none 0 0)).setCell ⟨w.heap.size, 6, none⟩ (.int .i64 0)).setCell ⟨w.heap.size, 7, none⟩ (.slice none 0 0)).cell? ⟨w.heap.size + 1, 6, none⟩ = some (.int .i64 0) := HZ4R.out.cell 6
          have q7 : ((((((((w4.setCell ⟨w.heap.size, 0, none⟩ (.slice none 0 0)).setCell ⟨w.heap.size, 1, none⟩ (.slice none 0 0)).setCell ⟨w.heap.size, 2, none⟩ (.map none)).setCell ⟨w.heap.size, 3, none⟩ (.map none)).setCell ⟨w.heap.size, 4, none⟩ (.map none)).setCell ⟨w.heap.size, 5, none⟩ (.slice none 0 0)).setCell ⟨w.heap.size, 6, none⟩ (.int .i64 0)).setCell ⟨w.heap.size, 7, none⟩ (.slice none 0 0)).cell? ⟨w.heap.size + 1, 7, none⟩ = some (.slice none 0 0) := HZ4R.out.cell 7
          have fq0 := HZ4R.out.soft 0
          have fq1 := HZ4R.out.soft 1
          have fq2 := HZ4R.out.soft 2
          have fq3 := HZ4R.out.soft 3
          have fq4 := HZ4R.out.soft 4
          have fq5 := HZ4R.out.soft 5
          have fq6 := HZ4R.out.soft 6
          have fq7 := HZ4R.out.soft 7
          have hzz := ((((((((HZ4R.out.put 0 (.slice none 0 0)).put 1 (.slice none 0 0)).put 2 (.map none)).put 3 (.map none)).put 4 (.map none)).put 5 (.slice none 0 0)).put 6 (.int .i64 0)).put 7 (.slice none 0 0))
          have z0 := hzz.cell 0
          have z1 := hzz.cell 1
          have z2 := hzz.cell 2
          have z3 := hzz.cell 3
          have z4 := hzz.cell 4
          have z5 := hzz.cell 5
          have z6 := hzz.cell 6
          have z7 := hzz.cell 7
          simp at z0 z1 z2 z3 z4 z5 z6 z7
          have HBZ := Lib.hid ((((((((HB4R.out.setCell (p := ⟨w.heap.size + 1, 0, none⟩) (by show w.heap.size ≤ w.heap.size + 1; omega) (.slice none 0 0)).setCell (p := ⟨w.heap.size + 1, 1, none⟩) (by show w.heap.size ≤ w.heap.size + 1; omega) (.slice none 0 0)).setCell (p := ⟨w.heap.size + 1, 2, none⟩) (by show w.heap.size ≤ w.heap.size + 1; omega) (.map none)).setCell (p := ⟨w.heap.size + 1, 3, none⟩) (by show w.heap.size ≤ w.heap.size + 1; omega) (.map none)).setCell (p := ⟨w.heap.size + 1, 4, none⟩) (by show w.heap.size ≤ w.heap.size + 1; omega) (.map none)).setCell (p := ⟨w.heap.size + 1, 5, none⟩) (by show w.heap.size ≤ w.heap.size + 1; omega) (.slice none 0 0)).setCell (p := ⟨w.heap.size + 1, 6, none⟩) (by show w.heap.size ≤ w.heap.size + 1; omega) (.int .i64 0)).setCell (p := ⟨w.heap.size + 1, 7, none⟩) (by show w.heap.size ≤ w.heap.size + 1; omega) (.slice none 0 0))
          go_wp2
          exact bodyPost_ret (v := .tuple #[.agg #[.slice none 0 0, .slice none 0 0, .map none, .map none, .map none, .slice none 0 0, .int .i64 0, .slice none 0 0], .bool false]) (by simp [results, Tryz.results89, go_sem, z0, z1, z2, z3, z4, z5, z6, z7]) rfl (.inl ⟨HSS.out, rfl, HBZ.out⟩)
        · have HSS := Lib.hid (show settleM ns fs vs 30 ms = settleM ns fs vs (30 - (j + 1)) (behindOf x fs mk vs (k : Int)) by
            rw [HS.out, show 30 - j = (30 - (j + 1)) + 1 by omega]
            exact settleM_step HFA.out (fire_some HN3.out.vp HN3.out.vm HG.out HVV.out hc))
          have HB4 := Lib.hid (up HB3.out hb4)
          have HK4 := Lib.hid (HK3.out.below hb4 HK3.out.lt)
          have HZ4 := Lib.hid (HZ3.out.below hb4 HZ3.out.lt)
          have HM4 := Lib.hid hn4.cm
          have HV4 := Lib.hid hn4.vm
          have hm14 := hn4.mm
          clear hb4 hc HS hn4 HK3 HZ3 HN3 HG HFA
          have hr0 : mb2 ≠ w.heap.size := by omega
          have hr1 : mb2 ≠ w.heap.size + 1 := by omega
          have e0 : w4.cell? ⟨w.heap.size, 0, none⟩ = some (.slice An nn cn) := HK4.out.cell 0
          have e1 : w4.cell? ⟨w.heap.size, 1, none⟩ = some (.slice Af lf cf) := HK4.out.cell 1
          have e2 : w4.cell? ⟨w.heap.size, 2, none⟩ = some (.map (some bo)) := HK4.out.cell 2
          have e3 : w4.cell? ⟨w.heap.size, 3, none⟩ = some (.map (some bi)) := HK4.out.cell 3
          have e4 : w4.cell? ⟨w.heap.size, 4, none⟩ = some (.map (some mbx)) := HK4.out.cell 4
          have e5 : w4.cell? ⟨w.heap.size, 5, none⟩ = some (.slice Av nv cv) := HK4.out.cell 5
          have e6 : w4.cell? ⟨w.heap.size, 6, none⟩ = some (.int .i64 cl) := HK4.out.cell 6
          have e7 : w4.cell? ⟨w.heap.size, 7, none⟩ = some (.slice At nt ct) := HK4.out.cell 7
          have fe0 := HK4.out.soft 0
          have fe1 := HK4.out.soft 1
          have fe2 := HK4.out.soft 2
          have fe3 := HK4.out.soft 3
          have fe4 := HK4.out.soft 4
          have fe5 := HK4.out.soft 5
          have fe6 := HK4.out.soft 6
          have fe7 := HK4.out.soft 7
          have HZ4R := Lib.hid (show Blk ((((((((w4.setCell ⟨w.heap.size, 0, none⟩ (.slice An nn cn)).setCell ⟨w.heap.size, 1, none⟩ (.slice Af lf cf)).setCell ⟨w.heap.size, 2, none⟩ (.map (some bo))).setCell ⟨w.heap.size, 3, none⟩ (.map (some bi))).setCell ⟨w.heap.size, 4, none⟩ (.map (some mb2))).setCell ⟨w.heap.size, 5, none⟩ (.slice Av nv cv)).setCell ⟨w.heap.size, 6, none⟩ (.int .i64 cl)).setCell ⟨w.heap.size, 7, none⟩ (.slice At nt ct)) (w.heap.size + 1) 114 #[.slice none 0 0, .slice none 0 0, .map none, .map none, .map none, .slice none 0 0, .int .i64 0, .slice none 0 0] from (Blk.far (Blk.far (Blk.far (Blk.far (Blk.far (Blk.far (Blk.far (Blk.far HZ4.out (p := ⟨w.heap.size, 0, none⟩) (by show w.heap.size + 1 ≠ w.heap.size; omega) (.slice An nn cn)) (p := ⟨w.heap.size, 1, none⟩) (by show w.heap.size + 1 ≠ w.heap.size; omega) (.slice Af lf cf)) (p := ⟨w.heap.size, 2, none⟩) (by show w.heap.size + 1 ≠ w.heap.size; omega) (.map (some bo))) (p := ⟨w.heap.size, 3, none⟩) (by show w.heap.size + 1 ≠ w.heap.size; omega) (.map (some bi))) (p := ⟨w.heap.size, 4, none⟩) (by show w.heap.size + 1 ≠ w.heap.size; omega) (.map (some mb2))) (p := ⟨w.heap.size, 5, none⟩) (by show w.heap.size + 1 ≠ w.heap.size; omega) (.slice Av nv cv)) (p := ⟨w.heap.size, 6, none⟩) (by show w.heap.size + 1 ≠ w.heap.size; omega) (.int .i64 cl)) (p := ⟨w.heap.size, 7, none⟩) (by show w.heap.size + 1 ≠ w.heap.size; omega) (.slice At nt ct)))
          have HK4R := Lib.hid (show Blk ((((((((w4.setCell ⟨w.heap.size, 0, none⟩ (.slice An nn cn)).setCell ⟨w.heap.size, 1, none⟩ (.slice Af lf cf)).setCell ⟨w.heap.size, 2, none⟩ (.map (some bo))).setCell ⟨w.heap.size, 3, none⟩ (.map (some bi))).setCell ⟨w.heap.size, 4, none⟩ (.map (some mb2))).setCell ⟨w.heap.size, 5, none⟩ (.slice Av nv cv)).setCell ⟨w.heap.size, 6, none⟩ (.int .i64 cl)).setCell ⟨w.heap.size, 7, none⟩ (.slice At nt ct)) w.heap.size 114 #[.slice An nn cn, .slice Af lf cf, .map (some bo), .map (some bi), .map (some mb2), .slice Av nv cv, .int .i64 cl, .slice At nt ct] from ((((((((HK4.out.put 0 (.slice An nn cn)).put 1 (.slice Af lf cf)).put 2 (.map (some bo))).put 3 (.map (some bi))).put 4 (.map (some mb2))).put 5 (.slice Av nv cv)).put 6 (.int .i64 cl)).put 7 (.slice At nt ct)))
          have HB4R := Lib.hid (show Below w.heap.size w ((((((((w4.setCell ⟨w.heap.size, 0, none⟩ (.slice An nn cn)).setCell ⟨w.heap.size, 1, none⟩ (.slice Af lf cf)).setCell ⟨w.heap.size, 2, none⟩ (.map (some bo))).setCell ⟨w.heap.size, 3, none⟩ (.map (some bi))).setCell ⟨w.heap.size, 4, none⟩ (.map (some mb2))).setCell ⟨w.heap.size, 5, none⟩ (.slice Av nv cv)).setCell ⟨w.heap.size, 6, none⟩ (.int .i64 cl)).setCell ⟨w.heap.size, 7, none⟩ (.slice At nt ct)) from ((((((((HB4.out.setCell (p := ⟨w.heap.size, 0, none⟩) (by show w.heap.size ≤ w.heap.size; omega) (.slice An nn cn)).setCell (p := ⟨w.heap.size, 1, none⟩) (by show w.heap.size ≤ w.heap.size; omega) (.slice Af lf cf)).setCell (p := ⟨w.heap.size, 2, none⟩) (by show w.heap.size ≤ w.heap.size; omega) (.map (some bo))).setCell (p := ⟨w.heap.size, 3, none⟩) (by show w.heap.size ≤ w.heap.size; omega) (.map (some bi))).setCell (p := ⟨w.heap.size, 4, none⟩) (by show w.heap.size ≤ w.heap.size; omega) (.map (some mb2))).setCell (p := ⟨w.heap.size, 5, none⟩) (by show w.heap.size ≤ w.heap.size; omega) (.slice Av nv cv)).setCell (p := ⟨w.heap.size, 6, none⟩) (by show w.heap.size ≤ w.heap.size; omega) (.int .i64 cl)).setCell (p := ⟨w.heap.size, 7, none⟩) (by show w.heap.size ≤ w.heap.size; omega) (.slice At nt ct)))
          have HN5 := Lib.hid (HN0.out.at HB4R.out (HM4.out.lift fun _ h => imap_eight (c := w.heap.size) h hr0 : MkM Tryz.prog 3 ((((((((w4.setCell ⟨w.heap.size, 0, none⟩ (.slice An nn cn)).setCell ⟨w.heap.size, 1, none⟩ (.slice Af lf cf)).setCell ⟨w.heap.size, 2, none⟩ (.map (some bo))).setCell ⟨w.heap.size, 3, none⟩ (.map (some bi))).setCell ⟨w.heap.size, 4, none⟩ (.map (some mb2))).setCell ⟨w.heap.size, 5, none⟩ (.slice Av nv cv)).setCell ⟨w.heap.size, 6, none⟩ (.int .i64 cl)).setCell ⟨w.heap.size, 7, none⟩ (.slice At nt ct)) mb2 m2 (markAt (behindOf x fs mk vs (k : Int)))) hm14 HV4.out)
          have hs5 : w.heap.size + 1 + 1 ≤ (((((((((w4.setCell ⟨w.heap.size, 0, none⟩ (.slice An nn cn)).setCell ⟨w.heap.size, 1, none⟩ (.slice Af lf cf)).setCell ⟨w.heap.size, 2, none⟩ (.map (some bo))).setCell ⟨w.heap.size, 3, none⟩ (.map (some bi))).setCell ⟨w.heap.size, 4, none⟩ (.map (some mb2))).setCell ⟨w.heap.size, 5, none⟩ (.slice Av nv cv)).setCell ⟨w.heap.size, 6, none⟩ (.int .i64 cl)).setCell ⟨w.heap.size, 7, none⟩ (.slice At nt ct))).heap.size := by have := HZ4.out.lt; simp; omega
          go_wp2
          go_roundw
          case rel => exact ⟨j + 1, mb2, m2, _, by omega, hr0, hr1, by go_num, HSS, HN5, HK4R, HZ4R, HB4R, hs5⟩
          case measure => simp [intOf]; omega
end Go.Proofs.YtknphikoikdcjaaGreat
