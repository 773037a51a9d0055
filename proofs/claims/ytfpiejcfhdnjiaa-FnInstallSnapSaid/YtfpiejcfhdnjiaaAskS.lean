/- The reference's votes: validVoter, AskVote. -/
import Derived.Test.YtfpiejcfhdnjiaaLogS2
import Derived.Test.YtfpiejcfhdnjiaaSmallS
import Derived.Deep.RegionLaw
import Derived.Test.YtfpiejcfhdnjiaaDelRun
set_option linter.unusedSimpArgs false
set_option linter.unusedVariables false
namespace Go.Proofs.Ytfpiejcfhdnjiaa
open Go.RowKit

theorem inR_voted (v : Int) : inR v (-1) 6 = (decide (v = -1) || inR v 0 6) := by
  unfold inR
  rw [Bool.eq_iff_iff]
  simp
  omega
/-- A voter's answer in memory of the call's own. -/
def VtPost (u : (Int × Int × List En) × Bool) (w : World) (e : Ending) (w' : World) : Prop :=
  ∃ A c, e = .returned (.tuple #[.agg #[.int .i64 u.1.1, .int .i64 u.1.2.1, .slice A u.1.2.2.length c], .bool u.2]) ∧ u.1.2.2.length ≤ c ∧ Rd w' w.heap.size w'.heap.size 2 A u.1.2.2.length (pvs u.1.2.2) ∧ Soft w' 2 A u.1.2.2.length ∧ Below w.heap.size w w'
theorem VtPost.no {u : (Int × Int × List En) × Bool} {w w' : World} (hu : u = ((0, 0, []), false)) (hb : Below w.heap.size w w') : VtPost u w (.returned (.tuple #[.agg #[.int .i64 0, .int .i64 0, .slice none 0 0], .bool false])) w' := by
  subst hu
  exact ⟨none, 0, rfl, Nat.le_refl _, Rd.nil _ _ _ _ _, (fun b off e => by cases e), hb⟩
theorem VtPost.yes {u : (Int × Int × List En) × Bool} {t v : Int} {ls : List En} {b : Bool} {m : Nat} {A : Option Addr} {c : Nat} {w w' : World} (hu : u = ((t, v, ls), b)) (hm : ls.length = m) (hc : m ≤ c) (hr : Rd w' w.heap.size w'.heap.size 2 A m (pvs ls)) (hs : Soft w' 2 A m) (hb : Below w.heap.size w w') : VtPost u w (.returned (.tuple #[.agg #[.int .i64 t, .int .i64 v, .slice A m c], .bool b])) w' := by
  subst hu; subst hm
  exact ⟨A, c, rfl, hc, hr, hs, hb⟩
theorem VtPost.own {u : (Int × Int × List En) × Bool} {t v : Int} {ls : List En} {b : Bool} {m base : Nat} {A : Option Addr} {c : Nat} {w w' : World} (hu : u = ((t, v, ls), b)) (hm : ls.length = m) (ho : w'.ownsRow base 29 2 (.slice A m c) m (pvs ls)) (hbase : w.heap.size ≤ base) (hb : Below w.heap.size w w') : VtPost u w (.returned (.tuple #[.agg #[.int .i64 t, .int .i64 v, .slice A m c], .bool b])) w' := by
  obtain ⟨A1, c1, e, hc, hr, hs⟩ := own_form ho
  cases e
  exact VtPost.yes hu hm hc (hr.wide hbase (Nat.le_refl _)) hs hb
/-- A voter under way: it stands in block g, its log in a row of the call's own, block q is for the answer. -/
structure Vot (w0 : World) (q g : Nat) (x y : Int) (A : Option Addr) (n c : Nat) (ls : List En) (wx : World) : Prop where
  E : Blk wx g 86 #[.int .i64 x, .int .i64 y, .slice A n c]
  Q : Blk wx q 86 #[.int .i64 0, .int .i64 0, .slice none 0 0]
  O : wx.ownsRow w0.heap.size 29 2 (.slice A n c) n (pvs ls)
  hg : w0.heap.size ≤ g
  hqg : q ≠ g
  ne : ∀ k, (Value.slice A n c).ownBlock = some k → k ≠ g ∧ k ≠ q
  B : Below w0.heap.size w0 wx
section
variable {w0 wx wy : World} {q g n c : Nat} {x y : Int} {A : Option Addr} {ls : List En}
theorem Vot.below (h : Vot w0 q g x y A n c ls wx) (hb : Below wx.heap.size wx wy) : Vot w0 q g x y A n c ls wy :=
  ⟨h.E.below hb h.E.lt, h.Q.below hb h.Q.lt, own_keep h.O hb, h.hg, h.hqg, h.ne, up h.B hb⟩
theorem Vot.put0 (h : Vot w0 q g x y A n c ls wx) (z : Int) : Vot w0 q g z y A n c ls (wx.setCell ⟨g, 0, none⟩ (.int .i64 z)) :=
  ⟨by simpa using h.E.put 0 (.int .i64 z), h.Q.far (p := ⟨g, 0, none⟩) h.hqg _, own_set h.O _ (fun k hk => (h.ne k hk).1), h.hg, h.hqg, h.ne, h.B.setCell (p := ⟨g, 0, none⟩) h.hg _⟩
theorem Vot.put1 (h : Vot w0 q g x y A n c ls wx) (z : Int) : Vot w0 q g x z A n c ls (wx.setCell ⟨g, 1, none⟩ (.int .i64 z)) :=
  ⟨by simpa using h.E.put 1 (.int .i64 z), h.Q.far (p := ⟨g, 1, none⟩) h.hqg _, own_set h.O _ (fun k hk => (h.ne k hk).1), h.hg, h.hqg, h.ne, h.B.setCell (p := ⟨g, 1, none⟩) h.hg _⟩
/-- It is laid into the answer's block. -/
theorem Vot.fin (h : Vot w0 q g x y A n c ls wx) {w : World} (hq : w.heap.size ≤ q) (hb : Below w.heap.size w wx) :
    (((wx.setCell ⟨q, 0, none⟩ (.int .i64 x)).setCell ⟨q, 1, none⟩ (.int .i64 y)).setCell ⟨q, 2, none⟩ (.slice A n c)).cell? ⟨q, 0, none⟩ = some (.int .i64 x) ∧
    (((wx.setCell ⟨q, 0, none⟩ (.int .i64 x)).setCell ⟨q, 1, none⟩ (.int .i64 y)).setCell ⟨q, 2, none⟩ (.slice A n c)).cell? ⟨q, 1, none⟩ = some (.int .i64 y) ∧
    (((wx.setCell ⟨q, 0, none⟩ (.int .i64 x)).setCell ⟨q, 1, none⟩ (.int .i64 y)).setCell ⟨q, 2, none⟩ (.slice A n c)).cell? ⟨q, 2, none⟩ = some (.slice A n c) ∧
    (((wx.setCell ⟨q, 0, none⟩ (.int .i64 x)).setCell ⟨q, 1, none⟩ (.int .i64 y)).setCell ⟨q, 2, none⟩ (.slice A n c)).ownsRow w0.heap.size 29 2 (.slice A n c) n (pvs ls) ∧
    Below w.heap.size w (((wx.setCell ⟨q, 0, none⟩ (.int .i64 x)).setCell ⟨q, 1, none⟩ (.int .i64 y)).setCell ⟨q, 2, none⟩ (.slice A n c)) := by
  have hz := ((h.Q.put 0 (.int .i64 x)).put 1 (.int .i64 y)).put 2 (.slice A n c)
  refine ⟨by simpa using hz.cell 0, by simpa using hz.cell 1, by simpa using hz.cell 2, own_set (own_set (own_set h.O _ (fun k hk => (h.ne k hk).2)) _ (fun k hk => (h.ne k hk).2)) _ (fun k hk => (h.ne k hk).2), ?_⟩
  exact ((hb.setCell (p := ⟨q, 0, none⟩) hq _).setCell (p := ⟨q, 1, none⟩) hq _).setCell (p := ⟨q, 2, none⟩) hq _
end
theorem askOf_no {t v : Int} {ls : List En} {c term : Int} {log : List En} (h : vVoter t v ls = false ∨ inR c 0 6 = false ∨ inR term 1 9 = false ∨ vLog log = false) : askOf t v ls c term log = ((0, 0, []), false) := by
  unfold askOf
  rcases h with h | h | h | h <;> simp [h]
/-- What is answered to a valid one. -/
theorem askOf_yes {t v : Int} {ls : List En} {c term : Int} {log : List En} (h1 : vVoter t v ls = true) (h2 : inR c 0 6 = true) (h3 : inR term 1 9 = true) (h4 : vLog log = true) :
    askOf t v ls c term log = if term < t then ((t, v, ls), false) else if ((if t < term then -1 else v) == -1 || (if t < term then -1 else v) == c) && newerOf log ls then ((term, c, ls), true) else ((term, if t < term then -1 else v, ls), false) := by
  unfold askOf
  rw [h1, h2, h3, h4]
  rfl
set_option maxRecDepth 100000 in
set_option maxHeartbeats 1600000 in
theorem validVoterS_any (t v : Int) (lo hi n c : Nat) (A : Option Addr) (ls : List En) (w : World) (hr : Rd w lo hi 2 A n (pvs ls)) (hB : hi ≤ w.heap.size) (hn : n ≤ 1048576) :
    Calls Try.prog 58 #[.agg #[.int .i64 t, .int .i64 v, .slice A n c]] w fun e w' => e = .returned (.bool (vVoter t v ls)) ∧ Below w.heap.size w w' := by
  have hb0 := up_alloc (Below.refl _ w) (.cells #[.int .i64 t, .int .i64 v, .slice A n c] 86)
  have HR := Lib.hid (hr.keep hb0 hB)
  have HB0 := Lib.hid hb0
  have hz0 := hb0.size
  clear hr hb0
  have HV := Lib.hid (show vVoter t v ls = (inR t 0 9 && inR v (-1) 6 && vLog ls) from rfl)
  go_enter Try.func58, Try.ntmps58
  go_wp2_with (fail)
  (with_reducible refine (inRange_any _ _ _ _).mono ?_)
  rintro e w1 ⟨rfl, rfl⟩
  cases h1 : inR t 0 9 with
  | false =>
    have HX := Lib.hid (show vVoter t v ls = false by rw [HV.out, h1]; rfl)
    clear h1
    go_wp2
    go_ret
    exact ⟨by rw [HX.out]; rfl, HB0.out⟩
  | true =>
  go_wp2_with (fail)
  (with_reducible refine (inRange_any _ _ _ _).mono ?_)
  rintro e w1 ⟨rfl, rfl⟩
  cases h2 : inR v (-1) 6 with
  | false =>
    have HX := Lib.hid (show vVoter t v ls = false by rw [HV.out, h2]; simp)
    clear h1 h2
    go_wp2
    go_ret
    exact ⟨by rw [HX.out]; rfl, HB0.out⟩
  | true =>
  have HX := Lib.hid (show vVoter t v ls = vLog ls by rw [HV.out, h1, h2]; rfl)
  clear h1 h2
  go_wp2_with (fail)
  (with_reducible refine (validLogS_any lo hi n c A ls _ HR.out (by omega) hn).mono ?_)
  rintro e w1 ⟨rfl, hb1⟩
  have HB1 := Lib.hid (up HB0.out hb1)
  clear hb1
  generalize vLog ls = q at *
  go_wp2
  go_ret
  exact ⟨by rw [HX.out]; rfl, HB1.out⟩
set_option maxRecDepth 100000 in
set_option maxHeartbeats 3200000 in
theorem AskVoteS_any (t v : Int) (lo hi n c : Nat) (A : Option Addr) (ls : List En) (cand term : Int) (lo2 hi2 n2 c2 : Nat) (A2 : Option Addr) (log : List En) (w : World) (hr : Rd w lo hi 2 A n (pvs ls)) (hB : hi ≤ w.heap.size) (hn : n ≤ 1048576) (hr2 : Rd w lo2 hi2 2 A2 n2 (pvs log)) (hB2 : hi2 ≤ w.heap.size) (hn2 : n2 ≤ 1048576) :
    Calls Try.prog 59 #[.agg #[.int .i64 t, .int .i64 v, .slice A n c], .int .i64 cand, .int .i64 term, .slice A2 n2 c2] w (VtPost (askOf t v ls cand term log) w) := by
  have HL := Lib.hid hr.len2
  have hb0 := up_alloc (up_alloc (Below.refl _ w) (.cells #[.int .i64 t, .int .i64 v, .slice A n c] 86)) (.cells #[.int .i64 0, .int .i64 0, .slice none 0 0] 86)
  have hp0 := (Blk.new w 86 #[.int .i64 t, .int .i64 v, .slice A n c]).alloc (.cells #[.int .i64 0, .int .i64 0, .slice none 0 0] 86)
  have hq0 : Blk ((w.alloc (.cells #[.int .i64 t, .int .i64 v, .slice A n c] 86)).alloc (.cells #[.int .i64 0, .int .i64 0, .slice none 0 0] 86)) (w.heap.size + 1) 86 #[.int .i64 0, .int .i64 0, .slice none 0 0] := Blk.new2 (by simp)
  have HR := Lib.hid (hr.keep hb0 hB)
  have HR2 := Lib.hid (hr2.keep hb0 hB2)
  have HB0 := Lib.hid hb0
  have HP0 := Lib.hid hp0
  have HQ0 := Lib.hid hq0
  have hz0 : ((w.alloc (.cells #[.int .i64 t, .int .i64 v, .slice A n c] 86)).alloc (.cells #[.int .i64 0, .int .i64 0, .slice none 0 0] 86)).heap.size = w.heap.size + 1 + 1 := by simp
  clear hr hr2 hb0 hp0 hq0
  go_enter Try.func59, Try.ntmps59
  go_wp2_with (fail)
  generalize hw2 : (w.alloc (.cells #[.int .i64 t, .int .i64 v, .slice A n c] 86)).alloc (.cells #[.int .i64 0, .int .i64 0, .slice none 0 0] 86) = w2 at *
  clear hw2
  (with_reducible refine (validVoterS_any t v lo hi n c A ls _ HR.out (by omega) hn).mono ?_)
  rintro e w3 ⟨rfl, hb3⟩
  have HP3 := Lib.hid (HP0.out.below hb3 (by omega))
  have HQ3 := Lib.hid (HQ0.out.below hb3 (by omega))
  have HR3 := Lib.hid (HR.out.keep hb3 (by omega))
  have HS3 := Lib.hid (HR2.out.keep hb3 (by omega))
  have HB3 := Lib.hid (up HB0.out hb3)
  have hz3 := hb3.size
  clear hb3 HP0 HQ0 HR HR2 HB0
  cases h1 : vVoter t v ls with
  | false =>
    have HX := Lib.hid (askOf_no (t := t) (v := v) (ls := ls) (c := cand) (term := term) (log := log) (.inl h1))
    have hzz := ((HQ3.out.put 0 (.int .i64 0)).put 1 (.int .i64 0)).put 2 (.slice none 0 0)
    have z0 := hzz.cell 0
    have z1 := hzz.cell 1
    have z2 := hzz.cell 2
    simp at z0 z1 z2
    have q0 := HQ3.out.cell 0
    have q1 := HQ3.out.cell 1
    have q2 := HQ3.out.cell 2
    have f0 := HQ3.out.soft 0
    have f1 := HQ3.out.soft 1
    have f2 := HQ3.out.soft 2
    have HBZ := Lib.hid (((HB3.out.setCell (p := ⟨w.heap.size + 1, 0, none⟩) (by show w.heap.size ≤ w.heap.size + 1; omega) (.int .i64 0)).setCell (p := ⟨w.heap.size + 1, 1, none⟩) (by show w.heap.size ≤ w.heap.size + 1; omega) (.int .i64 0)).setCell (p := ⟨w.heap.size + 1, 2, none⟩) (by show w.heap.size ≤ w.heap.size + 1; omega) (.slice none 0 0))
    clear hzz
    go_wp2
    exact bodyPost_ret (v := .tuple #[.agg #[.int .i64 0, .int .i64 0, .slice none 0 0], .bool false]) (by simp [results, Try.results59, go_sem, z0, z1, z2]) rfl (VtPost.no HX.out HBZ.out)
  | true =>
  have HV := Lib.hid h1
  clear h1
  go_wp2_with (fail)
  (with_reducible refine (inRange_any _ _ _ _).mono ?_)
  rintro e w4 ⟨rfl, rfl⟩
  cases h2 : inR cand 0 6 with
  | false =>
    have HX := Lib.hid (askOf_no (t := t) (v := v) (ls := ls) (c := cand) (term := term) (log := log) (.inr (.inl h2)))
    have hzz := ((HQ3.out.put 0 (.int .i64 0)).put 1 (.int .i64 0)).put 2 (.slice none 0 0)
    have z0 := hzz.cell 0
    have z1 := hzz.cell 1
    have z2 := hzz.cell 2
    simp at z0 z1 z2
    have q0 := HQ3.out.cell 0
    have q1 := HQ3.out.cell 1
    have q2 := HQ3.out.cell 2
    have f0 := HQ3.out.soft 0
    have f1 := HQ3.out.soft 1
    have f2 := HQ3.out.soft 2
    have HBZ := Lib.hid (((HB3.out.setCell (p := ⟨w.heap.size + 1, 0, none⟩) (by show w.heap.size ≤ w.heap.size + 1; omega) (.int .i64 0)).setCell (p := ⟨w.heap.size + 1, 1, none⟩) (by show w.heap.size ≤ w.heap.size + 1; omega) (.int .i64 0)).setCell (p := ⟨w.heap.size + 1, 2, none⟩) (by show w.heap.size ≤ w.heap.size + 1; omega) (.slice none 0 0))
    clear hzz
    go_wp2
    exact bodyPost_ret (v := .tuple #[.agg #[.int .i64 0, .int .i64 0, .slice none 0 0], .bool false]) (by simp [results, Try.results59, go_sem, z0, z1, z2]) rfl (VtPost.no HX.out HBZ.out)
  | true =>
  have HC := Lib.hid h2
  clear h2
  go_wp2_with (fail)
  (with_reducible refine (inRange_any _ _ _ _).mono ?_)
  rintro e w4 ⟨rfl, rfl⟩
  cases h3 : inR term 1 9 with
  | false =>
    have HX := Lib.hid (askOf_no (t := t) (v := v) (ls := ls) (c := cand) (term := term) (log := log) (.inr (.inr (.inl h3))))
    have hzz := ((HQ3.out.put 0 (.int .i64 0)).put 1 (.int .i64 0)).put 2 (.slice none 0 0)
    have z0 := hzz.cell 0
    have z1 := hzz.cell 1
    have z2 := hzz.cell 2
    simp at z0 z1 z2
    have q0 := HQ3.out.cell 0
    have q1 := HQ3.out.cell 1
    have q2 := HQ3.out.cell 2
    have f0 := HQ3.out.soft 0
    have f1 := HQ3.out.soft 1
    have f2 := HQ3.out.soft 2
    have HBZ := Lib.hid (((HB3.out.setCell (p := ⟨w.heap.size + 1, 0, none⟩) (by show w.heap.size ≤ w.heap.size + 1; omega) (.int .i64 0)).setCell (p := ⟨w.heap.size + 1, 1, none⟩) (by show w.heap.size ≤ w.heap.size + 1; omega) (.int .i64 0)).setCell (p := ⟨w.heap.size + 1, 2, none⟩) (by show w.heap.size ≤ w.heap.size + 1; omega) (.slice none 0 0))
    clear hzz
    go_wp2
    exact bodyPost_ret (v := .tuple #[.agg #[.int .i64 0, .int .i64 0, .slice none 0 0], .bool false]) (by simp [results, Try.results59, go_sem, z0, z1, z2]) rfl (VtPost.no HX.out HBZ.out)
  | true =>
  have HT := Lib.hid h3
  clear h3
  go_wp2_with (fail)
  (with_reducible refine (validLogS_any lo2 hi2 n2 c2 A2 log _ HS3.out (by omega) hn2).mono ?_)
  rintro e w4 ⟨rfl, hb4⟩
  have HP4 := Lib.hid (HP3.out.below hb4 (by omega))
  have HQ4 := Lib.hid (HQ3.out.below hb4 (by omega))
  have HR4 := Lib.hid (HR3.out.keep hb4 (by omega))
  have HS4 := Lib.hid (HS3.out.keep hb4 (by omega))
  have HB4 := Lib.hid (up HB3.out hb4)
  have hz4 := hb4.size
  clear hb4 HP3 HQ3 HR3 HS3 HB3
  cases h4 : vLog log with
  | false =>
    have HX := Lib.hid (askOf_no (t := t) (v := v) (ls := ls) (c := cand) (term := term) (log := log) (.inr (.inr (.inr h4))))
    have hzz := ((HQ4.out.put 0 (.int .i64 0)).put 1 (.int .i64 0)).put 2 (.slice none 0 0)
    have z0 := hzz.cell 0
    have z1 := hzz.cell 1
    have z2 := hzz.cell 2
    simp at z0 z1 z2
    have q0 := HQ4.out.cell 0
    have q1 := HQ4.out.cell 1
    have q2 := HQ4.out.cell 2
    have f0 := HQ4.out.soft 0
    have f1 := HQ4.out.soft 1
    have f2 := HQ4.out.soft 2
    have HBZ := Lib.hid (((HB4.out.setCell (p := ⟨w.heap.size + 1, 0, none⟩) (by show w.heap.size ≤ w.heap.size + 1; omega) (.int .i64 0)).setCell (p := ⟨w.heap.size + 1, 1, none⟩) (by show w.heap.size ≤ w.heap.size + 1; omega) (.int .i64 0)).setCell (p := ⟨w.heap.size + 1, 2, none⟩) (by show w.heap.size ≤ w.heap.size + 1; omega) (.slice none 0 0))
    clear hzz
    go_wp2
    exact bodyPost_ret (v := .tuple #[.agg #[.int .i64 0, .int .i64 0, .slice none 0 0], .bool false]) (by simp [results, Try.results59, go_sem, z0, z1, z2]) rfl (VtPost.no HX.out HBZ.out)
  | true =>
  have HA := Lib.hid (askOf_yes HV.out HC.out HT.out h4)
  clear h4 HV HC HT
  have HS := Lib.hid (show ∀ wx, Below w4.heap.size w4 wx → wx.cell? ⟨w.heap.size, 0, none⟩ = some (.int .i64 t) ∧ wx.cell? ⟨w.heap.size, 1, none⟩ = some (.int .i64 v) ∧ wx.cell? ⟨w.heap.size, 2, none⟩ = some (.slice A n c) from fun wx hb => ⟨(HP4.out.below hb HP4.out.lt).cell 0, (HP4.out.below hb HP4.out.lt).cell 1, (HP4.out.below hb HP4.out.lt).cell 2⟩)
  have HCL := Lib.hid (show ∀ wx, Below w4.heap.size w4 wx → Calls Try.prog 54 #[.slice A n c] wx fun e w' => ∃ A9 c9, e = .returned (.slice A9 n c9) ∧ w'.ownsRow wx.heap.size 29 2 (.slice A9 n c9) n (pvs ls) ∧ Below wx.heap.size wx w' from fun wx hb => (copyLogS_any lo hi n c A ls wx (HR4.out.keep hb (by omega)) (Nat.le_trans (by omega) hb.size) hn).mono (by
    rintro e w' ⟨v9, rfl, ho, hb9⟩
    obtain ⟨A9, c9, rfl, _, _, _⟩ := own_form ho
    exact ⟨A9, c9, rfl, ho, hb9⟩))
  go_wp2_with (fail)
  go_region_held3 (fun wx => wx.cell? ⟨w.heap.size, 0, none⟩ = some (.int .i64 t) ∧ wx.cell? ⟨w.heap.size, 1, none⟩ = some (.int .i64 v) ∧ wx.cell? ⟨w.heap.size, 2, none⟩ = some (.slice A n c))
    (first | exact HS.out _ (Below.refl _ _) | exact HS.out _ (up_drew (Below.refl _ _)) | exact HS.out _ (up_drew (up_alloc (Below.refl _ _) _)) | exact HS.out _ (up_alloc (Below.refl _ _) _) | exact HS.out _ HB6.out | exact HS.out _ (up_alloc HB6.out _) | exact HS.out _ (((HB6.out.setCell (p := ⟨w4.heap.size, 0, none⟩) (Nat.le_refl _) _).setCell (p := ⟨w4.heap.size, 1, none⟩) (Nat.le_refl _) _).setCell (p := ⟨w4.heap.size, 2, none⟩) (Nat.le_refl _) _))
    ((first
      | (go_at_call 54; (with_reducible refine (HCL.out _ (up_drew (Below.refl _ _))).mono ?_); rintro e w6 ⟨A9, c9, rfl, ho6, hb6⟩; have HB6 := Lib.hid (up (up_drew (Below.refl _ w4)) hb6); have HO6 := Lib.hid ho6; have hE6 := True.intro; clear ho6 hb6)
      | (go_at_call 54; (with_reducible refine (HCL.out _ (up_drew (up_alloc (Below.refl _ _) _))).mono ?_); rintro e w6 ⟨A9, c9, rfl, ho6, hb6⟩; have HB6 := Lib.hid (up (up_drew (up_alloc (Below.refl _ w4) _)) hb6); have HO6 := Lib.hid ho6; have hE6 := ((Blk.new w4 86 #[.int .i64 0, .int .i64 0, .slice none 0 0]).drew).below hb6 ((Blk.new w4 86 #[.int .i64 0, .int .i64 0, .slice none 0 0]).drew).lt; have e0 := hE6.cell 0; have e1 := hE6.cell 1; have e2 := hE6.cell 2; have g0 := hE6.soft 0; have g1 := hE6.soft 1; have g2 := hE6.soft 2; clear ho6 hb6)
      | fail "no arm"))
  all_goals
    first
    | (have HVZ := Lib.hid (show Vot w4 (w.heap.size + 1) w6.heap.size t v A9 n c9 ls (w6.alloc (.cells #[.int .i64 t, .int .i64 v, .slice A9 n c9] 86)) from ⟨Blk.new _ _ _, (HQ4.out.below HB6.out HQ4.out.lt).alloc _, HO6.out.alloc _, HB6.out.size, by have := HB6.out.size; omega, fun k hk => by have := HO6.out.lt k hk; simp only [World.size_drew] at this; omega, up_alloc HB6.out _⟩)
       generalize (w6.alloc (.cells #[.int .i64 t, .int .i64 v, .slice A9 n c9] 86)) = wz at *
       generalize w6.heap.size = g at *)
    | (have HVZ := Lib.hid (show Vot w4 (w.heap.size + 1) w4.heap.size t v A9 n c9 ls (((w6.setCell ⟨w4.heap.size, 0, none⟩ (.int .i64 t)).setCell ⟨w4.heap.size, 1, none⟩ (.int .i64 v)).setCell ⟨w4.heap.size, 2, none⟩ (.slice A9 n c9)) from by
         have hne : ∀ k, (Value.slice A9 n c9).ownBlock = some k → k ≠ w4.heap.size := fun k hk => by have := HO6.out.lt k hk; simp only [World.size_drew, World.size_alloc] at this; omega
         have hql := HQ4.out.lt
         refine ⟨by simpa using ((hE6.put 0 (.int .i64 t)).put 1 (.int .i64 v)).put 2 (.slice A9 n c9), (((HQ4.out.below HB6.out hql).far (p := ⟨w4.heap.size, 0, none⟩) (by show w.heap.size + 1 ≠ w4.heap.size; omega) _).far (p := ⟨w4.heap.size, 1, none⟩) (by show w.heap.size + 1 ≠ w4.heap.size; omega) _).far (p := ⟨w4.heap.size, 2, none⟩) (by show w.heap.size + 1 ≠ w4.heap.size; omega) _, own_base (own_set (own_set (own_set HO6.out _ hne) _ hne) _ hne) (by simp only [World.size_drew, World.size_alloc]; omega), Nat.le_refl _, by omega, fun k hk => ⟨hne k hk, by have := HO6.out.lt k hk; simp only [World.size_drew, World.size_alloc] at this; omega⟩, ((HB6.out.setCell (p := ⟨w4.heap.size, 0, none⟩) (Nat.le_refl _) _).setCell (p := ⟨w4.heap.size, 1, none⟩) (Nat.le_refl _) _).setCell (p := ⟨w4.heap.size, 2, none⟩) (Nat.le_refl _) _⟩)
       clear e0 e1 e2 g0 g1 g2
       generalize (((w6.setCell ⟨w4.heap.size, 0, none⟩ (.int .i64 t)).setCell ⟨w4.heap.size, 1, none⟩ (.int .i64 v)).setCell ⟨w4.heap.size, 2, none⟩ (.slice A9 n c9)) = wz at *
       obtain ⟨g, hgg⟩ : ∃ g, g = w4.heap.size := ⟨_, rfl⟩
       rw [← hgg] at HVZ ⊢
       clear hgg)
  all_goals
    clear HO6 hE6
    try clear HB6
    obtain ⟨p0, p1, p2⟩ := HS.out _ HVZ.out.B
    have hgl := HVZ.out.hg
    have e00 := HVZ.out.E.cell 0
    have e01 := HVZ.out.E.cell 1
    have e02 := HVZ.out.E.cell 2
    have g00 := HVZ.out.E.soft 0
    have g01 := HVZ.out.E.soft 1
    by_cases hlt : term < t
    case pos =>
      have hd := decide_eq_true hlt
      have HU := Lib.hid (show askOf t v ls cand term log = ((t, v, ls), false) by rw [HA.out, if_pos hlt])
      obtain ⟨z0, z1, z2, hoz, hbz⟩ := HVZ.out.fin (w := w) (q := w.heap.size + 1) (by omega) (up HB4.out HVZ.out.B)
      have HOZ := Lib.hid hoz
      have HBZ := Lib.hid hbz
      have q0 := HVZ.out.Q.cell 0
      have q1 := HVZ.out.Q.cell 1
      have q2 := HVZ.out.Q.cell 2
      have f0 := HVZ.out.Q.soft 0
      have f1 := HVZ.out.Q.soft 1
      have f2 := HVZ.out.Q.soft 2
      clear hoz hbz
      go_wp2
      exact bodyPost_ret (v := .tuple #[.agg #[.int .i64 t, .int .i64 v, .slice A9 n c9], .bool false]) (by simp [results, Try.results59, go_sem, z0, z1, z2]) rfl (VtPost.own HU.out HL.out HOZ.out (by omega) HBZ.out)
    have hd : decide (term < t) = false := decide_eq_false hlt
    by_cases hgt : t < term
    case pos =>
      have hd2 : decide (t < term) = true := decide_eq_true hgt
      have HA2 := Lib.hid (show askOf t v ls cand term log = if newerOf log ls then ((term, cand, ls), true) else ((term, -1, ls), false) by rw [HA.out, if_neg hlt, if_pos hgt]; rfl)
      have HVY := Lib.hid ((HVZ.out.put0 term).put1 (-1))
      obtain ⟨s0, s1, s2⟩ := HS.out _ HVY.out.B
      have e10 := HVY.out.E.cell 0
      have e11 := HVY.out.E.cell 1
      have e12 := HVY.out.E.cell 2
      have g10 := HVY.out.E.soft 0
      have g11 := HVY.out.E.soft 1
      have HLG := Lib.hid (HS4.out.keep HVY.out.B (by omega))
      have HLS := Lib.hid (HR4.out.keep HVY.out.B (by omega))
      have hzy := HVY.out.B.size
      go_wp2_with (fail)
      generalize ((wz.setCell ⟨g, 0, none⟩ (.int .i64 term)).setCell ⟨g, 1, none⟩ (.int .i64 (-1))) = wy at *
      (with_reducible refine (NewerLogS_any lo2 hi2 n2 c2 A2 log lo hi n c A ls _ HLG.out (by omega) hn2 HLS.out (by omega) hn).mono ?_)
      rintro e wn ⟨rfl, hbn⟩
      have HVN := Lib.hid (HVY.out.below hbn)
      clear hbn e00 e01 e02 g00 g01 e10 e11 e12 g10 g11 p0 p1 p2 s0 s1 s2
      have e20 := HVN.out.E.cell 0
      have e21 := HVN.out.E.cell 1
      have e22 := HVN.out.E.cell 2
      have g20 := HVN.out.E.soft 0
      have g21 := HVN.out.E.soft 1
      cases hnw : newerOf log ls with
      | false =>
        have HU := Lib.hid (show askOf t v ls cand term log = ((term, -1, ls), false) by rw [HA2.out, hnw]; rfl)
        clear hnw
        obtain ⟨z0, z1, z2, hoz, hbz⟩ := HVN.out.fin (w := w) (q := w.heap.size + 1) (by omega) (up HB4.out HVN.out.B)
        have HOZ := Lib.hid hoz
        have HBZ := Lib.hid hbz
        have q0 := HVN.out.Q.cell 0
        have q1 := HVN.out.Q.cell 1
        have q2 := HVN.out.Q.cell 2
        have f0 := HVN.out.Q.soft 0
        have f1 := HVN.out.Q.soft 1
        have f2 := HVN.out.Q.soft 2
        clear hoz hbz
        go_wp2
        exact bodyPost_ret (v := .tuple #[.agg #[.int .i64 term, .int .i64 (-1), .slice A9 n c9], .bool false]) (by simp [results, Try.results59, go_sem, z0, z1, z2]) rfl (VtPost.own HU.out HL.out HOZ.out (by omega) HBZ.out)
      | true =>
        have HU := Lib.hid (show askOf t v ls cand term log = ((term, cand, ls), true) by rw [HA2.out, hnw]; rfl)
        clear hnw
        have HVC := Lib.hid (HVN.out.put1 cand)
        have e30 := HVC.out.E.cell 0
        have e31 := HVC.out.E.cell 1
        have e32 := HVC.out.E.cell 2
        have g30 := HVC.out.E.soft 0
        have g31 := HVC.out.E.soft 1
        obtain ⟨z0, z1, z2, hoz, hbz⟩ := HVC.out.fin (w := w) (q := w.heap.size + 1) (by omega) (up HB4.out HVC.out.B)
        have HOZ := Lib.hid hoz
        have HBZ := Lib.hid hbz
        have q0 := HVC.out.Q.cell 0
        have q1 := HVC.out.Q.cell 1
        have q2 := HVC.out.Q.cell 2
        have f0 := HVC.out.Q.soft 0
        have f1 := HVC.out.Q.soft 1
        have f2 := HVC.out.Q.soft 2
        clear hoz hbz
        go_wp2
        exact bodyPost_ret (v := .tuple #[.agg #[.int .i64 term, .int .i64 cand, .slice A9 n c9], .bool true]) (by simp [results, Try.results59, go_sem, z0, z1, z2]) rfl (VtPost.own HU.out HL.out HOZ.out (by omega) HBZ.out)
    obtain rfl : term = t := by omega
    have hd2 : decide (term < term) = false := decide_eq_false (by omega)
    have HA2 := Lib.hid (show askOf term v ls cand term log = if (v == -1 || v == cand) && newerOf log ls then ((term, cand, ls), true) else ((term, v, ls), false) by rw [HA.out, if_neg hlt, if_neg hlt])
    have HLG := Lib.hid (HS4.out.keep HVZ.out.B (by omega))
    have HLS := Lib.hid (HR4.out.keep HVZ.out.B (by omega))
    have hzy := HVZ.out.B.size
    by_cases hb1 : v = -1 ∨ v = cand
    case neg =>
      have d1 : (v != -1) = true := by simpa using fun h => hb1 (.inl h)
      have d2 : (v != cand) = true := by simpa using fun h => hb1 (.inr h)
      have HU := Lib.hid (show askOf term v ls cand term log = ((term, v, ls), false) by rw [HA2.out, show (v == -1 || v == cand) = false by simpa using hb1]; rfl)
      clear hb1
      obtain ⟨z0, z1, z2, hoz, hbz⟩ := HVZ.out.fin (w := w) (q := w.heap.size + 1) (by omega) (up HB4.out HVZ.out.B)
      have HOZ := Lib.hid hoz
      have HBZ := Lib.hid hbz
      have q0 := HVZ.out.Q.cell 0
      have q1 := HVZ.out.Q.cell 1
      have q2 := HVZ.out.Q.cell 2
      have f0 := HVZ.out.Q.soft 0
      have f1 := HVZ.out.Q.soft 1
      have f2 := HVZ.out.Q.soft 2
      clear hoz hbz
      go_wp2
      exact bodyPost_ret (v := .tuple #[.agg #[.int .i64 term, .int .i64 v, .slice A9 n c9], .bool false]) (by simp [results, Try.results59, go_sem, z0, z1, z2]) rfl (VtPost.own HU.out HL.out HOZ.out (by omega) HBZ.out)
    have HA3 := Lib.hid (show askOf term v ls cand term log = if newerOf log ls then ((term, cand, ls), true) else ((term, v, ls), false) by rw [HA2.out, show (v == -1 || v == cand) = true by simpa using hb1]; rfl)
    obtain ⟨k1, hk1⟩ : ∃ k1, (v != -1) = k1 := ⟨_, rfl⟩
    have hk2 : k1 = true → (v != cand) = false := fun h => by
      rcases hb1 with h1 | h1
      · rw [← hk1, h1] at h; simp at h
      · simp [h1]
    clear hb1
    cases k1 with
    | false =>
      clear hk2
      go_wp2_with (fail)
      (with_reducible refine (NewerLogS_any lo2 hi2 n2 c2 A2 log lo hi n c A ls _ HLG.out (by omega) hn2 HLS.out (by omega) hn).mono ?_)
      rintro e wn ⟨rfl, hbn⟩
      have HVN := Lib.hid (HVZ.out.below hbn)
      clear hbn e00 e01 e02 g00 g01 p0 p1 p2
      have e20 := HVN.out.E.cell 0
      have e21 := HVN.out.E.cell 1
      have e22 := HVN.out.E.cell 2
      have g20 := HVN.out.E.soft 0
      have g21 := HVN.out.E.soft 1
      cases hnw : newerOf log ls with
      | false =>
        have HU := Lib.hid (show askOf term v ls cand term log = ((term, v, ls), false) by rw [HA3.out, hnw]; rfl)
        clear hnw
        obtain ⟨z0, z1, z2, hoz, hbz⟩ := HVN.out.fin (w := w) (q := w.heap.size + 1) (by omega) (up HB4.out HVN.out.B)
        have HOZ := Lib.hid hoz
        have HBZ := Lib.hid hbz
        have q0 := HVN.out.Q.cell 0
        have q1 := HVN.out.Q.cell 1
        have q2 := HVN.out.Q.cell 2
        have f0 := HVN.out.Q.soft 0
        have f1 := HVN.out.Q.soft 1
        have f2 := HVN.out.Q.soft 2
        clear hoz hbz
        go_wp2
        exact bodyPost_ret (v := .tuple #[.agg #[.int .i64 term, .int .i64 v, .slice A9 n c9], .bool false]) (by simp [results, Try.results59, go_sem, z0, z1, z2]) rfl (VtPost.own HU.out HL.out HOZ.out (by omega) HBZ.out)
      | true =>
        have HU := Lib.hid (show askOf term v ls cand term log = ((term, cand, ls), true) by rw [HA3.out, hnw]; rfl)
        clear hnw
        have HVC := Lib.hid (HVN.out.put1 cand)
        have e30 := HVC.out.E.cell 0
        have e31 := HVC.out.E.cell 1
        have e32 := HVC.out.E.cell 2
        have g30 := HVC.out.E.soft 0
        have g31 := HVC.out.E.soft 1
        obtain ⟨z0, z1, z2, hoz, hbz⟩ := HVC.out.fin (w := w) (q := w.heap.size + 1) (by omega) (up HB4.out HVC.out.B)
        have HOZ := Lib.hid hoz
        have HBZ := Lib.hid hbz
        have q0 := HVC.out.Q.cell 0
        have q1 := HVC.out.Q.cell 1
        have q2 := HVC.out.Q.cell 2
        have f0 := HVC.out.Q.soft 0
        have f1 := HVC.out.Q.soft 1
        have f2 := HVC.out.Q.soft 2
        clear hoz hbz
        go_wp2
        exact bodyPost_ret (v := .tuple #[.agg #[.int .i64 term, .int .i64 cand, .slice A9 n c9], .bool true]) (by simp [results, Try.results59, go_sem, z0, z1, z2]) rfl (VtPost.own HU.out HL.out HOZ.out (by omega) HBZ.out)
    | true =>
      have hk3 := hk2 rfl
      clear hk2
      go_wp2_with (fail)
      (with_reducible refine (NewerLogS_any lo2 hi2 n2 c2 A2 log lo hi n c A ls _ HLG.out (by omega) hn2 HLS.out (by omega) hn).mono ?_)
      rintro e wn ⟨rfl, hbn⟩
      have HVN := Lib.hid (HVZ.out.below hbn)
      clear hbn e00 e01 e02 g00 g01 p0 p1 p2
      have e20 := HVN.out.E.cell 0
      have e21 := HVN.out.E.cell 1
      have e22 := HVN.out.E.cell 2
      have g20 := HVN.out.E.soft 0
      have g21 := HVN.out.E.soft 1
      cases hnw : newerOf log ls with
      | false =>
        have HU := Lib.hid (show askOf term v ls cand term log = ((term, v, ls), false) by rw [HA3.out, hnw]; rfl)
        clear hnw
        obtain ⟨z0, z1, z2, hoz, hbz⟩ := HVN.out.fin (w := w) (q := w.heap.size + 1) (by omega) (up HB4.out HVN.out.B)
        have HOZ := Lib.hid hoz
        have HBZ := Lib.hid hbz
        have q0 := HVN.out.Q.cell 0
        have q1 := HVN.out.Q.cell 1
        have q2 := HVN.out.Q.cell 2
        have f0 := HVN.out.Q.soft 0
        have f1 := HVN.out.Q.soft 1
        have f2 := HVN.out.Q.soft 2
        clear hoz hbz
        go_wp2
        exact bodyPost_ret (v := .tuple #[.agg #[.int .i64 term, .int .i64 v, .slice A9 n c9], .bool false]) (by simp [results, Try.results59, go_sem, z0, z1, z2]) rfl (VtPost.own HU.out HL.out HOZ.out (by omega) HBZ.out)
      | true =>
        have HU := Lib.hid (show askOf term v ls cand term log = ((term, cand, ls), true) by rw [HA3.out, hnw]; rfl)
        clear hnw
        have HVC := Lib.hid (HVN.out.put1 cand)
        have e30 := HVC.out.E.cell 0
        have e31 := HVC.out.E.cell 1
        have e32 := HVC.out.E.cell 2
        have g30 := HVC.out.E.soft 0
        have g31 := HVC.out.E.soft 1
        obtain ⟨z0, z1, z2, hoz, hbz⟩ := HVC.out.fin (w := w) (q := w.heap.size + 1) (by omega) (up HB4.out HVC.out.B)
        have HOZ := Lib.hid hoz
        have HBZ := Lib.hid hbz
        have q0 := HVC.out.Q.cell 0
        have q1 := HVC.out.Q.cell 1
        have q2 := HVC.out.Q.cell 2
        have f0 := HVC.out.Q.soft 0
        have f1 := HVC.out.Q.soft 1
        have f2 := HVC.out.Q.soft 2
        clear hoz hbz
        go_wp2
        exact bodyPost_ret (v := .tuple #[.agg #[.int .i64 term, .int .i64 cand, .slice A9 n c9], .bool true]) (by simp [results, Try.results59, go_sem, z0, z1, z2]) rfl (VtPost.own HU.out HL.out HOZ.out (by omega) HBZ.out)
end Go.Proofs.Ytfpiejcfhdnjiaa
