/- The program's voters: Voter.isValid, canAsk, asked, AskVote. (Written by gen/aski.py.) -/
import Derived.Test.YtfpiejcfhdnjiaaAskS
import Derived.Test.YtfpiejcfhdnjiaaLogJ
import Derived.Test.YtfpiejcfhdnjiaaVoteI
set_option linter.unusedSimpArgs false
set_option linter.unusedVariables false
namespace Go.Proofs.Ytfpiejcfhdnjiaa
open Go.RowKit

/-- What is answered to a valid one. -/
def askedOf (t v : Int) (ls : List En) (c term : Int) (log : List En) : (Int × Int × List En) × Bool :=
  if term < t then ((t, v, ls), false) else if ((if t < term then -1 else v) == -1 || (if t < term then -1 else v) == c) && newerOf log ls then ((term, c, ls), true) else ((term, if t < term then -1 else v, ls), false)
/-- A voter's answer, its log in a row of the call's own. -/
def VtOwn (u : (Int × Int × List En) × Bool) (w : World) (e : Ending) (w' : World) : Prop :=
  ∃ A n c, e = .returned (.tuple #[.agg #[.int .i64 u.1.1, .int .i64 u.1.2.1, .slice A n c], .bool u.2]) ∧ u.1.2.2.length = n ∧ w'.ownsRow w.heap.size 29 2 (.slice A n c) n (pvs u.1.2.2) ∧ Below w.heap.size w w'
theorem VtOwn.yes {u : (Int × Int × List En) × Bool} {t v : Int} {ls : List En} {b : Bool} {n base : Nat} {A : Option Addr} {c : Nat} {w w' : World} (hu : u = ((t, v, ls), b)) (hm : ls.length = n) (ho : w'.ownsRow base 29 2 (.slice A n c) n (pvs ls)) (hbase : w.heap.size ≤ base) (hb : Below w.heap.size w w') : VtOwn u w (.returned (.tuple #[.agg #[.int .i64 t, .int .i64 v, .slice A n c], .bool b])) w' := by
  subst hu
  exact ⟨A, n, c, rfl, hm, own_base ho hbase, hb⟩
set_option maxRecDepth 100000 in
set_option maxHeartbeats 800000 in
theorem cloneEntry_any (lo hi n c : Nat) (A : Option Addr) (ps : List En) (w : World) (hr : Rd w lo hi 2 A n (pvs ps)) (hB : hi ≤ w.heap.size) (hn : n ≤ 1048576) :
    Calls Try.prog 50 #[.slice A n c] w fun e w' => ∃ A9 c9, e = .returned (.slice A9 n c9) ∧ w'.ownsRow w.heap.size 29 2 (.slice A9 n c9) n (pvs ps) ∧ Below w.heap.size w w' := by
  have HL := Lib.hid hr.len2
  obtain ⟨i0, hi0, hz0, hz1, hz2⟩ := info_parts infoEntry
  cases A with
  | none =>
    obtain rfl : n = 0 := by
      rcases Nat.eq_zero_or_pos n with h | h
      · exact h
      · obtain ⟨_, _, e, _⟩ := hr.form h; cases e
    obtain rfl : ps = [] := List.eq_nil_of_length_eq_zero HL.out
    clear hr
    have q22 : ∀ (w : World) (a : Option Addr) (n c n' c' : Nat), (binOp .eql 23 (.slice a n c) (.slice none n' c')).run Try.prog w = .ok (.bool a.isNone) w := fun w a n c n' c' => Lib.run_eql_slice_nil w _ _ a n c n' c' Try.underlying23
    go_enter Try.func50, Try.ntmps50
    go_wp2
    go_ret
    exact ⟨none, 0, rfl, World.ownsRow_nil _ _ _ _, Below.refl _ _⟩
  | some a =>
    have hown1 : (w.alloc (.cells #[] 29)).ownsRow w.heap.size 29 2 (.slice (some ⟨w.heap.size, 0, none⟩) 0 0) 0 [] := World.ownsRow_made w #[] 0 (Nat.le_refl _) (by unfold maxLen; omega) (by simp)
    have hbl := up_alloc (Below.refl _ w) (.cells #[] 29)
    have hr1 := hr.keep hbl hB
    have q22 : ∀ (w : World) (a : Option Addr) (n c n' c' : Nat), (binOp .eql 23 (.slice a n c) (.slice none n' c')).run Try.prog w = .ok (.bool a.isNone) w := fun w a n c n' c' => Lib.run_eql_slice_nil w _ _ a n c n' c' Try.underlying23
    go_enter Try.func50, Try.ntmps50
    go_wp2_with (at_builtin; refine wpList_append_rd _ rfl _ _ 23 rfl w.heap.size 29 i0 _ 2 16 Try.underlying23 hi0 hz0 hz1 hz2 rfl (by decide) _ _ _ rfl hown1 lo hi (some a) n c (pvs ps) rfl hr1 (pvs_one ps) ?c3 ?c4 ?c5 ?_)
    case c3 => unfold maxLen; omega
    case c4 => omega
    case c5 => simp
    intro v2 w2 hown2 hg2 _
    have hb2 := up_grown hbl hown1 hg2 (Nat.le_refl _)
    try simp only [Nat.zero_add, List.nil_append] at hown2
    have HO := Lib.hid hown2
    clear hown1 hown2 hg2 hr1 hbl
    obtain ⟨A2, c2, hv2, _⟩ := own_form HO.out
    subst hv2
    go_wp2
    go_ret
    exact ⟨A2, c2, rfl, HO.out, hb2⟩
set_option maxRecDepth 100000 in
set_option maxHeartbeats 1600000 in
theorem voterValidI_any (t v : Int) (lo hi n c : Nat) (A : Option Addr) (ls : List En) (w : World) (hr : Rd w lo hi 2 A n (pvs ls)) (hB : hi ≤ w.heap.size) (hn : n ≤ 1048576) (hcap : n ≤ c) :
    Calls Try.prog 62 #[.agg #[.int .i64 t, .int .i64 v, .slice A n c]] w fun e w' => e = .returned (.bool (vVoter t v ls)) ∧ Below w.heap.size w w' := by
  have hb0 := up_alloc (Below.refl _ w) (.cells #[.int .i64 t, .int .i64 v, .slice A n c] 86)
  have HR := Lib.hid (hr.keep hb0 hB)
  have HB0 := Lib.hid hb0
  have hz0 := hb0.size
  clear hr hb0
  have HV := Lib.hid (show vVoter t v ls = (decide (0 ≤ t) && decide (t ≤ 9) && (decide (v = -1) || inR v 0 6) && vLog ls) by rw [← inR_voted]; rfl)
  cases h1 : decide (0 ≤ t) with
  | false =>
    have HX := Lib.hid (show vVoter t v ls = false by rw [HV.out, h1]; rfl)
    go_enter Try.func62, Try.ntmps62
    go_wp2
    go_ret
    exact ⟨by rw [HX.out]; rfl, HB0.out⟩
  | true =>
  cases h2 : decide (t ≤ 9) with
  | false =>
    have HX := Lib.hid (show vVoter t v ls = false by rw [HV.out, h2]; simp)
    go_enter Try.func62, Try.ntmps62
    go_wp2
    go_ret
    exact ⟨by rw [HX.out]; rfl, HB0.out⟩
  | true =>
  by_cases h3 : v = -1
  · subst h3
    have HX := Lib.hid (show vVoter t (-1) ls = vLog ls by rw [HV.out, h1, h2]; rfl)
    go_enter Try.func62, Try.ntmps62
    go_wp2_with (fail)
    (with_reducible refine (ValidLogI_any lo hi n c A ls _ HR.out (by omega) hn hcap).mono ?_)
    rintro e w1 ⟨rfl, hb1⟩
    have HB1 := Lib.hid (up HB0.out hb1)
    clear hb1
    generalize vLog ls = q at *
    go_wp2
    go_ret
    exact ⟨by rw [HX.out]; rfl, HB1.out⟩
  have h3b : (v == -1) = false := by simpa using h3
  have HX := Lib.hid (show vVoter t v ls = (inR v 0 6 && vLog ls) by rw [HV.out, h1, h2, decide_eq_false h3]; simp)
  go_enter Try.func62, Try.ntmps62
  go_wp2_with (fail)
  (with_reducible refine (isServer_any v _).mono ?_)
  rintro e w1 ⟨rfl, rfl⟩
  cases h4 : inR v 0 6 with
  | false =>
    have HY := Lib.hid (show vVoter t v ls = false by rw [HX.out, h4]; rfl)
    clear h4
    go_wp2
    go_ret
    exact ⟨by rw [HY.out]; rfl, HB0.out⟩
  | true =>
    have HY := Lib.hid (show vVoter t v ls = vLog ls by rw [HX.out, h4]; rfl)
    clear h4
    go_wp2_with (fail)
    (with_reducible refine (ValidLogI_any lo hi n c A ls _ HR.out (by omega) hn hcap).mono ?_)
    rintro e w1 ⟨rfl, hb1⟩
    have HB1 := Lib.hid (up HB0.out hb1)
    clear hb1
    generalize vLog ls = q at *
    go_wp2
    go_ret
    exact ⟨by rw [HY.out]; rfl, HB1.out⟩
set_option maxHeartbeats 1600000 in
theorem canAsk_any (cand term : Int) (lo hi n c : Nat) (A : Option Addr) (ls : List En) (w : World) (hr : Rd w lo hi 2 A n (pvs ls)) (hB : hi ≤ w.heap.size) (hn : n ≤ 1048576) (hcap : n ≤ c) :
    Calls Try.prog 61 #[.int .i64 cand, .int .i64 term, .slice A n c] w fun e w' => e = .returned (.bool (inR cand 0 6 && inR term 1 9 && vLog ls)) ∧ Below w.heap.size w w' := by
  have HR := Lib.hid hr
  clear hr
  have HV := Lib.hid (show (inR cand 0 6 && inR term 1 9 && vLog ls) = (inR cand 0 6 && (decide (1 ≤ term) && decide (term ≤ 9)) && vLog ls) from rfl)
  generalize (inR cand 0 6 && inR term 1 9 && vLog ls) = u at *
  go_enter Try.func61, Try.ntmps61
  go_wp2_with (fail)
  (with_reducible refine (isServer_any cand _).mono ?_)
  rintro e w1 ⟨rfl, rfl⟩
  cases h1 : inR cand 0 6 with
  | false =>
    have HY := Lib.hid (show u = false by rw [HV.out, h1]; rfl)
    clear h1
    go_wp2
    go_ret
    exact ⟨by rw [HY.out]; rfl, Below.refl _ _⟩
  | true =>
  cases h2 : decide (1 ≤ term) with
  | false =>
    have HY := Lib.hid (show u = false by rw [HV.out, h2]; simp)
    clear h1
    go_wp2
    go_ret
    exact ⟨by rw [HY.out]; rfl, Below.refl _ _⟩
  | true =>
  cases h3 : decide (term ≤ 9) with
  | false =>
    have HY := Lib.hid (show u = false by rw [HV.out, h3]; simp)
    clear h1
    go_wp2
    go_ret
    exact ⟨by rw [HY.out]; rfl, Below.refl _ _⟩
  | true =>
    have HY := Lib.hid (show u = vLog ls by rw [HV.out, h1, h2, h3]; rfl)
    clear h1
    go_wp2_with (fail)
    (with_reducible refine (ValidLogI_any lo hi n c A ls _ HR.out (by omega) hn hcap).mono ?_)
    rintro e w1 ⟨rfl, hb1⟩
    have HB1 := Lib.hid hb1
    clear hb1
    generalize vLog ls = q at *
    go_wp2
    go_ret
    exact ⟨by rw [HY.out]; rfl, HB1.out⟩
set_option maxRecDepth 100000 in
set_option maxHeartbeats 3200000 in
theorem asked_any (t v : Int) (lo hi n c : Nat) (A : Option Addr) (ls : List En) (cand term : Int) (lo2 hi2 n2 c2 : Nat) (A2 : Option Addr) (log : List En) (w : World) (hr : Rd w lo hi 2 A n (pvs ls)) (hB : hi ≤ w.heap.size) (hn : n ≤ 1048576) (hr2 : Rd w lo2 hi2 2 A2 n2 (pvs log)) (hB2 : hi2 ≤ w.heap.size) (hn2 : n2 ≤ 1048576) (hcap2 : n2 ≤ c2) :
    Calls Try.prog 63 #[.agg #[.int .i64 t, .int .i64 v, .slice A n c], .int .i64 cand, .int .i64 term, .slice A2 n2 c2] w (VtOwn (askedOf t v ls cand term log) w) := by
  have HL := Lib.hid hr.len2
  have hb0 := up_alloc (up_alloc (Below.refl _ w) (.cells #[.int .i64 t, .int .i64 v, .slice A n c] 86)) (.cells #[.int .i64 0, .int .i64 0, .slice none 0 0] 86)
  have hp0 := (Blk.new w 86 #[.int .i64 t, .int .i64 v, .slice A n c]).alloc (.cells #[.int .i64 0, .int .i64 0, .slice none 0 0] 86)
  have hq0 : Blk ((w.alloc (.cells #[.int .i64 t, .int .i64 v, .slice A n c] 86)).alloc (.cells #[.int .i64 0, .int .i64 0, .slice none 0 0] 86)) (w.heap.size + 1) 86 #[.int .i64 0, .int .i64 0, .slice none 0 0] := Blk.new2 (by simp)
  have HR := Lib.hid (hr.keep hb0 hB)
  have HR2 := Lib.hid hr2
  have HB0 := Lib.hid hb0
  have HP0 := Lib.hid hp0
  have HQ0 := Lib.hid hq0
  have hz0 : ((w.alloc (.cells #[.int .i64 t, .int .i64 v, .slice A n c] 86)).alloc (.cells #[.int .i64 0, .int .i64 0, .slice none 0 0] 86)).heap.size = w.heap.size + 1 + 1 := by simp
  clear hr hr2 hb0 hp0 hq0
  have HA := Lib.hid (show askedOf t v ls cand term log = if term < t then ((t, v, ls), false) else if ((if t < term then -1 else v) == -1 || (if t < term then -1 else v) == cand) && newerOf log ls then ((term, cand, ls), true) else ((term, if t < term then -1 else v, ls), false) from rfl)
  generalize askedOf t v ls cand term log = u at *
  go_enter Try.func63, Try.ntmps63
  go_wp2_with (fail)
  generalize hw2 : (w.alloc (.cells #[.int .i64 t, .int .i64 v, .slice A n c] 86)).alloc (.cells #[.int .i64 0, .int .i64 0, .slice none 0 0] 86) = w2 at *
  clear hw2
  (with_reducible refine (cloneEntry_any lo hi n c A ls _ HR.out (by omega) hn).mono ?_)
  rintro e w3 ⟨A9, c9, rfl, ho9, hb3⟩
  have hz3 := hb3.size
  have HVZ := Lib.hid (show Vot w (w.heap.size + 1) w.heap.size t v A9 n c9 ls (w3.setCell ⟨w.heap.size, 2, none⟩ (.slice A9 n c9)) from by
    have hne : ∀ k, (Value.slice A9 n c9).ownBlock = some k → k ≠ w.heap.size ∧ k ≠ w.heap.size + 1 := fun k hk => by have := ho9.lt k hk; omega
    exact ⟨by simpa using (HP0.out.below hb3 (by omega)).put 2 (.slice A9 n c9), (HQ0.out.below hb3 (by omega)).far (p := ⟨w.heap.size, 2, none⟩) (by show w.heap.size + 1 ≠ w.heap.size; omega) _, own_base (own_set ho9 _ (fun k hk => (hne k hk).1)) (by omega), Nat.le_refl _, by omega, hne, (up HB0.out hb3).setCell (p := ⟨w.heap.size, 2, none⟩) (Nat.le_refl _) _⟩)
  have HP3 := Lib.hid (HP0.out.below hb3 (by omega))
  have p2 := HP3.out.cell 2
  have s2 := HP3.out.soft 2
  clear ho9 HP0 HQ0 HR HB0 hb3
  have e00 := HVZ.out.E.cell 0
  have e01 := HVZ.out.E.cell 1
  have e02 := HVZ.out.E.cell 2
  have g00 := HVZ.out.E.soft 0
  have g01 := HVZ.out.E.soft 1
  by_cases hlt : term < t
  case pos =>
    have hd := decide_eq_true hlt
    have HU := Lib.hid (show u = ((t, v, ls), false) by rw [HA.out, if_pos hlt])
    obtain ⟨z0, z1, z2, hoz, hbz⟩ := HVZ.out.fin (w := w) (q := w.heap.size + 1) (by omega) HVZ.out.B
    have HOZ := Lib.hid hoz
    have HBZ := Lib.hid hbz
    have q0 := HVZ.out.Q.cell 0
    have q1 := HVZ.out.Q.cell 1
    have q2 := HVZ.out.Q.cell 2
    have f0 := HVZ.out.Q.soft 0
    have f1 := HVZ.out.Q.soft 1
    have f2 := HVZ.out.Q.soft 2
    clear hoz hbz
    go_wp2
    exact bodyPost_ret (v := .tuple #[.agg #[.int .i64 t, .int .i64 v, .slice A9 n c9], .bool false]) (by simp [results, Try.results63, go_sem, z0, z1, z2]) rfl (VtOwn.yes HU.out HL.out HOZ.out (Nat.le_refl _) HBZ.out)
  have hd : decide (term < t) = false := decide_eq_false hlt
  by_cases hgt : t < term
  case pos =>
    have hd2 : decide (t < term) = true := decide_eq_true hgt
    have HA2 := Lib.hid (show u = if newerOf log ls then ((term, cand, ls), true) else ((term, -1, ls), false) by rw [HA.out, if_neg hlt, if_pos hgt]; rfl)
    have HVY := Lib.hid ((HVZ.out.put0 term).put1 (-1))
    have e10 := HVY.out.E.cell 0
    have e11 := HVY.out.E.cell 1
    have e12 := HVY.out.E.cell 2
    have g10 := HVY.out.E.soft 0
    have g11 := HVY.out.E.soft 1
    have HLG := Lib.hid (HR2.out.keep HVY.out.B hB2)
    have hzy := HVY.out.B.size
    obtain ⟨A8, c8, hv8, hc8, HRL, _⟩ := own_form HVY.out.O
    cases hv8
    have HLS := Lib.hid HRL
    clear HRL
    go_wp2_with (fail)
    generalize ((((w3.setCell ⟨w.heap.size, 2, none⟩ (.slice A9 n c9)).setCell ⟨w.heap.size, 0, none⟩ (.int .i64 term)).setCell ⟨w.heap.size, 1, none⟩ (.int .i64 (-1)))) = wy at *
    (with_reducible refine (NewerLogI_any lo2 hi2 n2 c2 A2 log w.heap.size _ n c9 A9 ls _ HLG.out (by omega) hn2 hcap2 HLS.out (Nat.le_refl _) hn hc8).mono ?_)
    rintro e wn ⟨rfl, hbn⟩
    have HVN := Lib.hid (HVY.out.below hbn)
    clear hbn e00 e01 e02 g00 g01
    try clear e10 e11 e12 g10 g11
    have e20 := HVN.out.E.cell 0
    have e21 := HVN.out.E.cell 1
    have e22 := HVN.out.E.cell 2
    have g20 := HVN.out.E.soft 0
    have g21 := HVN.out.E.soft 1
    cases hnw : newerOf log ls with
    | false =>
      have HU := Lib.hid (show u = ((term, (-1), ls), false) by rw [HA2.out, hnw]; rfl)
      clear hnw
      obtain ⟨z0, z1, z2, hoz, hbz⟩ := HVN.out.fin (w := w) (q := w.heap.size + 1) (by omega) HVN.out.B
      have HOZ := Lib.hid hoz
      have HBZ := Lib.hid hbz
      have q0 := HVN.out.Q.cell 0
      have q1 := HVN.out.Q.cell 1
      have q2 := HVN.out.Q.cell 2
      have f0 := HVN.out.Q.soft 0
      have f1 := HVN.out.Q.soft 1
      have f2 := HVN.out.Q.soft 2
      clear hoz hbz
      go_wp2
      exact bodyPost_ret (v := .tuple #[.agg #[.int .i64 term, .int .i64 (-1), .slice A9 n c9], .bool false]) (by simp [results, Try.results63, go_sem, z0, z1, z2]) rfl (VtOwn.yes HU.out HL.out HOZ.out (Nat.le_refl _) HBZ.out)
    | true =>
      have HU := Lib.hid (show u = ((term, cand, ls), true) by rw [HA2.out, hnw]; rfl)
      clear hnw
      have HVC := Lib.hid (HVN.out.put1 cand)
      have e30 := HVC.out.E.cell 0
      have e31 := HVC.out.E.cell 1
      have e32 := HVC.out.E.cell 2
      have g30 := HVC.out.E.soft 0
      have g31 := HVC.out.E.soft 1
      obtain ⟨z0, z1, z2, hoz, hbz⟩ := HVC.out.fin (w := w) (q := w.heap.size + 1) (by omega) HVC.out.B
      have HOZ := Lib.hid hoz
      have HBZ := Lib.hid hbz
      have q0 := HVC.out.Q.cell 0
      have q1 := HVC.out.Q.cell 1
      have q2 := HVC.out.Q.cell 2
      have f0 := HVC.out.Q.soft 0
      have f1 := HVC.out.Q.soft 1
      have f2 := HVC.out.Q.soft 2
      clear hoz hbz
      go_wp2
      exact bodyPost_ret (v := .tuple #[.agg #[.int .i64 term, .int .i64 cand, .slice A9 n c9], .bool true]) (by simp [results, Try.results63, go_sem, z0, z1, z2]) rfl (VtOwn.yes HU.out HL.out HOZ.out (Nat.le_refl _) HBZ.out)
  obtain rfl : term = t := by omega
  have hd2 : decide (term < term) = false := decide_eq_false (by omega)
  have HA2 := Lib.hid (show u = if (v == -1 || v == cand) && newerOf log ls then ((term, cand, ls), true) else ((term, v, ls), false) by rw [HA.out, if_neg hlt, if_neg hlt])
  by_cases hb1 : v = -1 ∨ v = cand
  case neg =>
    have d1 : (v != -1) = true := by simpa using fun h => hb1 (.inl h)
    have d2 : (v != cand) = true := by simpa using fun h => hb1 (.inr h)
    have HU := Lib.hid (show u = ((term, v, ls), false) by rw [HA2.out, show (v == -1 || v == cand) = false by simpa using hb1]; rfl)
    clear hb1
    obtain ⟨z0, z1, z2, hoz, hbz⟩ := HVZ.out.fin (w := w) (q := w.heap.size + 1) (by omega) HVZ.out.B
    have HOZ := Lib.hid hoz
    have HBZ := Lib.hid hbz
    have q0 := HVZ.out.Q.cell 0
    have q1 := HVZ.out.Q.cell 1
    have q2 := HVZ.out.Q.cell 2
    have f0 := HVZ.out.Q.soft 0
    have f1 := HVZ.out.Q.soft 1
    have f2 := HVZ.out.Q.soft 2
    clear hoz hbz
    go_wp2
    exact bodyPost_ret (v := .tuple #[.agg #[.int .i64 term, .int .i64 v, .slice A9 n c9], .bool false]) (by simp [results, Try.results63, go_sem, z0, z1, z2]) rfl (VtOwn.yes HU.out HL.out HOZ.out (Nat.le_refl _) HBZ.out)
  have HA3 := Lib.hid (show u = if newerOf log ls then ((term, cand, ls), true) else ((term, v, ls), false) by rw [HA2.out, show (v == -1 || v == cand) = true by simpa using hb1]; rfl)
  obtain ⟨k1, hk1⟩ : ∃ k1, (v != -1) = k1 := ⟨_, rfl⟩
  have hk2 : k1 = true → (v != cand) = false := fun h => by
    rcases hb1 with h1 | h1
    · rw [← hk1, h1] at h; simp at h
    · simp [h1]
  clear hb1
  cases k1 with
  | false =>
    clear hk2
    have HLG := Lib.hid (HR2.out.keep HVZ.out.B hB2)
    have hzy := HVZ.out.B.size
    obtain ⟨A8, c8, hv8, hc8, HRL, _⟩ := own_form HVZ.out.O
    cases hv8
    have HLS := Lib.hid HRL
    clear HRL
    go_wp2_with (fail)
    (with_reducible refine (NewerLogI_any lo2 hi2 n2 c2 A2 log w.heap.size _ n c9 A9 ls _ HLG.out (by omega) hn2 hcap2 HLS.out (Nat.le_refl _) hn hc8).mono ?_)
    rintro e wn ⟨rfl, hbn⟩
    have HVN := Lib.hid (HVZ.out.below hbn)
    clear hbn e00 e01 e02 g00 g01
    try clear e10 e11 e12 g10 g11
    have e20 := HVN.out.E.cell 0
    have e21 := HVN.out.E.cell 1
    have e22 := HVN.out.E.cell 2
    have g20 := HVN.out.E.soft 0
    have g21 := HVN.out.E.soft 1
    cases hnw : newerOf log ls with
    | false =>
      have HU := Lib.hid (show u = ((term, v, ls), false) by rw [HA3.out, hnw]; rfl)
      clear hnw
      obtain ⟨z0, z1, z2, hoz, hbz⟩ := HVN.out.fin (w := w) (q := w.heap.size + 1) (by omega) HVN.out.B
      have HOZ := Lib.hid hoz
      have HBZ := Lib.hid hbz
      have q0 := HVN.out.Q.cell 0
      have q1 := HVN.out.Q.cell 1
      have q2 := HVN.out.Q.cell 2
      have f0 := HVN.out.Q.soft 0
      have f1 := HVN.out.Q.soft 1
      have f2 := HVN.out.Q.soft 2
      clear hoz hbz
      go_wp2
      exact bodyPost_ret (v := .tuple #[.agg #[.int .i64 term, .int .i64 v, .slice A9 n c9], .bool false]) (by simp [results, Try.results63, go_sem, z0, z1, z2]) rfl (VtOwn.yes HU.out HL.out HOZ.out (Nat.le_refl _) HBZ.out)
    | true =>
      have HU := Lib.hid (show u = ((term, cand, ls), true) by rw [HA3.out, hnw]; rfl)
      clear hnw
      have HVC := Lib.hid (HVN.out.put1 cand)
      have e30 := HVC.out.E.cell 0
      have e31 := HVC.out.E.cell 1
      have e32 := HVC.out.E.cell 2
      have g30 := HVC.out.E.soft 0
      have g31 := HVC.out.E.soft 1
      obtain ⟨z0, z1, z2, hoz, hbz⟩ := HVC.out.fin (w := w) (q := w.heap.size + 1) (by omega) HVC.out.B
      have HOZ := Lib.hid hoz
      have HBZ := Lib.hid hbz
      have q0 := HVC.out.Q.cell 0
      have q1 := HVC.out.Q.cell 1
      have q2 := HVC.out.Q.cell 2
      have f0 := HVC.out.Q.soft 0
      have f1 := HVC.out.Q.soft 1
      have f2 := HVC.out.Q.soft 2
      clear hoz hbz
      go_wp2
      exact bodyPost_ret (v := .tuple #[.agg #[.int .i64 term, .int .i64 cand, .slice A9 n c9], .bool true]) (by simp [results, Try.results63, go_sem, z0, z1, z2]) rfl (VtOwn.yes HU.out HL.out HOZ.out (Nat.le_refl _) HBZ.out)
  | true =>
    have hk3 := hk2 rfl
    clear hk2
    have HLG := Lib.hid (HR2.out.keep HVZ.out.B hB2)
    have hzy := HVZ.out.B.size
    obtain ⟨A8, c8, hv8, hc8, HRL, _⟩ := own_form HVZ.out.O
    cases hv8
    have HLS := Lib.hid HRL
    clear HRL
    go_wp2_with (fail)
    (with_reducible refine (NewerLogI_any lo2 hi2 n2 c2 A2 log w.heap.size _ n c9 A9 ls _ HLG.out (by omega) hn2 hcap2 HLS.out (Nat.le_refl _) hn hc8).mono ?_)
    rintro e wn ⟨rfl, hbn⟩
    have HVN := Lib.hid (HVZ.out.below hbn)
    clear hbn e00 e01 e02 g00 g01
    try clear e10 e11 e12 g10 g11
    have e20 := HVN.out.E.cell 0
    have e21 := HVN.out.E.cell 1
    have e22 := HVN.out.E.cell 2
    have g20 := HVN.out.E.soft 0
    have g21 := HVN.out.E.soft 1
    cases hnw : newerOf log ls with
    | false =>
      have HU := Lib.hid (show u = ((term, v, ls), false) by rw [HA3.out, hnw]; rfl)
      clear hnw
      obtain ⟨z0, z1, z2, hoz, hbz⟩ := HVN.out.fin (w := w) (q := w.heap.size + 1) (by omega) HVN.out.B
      have HOZ := Lib.hid hoz
      have HBZ := Lib.hid hbz
      have q0 := HVN.out.Q.cell 0
      have q1 := HVN.out.Q.cell 1
      have q2 := HVN.out.Q.cell 2
      have f0 := HVN.out.Q.soft 0
      have f1 := HVN.out.Q.soft 1
      have f2 := HVN.out.Q.soft 2
      clear hoz hbz
      go_wp2
      exact bodyPost_ret (v := .tuple #[.agg #[.int .i64 term, .int .i64 v, .slice A9 n c9], .bool false]) (by simp [results, Try.results63, go_sem, z0, z1, z2]) rfl (VtOwn.yes HU.out HL.out HOZ.out (Nat.le_refl _) HBZ.out)
    | true =>
      have HU := Lib.hid (show u = ((term, cand, ls), true) by rw [HA3.out, hnw]; rfl)
      clear hnw
      have HVC := Lib.hid (HVN.out.put1 cand)
      have e30 := HVC.out.E.cell 0
      have e31 := HVC.out.E.cell 1
      have e32 := HVC.out.E.cell 2
      have g30 := HVC.out.E.soft 0
      have g31 := HVC.out.E.soft 1
      obtain ⟨z0, z1, z2, hoz, hbz⟩ := HVC.out.fin (w := w) (q := w.heap.size + 1) (by omega) HVC.out.B
      have HOZ := Lib.hid hoz
      have HBZ := Lib.hid hbz
      have q0 := HVC.out.Q.cell 0
      have q1 := HVC.out.Q.cell 1
      have q2 := HVC.out.Q.cell 2
      have f0 := HVC.out.Q.soft 0
      have f1 := HVC.out.Q.soft 1
      have f2 := HVC.out.Q.soft 2
      clear hoz hbz
      go_wp2
      exact bodyPost_ret (v := .tuple #[.agg #[.int .i64 term, .int .i64 cand, .slice A9 n c9], .bool true]) (by simp [results, Try.results63, go_sem, z0, z1, z2]) rfl (VtOwn.yes HU.out HL.out HOZ.out (Nat.le_refl _) HBZ.out)
end Go.Proofs.Ytfpiejcfhdnjiaa
