/- The reference's logs: copyLog, AppendEntries. -/
import Derived.Test.YtobjcifoaejonaaLogS1
import Derived.Test.YtobjcifoaejonaaExEntry
import Derived.Test.YtobjcifoaejonaaWorkMath
import Derived.Deep.RegionHeld3
import Derived.Lib.MinMax
set_option linter.unusedSimpArgs false
set_option linter.unusedVariables false
namespace Go.Proofs.Ytobjcifoaejonaa
open Go.RowKit


theorem pvs_take : ∀ (ps : List (Int × Int)) (k : Nat), (pvs ps).take (k * 2) = pvs (ps.take k)
  | [], k => by simp [pvs]
  | p :: ps, 0 => by simp [pvs]
  | p :: ps, k + 1 => by
    rw [show (k + 1) * 2 = k * 2 + 1 + 1 by omega, List.take_succ_cons, show pvs (p :: ps) = .int .i64 p.1 :: .int .i64 p.2 :: pvs ps from rfl, List.take_succ_cons, List.take_succ_cons, pvs_take ps k]
    rfl
theorem Rd.of_blk2 {w : World} {g : Nat} {t : TypeId} {x y : Int} (h : Blk w g t #[.int .i64 x, .int .i64 y]) : Rd w g (g + 1) 2 (some ⟨g, 0, none⟩) 1 (pvs [(x, y)]) :=
  ⟨rfl, fun _ => ⟨g, 0, rfl, Nat.le_refl _, Nat.lt_succ_self _, fun j u hu => by rw [Nat.zero_add, h.cell]; simpa [pvs, pv] using hu⟩⟩
/-- A row of the call's own beside a Bool. -/
def OwnB {α : Type} (T : TypeId) (vs : List α → List Value) (size : Nat) (u : List α × Bool) (w : World) (e : Ending) (w' : World) : Prop :=
  ∃ v n, e = .returned (.tuple #[v, .bool u.2]) ∧ u.1.length = n ∧ w'.ownsRow w.heap.size T size v n (vs u.1) ∧ Below w.heap.size w w'
theorem OwnB.no {α : Type} {T : TypeId} {vs : List α → List Value} {size : Nat} {u : List α × Bool} {w w' : World} (hv : vs [] = []) (hu : u = ([], false)) (hb : Below w.heap.size w w') : OwnB T vs size u w (.returned (.tuple #[.slice none 0 0, .bool false])) w' := by
  subst hu
  exact ⟨_, 0, rfl, rfl, ⟨by simp [hv], .inl ⟨rfl, rfl⟩⟩, hb⟩
theorem OwnB.yes {α : Type} {T : TypeId} {vs : List α → List Value} {size n : Nat} {v : Value} {b : Bool} {u : List α × Bool} {l : List α} {w w' : World} (hu : u = (l, b)) (hn : l.length = n) (ho : w'.ownsRow w.heap.size T size v n (vs l)) (hb : Below w.heap.size w w') : OwnB T vs size u w (.returned (.tuple #[v, .bool b])) w' := by
  subst hu
  exact ⟨v, n, rfl, hn, ho, hb⟩

set_option maxHeartbeats 400000 in
theorem copyLogS_any (lo hi n c : Nat) (A : Option Addr) (ps : List En) (w : World) (hr : Rd w lo hi 2 A n (pvs ps)) (hB : hi ≤ w.heap.size) (hn : n ≤ 1048576) :
    Calls Try.prog 57 #[.slice A n c] w (OwnR 64 (pvs ps) 2 n w) := by
  obtain ⟨i0, hi0, hz0, hz1, hz2⟩ := info_parts infoEntry
  have hown1 : (w.alloc (.cells #[] 64)).ownsRow w.heap.size 64 2 (.slice (some ⟨w.heap.size, 0, none⟩) 0 0) 0 [] := World.ownsRow_made w #[] 0 (Nat.le_refl _) (by unfold maxLen; omega) (by simp)
  have hbl := up_alloc (Below.refl _ w) (.cells #[] 64)
  have hr1 := hr.keep hbl hB
  go_enter Try.func57, Try.ntmps57
  go_wp2_with (at_builtin; refine wpList_append_rd _ rfl _ _ 25 rfl w.heap.size 64 i0 _ 2 16 Try.underlying25 hi0 hz0 hz1 hz2 rfl (by decide) _ _ _ rfl hown1 lo hi A n c (pvs ps) rfl hr1 (pvs_one ps) ?c3 ?c4 ?c5 ?_)
  case c3 => unfold maxLen; omega
  case c4 => omega
  case c5 => simp
  intro v2 w2 hown2 hg2 _
  have hb2 := up_grown hbl hown1 hg2 (Nat.le_refl _)
  try simp only [Nat.zero_add, List.nil_append] at hown2
  have HO := Lib.hid hown2
  clear hown1 hown2 hg2 hr1 hbl
  go_wp2
  go_ret
  exact ⟨v2, rfl, HO.out, hb2⟩
set_option maxRecDepth 100000 in
set_option maxHeartbeats 3200000 in
theorem AppendEntriesO_any (lo hi n c lo2 hi2 m c2 : Nat) (A A2 : Option Addr) (ps qs : List En) (z term : Int) (w : World) (hr : Rd w lo hi 2 A n (pvs ps)) (hB : hi ≤ w.heap.size) (hn : n ≤ 1048576)
    (hr2 : Rd w lo2 hi2 2 A2 m (pvs qs)) (hB2 : hi2 ≤ w.heap.size) (hm : m ≤ 1048576) (hz : in64 z) (ht : in64 term) :
    Calls Try.prog 20 #[.slice A n c, .int .i64 z, .int .i64 term, .slice A2 m c2] w (OwnB 64 pvs 2 (appendOf ps z term qs) w) := by
  obtain ⟨i0, hi0, hz0, hz1, hz2⟩ := info_parts infoEntry
  have HL := Lib.hid hr.len2
  have HL2 := Lib.hid hr2.len2
  have HR := Lib.hid hr
  have HR2 := Lib.hid hr2
  clear hr hr2
  go_enter Try.func20, Try.ntmps20
  go_wp2_with (fail)
  (with_reducible refine (validLogS_any lo hi n c A ps _ HR.out hB hn).mono ?_)
  rintro e w1 ⟨rfl, hb1⟩
  have HB1 := Lib.hid hb1
  have hs1 := hb1.size
  clear hb1
  cases hv : vLog ps with
  | false =>
    have HX := Lib.hid (show appendOf ps z term qs = ([], false) by simp [appendOf, hv])
    clear hv
    go_wp2
    exact bodyPost_ret (v := .tuple #[.slice none 0 0, .bool false]) (by simp [results, Try.results20, go_sem]) rfl (OwnB.no rfl HX.out HB1.out)
  | true =>
  have HV := Lib.hid hv
  have hn16 : n ≤ 16 := by rw [← HL.out]; exact vLog_len hv
  clear hv
  go_wp2_with (fail)
  (with_reducible refine (validLogS_any lo2 hi2 m c2 A2 qs _ (HR2.out.keep HB1.out hB2) (by omega) hm).mono ?_)
  rintro e w2 ⟨rfl, hb2⟩
  have HB2 := Lib.hid (up HB1.out hb2)
  have hs2 := HB2.out.size
  clear hb2
  cases hv : vLog qs with
  | false =>
    have HX := Lib.hid (show appendOf ps z term qs = ([], false) by simp [appendOf, hv])
    clear hv
    go_wp2
    exact bodyPost_ret (v := .tuple #[.slice none 0 0, .bool false]) (by simp [results, Try.results20, go_sem]) rfl (OwnB.no rfl HX.out HB2.out)
  | true =>
  have HV2 := Lib.hid hv
  have hm16 : m ≤ 16 := by rw [← HL2.out]; exact vLog_len hv
  clear hv HB1
  by_cases hneg : z < 0
  · have hzd : decide (z < 0) = true := decide_eq_true hneg
    have hz0d : decide (0 ≤ z) = false := decide_eq_false (by omega)
    have HX := Lib.hid (show appendOf ps z term qs = ([], false) by simp [appendOf, hz0d])
    go_wp2
    exact bodyPost_ret (v := .tuple #[.slice none 0 0, .bool false]) (by simp [results, Try.results20, go_sem]) rfl (OwnB.no rfl HX.out HB2.out)
  have hzd : decide (z < 0) = false := decide_eq_false hneg
  have hz0d : decide (0 ≤ z) = true := decide_eq_true (by omega)
  by_cases hbig : (n : Int) < z
  · have hgt : decide ((n : Int) < z) = true := decide_eq_true hbig
    have hle : decide (z ≤ (n : Int)) = false := decide_eq_false (by omega)
    have HX := Lib.hid (show appendOf ps z term qs = (ps, false) by simp [appendOf, hz0d, HV.out, HV2.out, HL.out, hle])
    go_wp2_with (fail)
    (with_reducible refine (copyLogS_any lo hi n c A ps _ (HR.out.keep HB2.out hB) (by omega) hn).mono ?_)
    rintro e w3 ⟨v, rfl, ho, hb3⟩
    have HB3 := Lib.hid (up HB2.out hb3)
    have HO3 := Lib.hid (own_base ho hs2)
    clear ho hb3
    go_wp2
    exact bodyPost_ret (v := .tuple #[v, .bool false]) (by simp [results, Try.results20, go_sem]) rfl (OwnB.yes HX.out HL.out HO3.out HB3.out)
  have hgt : decide ((n : Int) < z) = false := decide_eq_false hbig
  obtain ⟨k, rfl⟩ : ∃ k : Nat, z = (k : Int) := ⟨z.toNat, by omega⟩
  have hkn : k ≤ n := by omega
  have hgtn : decide (n < k) = false := decide_eq_false (by omega)
  go_wp2_with (fail)
  (with_reducible refine (termAtS_any lo hi n c A ps k _ (HR.out.keep HB2.out hB) hkn hn).mono ?_)
  rintro e w3 ⟨rfl, rfl⟩
  by_cases hterm : termOf ps k = term
  case neg =>
    have h2 : (termOf ps k == term) = false := by simpa using hterm
    have h3 : (termOf ps k != term) = true := by simpa using hterm
    have HX := Lib.hid (show appendOf ps (k : Int) term qs = (ps, false) by simp [appendOf, HV.out, HV2.out, HL.out, h2])
    clear hterm
    go_wp2_with (fail)
    (with_reducible refine (copyLogS_any lo hi n c A ps _ (HR.out.keep HB2.out hB) (by omega) hn).mono ?_)
    rintro e w3 ⟨v, rfl, ho, hb3⟩
    have HB3 := Lib.hid (up HB2.out hb3)
    have HO3 := Lib.hid (own_base ho hs2)
    clear ho hb3
    go_wp2
    exact bodyPost_ret (v := .tuple #[v, .bool false]) (by simp [results, Try.results20, go_sem]) rfl (OwnB.yes HX.out HL.out HO3.out HB3.out)
  have h3 : (termOf ps k != term) = false := by simpa using hterm
  have HX := Lib.hid (show appendOf ps (k : Int) term qs = if vLog (mergeFrom k ps qs) then (mergeFrom k ps qs, true) else ([], false) by
    have h2 : (termOf ps k == term) = true := by simpa using hterm
    simp [appendOf, HV.out, HV2.out, HL.out, h2, hkn])
  clear hterm
  go_wp2_with (fail)
  (with_reducible refine (copyLogS_any lo hi n c A ps _ (HR.out.keep HB2.out hB) (by omega) hn).mono ?_)
  rintro e w3 ⟨v, rfl, ho, hb3⟩
  have HB3 := Lib.hid (up HB2.out hb3)
  have HO3 := Lib.hid (own_base ho hs2)
  clear ho hb3 HB2
  go_wp2
  go_loopw [10, 11] (fun ov iv wr => ∃ (j N : Nat) (o : List En), j ≤ m ∧ iv = .int .i64 j ∧ k + j ≤ N ∧ N ≤ n + j ∧ Hid (o.length = N) ∧ Hid (mergeFrom k ps qs = mergeFrom (k + j) o (qs.drop j)) ∧ Hid (wr.ownsRow w.heap.size 64 2 ov N (pvs o)) ∧ Hid (Below w.heap.size w wr))
     (fun _ iv _ => m - (intOf iv).toNat)
  case atStart => exact ⟨0, n, ps, by omega, rfl, by omega, by omega, HL.out, rfl, HO3.out, HB3.out⟩
  case round =>
    clear HB3 HO3
    obtain ⟨j, N, o, hj, rfl, hkN, hNn, HLo, HM, HO, HB⟩ := hrel
    have hsr := HB.out.size
    by_cases hlt : j < m
    · obtain ⟨b2, off2, x, y, hA2, hbB2, _, hg, hc0, hc1⟩ := (HR2.out.keep HB.out hB2).pair hlt
      subst hA2
      have HS := Lib.hid (show ∀ wx, Below w.heap.size w wx → wx.cell? ⟨b2, off2 + j * 2, none⟩ = some (.int .i64 x) ∧ wx.cell? ⟨b2, off2 + j * 2 + 1, none⟩ = some (.int .i64 y) from fun wx hb => by
        obtain ⟨b', off', x', y', hA', _, _, hg', d0, d1⟩ := (HR2.out.keep hb hB2).pair hlt
        injection hA' with hA'; injection hA' with h1 h2
        rw [hg] at hg'; injection hg' with hg'; injection hg' with h3 h4
        subst h1; subst h2; subst h3; subst h4
        exact ⟨d0, d1⟩)
      have HM1 := Lib.hid (show mergeFrom k ps qs = mergeFrom (k + j + 1) (if o[k + j]?.map Prod.fst = some x then o else o.take (k + j) ++ [(x, y)]) (qs.drop (j + 1)) by rw [HM.out, drop_cons2 hg, mergeFrom])
      clear hg HM
      obtain ⟨A3, c3, rfl, hc3, hr3, hs3⟩ := own_form HO.out
      have HR3 := Lib.hid hr3
      clear hr3 hs3
      have hjm : (j : Int) < (m : Int) := by omega
      have hj0 : (0 : Int) ≤ (j : Int) := by omega
      have hkj0 : (0 : Int) ≤ (k : Int) + (j : Int) := by omega
      have hkjn : ((k : Int) + (j : Int)).toNat = k + j := by omega
      have hkjw : IntKind.i64.wrap ((k : Int) + (j : Int)) = (k : Int) + (j : Int) := IntWalk.i64_in _ (by omega)
      by_cases hsame : ∃ y3, o[k + j]? = some (x, y3)
      · obtain ⟨y3, hy3⟩ := hsame
        have hkjN : k + j < N := by rw [← HLo.out]; exact (List.getElem?_eq_some_iff.1 hy3).1
        obtain ⟨b3, off3, x', y', hA3, _, _, hg3, d0, d1⟩ := HR3.out.pair hkjN
        have e : (x', y') = (x, y3) := by rw [hy3] at hg3; injection hg3 with h; exact h.symm
        injection e with e1 e2
        subst e1; subst e2; subst hA3
        have HM2 := Lib.hid (show mergeFrom k ps qs = mergeFrom (k + (j + 1)) o (qs.drop (j + 1)) by rw [HM1.out, hy3]; simp; rfl)
        have hat : decide ((k : Int) + (j : Int) < (N : Int)) = true := decide_eq_true (by omega)
        have hat2 : (k : Int) + (j : Int) < (N : Int) := by omega
        clear hg3 hy3
        go_wp2
        go_quiet (fail)
        go_wp2
        go_roundw
        case rel => exact ⟨j + 1, N, o, by omega, by go_num, by omega, by omega, HLo, HM2, HO.out, up_drewN HB.out _⟩
        case measure => simp [intOf]; omega
      have HM2 := Lib.hid (show mergeFrom k ps qs = mergeFrom (k + (j + 1)) (o.take (k + j) ++ [(x, y)]) (qs.drop (j + 1)) by
        rw [HM1.out, if_neg (by
          intro h
          cases ho : o[k + j]? with
          | none => rw [ho] at h; cases h
          | some p => rw [ho] at h; injection h with h; exact hsame ⟨p.2, by rw [ho, ← h]⟩)]; rfl)
      have HLN := Lib.hid (show (o.take (k + j) ++ [(x, y)]).length = k + j + 1 by rw [List.length_append, List.length_take, HLo.out]; simp; omega)
      have HRC := Lib.hid (show Rd wr w.heap.size wr.heap.size 2 A3 (k + j) (pvs (o.take (k + j))) by have := HR3.out.cut (m := k + j) hkN; rwa [pvs_take] at this)
      have hmin : min ((k : Int) + (j : Int)) (N : Int) = (k : Int) + (j : Int) := by omega
      have hkc : (k : Int) + (j : Int) ≤ (c3 : Int) := by omega
      have HC2 := Lib.hid (show ∀ wx, Below wr.heap.size wr wx → Calls Try.prog 57 #[.slice A3 (k + j) c3] wx (fun e w' => ∃ v, e = .returned v ∧ w'.ownsRow w.heap.size 64 2 v (k + j) (pvs (o.take (k + j))) ∧ Below w.heap.size w w' ∧ Below wx.heap.size wx w') from fun wx hb => (copyLogS_any _ _ _ c3 _ _ wx (HRC.out.keep hb (Nat.le_refl _)) hb.size (by omega)).mono (by
        rintro e w4 ⟨v, rfl, ho, hb4⟩
        exact ⟨v, rfl, own_base ho (up HB.out hb).size, up (up HB.out hb) hb4, hb4⟩))
      by_cases hatN : k + j < N
      · have hat : decide ((k : Int) + (j : Int) < (N : Int)) = true := decide_eq_true (by omega)
        have hat2 : (k : Int) + (j : Int) < (N : Int) := by omega
        obtain ⟨b3, off3, x', y', hA3, _, _, hg3, d0, d1⟩ := HR3.out.pair hatN
        have hne : (x' == x) = false := by
          rw [beq_eq_false_iff_ne]; intro e; subst e; exact hsame ⟨y', hg3⟩
        subst hA3
        clear hg3 hsame
        go_wp2
        go_quiet (fail)
        go_wp2_with (fail)
        go_region_held3 (fun wx => wx.cell? ⟨b2, off2 + j * 2, none⟩ = some (.int .i64 x) ∧ wx.cell? ⟨b2, off2 + j * 2 + 1, none⟩ = some (.int .i64 y))
          (first
            | exact ⟨hc0, hc1⟩
            | exact HS.out _ HB5.out
            | (refine HS.out _ ?_; (repeat (first | with_reducible exact HB4.out | with_reducible exact HB.out | with_reducible refine up_drewN ?_ _ | with_reducible refine up_drew ?_ | with_reducible refine up_alloc ?_ _)); done))
          ((first
            | (go_at_call 57; (with_reducible refine (HC2.out _ ?_).mono ?_)
               focus ((repeat (first | with_reducible exact Below.refl _ _ | with_reducible refine up_drewN ?_ _ | with_reducible refine up_drew ?_ | with_reducible refine up_alloc ?_ _)); done)
               rintro e w4 ⟨v4, rfl, ho4, hb4w, hb4⟩
               have HB4 := Lib.hid hb4w
               have HO4 := Lib.hid ho4
               first | (have hE4 := (Blk.new (wr.drewN _) 64 #[.int .i64 x, .int .i64 y]).below hb4 (Blk.new (wr.drewN _) 64 #[.int .i64 x, .int .i64 y]).lt) | (have hE4 := ((Blk.new (wr.drewN _) 64 #[.int .i64 x, .int .i64 y]).drew).below hb4 ((Blk.new (wr.drewN _) 64 #[.int .i64 x, .int .i64 y]).drew).lt) | (have hE4 := ((Blk.new wr 64 #[.int .i64 x, .int .i64 y]).drewN _).below hb4 ((Blk.new wr 64 #[.int .i64 x, .int .i64 y]).drewN _).lt) | skip
               clear ho4 hb4 hb4w)
            | (refine step_append_rd _ (by rfl) _ _ _ (by rfl) w.heap.size 64 i0 _ 2 16 Try.underlying25 hi0 hz0 hz1 hz2 rfl (by omega) v4 (k + j) (pvs (o.take (k + j))) (by rfl) HO4.out _ _ _ 1 1 (pvs [(x, y)]) (by rfl) (Rd.of_blk2 hE4) (pvs_one _) (by unfold maxLen; omega) (by omega) HB4.out.size ?_
               intro v5 w5 ho5 hg5 _
               have HB5 := Lib.hid (up_grown HB4.out HO4.out hg5 (Nat.le_refl _))
               have HO5 := Lib.hid (show w5.ownsRow w.heap.size 64 2 v5 (k + j + 1) (pvs (o.take (k + j) ++ [(x, y)])) by rw [pvs_append]; exact ho5)
               clear ho5 hg5)
            | (refine step_append_rd _ (by rfl) _ _ _ (by rfl) w.heap.size 64 i0 _ 2 16 Try.underlying25 hi0 hz0 hz1 hz2 rfl (by omega) v4 (k + j) (pvs (o.take (k + j))) (by rfl) (HO4.out.alloc _) _ _ _ 1 1 (pvs [(x, y)]) (by rfl) (Rd.of_blk2 (Blk.new w4 64 #[.int .i64 x, .int .i64 y])) (pvs_one _) (by unfold maxLen; omega) (by omega) (up_alloc HB4.out _).size ?_
               intro v5 w5 ho5 hg5 _
               have HB5 := Lib.hid (up_grown (up_alloc HB4.out _) (HO4.out.alloc _) hg5 (Nat.le_refl _))
               have HO5 := Lib.hid (show w5.ownsRow w.heap.size 64 2 v5 (k + j + 1) (pvs (o.take (k + j) ++ [(x, y)])) by rw [pvs_append]; exact ho5)
               clear ho5 hg5)
            | fail "no arm"))
        all_goals
          go_wp2
          go_roundw
          case rel => exact ⟨j + 1, k + j + 1, _, by omega, by go_num, by omega, by omega, HLN, HM2, HO5.out, HB5.out⟩
          case measure => simp [intOf]; omega
      · have hat : decide ((k : Int) + (j : Int) < (N : Int)) = false := decide_eq_false (by omega)
        clear hsame
        go_wp2
        go_quiet (fail)
        go_wp2_with (fail)
        go_region_held3 (fun wx => wx.cell? ⟨b2, off2 + j * 2, none⟩ = some (.int .i64 x) ∧ wx.cell? ⟨b2, off2 + j * 2 + 1, none⟩ = some (.int .i64 y))
          (first
            | exact ⟨hc0, hc1⟩
            | exact HS.out _ HB5.out
            | (refine HS.out _ ?_; (repeat (first | with_reducible exact HB4.out | with_reducible exact HB.out | with_reducible refine up_drewN ?_ _ | with_reducible refine up_drew ?_ | with_reducible refine up_alloc ?_ _)); done))
          ((first
            | (go_at_call 57; (with_reducible refine (HC2.out _ ?_).mono ?_)
               focus ((repeat (first | with_reducible exact Below.refl _ _ | with_reducible refine up_drewN ?_ _ | with_reducible refine up_drew ?_ | with_reducible refine up_alloc ?_ _)); done)
               rintro e w4 ⟨v4, rfl, ho4, hb4w, hb4⟩
               have HB4 := Lib.hid hb4w
               have HO4 := Lib.hid ho4
               first | (have hE4 := (Blk.new (wr.drewN _) 64 #[.int .i64 x, .int .i64 y]).below hb4 (Blk.new (wr.drewN _) 64 #[.int .i64 x, .int .i64 y]).lt) | (have hE4 := ((Blk.new (wr.drewN _) 64 #[.int .i64 x, .int .i64 y]).drew).below hb4 ((Blk.new (wr.drewN _) 64 #[.int .i64 x, .int .i64 y]).drew).lt) | (have hE4 := ((Blk.new wr 64 #[.int .i64 x, .int .i64 y]).drewN _).below hb4 ((Blk.new wr 64 #[.int .i64 x, .int .i64 y]).drewN _).lt) | skip
               clear ho4 hb4 hb4w)
            | (refine step_append_rd _ (by rfl) _ _ _ (by rfl) w.heap.size 64 i0 _ 2 16 Try.underlying25 hi0 hz0 hz1 hz2 rfl (by omega) v4 (k + j) (pvs (o.take (k + j))) (by rfl) HO4.out _ _ _ 1 1 (pvs [(x, y)]) (by rfl) (Rd.of_blk2 hE4) (pvs_one _) (by unfold maxLen; omega) (by omega) HB4.out.size ?_
               intro v5 w5 ho5 hg5 _
               have HB5 := Lib.hid (up_grown HB4.out HO4.out hg5 (Nat.le_refl _))
               have HO5 := Lib.hid (show w5.ownsRow w.heap.size 64 2 v5 (k + j + 1) (pvs (o.take (k + j) ++ [(x, y)])) by rw [pvs_append]; exact ho5)
               clear ho5 hg5)
            | (refine step_append_rd _ (by rfl) _ _ _ (by rfl) w.heap.size 64 i0 _ 2 16 Try.underlying25 hi0 hz0 hz1 hz2 rfl (by omega) v4 (k + j) (pvs (o.take (k + j))) (by rfl) (HO4.out.alloc _) _ _ _ 1 1 (pvs [(x, y)]) (by rfl) (Rd.of_blk2 (Blk.new w4 64 #[.int .i64 x, .int .i64 y])) (pvs_one _) (by unfold maxLen; omega) (by omega) (up_alloc HB4.out _).size ?_
               intro v5 w5 ho5 hg5 _
               have HB5 := Lib.hid (up_grown (up_alloc HB4.out _) (HO4.out.alloc _) hg5 (Nat.le_refl _))
               have HO5 := Lib.hid (show w5.ownsRow w.heap.size 64 2 v5 (k + j + 1) (pvs (o.take (k + j) ++ [(x, y)])) by rw [pvs_append]; exact ho5)
               clear ho5 hg5)
            | fail "no arm"))
        all_goals
          go_wp2
          go_roundw
          case rel => exact ⟨j + 1, k + j + 1, _, by omega, by go_num, by omega, by omega, HLN, HM2, HO5.out, HB5.out⟩
          case measure => simp [intOf]; omega
    obtain rfl : j = m := by omega
    have hdrop : qs.drop j = [] := List.drop_of_length_le (by rw [HL2.out]; exact Nat.le_refl _)
    have HMo := Lib.hid (show mergeFrom k ps qs = o by rw [HM.out, hdrop, mergeFrom])
    clear hdrop HM
    obtain ⟨A3, c3, rfl, hc3, hr3, hs3⟩ := own_form HO.out
    have HR3 := Lib.hid hr3
    clear hr3 hs3
    go_wp2_with (fail)
    (with_reducible refine (validLogS_any _ _ N c3 A3 o _ HR3.out (Nat.le_refl _) (by omega)).mono ?_)
    rintro e w4 ⟨rfl, hb4⟩
    have HB4 := Lib.hid (up HB.out hb4)
    have HO4 := Lib.hid (own_keep HO.out hb4)
    clear hb4
    cases hv : vLog o with
    | false =>
      have HY := Lib.hid (show appendOf ps (k : Int) term qs = ([], false) by rw [HX.out, HMo.out, hv]; rfl)
      clear hv
      go_wp2
      exact bodyPost_ret (v := .tuple #[.slice none 0 0, .bool false]) (by simp [results, Try.results20, go_sem]) rfl (OwnB.no rfl HY.out HB4.out)
    | true =>
      have HY := Lib.hid (show appendOf ps (k : Int) term qs = (o, true) by rw [HX.out, HMo.out, hv]; rfl)
      clear hv
      go_wp2
      exact bodyPost_ret (v := .tuple #[.slice A3 N c3, .bool true]) (by simp [results, Try.results20, go_sem]) rfl (OwnB.yes HY.out HLo.out HO4.out HB4.out)
end Go.Proofs.Ytobjcifoaejonaa
