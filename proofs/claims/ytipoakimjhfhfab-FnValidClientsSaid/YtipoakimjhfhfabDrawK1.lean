/- Drawing clients: how the function stands; someClients, anyClients. -/
import Derived.Test.YtipoakimjhfhfabDrawW3
import Derived.Test.YtipoakimjhfhfabClientS
import Derived.Deep.CutRange
import Derived.Deep.RegionHeld3
set_option linter.unusedSimpArgs false
set_option linter.unusedVariables false
namespace Go.Proofs.Ytipoakimjhfhfab
open Go.RowKit

theorem vCls_iff {ps : List Qd} : vCls ps = true ↔ (∀ p ∈ ps, okCl p = true) ∧ Asc Prod.fst ps := good_iff
theorem record_v (ps : List Qd) (z call reply now : Int) : vCls ((recordOf ps z call reply now).getD []) = true := by
  unfold recordOf
  split
  · rename_i h
    rw [Bool.and_eq_true, beq_iff_eq] at h
    obtain ⟨hv, hz, hc, _⟩ := checkOf_v (ps := ps) (z := z) (call := call) (by rw [h.1]; omega)
    show vCls (insNum Prod.fst ps (z, call, reply, now)) = true
    rw [vCls_iff] at *
    refine ⟨fun p hp => ?_, hv.2.ins _⟩
    rcases mem_insNum.1 hp with rfl | ⟨h1, _⟩
    · simp only [okCl, Bool.and_eq_true]
      exact ⟨⟨inR_iff.2 hz, inR_iff.2 ⟨by omega, by omega⟩⟩, h.2⟩
    · exact hv.1 p h1
  · rfl
/-- Its numbers and last calls are small. -/
def SmallQ (ps : List Qd) : Prop := ∀ q ∈ ps, (-10000 ≤ q.1 ∧ q.1 ≤ 10000) ∧ (-10000 ≤ q.2.1 ∧ q.2.1 ≤ 10000)
theorem SmallQ.valid {ps : List Qd} (h : vCls ps = true) : SmallQ ps := fun q hq => by
  have := vCls_ok h hq
  omega
theorem qvs_last {ps : List Qd} {p : Qd} (h : ps[0]? = some p) (z : Int) : (qvs ps).set 1 (.int .i64 z) = qvs (ps.set 0 (p.1, z, p.2.2)) := by
  cases ps with
  | nil => simp at h
  | cons q ps =>
    obtain rfl : q = p := by simpa using h
    simp [qvs, qv]
structure Cd (w0 w : World) (r : Nat) (A : Option Addr) (n c : Nat) (xs : List Int) (p : Int) (v : Value) (m : Nat) (ps : List Qd) : Prop where
  rdr : Rdr w r A n c xs p
  own : w.ownsRow w0.heap.size 45 4 v m (qvs ps)
  val : vCls ps = true
  but : But r w0 w
  hr : r < w0.heap.size
section
variable {w0 w w' : World} {r : Nat} {A : Option Addr} {n c : Nat} {xs : List Int} {p p' : Int} {v v2 : Value} {m m2 : Nat} {ps qs : List Qd}
theorem Cd.len (h : Cd w0 w r A n c xs p v m ps) : ps.length = m := by have := h.own.1; rw [qvs_length] at this; omega
theorem Cd.most (h : Cd w0 w r A n c xs p v m ps) : m ≤ 10 := by have := vCls_len h.val; have := h.len; omega
theorem Cd.below (h : Cd w0 w r A n c xs p v m ps) (hb : Below w.heap.size w w') : Cd w0 w' r A n c xs p v m ps := ⟨h.rdr.below hb, own_keep h.own hb, h.val, but_below h.but hb, h.hr⟩
theorem Cd.drawn (h : Cd w0 w r A n c xs p v m ps) (hR : Rdr w' r A n c xs p') (hG : But r w w') : Cd w0 w' r A n c xs p' v m ps := ⟨hR, own_but h.own hG h.hr, h.val, but_trans h.but hG, h.hr⟩
section
variable {A1 : Option Addr} {c1 : Nat}
theorem Cd.rd (h : Cd w0 w r A n c xs p (.slice A1 m c1) m ps) : Rd w w0.heap.size w.heap.size 4 A1 m (qvs ps) := Rd.of_own h.own
theorem Cd.record (h : Cd w0 w r A n c xs p (.slice A1 m c1) m ps) (z call reply now : Int) (hz : in64 z) (hc : in64 call) (hre : in64 reply) (hno : in64 now) :
    Calls Try.prog 35 #[.slice A1 m c1, .int .i64 z, .int .i64 call, .int .i64 reply, .int .i64 now] w (OwnT 45 qvs 4 (recordOf ps z call reply now) w) :=
  RecordCallO_any _ _ m c1 A1 ps z call reply now w h.rd (Nat.le_refl _) (by have := h.most; omega) hz hc hre hno
end
end
/-- A drawn list of clients. -/
def KlPost (Q : List Qd → Prop) (d : Int) (r : Nat) (A : Option Addr) (n c : Nat) (xs : List Int) (p : Int) (w : World) (e : Ending) (w' : World) : Prop :=
  ∃ (v : Value) (m : Nat) (ps : List Qd) (p' : Int), e = .returned v ∧ w'.ownsRow w.heap.size 45 4 v m (qvs ps) ∧ Q ps ∧ m ≤ 20 ∧ Rdr w' r A n c xs p' ∧ p' ≤ p + d ∧ But r w w'
set_option maxRecDepth 100000 in
set_option maxHeartbeats 6400000 in
theorem someClients_any (r : Nat) (A : Option Addr) (n c : Nat) (xs : List Int) (p : Int) (w : World) (h : Rdr w r A n c xs p) (hp : p ≤ 800000) :
    Calls Try.prog 74 #[.pointer (some ⟨r, 0, none⟩)] w (KlPost (fun ps => vCls ps = true) 150 r A n c xs p w) := by
  have hrl := h.lt
  have hown0 : (w.alloc (.cells #[] 45)).ownsRow w.heap.size 45 4 (.slice (some ⟨w.heap.size, 0, none⟩) 0 0) 0 [] := World.ownsRow_made w #[] 0 (Nat.le_refl _) (by unfold maxLen; omega) (by simp)
  have HW0 := Lib.hid (show Cd w (w.alloc (.cells #[] 45)) r A n c xs p (.slice (some ⟨w.heap.size, 0, none⟩) 0 0) 0 [] from ⟨rdr_alloc h _, hown0, rfl, but_alloc (but_refl r w) _, hrl⟩)
  clear hown0 h
  go_enter Try.func74, Try.ntmps74
  go_wp2_with (fail)
  have hbl := Blk.new2 (w := w.alloc (.cells #[] 45)) (t := 3) (cs := #[.int .i64 4, .int .i64 8, .int .i64 2, .int .i64 0, .int .i64 12]) (g := w.heap.size + 1) (by simp)
  have hsl : r < w.heap.size + 1 := by omega
  (with_reducible refine (one_any r A n c xs p _ _ 5 5 _ [4, 8, 2, 0, 12] _ (rdr_alloc HW0.out.rdr _) (by omega) (Rd.of_blk hbl rfl) (by simp) (by omega) (by omega) (.inl hsl)).mono ?_)
  rintro e w1 ⟨a, rfl, ha, hR1, hG1⟩
  have ha2 : 0 ≤ a ∧ a ≤ 12 := by simp at ha; omega
  obtain ⟨a0, a1⟩ := ha2
  have HW1 := Lib.hid ((HW0.out.below (up_alloc (Below.refl _ _) _)).drawn hR1 hG1)
  clear ha hR1 hG1 hbl hsl HW0
  go_wp2
  go_loopw [3, 4] (fun v iv wr => ∃ (m p1 : Int) (A1 : Option Addr) (m1 c1 : Nat) (ps : List Qd), v = .slice A1 m1 c1 ∧ iv = .int .i64 m ∧ 0 ≤ m ∧ m ≤ 12 ∧ p1 + 3 * m ≤ p + 40 ∧ Hid (Cd w wr r A n c xs p1 (.slice A1 m1 c1) m1 ps))
     (fun _ iv _ => (intOf iv).toNat)
  case atStart => exact ⟨a, p + 1, _, _, _, _, rfl, rfl, a0, a1, by omega, HW1.out⟩
  case round =>
    clear HW1 a0 a1
    obtain ⟨m, p1, A1, m1, c1, ps, rfl, rfl, hm0, hm1, hpp, H⟩ := hrel
    by_cases hpos : 0 < m
    case neg =>
      obtain rfl : m = 0 := by omega
      have hmo := H.out.most
      go_wp2
      go_ret
      exact ⟨_, m1, ps, p1, rfl, H.out.own, H.out.val, by omega, H.out.rdr, by omega, H.out.but⟩
    have hwm : IntKind.i64.wrap (m - 1) = m - 1 := IntWalk.i64_in _ (by omega)
    go_wp2_with (fail)
    (with_reducible refine (pick_any r A n c xs p1 4 _ H.out.rdr (by omega) (by omega)).mono ?_)
    rintro e wa ⟨q, rfl, q0, q1, _, hR2, hG2⟩
    have q2 := q1 (by omega)
    have H1 := Lib.hid (H.out.drawn hR2 hG2)
    have hmo := H1.out.most
    have hm2 : m1 ≤ 1048576 := by omega
    clear H hR2 hG2 q1
    go_wp2_with (fail)
    (with_reducible refine (clientAtS_any _ _ m1 c1 A1 ps q _ H1.out.rd hm2).mono ?_)
    rintro e w0 ⟨z, rfl, hq, rfl⟩
    go_upto_if 24 with fail
    go_cut [6] from 14 to 43 (fun s6 wx => ∃ L : Int, wx = wa ∧ s6 = .int .i64 L ∧ 0 ≤ L ∧ L ≤ 999)
    case first =>
      rcases hq with ⟨rfl, hat⟩ | ⟨k, pp, rfl, hk, hat, hpz⟩
      · go_wp2_with fail
        go_meet
        exact ⟨0, rfl, rfl, by omega, by omega⟩
      · have hkn : k < m1 := by rw [← H1.out.len]; exact (List.getElem?_eq_some_iff.1 hk).1
        obtain ⟨b, off, x, y, u, t, rfl, hbB, hbl, hg, hc0, hc1, hc2, hc3⟩ := H1.out.rd.quad hkn
        have hy := (vCls_ok H1.out.val (List.mem_of_getElem? hg)).2.1
        have hy0 : 0 ≤ y := hy.1
        have hy1 : y ≤ 999 := hy.2
        have hkz : (k : Int) < (m1 : Int) := by omega
        have hk0 : (0 : Int) ≤ (k : Int) := by omega
        have hkd : decide ((0 : Int) ≤ (k : Int)) = true := decide_eq_true (by omega)
        clear hg hk hat hpz hy
        go_wp2_with fail
        go_meet
        exact ⟨y, rfl, rfl, hy0, hy1⟩
    case rest =>
    obtain ⟨L, rfl, rfl, hL0, hL1⟩ := hcut
    clear hq
    have hwL : IntKind.i64.wrap (L + 1) = L + 1 := IntWalk.i64_in _ (by omega)
    go_wp2_with (fail)
    (with_reducible refine (pick_any r A n c xs (p1 + 1) 50 _ H1.out.rdr (by omega) (by omega)).mono ?_)
    rintro e wb ⟨re, rfl, re0, re1, _, hR3, hG3⟩
    have re2 := re1 (by omega)
    have H2 := Lib.hid (H1.out.drawn hR3 hG3)
    clear H1 hR3 hG3 re1
    go_wp2_with (fail)
    (with_reducible refine (pick_any r A n c xs (p1 + 1 + 1) 100 _ H2.out.rdr (by omega) (by omega)).mono ?_)
    rintro e wd ⟨no, rfl, no0, no1, _, hR4, hG4⟩
    have no2 := no1 (by omega)
    have H3 := Lib.hid (H2.out.drawn hR4 hG4)
    clear H2 hR4 hG4 no1
    go_wp2_with (fail)
    (with_reducible refine (H3.out.record q (L + 1) re no (by unfold in64; omega) (by unfold in64; omega) (by unfold in64; omega) (by unfold in64; omega)).mono ?_)
    rintro e we ⟨v2, rfl, ho2, hb2⟩
    have H4 := Lib.hid (H3.out.below hb2)
    have HO := Lib.hid (own_base ho2 H3.out.but.size)
    have HV := Lib.hid (record_v ps q (L + 1) re no)
    generalize (recordOf ps q (L + 1) re no).isSome = b2 at *
    generalize (recordOf ps q (L + 1) re no).getD [] = ps2 at HO HV ho2
    clear ho2 hb2 H3
    go_upto_region 11 with fail
    cases b2 with
    | false =>
      go_wp2
      go_roundw
      case rel => exact ⟨m - 1, p1 + 1 + 1 + 1, A1, m1, c1, ps, rfl, by first | rfl | go_num, by omega, by omega, by omega, H4.out⟩
      case measure => simp [intOf]; omega
    | true =>
      obtain ⟨B, cB, rfl, _, _⟩ := own_cap HO.out
      have HT := Lib.hid (show Cd w we r A n c xs (p1 + 1 + 1 + 1) _ ps2.length ps2 from ⟨H4.out.rdr, HO.out, HV.out, H4.out.but, H4.out.hr⟩)
      clear H4 HO
      go_wp2
      go_roundw
      case rel => exact ⟨m - 1, p1 + 1 + 1 + 1, B, _, cB, _, rfl, by first | rfl | go_num, by omega, by omega, by omega, HT.out⟩
      case measure => simp [intOf]; omega
set_option maxRecDepth 100000 in
set_option maxHeartbeats 1600000 in
theorem anyClients_any (r : Nat) (A : Option Addr) (n c : Nat) (xs : List Int) (p : Int) (w : World) (h : Rdr w r A n c xs p) (hp : p ≤ 700000) :
    Calls Try.prog 58 #[.pointer (some ⟨r, 0, none⟩)] w (KlPost SmallQ 160 r A n c xs p w) := by
  have hrl := h.lt
  obtain ⟨i0, hi0, hz0, hz1, hz2⟩ := info_parts infoClient
  go_enter Try.func58, Try.ntmps58
  go_wp2_with (fail)
  (with_reducible refine (someClients_any r A n c xs p _ h (by omega)).mono ?_)
  rintro e w1 ⟨v, m, ps, p1, rfl, ho, hv, hm, hR, hp1, hG⟩
  have HO := Lib.hid ho
  have HV := Lib.hid hv
  have hG01 := hG
  have hs1 := hG.size
  clear ho hv hG
  go_wp2_with (fail)
  (with_reducible refine (pick_any r A n c xs p1 20 _ hR (by omega) (by omega)).mono ?_)
  rintro e w2 ⟨q, rfl, q0, q1, _, hR2, hG2⟩
  have HO2 := Lib.hid (own_but HO.out hG2 hrl)
  have hG02 := but_trans hG01 hG2
  have hs2 := hG2.size
  clear hR hG01 hG2 q1 HO
  by_cases hq : q = 0
  · subst hq
    clear q0
    go_wp2_with (fail)
    (with_reducible refine (one_lits r A n c xs (p1 + 1) [0, 9, 10] 3 _ _ w2 hR2 (by omega) rfl (by omega) (by omega) (by simp) rfl (by simp)).mono ?_)
    rintro e w3 ⟨x, p3, rfl, x0, x1, hR3, hp3, hG3⟩
    have HO3 := Lib.hid (own_but HO2.out hG3 hrl)
    have hG03 := but_trans hG02 hG3
    have hs3 := hG3.size
    clear hR2 hG02 hG3 HO2
    go_wp2_with (fail)
    (with_reducible refine (one_lits r A n c xs p3 [0, 999, 1000] 3 _ _ w3 hR3 (by omega) rfl (by omega) (by omega) (by simp) rfl (by simp)).mono ?_)
    rintro e w4 ⟨y, p4, rfl, y0, y1, hR4, hp4, hG4⟩
    have HO4 := Lib.hid (own_but HO3.out hG4 hrl)
    have hG04 := but_trans hG03 hG4
    have hs4 := hG4.size
    clear hR3 hG03 hG4 HO3
    go_wp2_with (fail)
    (with_reducible refine (one_lits r A n c xs p4 [0, -1, 10000] 3 _ _ w4 hR4 (by omega) rfl (by omega) (by omega) (by simp) rfl (by simp)).mono ?_)
    rintro e w5 ⟨t, p5, rfl, t0, t1, hR5, hp5, hG5⟩
    have HO5 := Lib.hid (own_but HO4.out hG5 hrl)
    have HG5 := Lib.hid (but_trans hG04 hG5)
    have HR5 := Lib.hid hR5
    have hs5 := hG5.size
    clear hR4 hG04 hG5 HO4 hR5
    go_wp2_with (at_builtin; refine wpList_append_own _ rfl _ _ 38 rfl w.heap.size 45 i0 _ 4 32 Try.underlying38 hi0 hz0 hz1 hz2 rfl (by decide) _ _ _ rfl (HO5.out.alloc _) _ 1 1 [.int .i64 x, .int .i64 y, .int .i64 0, .int .i64 t] rfl rfl (World.news_of_block (heap_alloc_new _ _)) ?d2 ?d3 ?d4 ?d5 ?_)
    case d2 => first | exact ⟨rfl, rfl, rfl, rfl⟩ | (intro u hu; simp at hu; rcases hu with rfl | rfl | rfl | rfl <;> rfl)
    case d3 => unfold maxLen; omega
    case d4 => omega
    case d5 => first | omega | (simp; omega)
    intro v6 w6 hown6 hg6 _
    have HR6 := Lib.hid (rdr_grown (rdr_alloc HR5.out _) (HO5.out.alloc _) hg6 hrl)
    have HG6 := Lib.hid (but_grown (but_alloc HG5.out _) (HO5.out.alloc _) hg6 (Nat.le_refl _))
    have HO6 := Lib.hid (show w6.ownsRow w.heap.size 45 4 v6 (m + 1) (qvs (ps ++ [(x, y, 0, t)])) by rw [qvs_append]; exact hown6)
    have HLM := Lib.hid (show m ≤ 10 by
      have h1 := vCls_len HV.out
      have h2 := HO5.out.1
      rw [qvs_length] at h2
      omega)
    clear hown6 hg6 HO5 HR5 HG5
    go_wp2
    go_ret
    refine ⟨v6, m + 1, _, p5, rfl, HO6.out, ?_, by have := HLM.out; omega, HR6.out, by omega, HG6.out⟩
    intro q hq
    rcases List.mem_append.1 hq with h1 | h1
    · exact SmallQ.valid HV.out q h1
    · obtain rfl := List.mem_singleton.1 h1
      exact ⟨⟨x0, x1⟩, ⟨y0, y1⟩⟩
  have hq1 : (q == 0) = false := by simpa using hq
  have HR2 := Lib.hid hR2
  have HG2 := Lib.hid hG02
  clear hR2 hG02
  obtain ⟨A1, c1, rfl, _, _⟩ := own_cap HO2.out
  by_cases hqq : q = 1
  case neg =>
    have hq2 : (q == 1) = false := by simpa using hqq
    clear hq hqq
    go_wp2
    go_ret
    exact ⟨_, m, ps, p1 + 1, rfl, HO2.out, SmallQ.valid HV.out, hm, HR2.out, by omega, HG2.out⟩
  subst hqq
  by_cases hmz : m = 0
  · subst hmz
    clear hq
    go_wp2
    go_ret
    exact ⟨_, 0, ps, p1 + 1, rfl, HO2.out, SmallQ.valid HV.out, hm, HR2.out, by omega, HG2.out⟩
  have hm1 : (0 : Int) < (m : Int) := by omega
  obtain ⟨g, rfl, hlo, hgl⟩ := own_long HO2.out (by omega)
  clear hq hmz
  go_wp2_with (fail)
  (with_reducible refine (one_lits r A n c xs (p1 + 1) [0, 999, -1] 3 _ _ w2 HR2.out (by omega) rfl (by omega) (by omega) (by simp) rfl (by simp)).mono ?_)
  rintro e w3 ⟨x, p3, rfl, x0, x1, hR3, hp3, hG3⟩
  have hown := own_but HO2.out hG3 hrl
  have HG3 := Lib.hid (but_trans HG2.out hG3)
  have HR3 := Lib.hid hR3
  have hlen : (qvs ps).length = m * 4 := hown.1
  have hcell := hown.cellAt 1 (by omega)
  rw [List.getElem?_eq_getElem (by rw [hlen]; omega)] at hcell
  generalize hq9 : (qvs ps)[1]'(by rw [hlen]; omega) = q9 at hcell
  have hfr := hown.frozenAt 1
  have hst := (hown.stored 1 (.int .i64 x)).1
  obtain ⟨p0, hp0⟩ : ∃ p0, ps[0]? = some p0 := by
    have hl : 0 < ps.length := by have := hown.1; rw [qvs_length] at this; omega
    exact ⟨_, List.getElem?_eq_getElem hl⟩
  have HO3 := Lib.hid (show (w3.setCell ⟨g, 1, none⟩ (.int .i64 x)).ownsRow w.heap.size 45 4 (.slice (some ⟨g, 0, none⟩) m c1) m (qvs (ps.set 0 (p0.1, x, p0.2.2))) by
    rw [← qvs_last hp0 x]; exact hst)
  have HSQ := Lib.hid (show SmallQ (ps.set 0 (p0.1, x, p0.2.2)) from fun q hq => by
    rcases List.mem_or_eq_of_mem_set hq with h1 | rfl
    · exact SmallQ.valid HV.out q h1
    · have := SmallQ.valid HV.out p0 (List.mem_of_getElem? hp0)
      exact ⟨this.1, ⟨x0, x1⟩⟩)
  have HR4 := Lib.hid (rdr_set HR3.out (q := ⟨g, 1, none⟩) (by show r < g; omega) (.int .i64 x))
  have HG4 := Lib.hid (but_put HG3.out (p := ⟨g, 1, none⟩) (.inr (by show _ ≤ g; omega)) (.int .i64 x))
  clear hown hst hlen hq9 hR3 hG3 HR3 HG3 HO2 hp0
  go_wp2
  go_ret
  exact ⟨_, m, _, p3, rfl, HO3.out, HSQ.out, hm, HR4.out, by omega, HG4.out⟩
end Go.Proofs.Ytipoakimjhfhfab
