/- spec.ValidClients, CheckCall, ReplyOf, RecordCall, ForgetClients. (Written by gen/clientspec.py.) -/
import Derived.Test.YtipoakimjhfhfabClientS1
import Derived.Test.YtipoakimjhfhfabExClient
set_option linter.unusedSimpArgs false
set_option linter.unusedVariables false
namespace Go.Proofs.Ytipoakimjhfhfab
open Go.RowKit

theorem filt_step {α : Type} {ps : List α} {k : Nat} {p : α} (q : α → Bool) (hg : ps[k]? = some p) : (ps.take (k + 1)).filter q = (ps.take k).filter q ++ (if q p then [p] else []) := by
  rw [take_snoc hg, List.filter_append, List.filter_cons]
  split <;> rfl
theorem ValidClientsS_any (lo hi n c : Nat) (A : Option Addr) (ps : List Qd) (w : World) (hr : Rd w lo hi 4 A n (qvs ps)) (hB : hi ≤ w.heap.size) (hn : n ≤ 1048576) :
    Calls Try.prog 29 #[.slice A n c] w fun e w' => e = .returned (.bool (vCls ps)) ∧ Below w.heap.size w w' := by
  have HC := Lib.hid (validClientsS_any lo hi n c A ps w hr hB hn)
  clear hr
  go_enter Try.func29, Try.ntmps29
  go_wp2_with (fail)
  (with_reducible refine HC.out.mono ?_)
  rintro e w1 ⟨rfl, hb1⟩
  have HB := Lib.hid hb1
  clear hb1
  go_wp2
  go_ret
  exact ⟨rfl, HB.out⟩
set_option maxRecDepth 100000 in
set_option maxHeartbeats 1600000 in
theorem CheckCallS_any (lo hi n c : Nat) (A : Option Addr) (ps : List Qd) (z call : Int) (w : World) (hr : Rd w lo hi 4 A n (qvs ps)) (hB : hi ≤ w.heap.size) (hn : n ≤ 1048576) (hz : in64 z) (hc : in64 call) :
    Calls Try.prog 32 #[.slice A n c, .int .i64 z, .int .i64 call] w fun e w' => e = .returned (.int .i64 (checkOf ps z call)) ∧ Below w.heap.size w w' := by
  have HL := Lib.hid hr.len4
  have HC := Lib.hid (validClientsS_any lo hi n c A ps w hr hB hn)
  have HR := Lib.hid hr
  clear hr
  go_enter Try.func32, Try.ntmps32
  go_wp2_with (fail)
  (with_reducible refine HC.out.mono ?_)
  clear HC
  rintro e w1 ⟨rfl, hb1⟩
  have HB1 := Lib.hid hb1
  have HR1 := Lib.hid (HR.out.keep hb1 hB)
  have hs1 := hb1.size
  clear hb1 HR
  cases hg : vCls ps with
  | false =>
    have HX := Lib.hid (show checkOf ps z call = 4 by simp [checkOf, hg])
    clear hg
    go_wp2
    go_ret
    exact ⟨by rw [HX.out]; rfl, HB1.out⟩
  | true =>
  have HG := Lib.hid hg
  clear hg
  go_wp2_with (fail)
  (with_reducible refine (inRange_any z 0 9 _).mono ?_)
  rintro e w2 ⟨rfl, rfl⟩
  cases hri : inR z 0 9 with
  | false =>
    have HX := Lib.hid (show checkOf ps z call = 4 by simp [checkOf, hri])
    clear hri
    go_wp2
    go_ret
    exact ⟨by rw [HX.out]; rfl, HB1.out⟩
  | true =>
  have HI := Lib.hid hri
  clear hri
  go_wp2_with (fail)
  (with_reducible refine (inRange_any call 1 999 _).mono ?_)
  rintro e w2 ⟨rfl, rfl⟩
  cases hri : inR call 1 999 with
  | false =>
    have HX := Lib.hid (show checkOf ps z call = 4 by simp [checkOf, hri])
    clear hri
    go_wp2
    go_ret
    exact ⟨by rw [HX.out]; rfl, HB1.out⟩
  | true =>
  have HS := Lib.hid (show checkOf ps z call = sortOf ps z call by simp [checkOf, HG.out, HI.out, hri])
  clear hri
  have HBD := Lib.hid (lastOf_bd HG.out z)
  have HT := Lib.hid (show sortOf ps z call = if call = lastOf ps z + 1 then 1 else if call = lastOf ps z then 2 else if call < lastOf ps z then 3 else 4 from rfl)
  go_wp2_with (fail)
  (with_reducible refine (clientAtS_any lo hi n c A ps z _ HR1.out hn).mono ?_)
  rintro e w2 ⟨q, rfl, hq, rfl⟩
  rcases hq with ⟨rfl, hat⟩ | ⟨k, ⟨px, py, pz, pt⟩, rfl, hk, hat, hpz⟩
  · have HLA := Lib.hid (show lastOf ps z = 0 by rw [lastOf, hat])
    clear hat
    have hbd := HBD.out
    rw [HLA.out] at hbd
    have hw1 : IntKind.i64.wrap (0 + 1) = 0 + 1 := IntWalk.i64_in _ (by omega)
    by_cases e1 : call = 0 + 1
    · have f1 : (call == 0 + 1) = true := by simpa using e1
      have HY := Lib.hid (show checkOf ps z call = 1 by rw [HS.out, HT.out, HLA.out, if_pos e1])
      clear e1
      go_wp2
      go_ret
      exact ⟨by rw [HY.out]; rfl, HB1.out⟩
    have f1 : (call == 0 + 1) = false := by simpa using e1
    by_cases e2 : call = 0
    · have f2 : (call == 0) = true := by simpa using e2
      have HY := Lib.hid (show checkOf ps z call = 2 by rw [HS.out, HT.out, HLA.out, if_neg e1, if_pos e2])
      clear e1 e2
      go_wp2
      go_ret
      exact ⟨by rw [HY.out]; rfl, HB1.out⟩
    have f2 : (call == 0) = false := by simpa using e2
    by_cases e3 : call < 0
    · have e3d : decide (call < 0) = true := decide_eq_true e3
      have HY := Lib.hid (show checkOf ps z call = 3 by rw [HS.out, HT.out, HLA.out, if_neg e1, if_neg e2, if_pos e3])
      clear e1 e2
      go_wp2
      go_ret
      exact ⟨by rw [HY.out]; rfl, HB1.out⟩
    · have e3d : decide (call < 0) = false := decide_eq_false e3
      have HY := Lib.hid (show checkOf ps z call = 4 by rw [HS.out, HT.out, HLA.out, if_neg e1, if_neg e2, if_neg e3])
      clear e1 e2
      go_wp2
      go_ret
      exact ⟨by rw [HY.out]; rfl, HB1.out⟩
  · have HLA := Lib.hid (show lastOf ps z = py by rw [lastOf, hat])
    have hkn : k < n := by rw [← HL.out]; exact (List.getElem?_eq_some_iff.1 hk).1
    obtain ⟨b, off, x, y, u, t, rfl, hbB, _, hg, hc0, hc1, hc2, hc3⟩ := HR1.out.quad hkn
    have hp : (px, py, pz, pt) = (x, y, u, t) := by rw [hk] at hg; injection hg
    injection hp with hp1 hp; injection hp with hp2 hp; injection hp with hp3 hp4
    subst hp1; subst hp2; subst hp3; subst hp4
    have hkz : (k : Int) < (n : Int) := by omega
    have hk0 : (0 : Int) ≤ (k : Int) := by omega
    have hkd : decide ((0 : Int) ≤ (k : Int)) = true := decide_eq_true (by omega)
    clear hat hk hg hpz
    have hbd := HBD.out
    rw [HLA.out] at hbd
    have hw1 : IntKind.i64.wrap (py + 1) = py + 1 := IntWalk.i64_in _ (by omega)
    by_cases e1 : call = py + 1
    · have f1 : (call == py + 1) = true := by simpa using e1
      have HY := Lib.hid (show checkOf ps z call = 1 by rw [HS.out, HT.out, HLA.out, if_pos e1])
      clear e1
      go_wp2
      go_ret
      exact ⟨by rw [HY.out]; rfl, HB1.out⟩
    have f1 : (call == py + 1) = false := by simpa using e1
    by_cases e2 : call = py
    · have f2 : (call == py) = true := by simpa using e2
      have HY := Lib.hid (show checkOf ps z call = 2 by rw [HS.out, HT.out, HLA.out, if_neg e1, if_pos e2])
      clear e1 e2
      go_wp2
      go_ret
      exact ⟨by rw [HY.out]; rfl, HB1.out⟩
    have f2 : (call == py) = false := by simpa using e2
    by_cases e3 : call < py
    · have e3d : decide (call < py) = true := decide_eq_true e3
      have HY := Lib.hid (show checkOf ps z call = 3 by rw [HS.out, HT.out, HLA.out, if_neg e1, if_neg e2, if_pos e3])
      clear e1 e2
      go_wp2
      go_ret
      exact ⟨by rw [HY.out]; rfl, HB1.out⟩
    · have e3d : decide (call < py) = false := decide_eq_false e3
      have HY := Lib.hid (show checkOf ps z call = 4 by rw [HS.out, HT.out, HLA.out, if_neg e1, if_neg e2, if_neg e3])
      clear e1 e2
      go_wp2
      go_ret
      exact ⟨by rw [HY.out]; rfl, HB1.out⟩
set_option maxRecDepth 100000 in
set_option maxHeartbeats 1600000 in
theorem ReplyOfS_any (lo hi n c : Nat) (A : Option Addr) (ps : List Qd) (z call : Int) (w : World) (hr : Rd w lo hi 4 A n (qvs ps)) (hB : hi ≤ w.heap.size) (hn : n ≤ 1048576) (hz : in64 z) (hc : in64 call) :
    Calls Try.prog 39 #[.slice A n c, .int .i64 z, .int .i64 call] w fun e w' => e = .returned (.tuple #[.int .i64 ((replyOf ps z call).getD 0), .bool (replyOf ps z call).isSome]) ∧ Below w.heap.size w w' := by
  have HL := Lib.hid hr.len4
  have HC := Lib.hid (CheckCallS_any lo hi n c A ps z call w hr hB hn hz hc)
  have HR := Lib.hid hr
  clear hr
  go_enter Try.func39, Try.ntmps39
  go_wp2_with (fail)
  (with_reducible refine HC.out.mono ?_)
  clear HC
  rintro e w1 ⟨rfl, hb1⟩
  have HB1 := Lib.hid hb1
  have HR1 := Lib.hid (HR.out.keep hb1 hB)
  have hs1 := hb1.size
  clear hb1 HR
  by_cases hv : checkOf ps z call = 2
  · have HX := Lib.hid (show replyOf ps z call = some (repOf ps z) by simp [replyOf, hv])
    obtain ⟨hvc, hz9, hc9, hso⟩ := checkOf_v (ps := ps) (z := z) (call := call) (by omega)
    have HAT := Lib.hid (show ∃ p, atNum Prod.fst ps z = some p by
      cases h : atNum Prod.fst ps z with
      | some p => exact ⟨p, rfl⟩
      | none =>
        rw [hv] at hso
        have hl : lastOf ps z = 0 := by rw [lastOf, h]
        rw [sortOf, hl] at hso
        split at hso
        · omega
        · split at hso <;> omega)
    rw [hv]
    clear hv hvc hso
    go_wp2_with (fail)
    (with_reducible refine (clientAtS_any lo hi n c A ps z _ HR1.out hn).mono ?_)
    rintro e w2 ⟨q, rfl, hq, rfl⟩
    rcases hq with ⟨rfl, hat⟩ | ⟨k, p, rfl, hk, hat, hpz⟩
    · obtain ⟨p, hp⟩ := HAT.out
      rw [hat] at hp
      cases hp
    have hkn : k < n := by rw [← HL.out]; exact (List.getElem?_eq_some_iff.1 hk).1
    obtain ⟨b, off, x, y, u, t, rfl, hbB, _, hg, hc0, hc1, hc2, hc3⟩ := HR1.out.quad hkn
    have hp : p = (x, y, u, t) := by rw [hk] at hg; injection hg
    subst hp
    have HV := Lib.hid (show repOf ps z = u by rw [repOf, hat])
    have hkz : (k : Int) < (n : Int) := by omega
    have hk0 : (0 : Int) ≤ (k : Int) := by omega
    clear hat hk hg hpz HAT
    go_wp2
    exact bodyPost_ret (v := .tuple #[.int .i64 u, .bool true]) (by simp [results, Try.results39, go_sem]) rfl ⟨by rw [HX.out, HV.out]; rfl, HB1.out⟩
  · have hv2 : (checkOf ps z call == 2) = false := by simpa using hv
    have hv3 : (checkOf ps z call != 2) = true := by simpa using hv
    have HX := Lib.hid (show replyOf ps z call = none by rw [replyOf, hv2]; rfl)
    generalize checkOf ps z call = v at hv2 hv3 ⊢
    clear hv
    go_wp2
    exact bodyPost_ret (v := .tuple #[.int .i64 0, .bool false]) (by simp [results, Try.results39, go_sem]) rfl ⟨by rw [HX.out]; rfl, HB1.out⟩
set_option maxRecDepth 100000 in
set_option maxHeartbeats 3200000 in
theorem RecordCallO_any (lo hi n c : Nat) (A : Option Addr) (ps : List Qd) (z call reply now : Int) (w : World) (hr : Rd w lo hi 4 A n (qvs ps)) (hB : hi ≤ w.heap.size) (hn : n ≤ 1048576) (hz : in64 z) (hc : in64 call) (hrep : in64 reply) (hnow : in64 now) :
    Calls Try.prog 35 #[.slice A n c, .int .i64 z, .int .i64 call, .int .i64 reply, .int .i64 now] w (OwnT 45 qvs 4 (recordOf ps z call reply now) w) := by
  have HL := Lib.hid hr.len4
  obtain ⟨i0, hi0, hz0, hz1, hz2⟩ := info_parts infoClient
  have HC := Lib.hid (CheckCallS_any lo hi n c A ps z call w hr hB hn hz hc)
  have HR := Lib.hid hr
  clear hr
  go_enter Try.func35, Try.ntmps35
  go_wp2_with (fail)
  (with_reducible refine HC.out.mono ?_)
  clear HC
  rintro e w1 ⟨rfl, hb1⟩
  have HB1 := Lib.hid hb1
  have hs1 := hb1.size
  clear hb1
  by_cases hv : checkOf ps z call = 1
  case neg =>
    have hv2 : (checkOf ps z call == 1) = false := by simpa using hv
    have hv3 : (checkOf ps z call != 1) = true := by simpa using hv
    have HX := Lib.hid (show recordOf ps z call reply now = none by rw [recordOf, hv2]; rfl)
    generalize checkOf ps z call = v at hv2 hv3 ⊢
    clear hv
    go_wp2
    exact bodyPost_ret (v := .tuple #[.slice none 0 0, .bool false]) (by simp [results, Try.results35, go_sem]) rfl (OwnT.no rfl HX.out HB1.out)
  have HV := Lib.hid hv
  rw [hv]
  have hcv := (checkOf_v (ps := ps) (z := z) (call := call) (by rw [hv]; omega)).1
  have hlen := vCls_len hcv
  rw [HL.out] at hlen
  clear hv hcv
  go_wp2_with (fail)
  (with_reducible refine (inRange_any now 0 9999 _).mono ?_)
  rintro e w2 ⟨rfl, rfl⟩
  cases hti : inR now 0 9999 with
  | false =>
    have HX := Lib.hid (show recordOf ps z call reply now = none by simp [recordOf, hti])
    clear hti
    go_wp2
    exact bodyPost_ret (v := .tuple #[.slice none 0 0, .bool false]) (by simp [results, Try.results35, go_sem]) rfl (OwnT.no rfl HX.out HB1.out)
  | true =>
  have HX := Lib.hid (show recordOf ps z call reply now = some (ps.filter (fun p => decide (p.1 < z)) ++ (z, call, reply, now) :: ps.filter (fun p => decide (z < p.1))) by simp [recordOf, hti, HV.out, insNum])
  clear hti
  have hown0 : (w1.alloc (.cells #[] 45)).ownsRow w1.heap.size 45 4 (.slice (some ⟨w1.heap.size, 0, none⟩) 0 0) 0 [] := World.ownsRow_made w1 #[] 0 (Nat.le_refl _) (by unfold maxLen; omega) (by simp)
  have hb0 := up_alloc (Below.refl _ w1) (.cells #[] 45)
  go_wp2
  go_loopw [12, 13] (fun v iv wr => ∃ (k m : Nat), k ≤ n ∧ m ≤ k ∧ iv = .int .i64 k ∧ Hid (((ps.take k).filter (fun p => decide (p.1 < z))).length = m) ∧ Hid (wr.ownsRow w1.heap.size 45 4 v m (qvs ((ps.take k).filter (fun p => decide (p.1 < z))))) ∧ Hid (Below w1.heap.size w1 wr))
     (fun _ iv _ => n - (intOf iv).toNat)
  case atStart => exact ⟨0, 0, by omega, by omega, rfl, rfl, hown0, hb0⟩
  case round =>
    clear hown0 hb0
    obtain ⟨k, m, hk, hm, rfl, hLm, hO, hW⟩ := hrel
    have HBW := Lib.hid (up HB1.out hW.out)
    have hsw := hW.out.size
    by_cases hlt : k < n
    · obtain ⟨b, off, x, y, u, t, rfl, hbB, _, hg, hc0, hc1, hc2, hc3⟩ := (HR.out.keep HBW.out hB).quad (k := k) (by omega)
      have hkn : (k : Int) < (n : Int) := by omega
      have hk0 : (0 : Int) ≤ (k : Int) := by omega
      have HS := Lib.hid (filt_step (fun p : Qd => decide (p.1 < z)) hg)
      clear hg
      by_cases hu : x < z
      · have hud : decide (x < z) = true := decide_eq_true (by omega)
        go_wp2_with (at_builtin; refine wpList_append_own _ rfl _ _ 38 rfl w1.heap.size 45 i0 _ 4 32 Try.underlying38 hi0 hz0 hz1 hz2 rfl (by decide) _ _ _ rfl (hO.out.alloc _) _ 1 1 [.int .i64 x, .int .i64 y, .int .i64 u, .int .i64 t] rfl rfl (World.news_of_block (heap_alloc_new _ _)) ?c2 ?c3 ?c4 ?c5 ?_)
        case c2 => exact ⟨rfl, rfl, rfl, rfl⟩
        case c3 => unfold maxLen; omega
        case c4 => omega
        case c5 => first | omega | (simp; omega)
        intro v4 w4 hown4 hg4 _
        have hb4 := up_grown (up_alloc hW.out _) (hO.out.alloc _) hg4 (Nat.le_refl _)
        have HS2 := Lib.hid (show (ps.take (k + 1)).filter (fun p => decide (p.1 < z)) = (ps.take k).filter (fun p => decide (p.1 < z)) ++ [(x, y, u, t)] by rw [HS.out]; first | rw [if_pos hu] | simp [hu])
        have HO4 := Lib.hid hown4
        have HB4 := Lib.hid hb4
        clear hown4 hg4 hb4
        go_wp2
        go_roundw
        case rel => exact ⟨k + 1, m + 1, by omega, by omega, by go_num, by rw [HS2.out, List.length_append, hLm.out]; rfl, by rw [HS2.out, qvs_append]; exact HO4.out, HB4.out⟩
        case measure => simp [intOf]; omega
      · have hud : decide (x < z) = false := decide_eq_false (by omega)
        have HS2 := Lib.hid (show (ps.take (k + 1)).filter (fun p => decide (p.1 < z)) = (ps.take k).filter (fun p => decide (p.1 < z)) by rw [HS.out]; first | rw [if_neg hu, List.append_nil] | simp [hu])
        go_wp2
        go_roundw
        case rel => exact ⟨k + 1, m, by omega, by omega, by go_num, by rw [HS2.out]; exact hLm.out, by rw [HS2.out]; exact hO.out, hW.out⟩
        case measure => simp [intOf]; omega
    obtain rfl : k = n := by omega
    have ek : ps.take k = ps := List.take_of_length_le (by rw [HL.out]; omega)
    rw [ek] at hO hLm
    clear ek
    obtain ⟨wo, HWO⟩ : ∃ wo : World, Hid (wo = wr) := ⟨wr, rfl⟩
    have hown := hO.out
    have HO0 := Lib.hid hown
    clear hown hO
    generalize hlL : ps.filter (fun p => decide (p.1 < z)) = lessL at HX HO0 hLm
    have HLL := Lib.hid hlL
    clear hlL
    go_wp2_with (at_builtin; refine wpList_append_own _ rfl _ _ 38 rfl w1.heap.size 45 i0 _ 4 32 Try.underlying38 hi0 hz0 hz1 hz2 rfl (by decide) _ _ _ rfl (HO0.out.alloc _) _ 1 1 [.int .i64 z, .int .i64 call, .int .i64 reply, .int .i64 now] rfl rfl (World.news_of_block (heap_alloc_new _ _)) ?d2 ?d3 ?d4 ?d5 ?_)
    case d2 => intro u hu; simp at hu; rcases hu with rfl | rfl | rfl | rfl <;> rfl
    case d3 => unfold maxLen; omega
    case d4 => omega
    case d5 => first | omega | (simp; omega)
    intro v3 w3 hown3 hg3 _
    have HB3 := Lib.hid (up_grown (up_alloc hW.out _) (HO0.out.alloc _) hg3 (Nat.le_refl _))
    have HO3 := Lib.hid (show w3.ownsRow w1.heap.size 45 4 v3 (m + 1) (qvs (lessL ++ [(z, call, reply, now)])) by rw [qvs_append]; exact hown3)
    have hs3 := HB3.out.size
    clear hown3 hg3 HO0 hW HBW
    go_wp2
    go_loopw [12, 14] (fun v iv wr => ∃ (j r : Nat), j ≤ k ∧ r ≤ j ∧ iv = .int .i64 j ∧ Hid (((ps.take j).filter (fun p => decide (z < p.1))).length = r) ∧ Hid (wr.ownsRow w1.heap.size 45 4 v (m + 1 + r) (qvs (lessL ++ [(z, call, reply, now)] ++ (ps.take j).filter (fun p => decide (z < p.1))))) ∧ Hid (Below w1.heap.size w1 wr))
       (fun _ iv _ => k - (intOf iv).toNat)
    case atStart => exact ⟨0, 0, by omega, by omega, rfl, rfl, by show World.ownsRow _ _ _ _ _ _ _; simpa using HO3.out, HB3.out⟩
    case round =>
      clear HO3 HB3 HWO
      obtain ⟨j, r, hj, hr2, rfl, hLr, hO, hW⟩ := hrel
      have HBW := Lib.hid (up HB1.out hW.out)
      have hsw2 := hW.out.size
      by_cases hlt2 : j < k
      · obtain ⟨b, off, x, y, u, t, rfl, hbB, _, hg, hc0, hc1, hc2, hc3⟩ := (HR.out.keep HBW.out hB).quad (k := j) (by omega)
        have hkn : (j : Int) < (k : Int) := by omega
        have hk0 : (0 : Int) ≤ (j : Int) := by omega
        have HS := Lib.hid (filt_step (fun p : Qd => decide (z < p.1)) hg)
        clear hg
        by_cases hu : z < x
        · have hud : decide (z < x) = true := decide_eq_true (by omega)
          go_wp2_with (at_builtin; refine wpList_append_own _ rfl _ _ 38 rfl w1.heap.size 45 i0 _ 4 32 Try.underlying38 hi0 hz0 hz1 hz2 rfl (by decide) _ _ _ rfl (hO.out.alloc _) _ 1 1 [.int .i64 x, .int .i64 y, .int .i64 u, .int .i64 t] rfl rfl (World.news_of_block (heap_alloc_new _ _)) ?c2 ?c3 ?c4 ?c5 ?_)
          case c2 => exact ⟨rfl, rfl, rfl, rfl⟩
          case c3 => unfold maxLen; omega
          case c4 => omega
          case c5 => first | omega | (simp; omega)
          intro v4 w4 hown4 hg4 _
          have hb4 := up_grown (up_alloc hW.out _) (hO.out.alloc _) hg4 (Nat.le_refl _)
          have HS2 := Lib.hid (show (ps.take (j + 1)).filter (fun p => decide (z < p.1)) = (ps.take j).filter (fun p => decide (z < p.1)) ++ [(x, y, u, t)] by rw [HS.out]; first | rw [if_pos hu] | simp [hu])
          have HO4 := Lib.hid hown4
          have HB4 := Lib.hid hb4
          clear hown4 hg4 hb4
          go_wp2
          go_roundw
          case rel => exact ⟨j + 1, r + 1, by omega, by omega, by go_num, by rw [HS2.out, List.length_append, hLr.out]; rfl, by show World.ownsRow _ _ _ _ _ _ _; have h := HO4.out; change World.ownsRow _ _ _ _ _ _ (_ ++ qvs [(x, y, u, t)]) at h; rw [← qvs_append] at h; rw [HS2.out]; simpa [Nat.add_assoc] using h, HB4.out⟩
          case measure => simp [intOf]; omega
        · have hud : decide (z < x) = false := decide_eq_false (by omega)
          have HS2 := Lib.hid (show (ps.take (j + 1)).filter (fun p => decide (z < p.1)) = (ps.take j).filter (fun p => decide (z < p.1)) by rw [HS.out]; first | rw [if_neg hu, List.append_nil] | simp [hu])
          go_wp2
          go_roundw
          case rel => exact ⟨j + 1, r, by omega, by omega, by go_num, by rw [HS2.out]; exact hLr.out, by rw [HS2.out]; exact hO.out, hW.out⟩
          case measure => simp [intOf]; omega
      obtain rfl : j = k := by omega
      have ek : ps.take j = ps := List.take_of_length_le (by rw [HL.out]; omega)
      rw [ek] at hO hLr
      clear ek
      have HRR := Lib.hid (own_base hO.out hs1)
      rw [show lessL ++ [(z, call, reply, now)] ++ ps.filter (fun p => decide (z < p.1)) = lessL ++ (z, call, reply, now) :: ps.filter (fun p => decide (z < p.1)) by simp] at HRR
      have HNN := Lib.hid (show (lessL ++ (z, call, reply, now) :: ps.filter (fun p => decide (z < p.1))).length = m + 1 + r by
        rw [List.length_append, List.length_cons, hLr.out, hLm.out]; omega)
      clear hO
      go_wp2
      refine bodyPost_ret (v := .tuple #[_, .bool true]) (by simp [results, Try.results35, go_sem]) rfl (OwnT.yes HX.out HNN.out HRR.out HBW.out)
theorem RecordCallS_any (lo hi n c : Nat) (A : Option Addr) (ps : List Qd) (z call reply now : Int) (w : World) (hr : Rd w lo hi 4 A n (qvs ps)) (hB : hi ≤ w.heap.size) (hn : n ≤ 1048576) (hz : in64 z) (hc : in64 call) (hrep : in64 reply) (hnow : in64 now) :
    Calls Try.prog 35 #[.slice A n c, .int .i64 z, .int .i64 call, .int .i64 reply, .int .i64 now] w (MayT qvs 4 (recordOf ps z call reply now) w) :=
  (RecordCallO_any lo hi n c A ps z call reply now w hr hB hn hz hc hrep hnow).mono fun _ _ h => h.may
set_option maxRecDepth 100000 in
set_option maxHeartbeats 1600000 in
theorem ForgetClientsS_any (lo hi n c : Nat) (A : Option Addr) (ps : List Qd) (z : Int) (w : World) (hr : Rd w lo hi 4 A n (qvs ps)) (hB : hi ≤ w.heap.size) (hn : n ≤ 1048576) (hz : in64 z) :
    Calls Try.prog 42 #[.slice A n c, .int .i64 z] w (Fresh (qvs (forgetOf ps z)) 4 (forgetOf ps z).length w) := by
  have HL := Lib.hid hr.len4
  obtain ⟨i0, hi0, hz0, hz1, hz2⟩ := info_parts infoClient
  have hown0 : (w.alloc (.cells #[] 45)).ownsRow w.heap.size 45 4 (.slice (some ⟨w.heap.size, 0, none⟩) 0 0) 0 [] := World.ownsRow_made w #[] 0 (Nat.le_refl _) (by unfold maxLen; omega) (by simp)
  have hb0 := up_alloc (Below.refl _ w) (.cells #[] 45)
  have HC := Lib.hid (validClientsS_any lo hi n c A ps _ (hr.keep hb0 hB) (Nat.le_trans hB hb0.size) hn)
  have HR := Lib.hid hr
  have HOW := Lib.hid hown0
  have HB0 := Lib.hid hb0
  clear hr hown0 hb0
  go_enter Try.func42, Try.ntmps42
  go_wp2_with (fail)
  (with_reducible refine HC.out.mono ?_)
  clear HC
  rintro e w1 ⟨rfl, hb1⟩
  have HBW0 := Lib.hid (up HB0.out hb1)
  have HO1 := Lib.hid (own_keep HOW.out hb1)
  have hs1 := HBW0.out.size
  clear hb1 HOW HB0
  cases hg : vCls ps with
  | false =>
    have HX := Lib.hid (show forgetOf ps z = [] by simp [forgetOf, hg])
    clear hg
    go_wp2
    go_ret
    rw [HX.out]
    exact Fresh.nil 4 HBW0.out
  | true =>
  have HX := Lib.hid (show forgetOf ps z = keptCls ps z by simp [forgetOf, hg])
  clear hg
  go_wp2
  go_loopw [5, 6] (fun v iv wr => ∃ (k m : Nat), k ≤ n ∧ m ≤ k ∧ iv = .int .i64 k ∧ Hid ((keptCls (ps.take k) z).length = m) ∧ Hid (wr.ownsRow w.heap.size 45 4 v m (qvs (keptCls (ps.take k) z))) ∧ Hid (Below w.heap.size w wr))
     (fun _ iv _ => n - (intOf iv).toNat)
  case atStart => exact ⟨0, 0, by omega, by omega, rfl, rfl, HO1.out, HBW0.out⟩
  case round =>
    clear HO1 HBW0
    obtain ⟨k, m, hk, hm, rfl, hLm, hO, hW⟩ := hrel
    have HBW := Lib.hid hW.out
    have hsw := hW.out.size
    by_cases hlt : k < n
    · obtain ⟨b, off, x, y, u, t, rfl, hbB, _, hg, hc0, hc1, hc2, hc3⟩ := (HR.out.keep HBW.out hB).quad (k := k) (by omega)
      have hkn : (k : Int) < (n : Int) := by omega
      have hk0 : (0 : Int) ≤ (k : Int) := by omega
      have HS := Lib.hid (keptCls_step (b := z) hg)
      clear hg
      by_cases hu : z ≤ t
      · have hud : decide (z ≤ t) = true := decide_eq_true (by omega)
        go_wp2_with (at_builtin; refine wpList_append_own _ rfl _ _ 38 rfl w.heap.size 45 i0 _ 4 32 Try.underlying38 hi0 hz0 hz1 hz2 rfl (by decide) _ _ _ rfl (hO.out.alloc _) _ 1 1 [.int .i64 x, .int .i64 y, .int .i64 u, .int .i64 t] rfl rfl (World.news_of_block (heap_alloc_new _ _)) ?c2 ?c3 ?c4 ?c5 ?_)
        case c2 => exact ⟨rfl, rfl, rfl, rfl⟩
        case c3 => unfold maxLen; omega
        case c4 => omega
        case c5 => first | omega | (simp; omega)
        intro v4 w4 hown4 hg4 _
        have hb4 := up_grown (up_alloc hW.out _) (hO.out.alloc _) hg4 (Nat.le_refl _)
        have HS2 := Lib.hid (show keptCls (ps.take (k + 1)) z = keptCls (ps.take k) z ++ [(x, y, u, t)] by rw [HS.out]; first | rw [if_pos hu] | simp [hu])
        have HO4 := Lib.hid hown4
        have HB4 := Lib.hid hb4
        clear hown4 hg4 hb4
        go_wp2
        go_roundw
        case rel => exact ⟨k + 1, m + 1, by omega, by omega, by go_num, by rw [HS2.out, List.length_append, hLm.out]; rfl, by rw [HS2.out, qvs_append]; exact HO4.out, HB4.out⟩
        case measure => simp [intOf]; omega
      · have hud : decide (z ≤ t) = false := decide_eq_false (by omega)
        have HS2 := Lib.hid (show keptCls (ps.take (k + 1)) z = keptCls (ps.take k) z by rw [HS.out]; first | rw [if_neg hu, List.append_nil] | simp [hu])
        go_wp2
        go_roundw
        case rel => exact ⟨k + 1, m, by omega, by omega, by go_num, by rw [HS2.out]; exact hLm.out, by rw [HS2.out]; exact hO.out, hW.out⟩
        case measure => simp [intOf]; omega
    obtain rfl : k = n := by omega
    have ek : ps.take k = ps := List.take_of_length_le (by rw [HL.out]; omega)
    rw [ek] at hO hLm
    clear ek
    obtain ⟨A3, c3, rfl, hc3, hr3, hs3⟩ := own_form hO.out
    have HR3 := Lib.hid hr3
    have HS3 := Lib.hid hs3
    clear hr3 hs3 hO
    go_wp2
    go_ret
    rw [HX.out, hLm.out]
    exact ⟨A3, c3, rfl, hc3, HR3.out, HS3.out, HBW.out⟩
end Go.Proofs.Ytipoakimjhfhfab
