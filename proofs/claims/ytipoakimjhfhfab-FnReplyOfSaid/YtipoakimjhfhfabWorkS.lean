/- The reference's worklists. (Written by gen/works.py.) -/
import Derived.Test.YtipoakimjhfhfabWorkS1
import Derived.Test.YtipoakimjhfhfabLawLists
import Derived.Test.YtipoakimjhfhfabExItem
set_option linter.unusedSimpArgs false
set_option linter.unusedVariables false
namespace Go.Proofs.Ytipoakimjhfhfab
open Go.RowKit

set_option maxHeartbeats 400000 in
theorem isInS_any (lo hi n c : Nat) (A : Option Addr) (xs : List Int) (m : Int) (w : World) (hr : Rd w lo hi 1 A n (ivs xs)) (hn : n ≤ 1048576) :
    Calls Try.prog 87 #[.slice A n c, .int .i64 m] w fun e w' => e = .returned (.bool (inL xs m)) ∧ w = w' := by
  have HL := Lib.hid hr.len1
  go_enter Try.func87, Try.ntmps87
  go_wp2
  go_loop [5] (fun iv => ∃ (k : Nat), k ≤ n ∧ iv = .int .i64 k ∧ Hid (inL xs m = inL (xs.drop k) m))
     (fun iv => n - (intOf iv).toNat)
  case atStart => exact ⟨0, by omega, rfl, rfl⟩
  case round =>
    obtain ⟨k, hk, rfl, hS⟩ := hrel
    by_cases hlt : k < n
    · obtain ⟨b, off, x, rfl, _, _, hg, hc0⟩ := hr.one hlt
      have Hg := Lib.hid hg; clear hg
      by_cases he : x = m
      · subst he
        go_wp2
        go_ret
        exact ⟨ret_bool (by rw [hS.out, inL_hit Hg.out]), rfl⟩
      · have he1 : (x == m) = false := by simpa using he
        have HS := Lib.hid (hS.out.trans (inL_miss Hg.out he))
        clear he
        go_wp2
        go_round
        case rel => exact ⟨k + 1, by omega, by go_num, HS⟩
        case measure => simp [intOf]; omega
    · obtain rfl : k = n := by omega
      go_wp2
      go_ret
      exact ⟨ret_bool (by rw [hS.out, List.drop_of_length_le (by rw [HL.out]; omega)]; rfl), rfl⟩
set_option maxRecDepth 100000 in
set_option maxHeartbeats 1600000 in
theorem OfferItemO_any (lo hi n c : Nat) (A : Option Addr) (ps : List Tri) (role : Int) (w : World) (hr : Rd w lo hi 3 A n (tvs ps)) (hB : hi ≤ w.heap.size) (hn : n ≤ 1048576) (hrole : in64 role) :
    Calls Try.prog 81 #[.slice A n c, .int .i64 role] w (OwnT 30 tvs 3 (offerOf ps role) w) := by
  have HL := Lib.hid hr.len3
  obtain ⟨i0, hi0, hz0, hz1, hz2⟩ := info_parts infoItem
  have HC := Lib.hid (validWorkS_any lo hi n c A ps w hr hB hn)
  have HR := Lib.hid hr
  clear hr
  go_enter Try.func81, Try.ntmps81
  go_wp2_with (fail)
  (with_reducible refine HC.out.mono ?_)
  clear HC
  rintro e w1 ⟨rfl, hb1⟩
  have HB1 := Lib.hid hb1
  have hs1 := hb1.size
  clear hb1
  cases hg : vWork ps with
  | false =>
    have HX := Lib.hid (show offerOf ps role = none by simp [offerOf, hg])
    clear hg
    go_wp2
    exact bodyPost_ret (v := .tuple #[.slice none 0 0, .bool false]) (by simp [results, Try.results81, go_sem]) rfl (OwnT.no rfl HX.out HB1.out)
  | true =>
  have HG := Lib.hid hg
  have hlen := vWork_len hg
  have hnb := nextNum_bd hg
  have hnl : ps.length ≤ 12 := hlen
  rw [HL.out] at hlen
  have HRI := Lib.hid (fun (h : inR role 0 5 = false) => show offerOf ps role = none by
    have : vWork (offered ps role) = false := by
      cases e : vWork (offered ps role) with
      | false => rfl
      | true => have := offered_ok e; rw [(inR_iff.2 this : inR role 0 5 = true)] at h; cases h
    simp [offerOf, this])
  have HOL := Lib.hid (show (offered ps role).length = n + 1 by rw [offered, List.length_append, HL.out]; rfl)
  clear hg
  go_wp2_with (fail)
  (with_reducible refine (inRange_any role 0 5 _).mono ?_)
  rintro e w2 ⟨rfl, rfl⟩
  cases hri : inR role 0 5 with
  | false =>
    have HX := Lib.hid (HRI.out hri)
    clear hri
    go_wp2
    exact bodyPost_ret (v := .tuple #[.slice none 0 0, .bool false]) (by simp [results, Try.results81, go_sem]) rfl (OwnT.no rfl HX.out HB1.out)
  | true =>
  clear hri HRI
  have hown0 : (w1.alloc (.cells #[] 30)).ownsRow w1.heap.size 30 3 (.slice (some ⟨w1.heap.size, 0, none⟩) 0 0) 0 [] := World.ownsRow_made w1 #[] 0 (Nat.le_refl _) (by unfold maxLen; omega) (by simp)
  have hb0 := up_alloc (Below.refl _ w1) (.cells #[] 30)
  have HRA := Lib.hid ((HR.out.keep HB1.out hB).keep hb0 (by have := HB1.out.size; omega))
  have HOW := Lib.hid hown0
  have HB0 := Lib.hid hb0
  clear hown0 hb0
  rcases Nat.eq_zero_or_pos n with hz | hz
  · subst hz
    have hN : nextNum ps = 1 := by
      have : ps = [] := List.eq_nil_of_length_eq_zero HL.out
      rw [this]; rfl
    have HOF := Lib.hid (show tvs (offered ps role) = tvs ps ++ [.int .i64 1, .int .i64 role, .int .i64 0] by rw [offered, hN, tvs_append]; rfl)
    have HOL := Lib.hid (show (offered ps role).length = 1 from HOL.out)
    clear hN hnb
    go_wp2_with (at_builtin; refine wpList_append_rd _ rfl _ _ 23 rfl w1.heap.size 30 i0 _ 3 24 Try.underlying23 hi0 hz0 hz1 hz2 rfl (by decide) _ _ _ rfl HOW.out lo hi A 0 c (tvs ps) rfl HRA.out (tvs_one ps) ?c3 ?c4 ?c5 ?_)
    case c3 => unfold maxLen; omega
    case c4 => omega
    case c5 => simp
    intro v2 w2 hown2 hg2 _
    have HB2 := Lib.hid (up_grown HB0.out HOW.out hg2 (Nat.le_refl _))
    try simp only [Nat.zero_add, List.nil_append] at hown2
    have HO2 := Lib.hid hown2
    have hs2 := HB2.out.size
    clear hown2 hg2
    go_wp2_with (at_builtin; refine wpList_append_own _ rfl _ _ 23 rfl w1.heap.size 30 i0 _ 3 24 Try.underlying23 hi0 hz0 hz1 hz2 rfl (by decide) _ _ _ rfl (HO2.out.alloc _) _ 1 1 [.int .i64 1, .int .i64 role, .int .i64 0] rfl rfl (World.news_of_block (heap_alloc_new _ _)) ?d2 ?d3 ?d4 ?d5 ?_)
    case d2 => intro u hu; simp at hu; rcases hu with rfl | rfl | rfl <;> rfl
    case d3 => unfold maxLen; omega
    case d4 => omega
    case d5 => first | omega | (simp; omega)
    intro v3 w3 hown3 hg3 _
    have HB3 := Lib.hid (up HB1.out (up_grown (up_alloc HB2.out _) (HO2.out.alloc _) hg3 (Nat.le_refl _)))
    have HO3 := Lib.hid (show w3.ownsRow w1.heap.size 30 3 v3 1 (tvs (offered ps role)) by rw [HOF.out]; exact hown3)
    clear hown3 hg3
    obtain ⟨A3, c3, rfl, hc3, hr3, hs3⟩ := own_form HO3.out
    have HR3 := Lib.hid hr3
    have HS3 := Lib.hid hs3
    clear hr3 hs3 HO2 HB2
    go_wp2_with (fail)
    (with_reducible refine (validWorkS_any _ _ _ c3 A3 (offered ps role) _ HR3.out (Nat.le_refl _) (by omega)).mono ?_)
    rintro e w4 ⟨rfl, hb4⟩
    have HB4 := Lib.hid (up HB3.out hb4)
    have HO4 := Lib.hid (own_base (own_keep HO3.out hb4) (base' := w.heap.size) (by omega))
    clear hb4 HB3 HR3 HS3 HO3
    cases hv : vWork (offered ps role) with
    | false =>
      have HX := Lib.hid (show offerOf ps role = none by simp [offerOf, hv])
      clear hv
      go_wp2
      exact bodyPost_ret (v := .tuple #[.slice none 0 0, .bool false]) (by simp [results, Try.results81, go_sem]) rfl (OwnT.no rfl HX.out HB4.out)
    | true =>
      have HX := Lib.hid (show offerOf ps role = some (offered ps role) by simp [offerOf, hv, HG.out])
      clear hv
      go_wp2
      exact bodyPost_ret (v := .tuple #[.slice A3 1 c3, .bool true]) (by simp [results, Try.results81, go_sem]) rfl (OwnT.yes HX.out HOL.out HO4.out HB4.out)
  · obtain ⟨j, hjn1⟩ : ∃ j, j + 1 = n := ⟨n - 1, by omega⟩
    obtain ⟨b, off, x, y, z, rfl, hbB, _, hg, hc0, _, _⟩ := (HR.out.keep HB1.out hB).trip (k := j) (by omega)
    have hN : nextNum ps = x + 1 := by
      unfold nextNum
      rw [List.getLast?_eq_getElem?, HL.out, show n - 1 = j by omega, hg]
    have HOF := Lib.hid (show tvs (offered ps role) = tvs ps ++ [.int .i64 (x + 1), .int .i64 role, .int .i64 0] by rw [offered, hN, tvs_append]; rfl)
    have hx : 0 ≤ x ∧ x ≤ 999 := by rw [hN] at hnb; omega
    have hj1 : (n : Int) - 1 = (j : Int) := by omega
    have hjn : (j : Int) < (n : Int) := by omega
    have hj0 : (0 : Int) ≤ (j : Int) := by omega
    have hgt2 : decide (0 < n) = true := decide_eq_true (by omega)
    clear hz hN hg hnb hjn1
    go_wp2_with (at_builtin; refine wpList_append_rd _ rfl _ _ 23 rfl w1.heap.size 30 i0 _ 3 24 Try.underlying23 hi0 hz0 hz1 hz2 rfl (by decide) _ _ _ rfl HOW.out lo hi (some ⟨b, off, none⟩) n c (tvs ps) rfl HRA.out (tvs_one ps) ?c3 ?c4 ?c5 ?_)
    case c3 => unfold maxLen; omega
    case c4 => omega
    case c5 => simp
    intro v2 w2 hown2 hg2 _
    have HB2 := Lib.hid (up_grown HB0.out HOW.out hg2 (Nat.le_refl _))
    try simp only [Nat.zero_add, List.nil_append] at hown2
    have HO2 := Lib.hid hown2
    have hs2 := HB2.out.size
    clear hown2 hg2
    go_wp2_with (at_builtin; refine wpList_append_own _ rfl _ _ 23 rfl w1.heap.size 30 i0 _ 3 24 Try.underlying23 hi0 hz0 hz1 hz2 rfl (by decide) _ _ _ rfl (HO2.out.alloc _) _ 1 1 [.int .i64 (x + 1), .int .i64 role, .int .i64 0] rfl rfl (World.news_of_block (heap_alloc_new _ _)) ?d2 ?d3 ?d4 ?d5 ?_)
    case d2 => intro u hu; simp at hu; rcases hu with rfl | rfl | rfl <;> rfl
    case d3 => unfold maxLen; omega
    case d4 => omega
    case d5 => first | omega | (simp; omega)
    intro v3 w3 hown3 hg3 _
    have HB3 := Lib.hid (up HB1.out (up_grown (up_alloc HB2.out _) (HO2.out.alloc _) hg3 (Nat.le_refl _)))
    have HO3 := Lib.hid (show w3.ownsRow w1.heap.size 30 3 v3 (n + 1) (tvs (offered ps role)) by rw [HOF.out]; exact hown3)
    clear hown3 hg3
    obtain ⟨A3, c3, rfl, hc3, hr3, hs3⟩ := own_form HO3.out
    have HR3 := Lib.hid hr3
    have HS3 := Lib.hid hs3
    clear hr3 hs3 HO2 HB2
    go_wp2_with (fail)
    (with_reducible refine (validWorkS_any _ _ _ c3 A3 (offered ps role) _ HR3.out (Nat.le_refl _) (by omega)).mono ?_)
    rintro e w4 ⟨rfl, hb4⟩
    have HB4 := Lib.hid (up HB3.out hb4)
    have HO4 := Lib.hid (own_base (own_keep HO3.out hb4) (base' := w.heap.size) (by omega))
    clear hb4 HB3 HR3 HS3 HO3
    cases hv : vWork (offered ps role) with
    | false =>
      have HX := Lib.hid (show offerOf ps role = none by simp [offerOf, hv])
      clear hv
      go_wp2
      exact bodyPost_ret (v := .tuple #[.slice none 0 0, .bool false]) (by simp [results, Try.results81, go_sem]) rfl (OwnT.no rfl HX.out HB4.out)
    | true =>
      have HX := Lib.hid (show offerOf ps role = some (offered ps role) by simp [offerOf, hv, HG.out])
      clear hv
      go_wp2
      exact bodyPost_ret (v := .tuple #[.slice A3 (n + 1) c3, .bool true]) (by simp [results, Try.results81, go_sem]) rfl (OwnT.yes HX.out HOL.out HO4.out HB4.out)
theorem OfferItemS_any (lo hi n c : Nat) (A : Option Addr) (ps : List Tri) (role : Int) (w : World) (hr : Rd w lo hi 3 A n (tvs ps)) (hB : hi ≤ w.heap.size) (hn : n ≤ 1048576) (hrole : in64 role) :
    Calls Try.prog 81 #[.slice A n c, .int .i64 role] w (MayT tvs 3 (offerOf ps role) w) := (OfferItemO_any lo hi n c A ps role w hr hB hn hrole).mono fun _ _ h => h.may
set_option maxRecDepth 100000 in
set_option maxHeartbeats 800000 in
theorem withOwnerO_any (lo hi n c : Nat) (A : Option Addr) (ps : List Tri) (k : Nat) (p : Tri) (z : Int) (w : World) (hr : Rd w lo hi 3 A n (tvs ps)) (hB : hi ≤ w.heap.size) (hn : n ≤ 1048576) (hk : ps[k]? = some p) :
    Calls Try.prog 55 #[.slice A n c, .int .i64 (k : Int), .int .i64 z] w (OwnR 30 (tvs (ps.set k (p.1, p.2.1, z))) 3 n w) := by
  have HL := Lib.hid hr.len3
  obtain ⟨i0, hi0, hz0, hz1, hz2⟩ := info_parts infoItem
  have hkn : k < n := by rw [← HL.out]; exact (List.getElem?_eq_some_iff.1 hk).1
  have hkz : (k : Int) < (n : Int) := by omega
  have hown0 : (w.alloc (.cells #[] 30)).ownsRow w.heap.size 30 3 (.slice (some ⟨w.heap.size, 0, none⟩) 0 0) 0 [] := World.ownsRow_made w #[] 0 (Nat.le_refl _) (by unfold maxLen; omega) (by simp)
  have hb0 := up_alloc (Below.refl _ w) (.cells #[] 30)
  have HRA := Lib.hid (hr.keep hb0 hB)
  have HOW := Lib.hid hown0
  have HB0 := Lib.hid hb0
  have HK := Lib.hid hk
  clear hr hown0 hb0 hk
  go_enter Try.func55, Try.ntmps55
  go_wp2_with (at_builtin; refine wpList_append_rd _ rfl _ _ 23 rfl w.heap.size 30 i0 _ 3 24 Try.underlying23 hi0 hz0 hz1 hz2 rfl (by decide) _ _ _ rfl HOW.out lo hi A n c (tvs ps) rfl HRA.out (tvs_one ps) ?c3 ?c4 ?c5 ?_)
  case c3 => unfold maxLen; omega
  case c4 => omega
  case c5 => simp
  intro v2 w2 hown2 hg2 _
  have HB2 := Lib.hid (up_grown HB0.out HOW.out hg2 (Nat.le_refl _))
  try simp only [Nat.zero_add, List.nil_append] at hown2
  obtain ⟨g, c2, rfl, hlo, hgl, hc2⟩ := own_first hown2 (by omega)
  have hlen : (tvs ps).length = n * 3 := hown2.1
  have hcell := hown2.cellAt (k * 3 + 2) (by omega)
  rw [List.getElem?_eq_getElem (by rw [hlen]; omega)] at hcell
  generalize hq : (tvs ps)[k * 3 + 2]'(by rw [hlen]; omega) = q2 at hcell
  have hfr := hown2.frozenAt (k * 3 + 2)
  have hst := (hown2.stored (k * 3 + 2) (.int .i64 z)).1
  have HO3 := Lib.hid (show (w2.setCell ⟨g, k * 3 + 2, none⟩ (.int .i64 z)).ownsRow w.heap.size 30 3 (.slice (some ⟨g, 0, none⟩) n c2) n (tvs (ps.set k (p.1, p.2.1, z))) by
    rw [← tvs_set HK.out z]; exact hst)
  have HB3 := Lib.hid (HB2.out.setCell (p := ⟨g, k * 3 + 2, none⟩) (by show _ ≤ g; omega) (.int .i64 z))
  clear hown2 hg2 hq hst hlen HB2 HOW HB0 HRA
  go_wp2
  go_ret
  exact ⟨_, rfl, HO3.out, HB3.out⟩
set_option maxRecDepth 100000 in
set_option maxHeartbeats 1600000 in
theorem ClaimItemO_any (lo hi n c : Nat) (A : Option Addr) (ps : List Tri) (z o : Int) (lo3 hi3 n3 c3 : Nat) (A3 : Option Addr) (m3 : List Int) (w : World) (hr : Rd w lo hi 3 A n (tvs ps)) (hB : hi ≤ w.heap.size) (hn : n ≤ 1048576) (hz : in64 z) (ho : in64 o) (hr3 : Rd w lo3 hi3 1 A3 n3 (ivs m3)) (hB3 : hi3 ≤ w.heap.size) (hn3 : n3 ≤ 1048576) :
    Calls Try.prog 82 #[.slice A n c, .int .i64 z, .int .i64 o, .slice A3 n3 c3] w (OwnT 30 tvs 3 (claimOf ps z o m3) w) := by
  have HL := Lib.hid hr.len3
  have HC := Lib.hid (validWorkS_any lo hi n c A ps w hr hB hn)
  have HR := Lib.hid hr
  have HR3 := Lib.hid hr3
  clear hr3
  go_enter Try.func82, Try.ntmps82
  go_wp2_with (fail)
  (with_reducible refine (itemAtS_any lo hi n c A ps z _ HR.out hn).mono ?_)
  rintro e w0 ⟨q, rfl, hq, rfl⟩
  go_wp2_with (fail)
  (with_reducible refine HC.out.mono ?_)
  clear HC hr
  rintro e w1 ⟨rfl, hb1⟩
  have HB1 := Lib.hid hb1
  have hs1 := hb1.size
  clear hb1
  cases hg : vWork ps with
  | false =>
    have HX := Lib.hid (show claimOf ps z o m3 = none by simp [claimOf, mayBe, hg])
    clear hg
    go_wp2
    exact bodyPost_ret (v := .tuple #[.slice none 0 0, .bool false]) (by simp [results, Try.results82, go_sem]) rfl (OwnT.no rfl HX.out HB1.out)
  | true =>
  have HG := Lib.hid hg
  clear hg
  go_wp2_with (fail)
  (with_reducible refine (inRange_any o 1 9 _).mono ?_)
  rintro e w2 ⟨rfl, rfl⟩
  cases hri : inR o 1 9 with
  | false =>
    have HX := Lib.hid (show claimOf ps z o m3 = none by simp [claimOf, mayBe, hri])
    clear hri
    go_wp2
    exact bodyPost_ret (v := .tuple #[.slice none 0 0, .bool false]) (by simp [results, Try.results82, go_sem]) rfl (OwnT.no rfl HX.out HB1.out)
  | true =>
  have HO := Lib.hid hri
  clear hri
  rcases hq with ⟨rfl, hat⟩ | ⟨k, p, rfl, hk, hat, hpz⟩
  · have HX := Lib.hid (show claimOf ps z o m3 = none by simp [claimOf, mayBe, hat])
    clear hat
    go_wp2
    exact bodyPost_ret (v := .tuple #[.slice none 0 0, .bool false]) (by simp [results, Try.results82, go_sem]) rfl (OwnT.no rfl HX.out HB1.out)
  have HAT := Lib.hid hat
  have HK := Lib.hid hk
  have hkn : k < n := by rw [← HL.out]; exact (List.getElem?_eq_some_iff.1 hk).1
  obtain ⟨b, off, x, y, u, rfl, hbB, _, hg, hc0, hc1, hc2⟩ := (HR.out.keep HB1.out hB).trip hkn
  have hp : p = (x, y, u) := by rw [hk] at hg; injection hg
  subst hp
  have hxz : x = z := hpz
  subst hxz
  have hkz : (k : Int) < (n : Int) := by omega
  have hk0 : (0 : Int) ≤ (k : Int) := by omega
  have hkneg : decide ((k : Int) < 0) = false := decide_eq_false (by omega)
  clear hat hk hg hpz
  by_cases hu : u = 0
  case neg =>
    have hu1 : (u != 0) = true := by simpa using hu
    have hu2 : (u == 0) = false := by simpa using hu
    have HX := Lib.hid (show claimOf ps x o m3 = none by
      have h3 : canClaim m3 (x, y, u) = false := by rw [canClaim, hu2]; rfl
      simp [claimOf, mayBe, HAT.out, h3])
    clear hu
    go_wp2
    exact bodyPost_ret (v := .tuple #[.slice none 0 0, .bool false]) (by simp [results, Try.results82, go_sem]) rfl (OwnT.no rfl HX.out HB1.out)
  subst hu
  go_wp2_with (fail)
  (with_reducible refine (isInS_any lo3 hi3 n3 c3 A3 m3 y w1 (HR3.out.keep HB1.out hB3) hn3).mono ?_)
  rintro e w2 ⟨rfl, rfl⟩
  cases hin : inL m3 y with
  | false =>
    have HX := Lib.hid (show claimOf ps x o m3 = none by
      have h1 : m3.contains y = false := hin
      have h3 : canClaim m3 (x, y, 0) = false := by rw [canClaim, h1]; rfl
      simp [claimOf, mayBe, HAT.out, h3])
    clear hin
    go_wp2
    exact bodyPost_ret (v := .tuple #[.slice none 0 0, .bool false]) (by simp [results, Try.results82, go_sem]) rfl (OwnT.no rfl HX.out HB1.out)
  | true =>
  have HX := Lib.hid (show claimOf ps x o m3 = some (ps.set k (x, y, o)) by
    have h1 : m3.contains y = true := hin
    have h3 : canClaim m3 (x, y, 0) = true := by rw [canClaim, h1]; rfl
    have h2 : mayBe ps x o (canClaim m3) = true := by simp [mayBe, HG.out, HO.out, HAT.out, h3]
    rw [claimOf, if_pos h2, givenOf, HAT.out]
    exact congrArg some (insNum_set (vWork_asc HG.out) HK.out rfl))
  clear hin
  go_wp2_with (fail)
  (with_reducible refine (withOwnerO_any lo hi n c (some ⟨b, off, none⟩) ps k (x, y, 0) o w1 (HR.out.keep HB1.out hB) (by omega) hn HK.out).mono ?_)
  rintro e w2 ⟨v2, rfl, ho2, hb2⟩
  have HB2 := Lib.hid (up HB1.out hb2)
  have HO2 := Lib.hid (own_base ho2 (base' := w.heap.size) hs1)
  have HLS := Lib.hid (show (ps.set k (x, y, o)).length = n by rw [List.length_set, HL.out])
  clear hb2 ho2
  go_wp2
  exact bodyPost_ret (v := .tuple #[v2, .bool true]) (by simp [results, Try.results82, go_sem]) rfl (OwnT.yes HX.out HLS.out HO2.out HB2.out)
theorem ClaimItemS_any (lo hi n c : Nat) (A : Option Addr) (ps : List Tri) (z o : Int) (lo3 hi3 n3 c3 : Nat) (A3 : Option Addr) (m3 : List Int) (w : World) (hr : Rd w lo hi 3 A n (tvs ps)) (hB : hi ≤ w.heap.size) (hn : n ≤ 1048576) (hz : in64 z) (ho : in64 o) (hr3 : Rd w lo3 hi3 1 A3 n3 (ivs m3)) (hB3 : hi3 ≤ w.heap.size) (hn3 : n3 ≤ 1048576) :
    Calls Try.prog 82 #[.slice A n c, .int .i64 z, .int .i64 o, .slice A3 n3 c3] w (MayT tvs 3 (claimOf ps z o m3) w) := (ClaimItemO_any lo hi n c A ps z o lo3 hi3 n3 c3 A3 m3 w hr hB hn hz ho hr3 hB3 hn3).mono fun _ _ h => h.may
set_option maxRecDepth 100000 in
set_option maxHeartbeats 1600000 in
theorem ReleaseItemO_any (lo hi n c : Nat) (A : Option Addr) (ps : List Tri) (z o : Int) (w : World) (hr : Rd w lo hi 3 A n (tvs ps)) (hB : hi ≤ w.heap.size) (hn : n ≤ 1048576) (hz : in64 z) (ho : in64 o) :
    Calls Try.prog 25 #[.slice A n c, .int .i64 z, .int .i64 o] w (OwnT 30 tvs 3 (freeOf ps z o) w) := by
  have HL := Lib.hid hr.len3
  have HC := Lib.hid (validWorkS_any lo hi n c A ps w hr hB hn)
  have HR := Lib.hid hr
  go_enter Try.func25, Try.ntmps25
  go_wp2_with (fail)
  (with_reducible refine (itemAtS_any lo hi n c A ps z _ HR.out hn).mono ?_)
  rintro e w0 ⟨q, rfl, hq, rfl⟩
  go_wp2_with (fail)
  (with_reducible refine HC.out.mono ?_)
  clear HC hr
  rintro e w1 ⟨rfl, hb1⟩
  have HB1 := Lib.hid hb1
  have hs1 := hb1.size
  clear hb1
  cases hg : vWork ps with
  | false =>
    have HX := Lib.hid (show freeOf ps z o = none by simp [freeOf, mayBe, hg])
    clear hg
    go_wp2
    exact bodyPost_ret (v := .tuple #[.slice none 0 0, .bool false]) (by simp [results, Try.results25, go_sem]) rfl (OwnT.no rfl HX.out HB1.out)
  | true =>
  have HG := Lib.hid hg
  clear hg
  go_wp2_with (fail)
  (with_reducible refine (inRange_any o 1 9 _).mono ?_)
  rintro e w2 ⟨rfl, rfl⟩
  cases hri : inR o 1 9 with
  | false =>
    have HX := Lib.hid (show freeOf ps z o = none by simp [freeOf, mayBe, hri])
    clear hri
    go_wp2
    exact bodyPost_ret (v := .tuple #[.slice none 0 0, .bool false]) (by simp [results, Try.results25, go_sem]) rfl (OwnT.no rfl HX.out HB1.out)
  | true =>
  have HO := Lib.hid hri
  clear hri
  rcases hq with ⟨rfl, hat⟩ | ⟨k, p, rfl, hk, hat, hpz⟩
  · have HX := Lib.hid (show freeOf ps z o = none by simp [freeOf, mayBe, hat])
    clear hat
    go_wp2
    exact bodyPost_ret (v := .tuple #[.slice none 0 0, .bool false]) (by simp [results, Try.results25, go_sem]) rfl (OwnT.no rfl HX.out HB1.out)
  have HAT := Lib.hid hat
  have HK := Lib.hid hk
  have hkn : k < n := by rw [← HL.out]; exact (List.getElem?_eq_some_iff.1 hk).1
  obtain ⟨b, off, x, y, u, rfl, hbB, _, hg, hc0, hc1, hc2⟩ := (HR.out.keep HB1.out hB).trip hkn
  have hp : p = (x, y, u) := by rw [hk] at hg; injection hg
  subst hp
  have hxz : x = z := hpz
  subst hxz
  have hkz : (k : Int) < (n : Int) := by omega
  have hk0 : (0 : Int) ≤ (k : Int) := by omega
  have hkneg : decide ((k : Int) < 0) = false := decide_eq_false (by omega)
  clear hat hk hg hpz
  by_cases hu : u = o
  case neg =>
    have hu1 : (u != o) = true := by simpa using hu
    have hu2 : (u == o) = false := by simpa using hu
    have HX := Lib.hid (show freeOf ps x o = none by simp [freeOf, mayBe, HAT.out, hu2])
    clear hu
    go_wp2
    exact bodyPost_ret (v := .tuple #[.slice none 0 0, .bool false]) (by simp [results, Try.results25, go_sem]) rfl (OwnT.no rfl HX.out HB1.out)
  obtain rfl : o = u := hu.symm
  clear hu
  have hu1 : (o != o) = false := by simp
  have HX := Lib.hid (show freeOf ps x o = some (ps.set k (x, y, 0)) by
    have h2 : mayBe ps x o (fun q => q.2.2 == o) = true := by simp [mayBe, HG.out, HO.out, HAT.out]
    rw [freeOf, if_pos h2, givenOf, HAT.out]
    exact congrArg some (insNum_set (vWork_asc HG.out) HK.out rfl))
  go_wp2_with (fail)
  (with_reducible refine (withOwnerO_any lo hi n c (some ⟨b, off, none⟩) ps k (x, y, o) 0 w1 (HR.out.keep HB1.out hB) (by omega) hn HK.out).mono ?_)
  rintro e w2 ⟨v2, rfl, ho2, hb2⟩
  have HB2 := Lib.hid (up HB1.out hb2)
  have HO2 := Lib.hid (own_base ho2 (base' := w.heap.size) hs1)
  have HLS := Lib.hid (show (ps.set k (x, y, 0)).length = n by rw [List.length_set, HL.out])
  clear hb2 ho2
  go_wp2
  exact bodyPost_ret (v := .tuple #[v2, .bool true]) (by simp [results, Try.results25, go_sem]) rfl (OwnT.yes HX.out HLS.out HO2.out HB2.out)
theorem ReleaseItemS_any (lo hi n c : Nat) (A : Option Addr) (ps : List Tri) (z o : Int) (w : World) (hr : Rd w lo hi 3 A n (tvs ps)) (hB : hi ≤ w.heap.size) (hn : n ≤ 1048576) (hz : in64 z) (ho : in64 o) :
    Calls Try.prog 25 #[.slice A n c, .int .i64 z, .int .i64 o] w (MayT tvs 3 (freeOf ps z o) w) := (ReleaseItemO_any lo hi n c A ps z o w hr hB hn hz ho).mono fun _ _ h => h.may
end Go.Proofs.Ytipoakimjhfhfab
