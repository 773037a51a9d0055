/- Worklists of the program: ValidWork, OfferItem, ClaimItem, ReleaseItem, FinishItem, ItemsFor. -/
import Derived.Test.YtipoakimjhfhfabWorkB
import Derived.Test.YtipoakimjhfhfabWorkO
set_option linter.unusedSimpArgs false
set_option linter.unusedVariables false
namespace Go.Proofs.Ytipoakimjhfhfab
open Go.RowKit Go.Maps

/-- The items of a valid worklist by their numbers, or nothing. -/
def WPost (ps : List Tri) (w : World) (e : Ending) (w' : World) : Prop :=
  (vWork ps = false ∧ e = .returned (.tuple #[.map none, .bool false]) ∧ Below w.heap.size w w') ∨
  (vWork ps = true ∧ ∃ b, e = .returned (.tuple #[.map (some b), .bool true]) ∧ NMap Try.prog 3 w' b ps.length Prod.fst svT ps ∧ w.heap.size ≤ b ∧ Below w.heap.size w w')
set_option maxHeartbeats 800000 in
theorem workOf_any (lo hi n c : Nat) (A : Option Addr) (ps : List Tri) (w : World) (hr : Rd w lo hi 3 A n (tvs ps)) (hB : hi ≤ w.heap.size) (hn : n ≤ 1048576) :
    Calls Try.prog 48 #[.slice A n c] w (WPost ps w) := by
  have HL := Lib.hid hr.len3
  by_cases hbig : 12 < n
  · have HX := Lib.hid (show vWork ps = false by rw [vWork, HL.out, decide_eq_false (by omega), Bool.and_false])
    have hb2 : (12 : Int) < (n : Int) := by omega
    go_enter Try.func48, Try.ntmps48
    go_wp2
    exact bodyPost_ret (v := .tuple #[.map none, .bool false]) (by simp [results, Try.results48, go_sem]) rfl (.inl ⟨HX.out, rfl, Below.refl _ _⟩)
  have HG := Lib.hid (show vWork ps = goodWork ps by rw [vWork, HL.out, decide_eq_true (by omega), Bool.and_true])
  have HC := Lib.hid (byNumItem_any lo hi n c A ps w hr hB hn)
  have hb2 : ¬ (12 : Int) < (n : Int) := by omega
  clear hr
  go_enter Try.func48, Try.ntmps48
  go_wp2_with (fail)
  (with_reducible refine HC.out.mono ?_)
  rintro e w1 h
  rcases h with ⟨hg, rfl, hb⟩ | ⟨hg, mb, rfl, hm, hlo, hb⟩
  · have HX := Lib.hid (show vWork ps = false by rw [HG.out, goodWork, hg])
    have HB := Lib.hid hb
    clear hb hg
    go_wp2
    exact bodyPost_ret (v := .tuple #[.map none, .bool false]) (by simp [results, Try.results48, go_sem]) rfl (.inl ⟨HX.out, rfl, HB.out⟩)
  · have HX := Lib.hid (show vWork ps = true by rw [HG.out, goodWork, hg])
    have HB := Lib.hid hb
    have HM := Lib.hid hm
    clear hb hg hm
    go_wp2
    exact bodyPost_ret (v := .tuple #[.map (some mb), .bool true]) (by simp [results, Try.results48, go_sem]) rfl (.inr ⟨HX.out, _, rfl, HM.out, hlo, HB.out⟩)
theorem ValidWorkI_any (lo hi n c : Nat) (A : Option Addr) (ps : List Tri) (w : World) (hr : Rd w lo hi 3 A n (tvs ps)) (hB : hi ≤ w.heap.size) (hn : n ≤ 1048576) :
    Calls Try.prog 19 #[.slice A n c] w fun e w' => e = .returned (.bool (vWork ps)) ∧ Below w.heap.size w w' := by
  have HC := Lib.hid (workOf_any lo hi n c A ps w hr hB hn)
  clear hr
  go_enter Try.func19, Try.ntmps19
  go_wp2_with (fail)
  (with_reducible refine HC.out.mono ?_)
  rintro e w1 h
  rcases h with ⟨hg, rfl, hb⟩ | ⟨hg, mb, rfl, _, _, hb⟩ 
  · have HB := Lib.hid hb
    have HG := Lib.hid hg
    clear hb hg HC
    go_wp2
    go_ret
    exact ⟨ret_bool HG.out.symm, HB.out⟩
  · have HB := Lib.hid hb
    have HG := Lib.hid hg
    clear hb hg HC
    go_wp2
    go_ret
    exact ⟨ret_bool HG.out.symm, HB.out⟩
set_option maxRecDepth 100000 in
set_option maxHeartbeats 1600000 in
theorem OfferItemI_any (lo hi n c : Nat) (A : Option Addr) (ps : List Tri) (role : Int) (w : World) (hr : Rd w lo hi 3 A n (tvs ps)) (hB : hi ≤ w.heap.size) (hn : n ≤ 1048576) (hrole : in64 role) :
    Calls Try.prog 21 #[.slice A n c, .int .i64 role] w (MayT tvs 3 (offerOf ps role) w) := by
  have HL := Lib.hid hr.len3
  have HC := Lib.hid (workOf_any lo hi n c A ps w hr hB hn)
  have HR := Lib.hid hr
  clear hr
  go_enter Try.func21, Try.ntmps21
  go_wp2_with (fail)
  (with_reducible refine HC.out.mono ?_)
  clear HC
  rintro e w1 h
  rcases h with ⟨hg, rfl, hb⟩ | ⟨hg, mb, rfl, hm, hlo, hb⟩
  · have HX := Lib.hid (show offerOf ps role = none by simp [offerOf, hg])
    have HB := Lib.hid hb
    clear hb hg
    go_wp2
    exact bodyPost_ret (v := .tuple #[.slice none 0 0, .bool false]) (by simp [results, Try.results21, go_sem]) rfl (MayT.no rfl HX.out HB.out)
  have HB1 := Lib.hid hb
  have hs1 := hb.size
  have HM := Lib.hid hm
  have hmlt := hm.lt
  have hlen := vWork_len hg
  have hnb := nextNum_bd hg
  have HI := Lib.hid (offered_ins hg role)
  have HG := Lib.hid hg
  have HOL := Lib.hid (show (offered ps role).length = n + 1 by rw [offered, List.length_append, HL.out]; rfl)
  have HOZ := Lib.hid (show ∀ p ∈ offered ps role, -1000000 ≤ p.1 ∧ p.1 ≤ 1000000 from fun p hp => by
    rw [offered, List.mem_append] at hp
    rcases hp with hp | hp
    · have := (vWork_ok hg hp).1; omega
    · simp at hp; subst hp; show -1000000 ≤ nextNum ps ∧ nextNum ps ≤ 1000000; omega)
  have hnl : ps.length ≤ 12 := hlen
  rw [HL.out] at hlen
  clear hb hm hg
  rcases Nat.eq_zero_or_pos n with hz | hz
  · subst hz
    have hN : nextNum ps = 1 := by
      have : ps = [] := List.eq_nil_of_length_eq_zero HL.out
      rw [this]; rfl
    obtain ⟨w2, hrun0, hm2, hg2⟩ := HM.out.put keyedIntN Try.underlying3 Try.underlying57 (by unfold maxLen; omega) (nextNum ps, role, 0) (in64_small (by show -1000000 ≤ nextNum ps; omega) (by show nextNum ps ≤ 1000000; omega))
    have hrun2 : (Instr.mapUpdate 57 (.map (some mb)) (.int .i64 (nextNum ps)) (.agg #[.int .i64 (nextNum ps), .int .i64 role, .int .i64 0])).run Try.prog w1 = .ok () w2 := hrun0
    clear hrun0
    rw [hN] at hrun2
    have HOL := Lib.hid (show (offered ps role).length = 1 from HOL.out)
    clear hN
    have hv2 : Hid (NMap Try.prog 3 w2 mb (ps.length + 1) Prod.fst svT (offered ps role)) := by
      have h := hm2
      rw [HI.out] at h
      exact h
    have hs2 := hg2.size
    have HB2 := Lib.hid (HB1.out.grown hg2 (by omega) (fun k hk => by injection hk with hk; omega))
    clear hm2 hg2
    go_wp2_with (fail)
    (with_reducible refine (inOrderItem_any mb _ (offered ps role) _ hv2.out (by omega) HOZ.out (by rw [HOL.out]; omega)).mono ?_)
    rw [HOL.out]
    rintro e w3 ⟨A3, c3, rfl, hc3, hr3, hs3, hb3⟩
    have hs23 := hb3.size
    have HB3 := Lib.hid (up HB2.out hb3)
    have HR3 := Lib.hid hr3
    have HS3 := Lib.hid hs3
    clear hb3 hr3 hs3 hrun2
    go_wp2_with (fail)
    (with_reducible refine (ValidWorkI_any _ _ _ c3 A3 (offered ps role) _ HR3.out (Nat.le_refl _) (by omega)).mono ?_)
    rintro e w4 ⟨rfl, hb4⟩
    have HB4 := Lib.hid (up HB3.out hb4)
    have HR4 := Lib.hid ((HR3.out.keep hb4 (Nat.le_refl _)).wide (lo' := w.heap.size) (hi' := w4.heap.size) (by have := HB2.out.size; omega) hb4.size)
    have HS4 := Lib.hid (HS3.out.kept HR3.out hb4 (Nat.le_refl _))
    clear hb4 HB3 HR3 HS3 HB2
    cases hv : vWork (offered ps role) with
    | false =>
      have HX := Lib.hid (show offerOf ps role = none by simp [offerOf, hv])
      clear hv
      go_wp2
      exact bodyPost_ret (v := .tuple #[.slice none 0 0, .bool false]) (by simp [results, Try.results21, go_sem]) rfl (MayT.no rfl HX.out HB4.out)
    | true =>
      have HX := Lib.hid (show offerOf ps role = some (offered ps role) by simp [offerOf, hv, HG.out])
      clear hv
      go_wp2
      exact bodyPost_ret (v := .tuple #[.slice A3 1 c3, .bool true]) (by simp [results, Try.results21, go_sem]) rfl (MayT.yes HX.out HOL.out hc3 HR4.out HS4.out HB4.out)
  · obtain ⟨j, hjn1⟩ : ∃ j, j + 1 = n := ⟨n - 1, by omega⟩
    obtain ⟨b, off, x, y, z, rfl, hbB, _, hg, hc0, _, _⟩ := (HR.out.keep HB1.out hB).trip (k := j) (by omega)
    have hN : nextNum ps = x + 1 := by
      unfold nextNum
      rw [List.getLast?_eq_getElem?, HL.out, show n - 1 = j by omega, hg]
    obtain ⟨w2, hrun0, hm2, hg2⟩ := HM.out.put keyedIntN Try.underlying3 Try.underlying57 (by unfold maxLen; omega) (nextNum ps, role, 0) (in64_small (by show -1000000 ≤ nextNum ps; omega) (by show nextNum ps ≤ 1000000; omega))
    have hrun2 : (Instr.mapUpdate 57 (.map (some mb)) (.int .i64 (nextNum ps)) (.agg #[.int .i64 (nextNum ps), .int .i64 role, .int .i64 0])).run Try.prog w1 = .ok () w2 := hrun0
    clear hrun0
    rw [hN] at hrun2
    have hx : 0 ≤ x ∧ x ≤ 999 := by rw [hN] at hnb; omega
    have hj1 : (n : Int) - 1 = (j : Int) := by omega
    have hjn : (j : Int) < (n : Int) := by omega
    have hj0 : (0 : Int) ≤ (j : Int) := by omega
    have hgt2 : decide (0 < n) = true := decide_eq_true (by omega)
    clear hz hN hg hnb hjn1
    have hv2 : Hid (NMap Try.prog 3 w2 mb (ps.length + 1) Prod.fst svT (offered ps role)) := by
      have h := hm2
      rw [HI.out] at h
      exact h
    have hs2 := hg2.size
    have HB2 := Lib.hid (HB1.out.grown hg2 (by omega) (fun k hk => by injection hk with hk; omega))
    clear hm2 hg2
    go_wp2_with (fail)
    (with_reducible refine (inOrderItem_any mb _ (offered ps role) _ hv2.out (by omega) HOZ.out (by rw [HOL.out]; omega)).mono ?_)
    rw [HOL.out]
    rintro e w3 ⟨A3, c3, rfl, hc3, hr3, hs3, hb3⟩
    have hs23 := hb3.size
    have HB3 := Lib.hid (up HB2.out hb3)
    have HR3 := Lib.hid hr3
    have HS3 := Lib.hid hs3
    clear hb3 hr3 hs3 hrun2
    go_wp2_with (fail)
    (with_reducible refine (ValidWorkI_any _ _ _ c3 A3 (offered ps role) _ HR3.out (Nat.le_refl _) (by omega)).mono ?_)
    rintro e w4 ⟨rfl, hb4⟩
    have HB4 := Lib.hid (up HB3.out hb4)
    have HR4 := Lib.hid ((HR3.out.keep hb4 (Nat.le_refl _)).wide (lo' := w.heap.size) (hi' := w4.heap.size) (by have := HB2.out.size; omega) hb4.size)
    have HS4 := Lib.hid (HS3.out.kept HR3.out hb4 (Nat.le_refl _))
    clear hb4 HB3 HR3 HS3 HB2
    cases hv : vWork (offered ps role) with
    | false =>
      have HX := Lib.hid (show offerOf ps role = none by simp [offerOf, hv])
      clear hv
      go_wp2
      exact bodyPost_ret (v := .tuple #[.slice none 0 0, .bool false]) (by simp [results, Try.results21, go_sem]) rfl (MayT.no rfl HX.out HB4.out)
    | true =>
      have HX := Lib.hid (show offerOf ps role = some (offered ps role) by simp [offerOf, hv, HG.out])
      clear hv
      go_wp2
      exact bodyPost_ret (v := .tuple #[.slice A3 (n + 1) c3, .bool true]) (by simp [results, Try.results21, go_sem]) rfl (MayT.yes HX.out HOL.out hc3 HR4.out HS4.out HB4.out)
set_option maxRecDepth 100000 in
set_option maxHeartbeats 1600000 in
theorem givenI_any (mb m : Nat) (ps : List Tri) (z o : Int) (p : Tri) (w : World) (hm : NMap Try.prog 3 w mb m Prod.fst svT ps) (hm1 : m ≤ 100) (hat : atNum Prod.fst ps z = some p) (hz : -1000000 ≤ z ∧ z ≤ 1000000) (hok : ∀ q ∈ ps, -1000000 ≤ q.1 ∧ q.1 ≤ 1000000) (hlen : ps.length ≤ 100) (W0 : World) (h0 : Below W0.heap.size W0 w) (hlo : W0.heap.size ≤ mb) :
    Calls Try.prog 49 #[.map (some mb), .int .i64 z, .int .i64 o] w fun e w' => ∃ A c, e = .returned (.slice A (givenOf ps z o).length c) ∧ (givenOf ps z o).length ≤ c ∧
      Rd w' w.heap.size w'.heap.size 3 A (givenOf ps z o).length (tvs (givenOf ps z o)) ∧ Soft w' 3 A (givenOf ps z o).length ∧ Below W0.heap.size W0 w' := by
  obtain ⟨x, y, u⟩ := p
  have hxz : x = z := (atNum_some hat).2
  subst hxz
  have HG := Lib.hid (show givenOf ps x o = insNum Prod.fst ps (x, y, o) by rw [givenOf, hat])
  have HLN := Lib.hid (insNum_len hm.2 (x, y, o))
  have HZ := Lib.hid (show ∀ q ∈ insNum Prod.fst ps (x, y, o), -1000000 ≤ q.1 ∧ q.1 ≤ 1000000 from fun q hq => by
    rcases mem_insNum.1 hq with rfl | ⟨h, _⟩
    · exact hz
    · exact hok q h)
  have hl := hm.look keyedIntN Try.underlying3 Try.underlying57 (zeroItemN w) (in64_small hz.1 hz.2) rfl
  rw [hat] at hl
  simp only [Option.map_some, Option.getD_some, svT] at hl
  have HW := Lib.hid h0.size
  have hmlt := hm.lt
  have hb2 := up_alloc h0 (.cells #[.int .i64 x, .int .i64 y, .int .i64 o] 30)
  have hm2 := hm.alloc (.cells #[.int .i64 x, .int .i64 y, .int .i64 o] 30)
  have hsz : (w.alloc (.cells #[.int .i64 x, .int .i64 y, .int .i64 o] 30)).heap.size = w.heap.size + 1 := by simp
  obtain ⟨w3, hrun0, hm3, hg3⟩ := hm2.put keyedIntN Try.underlying3 Try.underlying57 (by unfold maxLen; omega) (x, y, o) (in64_small hz.1 hz.2)
  have hrun3 : (Instr.mapUpdate 57 (.map (some mb)) (.int .i64 x) (.agg #[.int .i64 x, .int .i64 y, .int .i64 o])).run Try.prog (w.alloc (.cells #[.int .i64 x, .int .i64 y, .int .i64 o] 30)) = .ok () w3 := hrun0
  have hs3 := hg3.size
  rw [hsz] at hs3
  have HB3 := Lib.hid (hb2.grown hg3 (by rw [hsz]; have := HW.out; omega) (fun j hj => by injection hj with hj; omega))
  have HM3 := Lib.hid hm3
  clear hrun0 hm3 hg3 hm2 hb2 hm hat h0
  go_enter Try.func49, Try.ntmps49
  go_wp2_with (fail)
  (with_reducible refine (inOrderItem_any mb _ (insNum Prod.fst ps (x, y, o)) _ HM3.out (by omega) HZ.out (by have := HLN.out; omega)).mono ?_)
  rintro e w4 ⟨A4, c4, rfl, hc4, hr4, hs4, hb4⟩
  have HB4 := Lib.hid (up HB3.out hb4)
  have HR4 := Lib.hid (hr4.wide (lo' := w.heap.size) (hi' := w4.heap.size) (by omega) (Nat.le_refl _))
  have HS4 := Lib.hid hs4
  clear hb4 hr4 hs4
  go_wp2
  go_ret
  rw [HG.out]
  exact ⟨A4, c4, rfl, hc4, HR4.out, HS4.out, HB4.out⟩
set_option maxRecDepth 100000 in
set_option maxHeartbeats 1600000 in
theorem ClaimItemI_any (lo hi n c : Nat) (A : Option Addr) (ps : List Tri) (z o : Int) (lo3 hi3 n3 c3 : Nat) (A3 : Option Addr) (m3 : List Int) (w : World) (hr : Rd w lo hi 3 A n (tvs ps)) (hB : hi ≤ w.heap.size) (hn : n ≤ 1048576) (hz : in64 z) (ho : in64 o) (hr3 : Rd w lo3 hi3 1 A3 n3 (ivs m3)) (hB3 : hi3 ≤ w.heap.size) (hn3 : n3 ≤ 1048576) :
    Calls Try.prog 26 #[.slice A n c, .int .i64 z, .int .i64 o, .slice A3 n3 c3] w (MayT tvs 3 (claimOf ps z o m3) w) := by
  have HC := Lib.hid (workOf_any lo hi n c A ps w hr hB hn)
  have HR3 := Lib.hid hr3
  clear hr hr3
  go_enter Try.func26, Try.ntmps26
  go_wp2_with (fail)
  (with_reducible refine HC.out.mono ?_)
  clear HC
  rintro e w1 h
  rcases h with ⟨hg, rfl, hb⟩ | ⟨hg, mb, rfl, hm, hlo, hb⟩
  · have HX := Lib.hid (show claimOf ps z o m3 = none by simp [claimOf, mayBe, hg])
    have HB := Lib.hid hb
    clear hb hg
    go_wp2
    exact bodyPost_ret (v := .tuple #[.slice none 0 0, .bool false]) (by simp [results, Try.results26, go_sem]) rfl (MayT.no rfl HX.out HB.out)
  have HB1 := Lib.hid hb
  have HG := Lib.hid hg
  have HM := Lib.hid hm
  have hmlt := hm.lt
  have hnl := vWork_len hg
  clear hb hm hg
  go_wp2_with (fail)
  (with_reducible refine (isOwner_any o _).mono ?_)
  rintro e w2 ⟨rfl, hb2⟩
  have HB2 := Lib.hid (up HB1.out hb2)
  have HM2 := Lib.hid (HM.out.keep hb2 hmlt)
  have hs2 := hb2.size
  clear hb2 HB1 HM
  cases hri : inR o 1 9 with
  | false =>
    have HX := Lib.hid (show claimOf ps z o m3 = none by simp [claimOf, mayBe, hri])
    clear hri
    go_wp2
    exact bodyPost_ret (v := .tuple #[.slice none 0 0, .bool false]) (by simp [results, Try.results26, go_sem]) rfl (MayT.no rfl HX.out HB2.out)
  | true =>
  have HO := Lib.hid hri
  clear hri
  have hl := HM2.out.lookOk keyedIntN Try.underlying3 Try.underlying57 (zeroItemN w2) hz rfl
  cases hat : atNum Prod.fst ps z with
  | none =>
    have HX := Lib.hid (show claimOf ps z o m3 = none by simp [claimOf, mayBe, hat])
    rw [hat] at hl
    simp only [Option.map_none, Option.getD_none, Option.isSome_none] at hl
    clear hat
    have HBZ := Lib.hid (up_alloc HB2.out (.cells #[.int .i64 0, .int .i64 0, .int .i64 0] 30))
    go_wp2
    exact bodyPost_ret (v := .tuple #[.slice none 0 0, .bool false]) (by simp [results, Try.results26, go_sem]) rfl (MayT.no rfl HX.out HBZ.out)
  | some p =>
  obtain ⟨x, y, u⟩ := p
  rw [hat] at hl
  simp only [Option.map_some, Option.getD_some, Option.isSome_some, svT] at hl
  have HAT := Lib.hid hat
  have hok := vWork_ok HG.out (atNum_some hat).1
  have hxz : x = z := (atNum_some hat).2
  have hs3 : (w2.alloc (.cells #[.int .i64 x, .int .i64 y, .int .i64 u] 30)).heap.size = w2.heap.size + 1 := by simp
  have hb3 := up_alloc HB2.out (.cells #[.int .i64 x, .int .i64 y, .int .i64 u] 30)
  have HB3 := Lib.hid hb3
  have hk := Blk.new w2 30 #[.int .i64 x, .int .i64 y, .int .i64 u]
  have k1 : (w2.alloc (.cells #[.int .i64 x, .int .i64 y, .int .i64 u] 30)).cell? ⟨w2.heap.size, 1, none⟩ = some (.int .i64 y) := hk.cell 1
  have k2 : (w2.alloc (.cells #[.int .i64 x, .int .i64 y, .int .i64 u] 30)).cell? ⟨w2.heap.size, 2, none⟩ = some (.int .i64 u) := hk.cell 2
  have HM3 := Lib.hid (HM2.out.alloc (.cells #[.int .i64 x, .int .i64 y, .int .i64 u] 30))
  clear hk hb3 hat
  by_cases hu : u = 0
  case neg =>
    have hu1 : (u != 0) = true := by simpa using hu
    have hu2 : (u == 0) = false := by simpa using hu
    have HX := Lib.hid (show claimOf ps z o m3 = none by
      have h3 : canClaim m3 (x, y, u) = false := by rw [canClaim, hu2]; rfl
      simp [claimOf, mayBe, HAT.out, h3])
    clear hu hxz
    go_wp2
    exact bodyPost_ret (v := .tuple #[.slice none 0 0, .bool false]) (by simp [results, Try.results26, go_sem]) rfl (MayT.no rfl HX.out HB3.out)
  subst hu
  have HRW := Lib.hid (HR3.out.keep HB3.out hB3)
  have HXZ := Lib.hid hxz
  clear hxz
  go_wp2_with (fail)
  (with_reducible refine (containsI_any lo3 hi3 n3 c3 A3 m3 y _ HRW.out hn3).mono ?_)
  rintro e w4 ⟨rfl, rfl⟩
  cases hin : inL m3 y with
  | false =>
    have HX := Lib.hid (show claimOf ps z o m3 = none by
      have h1 : m3.contains y = false := hin
      have h3 : canClaim m3 (x, y, 0) = false := by rw [canClaim, h1]; rfl
      simp [claimOf, mayBe, HAT.out, h3])
    clear hin
    go_wp2
    exact bodyPost_ret (v := .tuple #[.slice none 0 0, .bool false]) (by simp [results, Try.results26, go_sem]) rfl (MayT.no rfl HX.out HB3.out)
  | true =>
  have HX := Lib.hid (show claimOf ps z o m3 = some (givenOf ps z o) by
    have h1 : m3.contains y = true := hin
    have h3 : canClaim m3 (x, y, 0) = true := by rw [canClaim, h1]; rfl
    have h2 : mayBe ps z o (canClaim m3) = true := by simp [mayBe, HG.out, HO.out, HAT.out, h3]
    rw [claimOf, if_pos h2])
  clear hin
  go_wp2_with (fail)
  (with_reducible refine (givenI_any mb ps.length ps z o (x, y, 0) _ HM3.out (by omega) HAT.out (by have := HXZ.out; omega) (fun q hq => by have := (vWork_ok HG.out hq).1; omega) (by omega) w HB3.out hlo).mono ?_)
  rintro e w5 ⟨A5, c5, rfl, hc5, hr5, hs5, hb5⟩
  have HB5 := Lib.hid hb5
  have HR5 := Lib.hid (hr5.wide (lo' := w.heap.size) (hi' := w5.heap.size) HB3.out.size (Nat.le_refl _))
  have HS5 := Lib.hid hs5
  clear hb5 hr5 hs5
  go_wp2
  exact bodyPost_ret (v := .tuple #[.slice A5 (givenOf ps z o).length c5, .bool true]) (by simp [results, Try.results26, go_sem]) rfl (MayT.yes HX.out rfl hc5 HR5.out HS5.out HB5.out)
end Go.Proofs.Ytipoakimjhfhfab
