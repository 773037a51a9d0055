/- Worklists of the program: ReleaseItem, FinishItem, ItemsFor. -/
import Derived.Test.YtipoakimjhfhfabWorkI
import Derived.Test.YtipoakimjhfhfabExInt
set_option linter.unusedSimpArgs false
set_option linter.unusedVariables false
namespace Go.Proofs.Ytipoakimjhfhfab
open Go.RowKit Go.Maps

/-- The items of a valid worklist, and whether an owner has the item with a number. -/
def HPost (ps : List Tri) (z o : Int) (w : World) (e : Ending) (w' : World) : Prop :=
  (mayBe ps z o (fun q => q.2.2 == o) = false ∧ ∃ m, e = .returned (.tuple #[.map m, .bool false]) ∧ Below w.heap.size w w') ∨
  (mayBe ps z o (fun q => q.2.2 == o) = true ∧ ∃ b, e = .returned (.tuple #[.map (some b), .bool true]) ∧ NMap Try.prog 3 w' b ps.length Prod.fst svT ps ∧ w.heap.size ≤ b ∧ Below w.heap.size w w')
set_option maxRecDepth 100000 in
set_option maxHeartbeats 1600000 in
theorem workWith_any (lo hi n c : Nat) (A : Option Addr) (ps : List Tri) (z o : Int) (w : World) (hr : Rd w lo hi 3 A n (tvs ps)) (hB : hi ≤ w.heap.size) (hn : n ≤ 1048576) (hz : in64 z) :
    Calls Try.prog 43 #[.slice A n c, .int .i64 z, .int .i64 o] w (HPost ps z o w) := by
  have HC := Lib.hid (workOf_any lo hi n c A ps w hr hB hn)
  clear hr
  go_enter Try.func43, Try.ntmps43
  go_wp2_with (fail)
  (with_reducible refine HC.out.mono ?_)
  clear HC
  rintro e w1 h
  rcases h with ⟨hg, rfl, hb⟩ | ⟨hg, mb, rfl, hm, hlo, hb⟩
  · have HX := Lib.hid (show mayBe ps z o (fun q => q.2.2 == o) = false by simp [mayBe, hg])
    have HB := Lib.hid hb
    clear hb hg
    go_wp2
    exact bodyPost_ret (v := .tuple #[.map none, .bool false]) (by simp [results, Try.results43, go_sem]) rfl (.inl ⟨HX.out, none, rfl, HB.out⟩)
  have HB1 := Lib.hid hb
  have HG := Lib.hid hg
  have HM := Lib.hid hm
  have hmlt := hm.lt
  clear hb hm hg
  go_wp2_with (fail)
  (with_reducible refine (isOwner_any o _).mono ?_)
  rintro e w2 ⟨rfl, hb2⟩
  have HB2 := Lib.hid (up HB1.out hb2)
  have HM2 := Lib.hid (HM.out.keep hb2 hmlt)
  have hs2 := hb2.size
  clear hb2 HB1 HM
  cases hri : inR o 1 9 with
  | false =>
    have HX := Lib.hid (show mayBe ps z o (fun q => q.2.2 == o) = false by simp [mayBe, hri])
    clear hri
    go_wp2
    exact bodyPost_ret (v := .tuple #[.map none, .bool false]) (by simp [results, Try.results43, go_sem]) rfl (.inl ⟨HX.out, none, rfl, HB2.out⟩)
  | true =>
  have HO := Lib.hid hri
  clear hri
  have hl := HM2.out.lookOk keyedIntN Try.underlying3 Try.underlying57 (zeroItemN w2) hz rfl
  cases hat : atNum Prod.fst ps z with
  | none =>
    have HX := Lib.hid (show mayBe ps z o (fun q => q.2.2 == o) = false by simp [mayBe, hat])
    rw [hat] at hl
    simp only [Option.map_none, Option.getD_none, Option.isSome_none] at hl
    clear hat
    have HBZ := Lib.hid (up_alloc HB2.out (.cells #[.int .i64 0, .int .i64 0, .int .i64 0] 30))
    go_wp2
    go_quiet (fail)
    go_wp2
    exact bodyPost_ret (v := .tuple #[.map (some mb), .bool false]) (by simp [results, Try.results43, go_sem]) rfl (.inl ⟨HX.out, some mb, rfl, up_drewN HBZ.out _⟩)
  | some p =>
  obtain ⟨x, y, u⟩ := p
  rw [hat] at hl
  simp only [Option.map_some, Option.getD_some, Option.isSome_some, svT] at hl
  have HAT := Lib.hid hat
  have HB3 := Lib.hid (up_alloc HB2.out (.cells #[.int .i64 x, .int .i64 y, .int .i64 u] 30))
  have hk := Blk.new w2 30 #[.int .i64 x, .int .i64 y, .int .i64 u]
  have k2 : (w2.alloc (.cells #[.int .i64 x, .int .i64 y, .int .i64 u] 30)).cell? ⟨w2.heap.size, 2, none⟩ = some (.int .i64 u) := hk.cell 2
  have HM3 := Lib.hid (HM2.out.alloc (.cells #[.int .i64 x, .int .i64 y, .int .i64 u] 30))
  clear hk hat
  by_cases hu : u = o
  · obtain rfl : o = u := hu.symm
    clear hu
    have hu1 : (o == o) = true := by simp
    have HX := Lib.hid (show mayBe ps z o (fun q => q.2.2 == o) = true by simp [mayBe, HG.out, HO.out, HAT.out])
    go_wp2
    go_quiet (fail)
    go_wp2
    exact bodyPost_ret (v := .tuple #[.map (some mb), .bool true]) (by simp [results, Try.results43, go_sem]) rfl (.inr ⟨HX.out, mb, rfl, HM3.out.keep (up_drewN (Below.refl _ _) _) HM3.out.lt, hlo, up_drewN HB3.out _⟩)
  · have hu1 : (u == o) = false := by simpa using hu
    have HX := Lib.hid (show mayBe ps z o (fun q => q.2.2 == o) = false by simp [mayBe, HAT.out, hu1])
    clear hu
    go_wp2
    go_quiet (fail)
    go_wp2
    exact bodyPost_ret (v := .tuple #[.map (some mb), .bool false]) (by simp [results, Try.results43, go_sem]) rfl (.inl ⟨HX.out, some mb, rfl, up_drewN HB3.out _⟩)
set_option maxRecDepth 100000 in
set_option maxHeartbeats 1600000 in
theorem ReleaseItemI_any (lo hi n c : Nat) (A : Option Addr) (ps : List Tri) (z o : Int) (w : World) (hr : Rd w lo hi 3 A n (tvs ps)) (hB : hi ≤ w.heap.size) (hn : n ≤ 1048576) (hz : in64 z) (ho : in64 o) :
    Calls Try.prog 20 #[.slice A n c, .int .i64 z, .int .i64 o] w (MayT tvs 3 (freeOf ps z o) w) := by
  have HC := Lib.hid (workWith_any lo hi n c A ps z o w hr hB hn hz)
  clear hr
  go_enter Try.func20, Try.ntmps20
  go_wp2_with (fail)
  (with_reducible refine HC.out.mono ?_)
  clear HC
  rintro e w1 h
  rcases h with ⟨hg, mm, rfl, hb⟩ | ⟨hg, mb, rfl, hm, hlo, hb⟩
  · have HX := Lib.hid (show freeOf ps z o = none by simp [freeOf, hg])
    have HB := Lib.hid hb
    clear hb hg
    go_wp2
    exact bodyPost_ret (v := .tuple #[.slice none 0 0, .bool false]) (by simp [results, Try.results20, go_sem]) rfl (MayT.no rfl HX.out HB.out)
  have HX := Lib.hid (show freeOf ps z o = some (givenOf ps z 0) by rw [freeOf, if_pos hg])
  have HB1 := Lib.hid hb
  have HM := Lib.hid hm
  have hv := mayBe_v hg
  obtain ⟨⟨x, y, u⟩, hat, _⟩ := mayBe_at hg
  have hxz : x = z := (atNum_some hat).2
  have hok := (vWork_ok hv (atNum_some hat).1).1
  have hnl := vWork_len hv
  have HAT := Lib.hid hat
  have HV := Lib.hid hv
  simp only at hok
  have HOK := Lib.hid (show -1000000 ≤ z ∧ z ≤ 1000000 by omega)
  clear hb hm hg hat hv hxz hok
  go_wp2_with (fail)
  (with_reducible refine (givenI_any mb ps.length ps z 0 (x, y, u) _ HM.out (by omega) HAT.out HOK.out (fun q hq => by have := (vWork_ok HV.out hq).1; omega) (by omega) w HB1.out hlo).mono ?_)
  rintro e w5 ⟨A5, c5, rfl, hc5, hr5, hs5, hb5⟩
  have HB5 := Lib.hid hb5
  have HR5 := Lib.hid (hr5.wide (lo' := w.heap.size) (hi' := w5.heap.size) HB1.out.size (Nat.le_refl _))
  have HS5 := Lib.hid hs5
  clear hb5 hr5 hs5
  go_wp2
  exact bodyPost_ret (v := .tuple #[.slice A5 (givenOf ps z 0).length c5, .bool true]) (by simp [results, Try.results20, go_sem]) rfl (MayT.yes HX.out rfl hc5 HR5.out HS5.out HB5.out)
set_option maxRecDepth 100000 in
set_option maxHeartbeats 1600000 in
theorem FinishItemI_any (lo hi n c : Nat) (A : Option Addr) (ps : List Tri) (z o : Int) (w : World) (hr : Rd w lo hi 3 A n (tvs ps)) (hB : hi ≤ w.heap.size) (hn : n ≤ 1048576) (hz : in64 z) (ho : in64 o) :
    Calls Try.prog 16 #[.slice A n c, .int .i64 z, .int .i64 o] w (MayT tvs 3 (doneOf ps z o) w) := by
  have HC := Lib.hid (workWith_any lo hi n c A ps z o w hr hB hn hz)
  clear hr
  go_enter Try.func16, Try.ntmps16
  go_wp2_with (fail)
  (with_reducible refine HC.out.mono ?_)
  clear HC
  rintro e w1 h
  rcases h with ⟨hg, mm, rfl, hb⟩ | ⟨hg, mb, rfl, hm, hlo, hb⟩
  · have HX := Lib.hid (show doneOf ps z o = none by simp [doneOf, hg])
    have HB := Lib.hid hb
    clear hb hg
    go_wp2
    exact bodyPost_ret (v := .tuple #[.slice none 0 0, .bool false]) (by simp [results, Try.results16, go_sem]) rfl (MayT.no rfl HX.out HB.out)
  have HX := Lib.hid (show doneOf ps z o = some (leftOf ps z) by rw [doneOf, if_pos hg])
  have hv := mayBe_v hg
  have hnl := vWork_len hv
  have hll : (leftOf ps z).length ≤ 12 := Nat.le_trans (List.length_filter_le _ _) hnl
  have HZ := Lib.hid (show ∀ q ∈ leftOf ps z, -1000000 ≤ q.1 ∧ q.1 ≤ 1000000 from fun q hq => by
    have := (vWork_ok hv (List.mem_filter.1 hq).1).1
    omega)
  have hsz1 := hb.size
  obtain ⟨w2, hrun2, hm2, hg2⟩ := hm.drop keyedIntN Try.underlying3 Try.underlying57 hz 0
  have hs2 := hg2.size
  have HB2 := Lib.hid (hb.grown hg2 hsz1 (fun j hj => by injection hj with hj; omega))
  have HM2 := Lib.hid (show NMap Try.prog 3 w2 mb ps.length Prod.fst svT (leftOf ps z) from hm2)
  have HMO := Lib.hid hm
  have HHB := Lib.hid hb
  clear hb hm hg hv hm2 hg2
  go_wp2_with (fail)
  (with_reducible refine (inOrderItem_any mb _ (leftOf ps z) _ HM2.out (by omega) HZ.out (by omega)).mono ?_)
  rintro e w5 ⟨A5, c5, rfl, hc5, hr5, hs5, hb5⟩
  have HB5 := Lib.hid (up HB2.out hb5)
  have HR5 := Lib.hid (hr5.wide (lo' := w.heap.size) (hi' := w5.heap.size) HB2.out.size (Nat.le_refl _))
  have HS5 := Lib.hid hs5
  clear hb5 hr5 hs5
  go_wp2
  exact bodyPost_ret (v := .tuple #[.slice A5 (leftOf ps z).length c5, .bool true]) (by simp [results, Try.results16, go_sem]) rfl (MayT.yes HX.out rfl hc5 HR5.out HS5.out HB5.out)
set_option maxHeartbeats 800000 in
theorem isFor_any (x y u o : Int) (lo3 hi3 n3 c3 : Nat) (A3 : Option Addr) (m3 : List Int) (w : World) (hr3 : Rd w lo3 hi3 1 A3 n3 (ivs m3)) (hB3 : hi3 ≤ w.heap.size) (hn3 : n3 ≤ 1048576) :
    Calls Try.prog 50 #[.agg #[.int .i64 x, .int .i64 y, .int .i64 u], .int .i64 o, .slice A3 n3 c3] w fun e w' => e = .returned (.bool (mineOf o m3 (x, y, u))) ∧ Below w.heap.size w w' := by
  have HB := Lib.hid (up_alloc (Below.refl _ w) (.cells #[.int .i64 x, .int .i64 y, .int .i64 u] 30))
  have HR := Lib.hid (hr3.keep HB.out hB3)
  clear hr3
  go_enter Try.func50, Try.ntmps50
  by_cases hu : u = 0
  · subst hu
    have HX := Lib.hid (show mineOf o m3 (x, y, 0) = inL m3 y by unfold mineOf; rw [if_pos rfl]; rfl)
    go_wp2_with (fail)
    (with_reducible refine (containsI_any lo3 hi3 n3 c3 A3 m3 y _ HR.out hn3).mono ?_)
    rintro e w4 ⟨rfl, rfl⟩
    go_wp2
    go_ret
    exact ⟨ret_bool HX.out.symm, HB.out⟩
  · have hu1 : (u == 0) = false := by simpa using hu
    have HX := Lib.hid (show mineOf o m3 (x, y, u) = (u == o) by unfold mineOf; rw [if_neg hu])
    clear hu
    go_wp2
    go_ret
    exact ⟨ret_bool HX.out.symm, HB.out⟩
set_option maxRecDepth 100000 in
set_option maxHeartbeats 1600000 in
theorem ItemsForI_any (lo hi n c : Nat) (A : Option Addr) (ps : List Tri) (o : Int) (lo3 hi3 n3 c3 : Nat) (A3 : Option Addr) (m3 : List Int) (w : World) (hr : Rd w lo hi 3 A n (tvs ps)) (hB : hi ≤ w.heap.size) (hn : n ≤ 1048576) (ho : in64 o) (hr3 : Rd w lo3 hi3 1 A3 n3 (ivs m3)) (hB3 : hi3 ≤ w.heap.size) (hn3 : n3 ≤ 1048576) :
    Calls Try.prog 23 #[.slice A n c, .int .i64 o, .slice A3 n3 c3] w (Fresh (ivs (forOf ps o m3)) 1 (forOf ps o m3).length w) := by
  have HL := Lib.hid hr.len3
  obtain ⟨i0, hi0, hz0, hz1, hz2⟩ := info_parts infoIntX
  have HC := Lib.hid (ValidWorkI_any lo hi n c A ps w hr hB hn)
  have HR := Lib.hid hr
  have HR3 := Lib.hid hr3
  clear hr hr3
  go_enter Try.func23, Try.ntmps23
  go_wp2_with (fail)
  (with_reducible refine HC.out.mono ?_)
  clear HC
  rintro e w1 ⟨rfl, hb1⟩
  have HB1 := Lib.hid hb1
  have hs1 := hb1.size
  clear hb1
  cases hg : vWork ps with
  | false =>
    have HX := Lib.hid (show forOf ps o m3 = [] by simp [forOf, hg])
    clear hg
    go_wp2
    go_ret
    rw [HX.out]
    exact Fresh.nil 1 HB1.out
  | true =>
  have HX := Lib.hid (show forOf ps o m3 = minesOf ps o m3 by simp [forOf, hg])
  clear hg
  go_wp2
  go_loopw [7, 15] (fun v iv wr => ∃ (k m : Nat), k ≤ n ∧ m ≤ k ∧ iv = .int .i64 k ∧ Hid ((minesOf (ps.take k) o m3).length = m) ∧ Hid (wr.ownsRow w.heap.size 3 1 v m (ivs (minesOf (ps.take k) o m3))) ∧ Hid (Below w.heap.size w wr))
     (fun _ iv _ => n - (Go.RowKit.intOf iv).toNat)
  case atStart => exact ⟨0, 0, by omega, by omega, rfl, rfl, World.ownsRow_nil _ _ _ _, HB1.out⟩
  case round =>
    clear HB1
    obtain ⟨k, m, hk, hm, rfl, hLm, hO, hW⟩ := hrel
    have hsw := hW.out.size
    by_cases hlt : k < n
    · obtain ⟨b, off, x, y, u, rfl, hbB, _, hg, hc0, hc1, hc2⟩ := (HR.out.keep hW.out hB).trip hlt
      have hkn : (k : Int) < (n : Int) := by omega
      have hk0 : (0 : Int) ≤ (k : Int) := by omega
      have HS := Lib.hid (minesOf_step (o := o) (roles := m3) hg)
      have hs9 : (wr.alloc (.cells #[.int .i64 x, .int .i64 y, .int .i64 u] 30)).heap.size = wr.heap.size + 1 := by simp
      have HWA := Lib.hid (up_alloc hW.out (.cells #[.int .i64 x, .int .i64 y, .int .i64 u] 30))
      have HE := Lib.hid (Blk.new wr 30 #[.int .i64 x, .int .i64 y, .int .i64 u])
      have HOA := Lib.hid (hO.out.alloc (.cells #[.int .i64 x, .int .i64 y, .int .i64 u] 30))
      have HRW := Lib.hid (HR3.out.keep HWA.out hB3)
      clear hg
      go_wp2_with (fail)
      (with_reducible refine (isFor_any x y u o lo3 hi3 n3 c3 A3 m3 _ HRW.out (Nat.le_trans hB3 HWA.out.size) hn3).mono ?_)
      rintro e w2 ⟨rfl, hb2⟩
      have hs2 := hb2.size
      rw [hs9] at hs2
      have HW2 := Lib.hid (up HWA.out hb2)
      have HO2 := Lib.hid (own_keep HOA.out hb2)
      have hE2 := HE.out.below hb2 (by omega)
      have e0 : w2.cell? ⟨wr.heap.size, 0, none⟩ = some (.int .i64 x) := hE2.cell 0
      clear hb2 hE2 HE HOA HWA hO hW HRW hc0 hc1 hc2
      cases hmi : mineOf o m3 (x, y, u) with
      | true =>
        have HS2 := Lib.hid (show minesOf (ps.take (k + 1)) o m3 = minesOf (ps.take k) o m3 ++ [x] by rw [HS.out, hmi]; rfl)
        clear hmi
        go_wp2_with (at_builtin; refine wpList_append_own _ rfl _ _ 35 rfl w.heap.size 3 i0 _ 1 8 Try.underlying35 hi0 hz0 hz1 hz2 rfl (by decide) _ _ _ rfl (HO2.out.alloc _) _ 1 1 [.int .i64 x] rfl rfl (World.news_of_block (heap_alloc_new _ _)) ?d2 ?d3 ?d4 ?d5 ?_)
        case d2 => first | (intro v hv; simp at hv; subst hv; rfl) | rfl | simp
        case d3 => unfold maxLen; omega
        case d4 => omega
        case d5 => first | omega | (simp; omega)
        intro v3 w3 hown3 hg3 _
        have HB3 := Lib.hid (up_grown (up_alloc HW2.out _) (HO2.out.alloc _) hg3 (Nat.le_refl _))
        have HO3 := Lib.hid hown3
        clear hown3 hg3
        go_wp2
        go_roundw
        case rel => exact ⟨k + 1, m + 1, by omega, by omega, by go_num, by rw [HS2.out, List.length_append, hLm.out]; rfl, by rw [HS2.out, ivs_append]; exact HO3.out, HB3.out⟩
        case measure => simp [Go.RowKit.intOf]; omega
      | false =>
        have HS2 := Lib.hid (show minesOf (ps.take (k + 1)) o m3 = minesOf (ps.take k) o m3 by rw [HS.out, hmi, if_neg (by simp), List.append_nil])
        clear hmi
        go_wp2
        go_roundw
        case rel => exact ⟨k + 1, m, by omega, by omega, by go_num, by rw [HS2.out]; exact hLm.out, by rw [HS2.out]; exact HO2.out, HW2.out⟩
        case measure => simp [Go.RowKit.intOf]; omega
    · obtain rfl : n = k := by omega
      have ek : ps.take n = ps := List.take_of_length_le (by rw [HL.out]; omega)
      rw [ek] at hO hLm
      clear ek
      obtain ⟨Al, cl, rfl, hcl, hrl, hsl⟩ := own_form hO.out
      have HRL := Lib.hid hrl
      have HSL := Lib.hid hsl
      clear hrl hsl
      go_wp2
      go_ret
      rw [HX.out, hLm.out]
      exact ⟨Al, cl, rfl, hcl, HRL.out, HSL.out, hW.out⟩
end Go.Proofs.Ytipoakimjhfhfab
