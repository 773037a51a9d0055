/- impl.inOrder at impl.Client: what a map holds, in the order of the numbers. (Written by gen/inorder.py.) -/
import Derived.Test.YtipoakimjhfhfabNumKeys
import Derived.Test.YtipoakimjhfhfabExClient
import Derived.Shelf.SlIterI.Nil
import Derived.Shelf.SortM.Plain
import Derived.Shelf.SortM.SortNone
import Derived.Ground.GgzProg
import Derived.Ground.SlgmProg
set_option linter.unusedSimpArgs false
set_option linter.unusedVariables false
namespace Go.Proofs.Ytipoakimjhfhfab
open Go.RowKit Go.Maps Go.Sort Go.Shelf

shelf_lay_g SlLaysZI.n7 Ggz 7 at Try 77 as keysClient
shelf_lay_g SlLaysZI.n6 Ggz 6 at Try 69 as sortedClient
shelf_lay_g SlLaysM.n5 Slgm 5 at Try 79 as sortClient
theorem sortsClient (m : Nat) : AnyZI.SortsIn Try.prog sortedClient_ren Fence.wide m :=
  ⟨fun blk off cap ss W hH hblk hsz => callsIn_wide.2 (AnyM.slices_Sort_int sortClient blk off cap ss W hH hblk hsz),
   fun p cap W => callsIn_wide.2 (AnyM.slices_Sort_int_none sortClient p cap W)⟩
theorem zeroClientN (w : World) : (zeroValue 45).run Try.prog w = .ok (.agg #[.int .i64 0, .int .i64 0, .int .i64 0, .int .i64 0]) w := by kernel_rfl
theorem keysOfClient (mb : Option Nat) (w : World) :
    Calls Try.prog 77 #[.map mb] w fun e w' => e = .returned (.func (.func 83) #[] #[.pointer (some ⟨w.heap.size, 0, none⟩)]) ∧ w' = w.alloc (.cells #[.map mb] 75) :=
  callsIn_wide.1 (AnyZI.keys_in keysClient Fence.wide 5 trivial rfl mb w)
set_option maxHeartbeats 1000000 in
/-- The numbers of what a map holds, sorted. -/
theorem sortedOfClient (mb m : Nat) (qs : List Qd) (w : World) (h : NMap Try.prog 3 w mb m Prod.fst svQ qs) (hm : m ≤ 1048576) :
    Calls Try.prog 69 #[.func (.func 83) #[] #[.pointer (some ⟨w.heap.size, 0, none⟩)]] (w.alloc (.cells #[.map (some mb)] 75)) fun e w' => ∃ v, e = .returned v ∧
      w'.ownsRow (w.heap.size + 1) 3 1 v qs.length (ivs (qs.map Prod.fst)) ∧ Below (w.heap.size + 1) (w.alloc (.cells #[.map (some mb)] 75)) w' := by
  obtain ⟨D0, hown, hkeys, hsz, hlen⟩ := h.keys keyedIntN Try.underlying3 Try.underlying75 (zeroClientN w)
  have hbl := hown.lt
  have hseq : SeqGives Fence.wide 2 Try.prog 83 #[.pointer (some ⟨w.heap.size, 0, none⟩)] encZ (fun ss => ss.Perm (intKeys D0)) (Maps.size D0) (w.alloc (.cells #[.map (some mb)] 75)) :=
    AnyZI.keys_gives (ρ := keysClient_ren) { keysClient with } Fence.wide _ trivial rfl (by omega) w.heap.size mb m D0 _ (by simp) (by simp) (by
      obtain ⟨es, clock, hb, Ft, hs, hD⟩ := hown
      exact ⟨es, clock, (Below.heap_alloc _ _ mb hbl).trans hb, Ft, hs, hD⟩)
  have cS := AnyZI.sorted_in sortedClient Fence.wide 5 trivial trivial trivial trivial rfl (by omega) (sortsClient _) (enters_of Try.func79 (by kernel_rfl) rfl) 83 #[.pointer (some ⟨w.heap.size, 0, none⟩)] trivial (enters_of Try.func83 (by kernel_rfl) rfl) _ _ (by unfold maxLen; omega) (by omega) _ hseq
  have cW := callsIn_wide.1 cS
  change Calls Try.prog 69 _ _ _ at cW
  refine cW.mono ?_
  rintro e w' ⟨v, ss, rfl, hS, hrow, _, hb⟩
  rw [hkeys ss hS] at hrow
  have hl : ss.length = qs.length := by
    have h1 := congrArg List.length (hkeys ss hS)
    simpa using h1
  rw [hl] at hrow
  have hs : (w.alloc (.cells #[.map (some mb)] 75)).heap.size = w.heap.size + 1 := by simp
  rw [hs] at hrow hb
  exact ⟨v, rfl, hrow, hb⟩
set_option maxRecDepth 100000 in
set_option maxHeartbeats 1600000 in
theorem inOrderClient_any (mb m : Nat) (qs : List Qd) (w : World) (h : NMap Try.prog 3 w mb m Prod.fst svQ qs) (hm : m ≤ 1048576) (hz : ∀ p ∈ qs, -1000000 ≤ p.1 ∧ p.1 ≤ 1000000) (hlen : qs.length ≤ 1048577) :
    Calls Try.prog 66 #[.map (some mb)] w (Fresh (qvs qs) 4 qs.length w) := by
  obtain ⟨i0, hi0, hz0, hz1, hz2⟩ := info_parts infoClient
  have HS := Lib.hid (sortedOfClient mb m qs w h hm)
  have HM := Lib.hid h
  have hlt := h.lt
  clear h
  go_enter Try.func66, Try.ntmps66
  go_wp2_with (fail)
  (with_reducible refine (keysOfClient _ _).mono ?_)
  rintro e w1 ⟨rfl, rfl⟩
  go_wp2_with (fail)
  (with_reducible refine HS.out.mono ?_)
  clear HS
  rintro e w2 ⟨v, rfl, hrow, hb⟩
  obtain ⟨Ak, ck, rfl, hck, hrk, _⟩ := own_form hrow
  have hb2 := (up_alloc (Below.refl _ w) (.cells #[.map (some mb)] 75)).trans (hb.mono (Nat.le_succ _))
  have hs2 := hb2.size
  have HM2 := Lib.hid (HM.out.keep hb2 hlt)
  have HB2 := Lib.hid hb2
  have HK := Lib.hid hrk
  have hlt2 : mb < w2.heap.size := by omega
  clear hrow hb hrk hb2 HM
  go_wp2
  go_loopw [3, 10] (fun lv iv wr => ∃ (k : Nat), k ≤ qs.length ∧ iv = .int .i64 k ∧ Hid (wr.ownsRow w2.heap.size 45 4 lv k (qvs (qs.take k))) ∧ Hid (Below w2.heap.size w2 wr))
     (fun _ iv _ => qs.length - (Go.RowKit.intOf iv).toNat)
  case atStart => exact ⟨0, by omega, rfl, World.ownsRow_nil _ _ _ _, Below.refl _ _⟩
  case round =>
    obtain ⟨k, hk, rfl, hO, hW⟩ := hrel
    have hsw := hW.out.size
    by_cases hkn : k < qs.length
    · obtain ⟨b, off, q, hA, hbB, _, hg, hc0⟩ := (HK.out.keep hW.out (Nat.le_refl _)).one hkn
      subst hA
      have hki : (k : Int) < (qs.length : Int) := by omega
      rw [List.getElem?_map] at hg
      obtain ⟨p, hp, hpq⟩ := Option.map_eq_some_iff.1 hg
      obtain ⟨x, y, z, t⟩ := p
      simp only at hpq
      subst hpq
      have HP := Lib.hid hp
      have hz' := hz _ (List.mem_of_getElem? hp)
      have hl := (HM2.out.keep hW.out hlt2).look keyedIntN Try.underlying3 Try.underlying75 (zeroClientN wr) (in64_small hz'.1 hz'.2) rfl
      rw [atNum_mem HM2.out.2 (List.mem_of_getElem? hp)] at hl
      simp only [Option.map_some, Option.getD_some, svQ] at hl
      clear hg hp hz'
      go_wp2_with (at_builtin; refine wpList_append_own _ rfl _ _ 38 rfl w2.heap.size 45 i0 _ 4 32 Try.underlying38 hi0 hz0 hz1 hz2 rfl (by decide) _ _ _ rfl (hO.out.alloc _) _ 1 1 [.int .i64 x, .int .i64 y, .int .i64 z, .int .i64 t] rfl rfl (World.news_of_block (heap_alloc_new _ _)) ?c2 ?c3 ?c4 ?c5 ?_)
      case c2 => intro u hu; simp at hu; rcases hu with rfl | rfl | rfl | rfl <;> rfl
      case c3 => unfold maxLen; omega
      case c4 => omega
      case c5 => first | omega | (simp; omega)
      intro v3 w3 hown3 hg3 _
      have HB3 := Lib.hid (up_grown (up_alloc hW.out _) (hO.out.alloc _) hg3 (Nat.le_refl _))
      have HO3 := Lib.hid hown3
      clear hown3 hg3 hl
      go_wp2
      go_roundw
      case rel => exact ⟨k + 1, by omega, by go_num, by rw [take_snoc HP.out, qvs_append]; exact HO3.out, HB3.out⟩
      case measure => simp [Go.RowKit.intOf]; omega
    · obtain rfl : k = qs.length := by omega
      have ek : qs.take qs.length = qs := List.take_length
      rw [ek] at hO
      obtain ⟨Al, cl, rfl, hcl, hrl, hsl⟩ := own_form hO.out
      have HR := Lib.hid (hrl.wide (lo' := w.heap.size) (hi' := wr.heap.size) hs2 (Nat.le_refl _))
      have HF := Lib.hid hsl
      clear hrl hsl
      go_wp2
      go_ret
      exact ⟨Al, cl, rfl, hcl, HR.out, HF.out, up HB2.out hW.out⟩
end Go.Proofs.Ytipoakimjhfhfab
