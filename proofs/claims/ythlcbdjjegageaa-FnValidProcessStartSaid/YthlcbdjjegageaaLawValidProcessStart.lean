/- The law FnValidProcessStart, walked: it returns true. -/
import Derived.Test.YthlcbdjjegageaaLawProc
import Derived.Deep.RegionHeld3
namespace Go.Proofs.Ythlcbdjjegageaa
open Go.RowKit

/-- At a guarded step that is wanted, of a region that draws its order. -/
theorem step_append_rdG {P : Program} (w : World) {ops : Array Oper} {o : Oper} {a : Act} {K : Act → World → Prop} {Q : Exit → Act → World → Prop} {E : Prop} (hw : Region.wanted o (yielded ops a.tmps) = true) (s x : Operand) (t : TypeId) (ho : o.op = .call { callee := .builtin .append, args := #[s, x], argTypes := #[t, t] })
    (base : Nat) (e : TypeId) (i : TypeInfo) (z : Value) (size bytes : Nat) (ht : P.underlying t = some (.slice e)) (hi : P.info? e = some i) (hz : i.zero = some z) (hsize : i.size = size) (hby : i.bytes = bytes) (hzs : z.cells.size = size) (hsz : 0 < size)
    (v : Value) (n : Nat) (xs : List Value) (hs : a.eval s = v) (hown : w.ownsRow base e size v n xs) (lo hi' : Nat) (A : Option Addr) (m c : Nat) (news : List Value) (hx : a.eval x = .slice A m c) (hr : Rd w lo hi' size A m news) (h1 : ∀ u ∈ news, u.oneCell' = true) (h63 : n + m ≤ maxLen) (hbytes : (n + m) * bytes ≤ 140737488355328) (hbase : base ≤ w.heap.size)
    (h : ∀ v' w', w'.ownsRow base e size v' (n + m) (xs ++ news) → w.grownBy w' v.ownBlock → (v'.ownBlock = v.ownBlock ∨ v'.ownBlock = some w.heap.size) → K (a.put o.dst v') w') :
    if Region.wanted o (yielded ops a.tmps) = true then Oper.wp P o a w K Q else E := by
  rw [if_pos hw]
  exact wp_append_rd w s x t ho base e i z size bytes ht hi hz hsize hby hzs hsz v n xs hs hown lo hi' A m c news hx hr h1 h63 hbytes hbase h
theorem infoNodeV : (Try.prog.info? 32).map (fun i => (i.zero, i.size, i.bytes)) = some (some (.agg #[.int .i64 0, .int .i64 0]), 2, 16) := by kernel_rfl

set_option maxRecDepth 100000 in
set_option maxHeartbeats 3200000 in
theorem lawValidProcessStart_any (n c : Nat) (A : Option Addr) (xs : List Int) (w : World) (hr : Rd w 0 w.heap.size 1 A n (bvs xs)) (hby : Bytes xs) (hc : n ≤ c) (hc2 : c ≤ 9223372036854775807) :
    Calls Try.prog 10 #[.slice A n c] w fun e w' => e = .returned (.bool true) ∧ Below w.heap.size w w' := by
  obtain ⟨i0, hi0, hz0, hz1, hz2⟩ := info_parts infoNodeV
  by_cases hbig : (1048576 : Int) < n
  · go_enter Try.func10, Try.ntmps10
    go_wp2
    go_ret
    exact ⟨rfl, Below.refl _ _⟩
  go_enter Try.func10, Try.ntmps10
  go_wp2_with (fail)
  (with_reducible refine (drawValidProcess_any n c A xs w hr hby (by omega) hc hc2).mono ?_)
  clear hbig
  rintro e w1 ⟨An, nn, cn, Af, lf, cf, ns, fs, rfl, hP, hb1⟩
  have HC1 := Lib.hid (Pc.new hP)
  have HB1 := Lib.hid (up_alloc hb1 (.cells #[.slice An nn cn, .slice Af lf cf] 26))
  have hn21 := hP.n21
  have hf21 := hP.f21
  clear hP hb1
  generalize hV : vProc ns fs = V
  have HV := Lib.hid hV
  clear hV
  go_wp2_with (fail)
  (with_reducible refine (HC1.out.validI).mono ?_)
  rintro e w2 ⟨rfl, hb2⟩
  rw [HV.out]
  have HC2 := Lib.hid (HC1.out.below hb2)
  have HB2 := Lib.hid (up HB1.out hb2)
  have k0 := HC2.out.k0
  have k1 := HC2.out.k1
  clear hb2 HC1 HB1
  cases V with
  | false =>
    go_wp2_with (fail)
    (with_reducible refine (HC2.out.validS).mono ?_)
    rintro e w3 ⟨rfl, hb3⟩
    rw [HV.out]
    have HC3 := Lib.hid (HC2.out.below hb3)
    have HB3 := Lib.hid (up HB2.out hb3)
    clear k0 k1
    have k0 := HC3.out.k0
    have k1 := HC3.out.k1
    clear hb3 HC2 HB2
    go_wp2_with (fail)
    (with_reducible refine (HC3.out.validS).mono ?_)
    rintro e w4 ⟨rfl, hb4⟩
    rw [HV.out]
    have HB4 := Lib.hid (up HB3.out hb4)
    clear hb4 HC3 HB3 k0 k1
    go_wp2
    go_ret
    exact ⟨rfl, HB4.out⟩
  | true =>
    go_wp2_with (fail)
    (with_reducible refine (HC2.out.validS).mono ?_)
    rintro e w3 ⟨rfl, hb3⟩
    rw [HV.out]
    have HC3 := Lib.hid (HC2.out.below hb3)
    have HB3 := Lib.hid (up HB2.out hb3)
    clear k0 k1 hb3 HC2 HB2
    have k0 := HC3.out.k0
    have k1 := HC3.out.k1
    go_wp2
    go_loop [5, 6] (fun sv iv => ∃ (i cnt : Nat), i ≤ nn ∧ iv = .int .i64 i ∧ sv = .int .i64 cnt ∧ cnt ≤ i ∧ Hid (cnt + nStarts (ns.drop i) = 1))
       (fun _ iv => nn - (intOf iv).toNat)
    case atStart => exact ⟨0, 0, by omega, rfl, rfl, by omega, by simpa [Hid] using vProc_starts HV.out⟩
    case round =>
      obtain ⟨i, cnt, hi, rfl, rfl, hci, HS⟩ := hrel
      by_cases hlt : i < nn
      · obtain ⟨b, off, x, y, rfl, hbg, _, hg, hc0, hc1⟩ := HC3.out.prs.nodes.pair hlt
        have hi1 : (i : Int) < (nn : Int) := by omega
        have hi0' : (0 : Int) ≤ (i : Int) := by omega
        by_cases hx : x = 0
        · subst hx
          have HG := Lib.hid (start_hit hg)
          clear hg
          go_wp2
          go_round
          case rel => exact ⟨i + 1, cnt + 1, by omega, by go_num, by go_num, by omega, by have h := HS.out; rw [HG.out] at h; rw [Hid]; omega⟩
          case measure => simp [intOf]; omega
        · have HG := Lib.hid (start_miss hg hx)
          have hx' : (x == 0) = false := by simpa using hx
          clear hg hx
          go_wp2
          go_round
          case rel => exact ⟨i + 1, cnt, by omega, by go_num, rfl, by omega, by have h := HS.out; rw [HG.out] at h; exact h⟩
          case measure => simp [intOf]; omega
      · obtain rfl : i = nn := by omega
        have hcnt : cnt = 1 := by
          have h := HS.out
          rw [List.drop_of_length_le (by rw [HC3.out.nlen]; exact Nat.le_refl _)] at h
          simpa [nStarts] using h
        subst hcnt
        have HV2 := Lib.hid (vProc_two HV.out)
        have hgl := HC3.out.lt
        have hsr := HC3.out.prs.nodes
        have oa : ((w3.alloc (.cells #[] 32)).drew).ownsRow w3.heap.size 32 2 (.slice (some ⟨w3.heap.size, 0, none⟩) 0 0) 0 [] := (World.ownsRow_made w3 (base := w3.heap.size) (e := 32) (size := 2) #[] 0 (Nat.le_refl _) (by unfold maxLen; omega) (by simp)).drew
        have ob : (((w3.alloc (.cells #[] 32)).alloc (.cells #[.int .i64 0, .int .i64 0] 32)).drew).ownsRow w3.heap.size 32 2 (.slice (some ⟨w3.heap.size, 0, none⟩) 0 0) 0 [] := ((World.ownsRow_made w3 (base := w3.heap.size) (e := 32) (size := 2) #[] 0 (Nat.le_refl _) (by unfold maxLen; omega) (by simp)).alloc _).drew
        have oc : (((w3.alloc (.cells #[.int .i64 0, .int .i64 0] 32)).alloc (.cells #[] 32)).drew).ownsRow w3.heap.size 32 2 (.slice (some ⟨w3.heap.size + 1, 0, none⟩) 0 0) 0 [] := by
          have := World.ownsRow_made (w3.alloc (.cells #[.int .i64 0, .int .i64 0] 32)) (base := w3.heap.size) (e := 32) (size := 2) #[] 0 (by simp) (by unfold maxLen; omega) (by simp)
          have e : (w3.alloc (.cells #[.int .i64 0, .int .i64 0] 32)).heap.size = w3.heap.size + 1 := by simp
          rw [e] at this
          exact this.drew
        have OA := Lib.hid oa
        have OB := Lib.hid ob
        have OC := Lib.hid oc
        have SA := Lib.hid (hsr.keep (up_drew (up_alloc (Below.refl _ w3) (.cells #[] 32))) (Nat.le_of_lt hgl))
        have SB := Lib.hid (hsr.keep (up_drew (up_alloc (up_alloc (Below.refl _ w3) (.cells #[] 32)) (.cells #[.int .i64 0, .int .i64 0] 32))) (Nat.le_of_lt hgl))
        have SC := Lib.hid (hsr.keep (up_drew (up_alloc (up_alloc (Below.refl _ w3) (.cells #[.int .i64 0, .int .i64 0] 32)) (.cells #[] 32))) (Nat.le_of_lt hgl))
        have FB : Hid (Blk (((w3.alloc (.cells #[] 32)).alloc (.cells #[.int .i64 0, .int .i64 0] 32)).drew) (w3.heap.size + 1) 32 #[.int .i64 0, .int .i64 0]) := by
          have := Blk.new (w3.alloc (.cells #[] 32)) 32 #[.int .i64 0, .int .i64 0]
          have e : (w3.alloc (.cells #[] 32)).heap.size = w3.heap.size + 1 := by simp
          rw [e] at this
          exact this.drew
        have FC : Hid (Blk (((w3.alloc (.cells #[.int .i64 0, .int .i64 0] 32)).alloc (.cells #[] 32)).drew) w3.heap.size 32 #[.int .i64 0, .int .i64 0]) := ((Blk.new w3 32 #[.int .i64 0, .int .i64 0]).alloc _).drew
        clear oa ob oc hsr
        go_wp2
        go_region_held3 (fun w' => w'.cell? ⟨w1.heap.size, 0, none⟩ = some (.slice An i cn) ∧ w'.cell? ⟨w1.heap.size, 1, none⟩ = some (.slice Af lf cf))
          (first
            | exact ⟨k0, k1⟩
            | exact ⟨hm0, hm1⟩
            | exact ⟨hn0, hn1⟩
            | (go_split_ands; refine ⟨by go_keep, by go_keep⟩)
            | (go_split_ands; refine ⟨?_, ?_⟩ <;> (rw [hg1.cell_far _ (by simp <;> omega) (by simp [Value.ownBlock]; omega)]; assumption)))
          ((first
            | (refine step_append_rdG _ (by rfl) _ _ _ (by rfl) w3.heap.size 32 i0 _ 2 16 Try.underlying23 hi0 hz0 hz1 hz2 rfl (by omega) (.slice (some ⟨w3.heap.size, 0, none⟩) 0 0) 0 [] (by rfl) OA.out 0 w1.heap.size An i cn (pvs ns) (by rfl) SA.out (pvs_one ns) (by unfold maxLen; omega) (by omega) (by simp <;> omega) ?_; intro v1 w5 ho1 hg1 hl1)
            | (refine step_append_rdG _ (by rfl) _ _ _ (by rfl) w3.heap.size 32 i0 _ 2 16 Try.underlying23 hi0 hz0 hz1 hz2 rfl (by omega) (.slice (some ⟨w3.heap.size, 0, none⟩) 0 0) 0 [] (by rfl) OB.out 0 w1.heap.size An i cn (pvs ns) (by rfl) SB.out (pvs_one ns) (by unfold maxLen; omega) (by omega) (by simp <;> omega) ?_; intro v1 w5 ho1 hg1 hl1)
            | (refine step_append_rdG _ (by rfl) _ _ _ (by rfl) w3.heap.size 32 i0 _ 2 16 Try.underlying23 hi0 hz0 hz1 hz2 rfl (by omega) (.slice (some ⟨w3.heap.size + 1, 0, none⟩) 0 0) 0 [] (by rfl) OC.out 0 w1.heap.size An i cn (pvs ns) (by rfl) SC.out (pvs_one ns) (by unfold maxLen; omega) (by omega) (by simp <;> omega) ?_; intro v1 w5 ho1 hg1 hl1)
            | (refine step_append_rdG _ (by rfl) _ _ _ (by rfl) w3.heap.size 32 i0 _ 2 16 Try.underlying23 hi0 hz0 hz1 hz2 rfl (by omega) v1 (0 + i) ([] ++ pvs ns) (by rfl) (ho1.alloc _) _ _ _ 1 1 [.int .i64 0, .int .i64 0] (by rfl) (Rd.of_blk (Blk.new w5 32 #[.int .i64 0, .int .i64 0]) rfl) (by intro u hu; simp at hu; rcases hu with rfl | rfl <;> rfl) (by unfold maxLen; omega) (by omega) (by have := hg1.size; simp at this ⊢ <;> omega) ?_
               intro v2 w6 ho2 hg2 hl2
               rw [Nat.zero_add, List.nil_append] at ho2
               obtain ⟨A2, c2, rfl, _, _⟩ := own_cap ho2
               have HB6 := Lib.hid (show Below w3.heap.size w3 w6 from ((up_alloc ((up_drew (up_alloc (Below.refl _ w3) (.cells #[] 32))).grown hg1 (by simp <;> omega) (fun j hj => by simp [Value.ownBlock] at hj; omega)) (.cells #[.int .i64 0, .int .i64 0] 32)).grown hg2 (by have := hg1.size; simp at this ⊢ <;> omega) (fun j hj => by have := (ho1.lt j hj).1; omega)))
               have HW6 := Lib.hid (HC3.out.below HB6.out)
               have hm0 := HW6.out.k0
               have hm1 := HW6.out.k1
               have HX := Lib.hid (ValidProcessI_any w3.heap.size w6.heap.size (i + 1) c2 A2 (ns ++ [(0, 0)]) 0 w1.heap.size lf cf Af fs w6 (by rw [pvs_append]; exact Rd.of_own ho2) (Nat.le_refl _) (by omega) HW6.out.prs.flows (Nat.le_of_lt HW6.out.lt) (by omega)))
            | (refine step_append_rdG _ (by rfl) _ _ _ (by rfl) w3.heap.size 32 i0 _ 2 16 Try.underlying23 hi0 hz0 hz1 hz2 rfl (by omega) v1 (0 + i) ([] ++ pvs ns) (by rfl) ho1 _ _ _ 1 1 [.int .i64 0, .int .i64 0] (by rfl) (Rd.of_blk (FB.out.grown hg1 (by simp [Value.ownBlock])) rfl) (by intro u hu; simp at hu; rcases hu with rfl | rfl <;> rfl) (by unfold maxLen; omega) (by omega) (by have := hg1.size; simp at this ⊢ <;> omega) ?_
               intro v2 w6 ho2 hg2 hl2
               rw [Nat.zero_add, List.nil_append] at ho2
               obtain ⟨A2, c2, rfl, _, _⟩ := own_cap ho2
               have HB6 := Lib.hid (show Below w3.heap.size w3 w6 from (((up_drew (up_alloc (up_alloc (Below.refl _ w3) (.cells #[] 32)) (.cells #[.int .i64 0, .int .i64 0] 32))).grown hg1 (by simp <;> omega) (fun j hj => by simp [Value.ownBlock] at hj; omega)).grown hg2 (by have := hg1.size; simp at this ⊢ <;> omega) (fun j hj => by have := (ho1.lt j hj).1; omega)))
               have HW6 := Lib.hid (HC3.out.below HB6.out)
               have hm0 := HW6.out.k0
               have hm1 := HW6.out.k1
               have HX := Lib.hid (ValidProcessI_any w3.heap.size w6.heap.size (i + 1) c2 A2 (ns ++ [(0, 0)]) 0 w1.heap.size lf cf Af fs w6 (by rw [pvs_append]; exact Rd.of_own ho2) (Nat.le_refl _) (by omega) HW6.out.prs.flows (Nat.le_of_lt HW6.out.lt) (by omega)))
            | (refine step_append_rdG _ (by rfl) _ _ _ (by rfl) w3.heap.size 32 i0 _ 2 16 Try.underlying23 hi0 hz0 hz1 hz2 rfl (by omega) v1 (0 + i) ([] ++ pvs ns) (by rfl) ho1 _ _ _ 1 1 [.int .i64 0, .int .i64 0] (by rfl) (Rd.of_blk (FC.out.grown hg1 (by simp [Value.ownBlock])) rfl) (by intro u hu; simp at hu; rcases hu with rfl | rfl <;> rfl) (by unfold maxLen; omega) (by omega) (by have := hg1.size; simp at this ⊢ <;> omega) ?_
               intro v2 w6 ho2 hg2 hl2
               rw [Nat.zero_add, List.nil_append] at ho2
               obtain ⟨A2, c2, rfl, _, _⟩ := own_cap ho2
               have HB6 := Lib.hid (show Below w3.heap.size w3 w6 from (((up_drew (up_alloc (up_alloc (Below.refl _ w3) (.cells #[.int .i64 0, .int .i64 0] 32)) (.cells #[] 32))).grown hg1 (by simp <;> omega) (fun j hj => by simp [Value.ownBlock] at hj; omega)).grown hg2 (by have := hg1.size; simp at this ⊢ <;> omega) (fun j hj => by have := (ho1.lt j hj).1; omega)))
               have HW6 := Lib.hid (HC3.out.below HB6.out)
               have hm0 := HW6.out.k0
               have hm1 := HW6.out.k1
               have HX := Lib.hid (ValidProcessI_any w3.heap.size w6.heap.size (i + 1) c2 A2 (ns ++ [(0, 0)]) 0 w1.heap.size lf cf Af fs w6 (by rw [pvs_append]; exact Rd.of_own ho2) (Nat.le_refl _) (by omega) HW6.out.prs.flows (Nat.le_of_lt HW6.out.lt) (by omega)))
            | (go_at_call 16; (with_reducible refine HX.out.mono ?_); rintro e w7 ⟨rfl, hb7⟩; rw [HV2.out]; have hn0 := (hb7.cell (p := ⟨w1.heap.size, 0, none⟩) HW6.out.lt).trans hm0; have hn1 := (hb7.cell (p := ⟨w1.heap.size, 1, none⟩) HW6.out.lt).trans hm1; have HB7 := Lib.hid (up (up HB3.out HB6.out) hb7); clear hb7)))
        all_goals
          go_wp2
          go_ret
          exact ⟨rfl, HB7.out⟩
end Go.Proofs.Ythlcbdjjegageaa
