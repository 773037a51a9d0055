/- The program's snapshots: the iterator over entries, and Snap.with. -/
import Derived.RangeFuncNested
import Derived.RangeFuncBound
import Derived.RangeFuncCalls
import Derived.RangeFuncLeaves
import Derived.Shelf.Abstract
import Derived.Shelf.RegionOpen
import Derived.WalkKit
import Derived.OwnWalkIn
import Derived.TacticsInMore
import Derived.LoopNIn
import Derived.LoopIn
import Derived.Test.YthoccppfedmcjaaSnapMath
import Derived.Test.YthoccppfedmcjaaExEntry
set_option linter.unusedSimpArgs false
set_option linter.unusedVariables false
namespace Go.Proofs.Ythoccppfedmcjaa
open Go.RowKit Go.Shelf
attribute [local go_sem] Oper.semAt_some

/-- Entries with operations in their range. -/
abbrev OkE := { p : En // 0 ≤ p.2 ∧ p.2 ≤ 99 }
def encE (x : OkE) : Array Value := #[.agg #[.int .i64 x.1.1, .int .i64 x.1.2]]
theorem up_alloc' {w : World} {n : Nat} (h : n ≤ w.heap.size) (o : Obj) : Below n w (w.alloc o) := (Below.refl n w).alloc h o
theorem okE_of : ∀ {ps : List En}, (∀ p ∈ ps, 0 ≤ p.2 ∧ p.2 ≤ 99) → ∃ qs : List OkE, qs.map Subtype.val = ps
  | [], _ => ⟨[], rfl⟩
  | p :: ps, h => by
    obtain ⟨qs, hq⟩ := okE_of (ps := ps) (fun q hq => h q (List.mem_cons_of_mem _ hq))
    exact ⟨⟨p, h p (List.mem_cons_self ..)⟩ :: qs, by rw [List.map_cons, hq]⟩
/-- The term of the last entry, or what stood ahead of all. -/
def lastT (T : Int) (ps : List En) : Int := (ps.getLast?.map Prod.fst).getD T
theorem lastT_snoc (T : Int) (ps : List En) (p : En) : lastT T (ps ++ [p]) = p.1 := by simp [lastT]
theorem lastT_take {T : Int} {ps : List En} {k : Nat} (hk : k ≤ ps.length) : lastT T (ps.take k) = if k = 0 then T else termOf ps k := by
  rcases Nat.eq_zero_or_pos k with rfl | h
  · simp [lastT]
  · obtain ⟨j, rfl⟩ : ∃ j, k = j + 1 := ⟨k - 1, by omega⟩
    have hg := List.getElem?_eq_getElem (show j < ps.length by omega)
    rw [if_neg (by omega), take_snoc hg, lastT_snoc, termOf_get hg]
set_option maxRecDepth 100000 in
set_option maxHeartbeats 2000000 in
theorem valuesE1 (n : Nat) (hn : 1 ≤ n) (l Bs n₀ len cap : Nat) (A : Option Addr) (qs : List OkE) (hlen : len ≤ 1048576) (J Jx : List OkE → World → Prop)
    (hY : ∀ pre x W, J pre W → pre.length < len → YieldAt Fence.wide (n - 1) Try.prog l (encE x) W fun e W' =>
      (e = .returned (.bool true) ∧ J (pre ++ [x]) W' ∧ Below n₀ W W') ∨ (e = .returned (.bool false) ∧ Jx (pre ++ [x]) W'))
    (W : World) (hJ : AbidesFrom W.heap.size J) (hn₀ : n₀ ≤ W.heap.size) (hBs : W.cell? ⟨Bs, 0, none⟩ = some (.slice A len cap)) (hr : Rd W 0 n₀ 2 A len (pvs (qs.map Subtype.val))) (h0 : J [] W) :
    CallsIn Fence.wide n Try.prog 44 #[.func (.yield l) #[] #[], .pointer (some ⟨Bs, 0, none⟩)] W fun e W' => (∃ v, e = .returned v) ∧
      ((∃ ys, ys = qs ∧ J ys W') ∨ (∃ pre, pre <+: qs ∧ Jx pre W')) := by
  have HL := Lib.hid (show qs.length = len by rw [← List.length_map (f := Subtype.val)]; exact hr.len2)
  have HR := Lib.hid hr
  have HJ0 := Lib.hid h0
  have HJ := Lib.hid hJ
  clear hr h0 hJ
  refine callsIn_of_wp Try.func44 rfl trivial ?_ rfl
  simp only [Try.ntmps44, List.size_toArray, List.length_cons, List.length_nil, Nat.reduceAdd, Nat.reduceSub, Array.replicate_succ, Array.replicate_zero, List.push_toArray, List.append_toArray, List.nil_append, List.cons_append]
  gi_wp2
  gi_loopw [7] (fun i wr => ∃ k : Nat, k ≤ len ∧ i = .int .i64 k ∧ Hid (J (qs.take k) wr) ∧ Hid (Below n₀ W wr))
    (fun i _ => len - (intOf i).toNat)
  case atStart => exact ⟨0, Nat.zero_le _, rfl, HJ0.out, Below.refl _ _⟩
  case round =>
    obtain ⟨k, hk, rfl, hJs, hnx⟩ := hrel
    by_cases hlt : k < len
    · obtain ⟨b, off, x, y, hA, hbl, _, hg, hc0, hc1⟩ := (HR.out.keep hnx.out (Nat.le_refl _)).pair hlt
      subst hA
      have hk0 : k < qs.length := by rw [HL.out]; exact hlt
      have hq := List.getElem?_eq_getElem hk0
      obtain ⟨z, hz⟩ : ∃ z, qs[k] = z := ⟨_, rfl⟩
      rw [hz] at hq
      have hv : z.1 = (x, y) := by
        rw [List.getElem?_map, hq] at hg
        exact Option.some.inj hg
      have HT := Lib.hid (take_snoc hq)
      have hkl : (qs.take k).length < len := by rw [List.length_take]; omega
      have hzs := hnx.out.size
      have hJ2 : J (qs.take k) (wr.alloc (.cells #[.int .i64 x, .int .i64 y] 31)) := HJ.out _ _ _ none hJs.out (World.grownBy_alloc wr _ none) (fun r e => by cases e)
      have HB2 := Lib.hid (hnx.out.trans (up_alloc' (show n₀ ≤ wr.heap.size by omega) (.cells #[.int .i64 x, .int .i64 y] 31)))
      obtain ⟨fn, tmps, assign, body, hy, hR⟩ := hY (qs.take k) z _ hJ2 hkl
      clear hJ2 hzs
      have hz1 : z.1.1 = x := by rw [hv]
      have hz2 : z.1.2 = y := by rw [hv]
      simp only [encE, hz1, hz2] at hy
      have hk1 : (k : Int) < (len : Int) := by omega
      have hkk : (0 : Int) ≤ (k : Int) := by omega
      clear hg hq hz hv hz1 hz2 hkl
      gi_wp2
      refine hR.mono ?_
      rintro e W3 (⟨rfl, hJ3, hk3⟩ | ⟨rfl, hJx3⟩)
      · have HJ3 := Lib.hid hJ3
        have HB3 := Lib.hid (HB2.out.trans hk3)
        clear hJ3 hk3
        gi_wp2
        go_roundw
        case rel => exact ⟨k + 1, by omega, by simp, by rw [HT.out]; exact HJ3.out, HB3.out⟩
        case measure => simp [intOf]; omega
      · have HJ3 := Lib.hid hJx3
        clear hJx3
        gi_wp2
        refine bodyPost_ret (results_none rfl _ _ _) rfl ?_
        exact ⟨⟨_, rfl⟩, .inr ⟨_, List.take_prefix (k + 1) qs, by rw [HT.out]; exact HJ3.out⟩⟩
    · obtain rfl : k = len := by omega
      have HT := Lib.hid (show qs.take k = qs from List.take_of_length_le (by rw [HL.out]; exact Nat.le_refl _))
      gi_wp2
      go_end0
      exact ⟨⟨_, rfl⟩, .inl ⟨_, rfl, by rw [← HT.out]; exact hJs.out⟩⟩
/-- slices.Values(s) hands back a value that gives the entries, one after the other. -/
theorem valuesE_stops (n : Nat) (hn : 1 ≤ n) (Bs n₀ : Nat) (A : Option Addr) (len cap : Nat) (qs : List OkE) (hlen : len ≤ 1048576) (w : World) (hBs : Bs < w.heap.size) (hn₀ : n₀ ≤ w.heap.size)
    (hc : w.cell? ⟨Bs, 0, none⟩ = some (.slice A len cap)) (hr : Rd w 0 n₀ 2 A len (pvs (qs.map Subtype.val))) :
    SeqStopsK Fence.wide n Try.prog 44 #[.pointer (some ⟨Bs, 0, none⟩)] encE (Below n₀) (fun ys => ys = qs) (fun pre => pre <+: qs) len w := fun l J Jx W hW hJ _ hY h0 =>
  valuesE1 n hn l Bs n₀ len cap A qs hlen J Jx hY W hJ (Nat.le_trans hn₀ hW.size) ((hW.cell (p := ⟨Bs, 0, none⟩) hBs).trans hc) (hr.keep (hW.mono hn₀) (Nat.le_refl _)) h0
set_option maxHeartbeats 1000000 in
theorem ValuesE_any (a : Option Addr) (len cap : Nat) (w : World) :
    Calls Try.prog 30 #[.slice a len cap] w fun e w' => e = .returned (.func (.func 44) #[] #[.pointer (some ⟨w.heap.size, 0, none⟩)]) ∧ w' = w.alloc (.cells #[.slice a len cap] 23) := by
  go_enter Try.func30, Try.ntmps30
  go_wp2
  go_ret
  exact ⟨rfl, rfl⟩
theorem blk_own {β : Type} (B : Nat) (t : TypeId) (f : β → Array Value) : Own (fun s W => Blk W B t (f s)) := fun s X Y row h hg hr => h.grown hg (fun e => by
  obtain ⟨o, ho, hc⟩ := hr B e.symm
  rw [show X.heap[B]? = _ from h] at ho; cases ho; cases hc)
/-- The snapshot between two rounds. -/
def snAt (N T S : Int) (pre : List OkE) : Array Value := #[.int .i64 (N + pre.length), .int .i64 (lastT T (pre.map Subtype.val)), .int .i64 (stAfter S (pre.map Subtype.val)), .slice none 0 0]
set_option maxRecDepth 100000 in
set_option maxHeartbeats 2000000 in
theorem with_any (N T S : Int) (An : Option Addr) (nn cn : Nat) (Bs : Nat) (A : Option Addr) (len cap : Nat) (ps : List En) (w : World) (hN : 0 ≤ N ∧ N ≤ 999) (hS : 0 ≤ S ∧ S ≤ 10006) (hok : ∀ p ∈ ps, 0 ≤ p.2 ∧ p.2 ≤ 99) (hlen : len ≤ 16)
    (hBs : Bs < w.heap.size) (hc : w.cell? ⟨Bs, 0, none⟩ = some (.slice A len cap)) (hr : Rd w 0 w.heap.size 2 A len (pvs ps)) :
    Calls Try.prog 29 #[.agg #[.int .i64 N, .int .i64 T, .int .i64 S, .slice An nn cn], .func (.func 44) #[] #[.pointer (some ⟨Bs, 0, none⟩)]] w
      fun e w' => e = .returned (.agg #[.int .i64 (N + len), .int .i64 (lastT T ps), .int .i64 (stAfter S ps), .slice none 0 0]) ∧ Below w.heap.size w w' := by
  obtain ⟨qs, rfl⟩ := okE_of hok
  have HL := Lib.hid (show qs.length = len by rw [← List.length_map (f := Subtype.val)]; exact hr.len2)
  have HSS := Lib.hid (fun ps => stAfter_in hS ps)
  obtain ⟨N0, N1⟩ := hN
  clear hok hS
  refine (callsIn_wide (n := 3)).1 ?_
  refine callsIn_of_wp_marks Try.func29 rfl trivial ?_ rfl
  simp only [Try.ntmps29, List.size_toArray, List.length_cons, List.length_nil, Nat.reduceAdd, Nat.reduceSub, Array.replicate_succ, Array.replicate_zero, List.push_toArray, List.append_toArray, List.nil_append, List.cons_append]
  gi_wp2
  have bS := (Blk.new w 25 #[.int .i64 N, .int .i64 T, .int .i64 S, .slice none 0 0]).alloc (.cells #[.int .i64 0, .int .i64 0, .int .i64 0, .slice none 0 0] 25)
  have bR : Blk ((w.alloc (.cells #[.int .i64 N, .int .i64 T, .int .i64 S, .slice none 0 0] 25)).alloc (.cells #[.int .i64 0, .int .i64 0, .int .i64 0, .slice none 0 0] 25)) (w.heap.size + 1) 25 #[.int .i64 0, .int .i64 0, .int .i64 0, .slice none 0 0] := by
    have := Blk.new (w.alloc (.cells #[.int .i64 N, .int .i64 T, .int .i64 S, .slice none 0 0] 25)) 25 #[.int .i64 0, .int .i64 0, .int .i64 0, .slice none 0 0]
    rwa [World.size_alloc] at this
  have hB0 := up_alloc (up_alloc (Below.refl w.heap.size w) (.cells #[.int .i64 N, .int .i64 T, .int .i64 S, .slice none 0 0] 25)) (.cells #[.int .i64 0, .int .i64 0, .int .i64 0, .slice none 0 0] 25)
  have hsz : ((w.alloc (.cells #[.int .i64 N, .int .i64 T, .int .i64 S, .slice none 0 0] 25)).alloc (.cells #[.int .i64 0, .int .i64 0, .int .i64 0, .slice none 0 0] 25)).heap.size = w.heap.size + 1 + 1 := by simp
  obtain ⟨W0, hW0⟩ : ∃ W0, (w.alloc (.cells #[.int .i64 N, .int .i64 T, .int .i64 S, .slice none 0 0] 25)).alloc (.cells #[.int .i64 0, .int .i64 0, .int .i64 0, .slice none 0 0] 25) = W0 := ⟨_, rfl⟩
  rw [hW0] at bS bR hB0 hsz ⊢
  clear hW0
  refine wpIn_rangeFunc_ownH rfl (by omega) (gf := 44) (lb := #[.pointer (some ⟨Bs, 0, none⟩)]) rfl trivial (enters_of Try.func44 (by kernel_rfl) rfl)
    (valuesE_stops (3 - 1) (by omega) Bs w.heap.size A len cap qs (by omega) W0 (by omega) (by omega) ((hB0.cell (p := ⟨Bs, 0, none⟩) hBs).trans hc) (hr.keep hB0 (Nat.le_refl _))) belowK_t (belowK_b (by omega)) (Below.refl _ _) (fun _ => rfl)
    (fun pre W => (Blk W w.heap.size 25 (snAt N T S pre) ∧ Blk W (w.heap.size + 1) 25 #[.int .i64 0, .int .i64 0, .int .i64 0, .slice none 0 0]) ∧ Below w.heap.size w W)
    (fun _ _ _ => False)
    (OwnFrom.and (OwnFrom.and (Own.from (blk_own _ _ _) _) (Own.from (blk_own _ _ (fun _ => #[.int .i64 0, .int .i64 0, .int .i64 0, .slice none 0 0])) _)) (ownFrom_below (Nat.le_refl _) (by omega)))
    (fun _ _ _ _ _ hs _ _ => hs)
    ⟨⟨by simpa [snAt, lastT, stAfter] using bS, bR⟩, hB0⟩
    (fun x a' W => ∃ Bx, w.heap.size + 1 < Bx ∧ Blk W Bx 31 #[.int .i64 x.1.1, .int .i64 x.1.2] ∧ a' = { tmps := #[.agg #[.int .i64 N, .int .i64 T, .int .i64 S, .slice An nn cn], .func (.func 44) #[] #[.pointer (some ⟨Bs, 0, none⟩)], .pointer (some ⟨w.heap.size, 0, none⟩), undef, .pointer (some ⟨w.heap.size + 1, 0, none⟩), .pointer (some ⟨Bx, 0, none⟩), .pointer (some ⟨w.heap.size, 3, none⟩), .func (.func 44) #[] #[.pointer (some ⟨Bs, 0, none⟩)], .agg #[.int .i64 x.1.1, .int .i64 x.1.2], undef, undef, undef, undef, undef, undef, undef, undef, undef, undef, undef, undef, undef, undef, undef, undef], defers := [] })
    (fun x a' _ X Y row hs hg hr => by obtain ⟨Bx, h1, h2, h3⟩ := hs; exact ⟨Bx, h1, blk_own Bx 31 (fun (_ : Unit) => #[.int .i64 x.1.1, .int .i64 x.1.2]) () X Y row h2 hg (fun r e => (hr r e).2), h3⟩)
    ?assign ?body ?done ?stop
  case assign =>
    rintro l pre x W K ⟨⟨b1, b2⟩, hB1⟩ hK
    have hz := b2.lt
    unfold encE
    gi_wp2
    exact hK _ _ ((KeepsOthers.alloc _ _).from _) ((Below.refl _ W).alloc hB1.size _) ⟨⟨b1.alloc _, b2.alloc _⟩, hB1.alloc hB1.size _⟩ ⟨W.heap.size, hz, Blk.new W 31 _, rfl⟩
  case body =>
    rintro l pre x a' W hl hrl ⟨⟨b1, b2⟩, hB1⟩ ⟨Bx, hBx, bX, rfl⟩ hlt
    obtain ⟨⟨x0, y0⟩, y1, y2⟩ := x
    dsimp only at bX y1 y2 ⊢
    obtain ⟨s1, s2⟩ := HSS.out (pre.map Subtype.val)
    have hpl : pre.length < 16 := by omega
    have HI := Lib.hid (show snAt N T S (pre ++ [⟨(x0, y0), y1, y2⟩]) = #[.int .i64 (N + pre.length + 1), .int .i64 x0, .int .i64 ((31 * stAfter S (pre.map Subtype.val) + y0) % 10007), .slice none 0 0] by
      simp only [snAt, List.map_append, List.map_cons, List.map_nil, lastT_snoc, stAfter_snoc, List.length_append, List.length_cons, List.length_nil]
      rw [show N + ((pre.length + (0 + 1) : Nat) : Int) = N + (pre.length : Int) + 1 by omega])
    generalize hk : (pre.length : Int) = k at *
    have hk0 : 0 ≤ k := by omega
    have hk1 : k ≤ 16 := by omega
    unfold snAt at b1
    rw [hk] at b1
    generalize lastT T (pre.map Subtype.val) = t at *
    generalize stAfter S (pre.map Subtype.val) = s at *
    have hw0 : IntKind.i64.wrap (N + k + 1) = N + k + 1 := IntWalk.i64_in _ (by omega)
    have hw1 : IntKind.i64.wrap (31 * s) = 31 * s := IntWalk.i64_in _ (by omega)
    have hw2 : IntKind.i64.wrap (31 * s + y0) = 31 * s + y0 := IntWalk.i64_in _ (by omega)
    have htm : (31 * s + y0).tmod 10007 = (31 * s + y0) % 10007 := Int.tmod_eq_emod_of_nonneg (by omega)
    have hne : Bx ≠ w.heap.size := by omega
    have c0 := b1.cell 0
    have c1 := b1.cell 1
    have c2' := b1.cell 2
    have f0 := b1.soft 0
    have f1' := b1.soft 1
    have f2' := b1.soft 2
    have xx0 := bX.cell 0
    have xx1 := bX.cell 1
    have b3 := b1.put 0 (.int .i64 (N + k + 1))
    have bX3 := bX.far (p := ⟨w.heap.size, 0, none⟩) hne (.int .i64 (N + k + 1))
    have f1 := b3.soft 1
    have x3 := bX3.cell 0
    have b4 := b3.put 1 (.int .i64 x0)
    have bX4 := bX3.far (p := ⟨w.heap.size, 1, none⟩) hne (.int .i64 x0)
    have c2 := b4.cell 2
    have f2 := b4.soft 2
    have x4 := bX4.cell 1
    have b5 := b4.put 2 (.int .i64 ((31 * s + y0) % 10007))
    simp at c0 c1 c2' c2 x3 x4 xx0 xx1 b5
    gi_wp2
    have hlt0 : w.heap.size ≤ w.heap.size := Nat.le_refl _
    refine ⟨(((KeepsOthers.setCell _ _ _).trans (KeepsOthers.setCell _ _ _)).trans (KeepsOthers.setCell _ _ _)).from _, ?_, ⟨⟨?_, ?_⟩, ?_⟩⟩
    · exact (((Below.refl w.heap.size W).setCell (p := ⟨w.heap.size, 0, none⟩) hlt0 _).setCell (p := ⟨w.heap.size, 1, none⟩) hlt0 _).setCell (p := ⟨w.heap.size, 2, none⟩) hlt0 _
    · rw [HI.out]; exact b5
    · exact ((b2.far (p := ⟨w.heap.size, 0, none⟩) (by show w.heap.size + 1 ≠ w.heap.size; omega) _).far (p := ⟨w.heap.size, 1, none⟩) (by show w.heap.size + 1 ≠ w.heap.size; omega) _).far (p := ⟨w.heap.size, 2, none⟩) (by show w.heap.size + 1 ≠ w.heap.size; omega) _
    · exact ((hB1.setCell (p := ⟨w.heap.size, 0, none⟩) hlt0 _).setCell (p := ⟨w.heap.size, 1, none⟩) hlt0 _).setCell (p := ⟨w.heap.size, 2, none⟩) hlt0 _
  case done =>
    rintro D xs W hD rfl ⟨⟨b1, b2⟩, hB1⟩ hK
    unfold snAt at b1
    rw [HL.out] at b1
    obtain ⟨t, ht⟩ : ∃ t, lastT T (xs.map Subtype.val) = t := ⟨_, rfl⟩
    obtain ⟨s, hs⟩ : ∃ s, stAfter S (xs.map Subtype.val) = s := ⟨_, rfl⟩
    rw [ht, hs] at b1
    have HTT := Lib.hid ht
    have HST := Lib.hid hs
    clear ht hs
    have c0 := b1.cell 0
    have c1 := b1.cell 1
    have c2 := b1.cell 2
    have c3 := b1.cell 3
    have q0 := b2.cell 0
    have q1 := b2.cell 1
    have q2 := b2.cell 2
    have q3 := b2.cell 3
    have f0 := b2.soft 0
    have f1 := b2.soft 1
    have f2 := b2.soft 2
    have f3 := b2.soft 3
    simp at c0 c1 c2 c3 q0 q1 q2 q3
    have b5 := (((b2.put 0 (.int .i64 (N + len))).put 1 (.int .i64 t)).put 2 (.int .i64 s)).put 3 (.slice none 0 0)
    simp at b5
    gi_wp2
    have hlt0 : w.heap.size ≤ w.heap.size + 1 := Nat.le_succ _
    have hK' := (((((KeepsOthers.setCell W ⟨w.heap.size + 1, 0, none⟩ (.int .i64 (N + len))).trans (KeepsOthers.setCell _ ⟨w.heap.size + 1, 1, none⟩ (.int .i64 t))).trans (KeepsOthers.setCell _ ⟨w.heap.size + 1, 2, none⟩ (.int .i64 s))).trans (KeepsOthers.setCell _ ⟨w.heap.size + 1, 3, none⟩ (.slice none 0 0)))).same D _ hK rfl
    have hB5 := (((hB1.setCell (p := ⟨w.heap.size + 1, 0, none⟩) hlt0 (.int .i64 (N + len))).setCell (p := ⟨w.heap.size + 1, 1, none⟩) hlt0 (.int .i64 t)).setCell (p := ⟨w.heap.size + 1, 2, none⟩) hlt0 (.int .i64 s)).setCell (p := ⟨w.heap.size + 1, 3, none⟩) hlt0 (.slice none 0 0)
    refine ⟨by simp, .inl ⟨_, _, rfl, run_takeDeferred hK', ?_⟩⟩
    have b6 := b5.grown (grownBy_putObj' _ D (.deferred none)) (fun e => by
      injection e with e
      subst e
      rw [show _ = some _ from b5] at hK'
      cases hK')
    have z0 := b6.cell 0
    have z1 := b6.cell 1
    have z2 := b6.cell 2
    have z3 := b6.cell 3
    simp at z0 z1 z2 z3
    refine ⟨.agg #[.int .i64 (N + len), .int .i64 t, .int .i64 s, .slice none 0 0], ?_, by rw [HTT.out, HST.out], hB5.trans (belowK_b (w := w) (Nat.le_refl _) _ D _ _ (by omega) hK' rfl rfl)⟩
    simp [results, Try.results29, go_sem, z0, z1, z2, z3]
  case stop =>
    rintro D c pre W _ _ h _
    exact h.elim
end Go.Proofs.Ythoccppfedmcjaa
