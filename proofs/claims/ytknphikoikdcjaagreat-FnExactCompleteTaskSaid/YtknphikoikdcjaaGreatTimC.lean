/- Merged: TimS, TimX, TimY. -/
import Derived.Test.YtknphikoikdcjaaGreatTimA
import Derived.Test.YtknphikoikdcjaaGreatRunAA
import Derived.Sort.Grow
import Derived.Shelf.SlSortCmp.NoneTotal
import Derived.Shelf.SlGeneric
import Derived.Ground.SlsfProg
import Derived.Ground.NamesProg
import Derived.Shelf.Lay
/- The program's compareTimers: the world behind it. -/
set_option linter.unusedSimpArgs false
set_option linter.unusedVariables false
namespace Go.Proofs.YtknphikoikdcjaaGreat
open Go.RowKit

set_option maxHeartbeats 1600000 in
theorem compareTimers_grow (x y u v : Int) (w : World) :
    Calls Tryz.prog 135 #[.agg #[.int .i64 x, .int .i64 y], .agg #[.int .i64 u, .int .i64 v]] w fun e w' => e = .returned (.int .i64 (cmpT (x, y) (u, v))) ∧ ∃ q os', w' = Sort.grow (w.drewN q) os' := by
  have hb1 := up_alloc (up_alloc (Below.refl _ w) (.cells #[.int .i64 x, .int .i64 y] 96)) (.cells #[.int .i64 u, .int .i64 v] 96)
  have hp1 := (Blk.new w 96 #[.int .i64 x, .int .i64 y]).alloc (.cells #[.int .i64 u, .int .i64 v] 96)
  have hq1 : Blk ((w.alloc (.cells #[.int .i64 x, .int .i64 y] 96)).alloc (.cells #[.int .i64 u, .int .i64 v] 96)) (w.heap.size + 1) 96 #[.int .i64 u, .int .i64 v] := by
    simpa using Blk.new (w.alloc (.cells #[.int .i64 x, .int .i64 y] 96)) 96 #[.int .i64 u, .int .i64 v]
  have hpl : w.heap.size < ((w.alloc (.cells #[.int .i64 x, .int .i64 y] 96)).alloc (.cells #[.int .i64 u, .int .i64 v] 96)).heap.size := by simp; omega
  have hql : w.heap.size + 1 < ((w.alloc (.cells #[.int .i64 x, .int .i64 y] 96)).alloc (.cells #[.int .i64 u, .int .i64 v] 96)).heap.size := by simp
  generalize hw2 : (w.alloc (.cells #[.int .i64 x, .int .i64 y] 96)).alloc (.cells #[.int .i64 u, .int .i64 v] 96) = w2 at *
  have HSW : Hid (∀ wx : World, Below w2.heap.size w2 wx → wx.cell? ⟨w.heap.size, 0, none⟩ = some (.int .i64 x) ∧ wx.cell? ⟨w.heap.size, 1, none⟩ = some (.int .i64 y) ∧ wx.cell? ⟨w.heap.size + 1, 0, none⟩ = some (.int .i64 u) ∧ wx.cell? ⟨w.heap.size + 1, 1, none⟩ = some (.int .i64 v)) := fun wx hbx => ⟨(hp1.below hbx hpl).cell 0, (hp1.below hbx hpl).cell 1, (hq1.below hbx hql).cell 0, (hq1.below hbx hql).cell 1⟩
  have HB := Lib.hid hb1
  have HW := Lib.hid hw2
  clear hb1 hp1 hq1 hpl hql hw2
  have HX := Lib.hid (show cmpT (x, y) (u, v) = firstNZ [cmpI y v, cmpI x u] from (firstNZ_two _ _).symm)
  generalize cmpT (x, y) (u, v) = r at *
  go_enter Tryz.func135, Tryz.ntmps135
  rw [HX.out]
  have hw2 := HW.out
  go_wp2_with (fail)
  subst hw2
  have HG1 := Lib.hid (show w.heap.size + 1 + 1 = ((w.alloc (.cells #[.int .i64 x, .int .i64 y] 96)).alloc (.cells #[.int .i64 u, .int .i64 v] 96)).heap.size by simp)
  have HG2 := Lib.hid (show w.heap.size + 1 + 1 = ((w.alloc (.cells #[.int .i64 x, .int .i64 y] 96)).alloc (.cells #[.int .i64 u, .int .i64 v] 96)).drew.heap.size by simp [World.drew])
  go_region_held3 (fun w' => w'.cell? ⟨w.heap.size, 0, none⟩ = some (.int .i64 x) ∧ w'.cell? ⟨w.heap.size, 1, none⟩ = some (.int .i64 y) ∧ w'.cell? ⟨w.heap.size + 1, 0, none⟩ = some (.int .i64 u) ∧ w'.cell? ⟨w.heap.size + 1, 1, none⟩ = some (.int .i64 v))
    (first | exact HSW.out _ (Below.refl _ _) | exact HSW.out _ (up_drew (Below.refl _ _)) | exact HSW.out _ (up_alloc (Below.refl _ _) _) | exact HSW.out _ (up_alloc (up_drew (Below.refl _ _)) _))
    ((first
      | (go_at_call 169; (with_reducible refine (Compare_any _ _ _).mono ?_); rintro e w' ⟨rfl, rfl⟩)
      | (go_at_call 168; (with_reducible refine (Or_drew (w.heap.size + 1 + 1) _ _ _ HG1.out).mono ?_); rintro e w' ⟨rfl, rfl⟩)
      | (go_at_call 168; (with_reducible refine (Or_two (w.heap.size + 1 + 1) _ _ _ HG2.out).mono ?_); rintro e w' ⟨rfl, rfl⟩)
      | (go_at_call 168; (with_reducible refine (Or_two (w.heap.size + 1 + 1) _ _ _ HG1.out).mono ?_); rintro e w' ⟨rfl, rfl⟩)))
  all_goals
    go_wp2
    go_ret
    refine ⟨rfl, ?_⟩
    exact ⟨1, #[.cells #[.int .i64 x, .int .i64 y] 96, .cells #[.int .i64 u, .int .i64 v] 96, .cells #[.int .i64 (cmpI y v), .int .i64 (cmpI x u)] 3], by simp only [Sort.alloc_eq_grow, Sort.grow_grow]; rfl⟩
end Go.Proofs.YtknphikoikdcjaaGreat


/- slices.SortFunc at the timers: a sorted permutation of them. -/
namespace Go.Proofs.YtknphikoikdcjaaGreat
open Go.RowKit Go.Shelf

/-- A timer's two cells. -/
def encT (t : Tm) : List Value := [.int .i64 t.1, .int .i64 t.2]
theorem ltOfT (a b : Tm) : ltOf cmpT a b = tlt a b := cmpT_lt a b
theorem swoT : Sort.SWO (ltOf cmpT) where
  irrefl x := by rw [ltOfT, tlt_not]; omega
  trans x y z h1 h2 := by rw [ltOfT, tlt_iff] at *; omega
  ntrans x y z h1 h2 := by rw [ltOfT, tlt_not] at *; omega
theorem pvs_getT : ∀ (us : List Tm) (j : Nat), j < us.length * 2 → (pvs us)[j]? = some ((encT (us.toArray[j / 2]!))[j % 2]!)
  | [], j, h => by simp at h
  | p :: ps, 0, _ => by simp [pvs, pv, encT]
  | p :: ps, 1, _ => by simp [pvs, pv, encT]
  | p :: ps, j + 2, h => by
    have ih := pvs_getT ps j (by simp at h; omega)
    rw [show (j + 2) / 2 = j / 2 + 1 by omega, show (j + 2) % 2 = j % 2 by omega]
    have e1 : (pvs (p :: ps))[j + 2]? = (pvs ps)[j]? := by simp [pvs, pv]
    have e2 : (p :: ps).toArray[j / 2 + 1]! = ps.toArray[j / 2]! := by simp
    rw [e1, e2, ih]
theorem flat_getT (us : List Tm) (j : Nat) (hj : j < us.length * 2) : some ((Sort.flatK encT 2 us.toArray)[j]!) = (pvs us)[j]? := by
  rw [pvs_getT us j hj, Sort.get_flatK _ _ _ _ (by simpa using hj)]
theorem holdsT {w : World} {base : Nat} {e : TypeId} {g n c : Nat} {ts : List Tm} (h : w.ownsRow base e 2 (.slice (some ⟨g, 0, none⟩) n c) n (pvs ts)) : Sort.HoldsK encT 2 w g 0 ts.toArray := by
  intro j hj
  have hj' : j < ts.length * 2 := by simpa using hj
  rcases h.2 with ⟨e0, _⟩ | ⟨g', cap', cur, e0, hb, hg, hn, hm, hs, ht⟩
  · cases e0
  injection e0 with e1 _ e3
  injection e1 with e1
  injection e1 with e1
  subst e1; subst e3
  have hl : (pvs ts).length = n * 2 := h.1
  rw [pvs_length] at hl
  refine ⟨?_, by simp [World.frozen?, hg]⟩
  have e1 : (cur.toList.take (n * 2))[j]? = (pvs ts)[j]? := by rw [ht]
  rw [← flat_getT ts j hj', List.getElem?_take, if_pos (by omega), Array.getElem?_toList] at e1
  simp only [World.cell?, hg, Nat.zero_add]
  simp only [Option.isSome_none, Bool.false_eq_true, if_false]
  rw [e1]
  rfl
theorem own_sortT {w : World} {base : Nat} {e : TypeId} {g n c q : Nat} {ts us : List Tm} {os : Array Obj} (h : w.ownsRow base e 2 (.slice (some ⟨g, 0, none⟩) n c) n (pvs ts)) (hl : us.length = ts.length) :
    (sortWorldK encT 2 w g 0 q us.toArray os).ownsRow base e 2 (.slice (some ⟨g, 0, none⟩) n c) n (pvs us) ∧ w.grownBy (sortWorldK encT 2 w g 0 q us.toArray os) (some g) := by
  rcases h.2 with ⟨e0, _⟩ | ⟨g', cap', cur, e0, hb, hg, hn, hm, hs, ht⟩
  · cases e0
  injection e0 with e1 _ e3
  injection e1 with e1
  injection e1 with e1
  subst e1; subst e3
  have hl2 : (pvs ts).length = n * 2 := h.1
  rw [pvs_length] at hl2
  have hlt : g < w.heap.size := by
    rcases Nat.lt_or_ge g w.heap.size with h' | h'
    · exact h'
    · rw [Array.getElem?_eq_none h'] at hg; cases hg
  refine ⟨⟨by rw [pvs_length]; omega, .inr ⟨g, c, Sort.putCells id 0 (Sort.flatK encT 2 us.toArray) cur, rfl, hb, ?_, hn, hm, by simpa [Sort.putCells] using hs, ?_⟩⟩, ⟨rfl, rfl, rfl, ?_, ?_⟩⟩
  · simp only [sortWorldK, Sort.grow, Sort.putRowK, Sort.putRow, Sort.mapBlock, Sort.ahead]
    rw [Array.getElem?_append_left (by simpa using hlt), Array.getElem?_modify, if_pos rfl, hg]
    rfl
  · apply List.ext_getElem?
    intro j
    rw [List.getElem?_take, Array.getElem?_toList]
    by_cases hj : j < n * 2
    · have hjc : j < cur.size := by omega
      simp only [if_pos hj, Sort.putCells, Array.getElem?_mapIdx, Array.getElem?_eq_getElem hjc, Option.map_some]
      rw [if_pos ⟨Nat.zero_le _, by simp; omega⟩, Nat.sub_zero]
      exact flat_getT us j (by omega)
    · rw [if_neg hj, List.getElem?_eq_none (by rw [pvs_length]; omega)]
  · simp [sortWorldK, Sort.grow, Sort.putRowK, Sort.putRow, Sort.mapBlock, Sort.ahead]
  · intro k hk hne
    simp only [sortWorldK, Sort.grow, Sort.putRowK, Sort.putRow, Sort.mapBlock, Sort.ahead]
    rw [Array.getElem?_append_left (by simpa using hk), Array.getElem?_modify, if_neg (fun e => hne (by rw [e]))]
shelf_lay_g SlLaysF0.n14 Slsf 14 at Tryz 166 as sortTm
shelf_lay Lays.n125 Nm 125 at Tryz as lenTm
theorem isAggT (w : World) : (isAgg 96).run Tryz.prog w = .ok true w := by kernel_rfl
theorem sizeOfT (w : World) : (Go.sizeOf 96).run Tryz.prog w = .ok 2 w := by kernel_rfl
theorem cmpLaysT (g off size : Nat) (w : World) : CmpLays Tryz.prog 135 #[] encT 2 cmpT g off size w :=
  fun _ _ _ _ x y => compareTimers_grow x.1 x.2 y.1 y.2 _
set_option maxHeartbeats 1600000 in
/-- The timers sorted: the only sorted permutation of them. -/
theorem sortTimers_any (base g n c : Nat) (ts : List Tm) (w : World) (h : w.ownsRow base 96 2 (.slice (some ⟨g, 0, none⟩) n c) n (pvs ts)) (hn : n ≤ 1048576) :
    Calls Tryz.prog 134 #[.slice (some ⟨g, 0, none⟩) n c, .func (.func 135) #[] #[]] w fun e w' => e = .returned (.tuple #[]) ∧ ∃ us, us.Perm ts ∧ TSort us ∧ w'.ownsRow base 96 2 (.slice (some ⟨g, 0, none⟩) n c) n (pvs us) ∧ w.grownBy w' (some g) := by
  have eg : ∀ args w, (callFunc 135 args).run Tryz.prog w = .ok (.enter 135 args) w := enters_of Tryz.func135 (by kernel_rfl) rfl
  have hlen : ts.length = n := (Rd.of_own h).len2
  have hlt : g < w.heap.size := (h.lt g (by simp [Value.ownBlock])).2
  have hsz : ts.toArray.size = n := by simpa using hlen
  have hlim : Lib.bitLen n < 4611686018427387904 := Nat.lt_of_le_of_lt (Lib.bitLen_le n 62 (by omega) (by omega)) (by omega)
  have hcon := AnyQ.pdqsortCmpFunc_all sortTm 2 isAggT sizeOfT encT cmpT 135 #[] swoT g 0 c ts.toArray w eg (cmpLaysT g 0 _ w) ⟨fun _ => rfl, fun x v hv => by simp [encT] at hv; rcases hv with rfl | rfl <;> rfl, holdsT h, hlt⟩ (n + 1) 0 n (Lib.bitLen n) ts.toArray w (by omega) rfl (SWK.start (holdsT h)) (Nat.zero_le _) (by omega) (by omega) hlim (Or.inl rfl)
  change Calls Tryz.prog 166 _ _ _ at hcon
  rw [hsz] at hcon
  have hl : Calls Tryz.prog 167 #[.int .u64 (n : Int)] w fun e w' => e = .returned (.int .i64 (Lib.bitLen n : Nat)) ∧ w' = w := by
    have h := Any.bits_Len lenTm (n : Int) w (by omega) (by omega)
    change Calls Tryz.prog 167 _ _ _ at h
    rwa [Int.toNat_natCast] at h
  have hps := Sort.pdq_sorts (ltOf cmpT) swoT ts.toArray 0 ts.toArray.size (Lib.bitLen n) true true (Nat.zero_le _) (Nat.le_refl _) (Or.inl rfl)
  have hun := Sort.sorted_unique_holds swoT (fun x y h1 h2 => by rw [ltOfT] at h1 h2; exact tlt_anti h1 h2) ts.toArray _ hps.1 hps.2
  rw [hsz] at hun
  generalize Sort.pdq (ltOf cmpT) ts.toArray 0 n (Lib.bitLen n) true true = r at hcon hun
  have HUN := Lib.hid hun
  have HOWN := Lib.hid h
  have wr : IntKind.u64.wrap (n : Int) = n := by simp [IntKind.wrap, IntKind.bits, IntKind.signed]; omega
  clear hps hun h eg hsz
  have hp : (ts.mergeSort fun x y => !(ltOf cmpT) y x).Perm ts := List.mergeSort_perm _ _
  have hs : TSort (ts.mergeSort fun x y => !(ltOf cmpT) y x) := by
    have := List.pairwise_mergeSort (le := fun x y => !(ltOf cmpT) y x) (fun a b c h1 h2 => by simp only [ltOfT, Bool.not_eq_true'] at *; exact tlt_trans h1 h2) (fun a b => by
      simp only [ltOfT, Bool.or_eq_true, Bool.not_eq_true']
      by_cases h : tlt b a = false
      · exact .inl h
      · right
        rw [Bool.not_eq_false, tlt_iff] at h
        rw [tlt_not]; omega) ts
    exact this.imp fun h => by simpa [ltOfT] using h
  have HP := Lib.hid hp
  have HS := Lib.hid hs
  clear hp hs
  go_enter Tryz.func134, Tryz.ntmps134
  go_wp2_with (first | (go_at_call 167; refine hl.mono ?_; rintro e w' ⟨rfl, rfl⟩) | (go_at_call 166; refine hcon.mono ?_; rintro e w' ⟨rfl, q, os, rfl⟩))
  have HP2 := Lib.hid (show r.toList.Perm ts by rw [HUN.out]; exact HP.out)
  have HS2 := Lib.hid (show TSort r.toList by rw [HUN.out]; exact HS.out)
  obtain ⟨h1, h2⟩ := own_sortT (q := q) (os := os) HOWN.out (us := r.toList) HP2.out.length_eq
  have H1 := Lib.hid h1
  have H2 := Lib.hid h2
  clear h1 h2
  go_end0
  exact ⟨rfl, r.toList, HP2.out, HS2.out, H1.out, H2.out⟩
theorem sortNone_any (p : Option Addr) (c : Nat) (fv : Value) (w : World) :
    Calls Tryz.prog 134 #[.slice p 0 c, fv] w fun e w' => e = .returned (.tuple #[]) ∧ w' = w := by
  have hcon := fun lim W => AnyF.pdqsortCmpFunc_none sortTm p c lim fv W
  change ∀ lim W, Calls Tryz.prog 166 _ _ _ at hcon
  have hl : ∀ W, Calls Tryz.prog 167 #[.int .u64 0] W fun e w' => e = .returned (.int .i64 (Lib.bitLen 0 : Nat)) ∧ w' = W := fun W => by
    have h := Any.bits_Len lenTm 0 W (by omega) (by omega)
    exact h
  go_enter Tryz.func134, Tryz.ntmps134
  go_wp2_with (first | (go_at_call 167; refine (hl _).mono ?_; rintro e w' ⟨rfl, rfl⟩) | (go_at_call 166; refine (hcon _ _).mono ?_; rintro e w' ⟨rfl, rfl⟩))
  go_end0
  exact ⟨rfl, rfl⟩
end Go.Proofs.YtknphikoikdcjaaGreat


/- slices.Clone at ints. -/
namespace Go.Proofs.YtknphikoikdcjaaGreat
open Go.RowKit

set_option maxRecDepth 100000 in
set_option maxHeartbeats 800000 in
theorem cloneInts_any (lo hi n c : Nat) (A : Option Addr) (ps : List Int) (w : World) (hr : Rd w lo hi 1 A n (ivs ps)) (hB : hi ≤ w.heap.size) (hn : n ≤ 1048576) :
    Calls Tryz.prog 137 #[.slice A n c] w fun e w' => ∃ A9 c9, e = .returned (.slice A9 n c9) ∧ w'.ownsRow w.heap.size 3 1 (.slice A9 n c9) n (ivs ps) ∧ Below w.heap.size w w' := by
  have HL := Lib.hid hr.len1
  obtain ⟨i0, hi0, hz0, hz1, hz2⟩ := info_parts infoIntT
  cases A with
  | none =>
    obtain rfl : n = 0 := by
      rcases Nat.eq_zero_or_pos n with h | h
      · exact h
      · obtain ⟨_, _, e, _⟩ := hr.form h; cases e
    obtain rfl : ps = [] := List.eq_nil_of_length_eq_zero HL.out
    clear hr
    have q22 : ∀ (w : World) (a : Option Addr) (n c n' c' : Nat), (binOp .eql 26 (.slice a n c) (.slice none n' c')).run Tryz.prog w = .ok (.bool a.isNone) w := fun w a n c n' c' => Lib.run_eql_slice_nil w _ _ a n c n' c' Tryz.underlying26
    go_enter Tryz.func137, Tryz.ntmps137
    go_wp2
    go_ret
    exact ⟨none, 0, rfl, World.ownsRow_nil _ _ _ _, Below.refl _ _⟩
  | some a =>
    have hown1 : (w.alloc (.cells #[] 3)).ownsRow w.heap.size 3 1 (.slice (some ⟨w.heap.size, 0, none⟩) 0 0) 0 [] := World.ownsRow_made w #[] 0 (Nat.le_refl _) (by unfold maxLen; omega) (by simp)
    have hbl := up_alloc (Below.refl _ w) (.cells #[] 3)
    have hr1 := hr.keep hbl hB
    have q22 : ∀ (w : World) (a : Option Addr) (n c n' c' : Nat), (binOp .eql 26 (.slice a n c) (.slice none n' c')).run Tryz.prog w = .ok (.bool a.isNone) w := fun w a n c n' c' => Lib.run_eql_slice_nil w _ _ a n c n' c' Tryz.underlying26
    go_enter Tryz.func137, Tryz.ntmps137
    go_wp2_with (at_builtin; refine wpList_append_rd _ rfl _ _ 26 rfl w.heap.size 3 i0 _ 1 8 Tryz.underlying26 hi0 hz0 hz1 hz2 rfl (by decide) _ _ _ rfl hown1 lo hi (some a) n c (ivs ps) rfl hr1 (ivs_one ps) ?c3 ?c4 ?c5 ?_)
    case c3 => unfold maxLen; omega
    case c4 => omega
    case c5 => simp
    intro v2 w2 hown2 hg2 _
    have hb2 := up_grown hbl hown1 hg2 (Nat.le_refl _)
    try simp only [Nat.zero_add, List.nil_append] at hown2
    have HO := Lib.hid hown2
    clear hown1 hown2 hg2 hr1 hbl
    obtain ⟨A2, c2, hv2, _⟩ := own_form HO.out
    subst hv2
    go_wp2
    go_ret
    exact ⟨A2, c2, rfl, HO.out, hb2⟩
end Go.Proofs.YtknphikoikdcjaaGreat

