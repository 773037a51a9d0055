/- Merged: TokFire0, TokBehindI. -/
import Derived.Test.YtknphikoikdcjaaGreatTokCountA
import Derived.Test.YtknphikoikdcjaaGreatBase
import Derived.Shelf.SlGeneric
import Derived.Ground.SlmcProg
import Derived.Shelf.SlMaps.Clone
/- A node goes on, in plain mathematics. No program. -/
set_option linter.unusedSimpArgs false
set_option linter.unusedVariables false
namespace Go.Proofs.YtknphikoikdcjaaGreat
open Go.RowKit

/-- d more on each of some flows. -/
def bump (d : Int) (ms : List Int) : List Int → List Int
  | [] => ms
  | q :: is => bump d (ms.set q.toNat (ms.getD q.toNat 0 + d)) is
theorem bump_snoc (d : Int) : ∀ (is : List Int) (ms : List Int) (q : Int), bump d ms (is ++ [q]) = (bump d ms is).set q.toNat ((bump d ms is).getD q.toNat 0 + d)
  | [], _, _ => rfl
  | a :: is, ms, q => by rw [List.cons_append, bump, bump, bump_snoc d is]
theorem bump_take {d : Int} {is ms : List Int} {k : Nat} {q : Int} (h : is[k]? = some q) : bump d ms (is.take (k + 1)) = (bump d ms (is.take k)).set q.toNat ((bump d ms (is.take k)).getD q.toNat 0 + d) := by
  rw [take_snoc h, bump_snoc]
theorem bump_len (d : Int) : ∀ (is ms : List Int), (bump d ms is).length = ms.length
  | [], _ => rfl
  | q :: is, ms => by rw [bump, bump_len d is]; simp
theorem mem_getD {ms : List Int} {k : Nat} (h : k < ms.length) : ms.getD k 0 ∈ ms := by
  rw [List.getD_eq_getElem?_getD, List.getElem?_eq_getElem h]; exact List.getElem_mem h
theorem bump_in {d lo hi : Int} (hd : -1 ≤ d) (hd1 : d ≤ 1) : ∀ (is ms : List Int), lo ≤ 0 → 0 ≤ hi → (∀ z ∈ ms, lo ≤ z ∧ z ≤ hi) → ∀ z ∈ bump d ms is, lo - is.length ≤ z ∧ z ≤ hi + is.length
  | [], ms, _, _, h => by intro z hz; have := h z hz; simp; omega
  | q :: is, ms, hl, hh, h => by
    intro z hz
    rw [bump] at hz
    have h1 : ∀ z ∈ ms.set q.toNat (ms.getD q.toNat 0 + d), lo - 1 ≤ z ∧ z ≤ hi + 1 := by
      intro y hy
      rcases List.mem_or_eq_of_mem_set hy with h2 | rfl
      · have := h y h2; omega
      · by_cases hq : q.toNat < ms.length
        · have := h _ (mem_getD hq); omega
        · have e : ms.getD q.toNat 0 = 0 := by rw [List.getD_eq_getElem?_getD, List.getElem?_eq_none (by omega)]; rfl
          rw [e]; omega
    have h2 := bump_in hd hd1 is _ (by omega) (by omega) h1 z hz
    simp only [List.length_cons]
    omega
/-- A flow that none of them is keeps its number. -/
theorem bump_other {d : Int} : ∀ (is ms : List Int) (k : Nat), (∀ q ∈ is, q.toNat ≠ k) → (bump d ms is).getD k 0 = ms.getD k 0
  | [], _, _, _ => rfl
  | q :: is, ms, k, h => by
    rw [bump, bump_other is _ k (fun z hz => h z (by simp [hz]))]
    rw [List.getD_eq_getElem?_getD, List.getElem?_set_ne (h q (by simp)), ← List.getD_eq_getElem?_getD]
theorem set_nonneg {ms : List Int} {k : Nat} {v : Int} (h : ∀ z ∈ ms, 0 ≤ z) (hv : 0 ≤ v) : ∀ z ∈ ms.set k v, 0 ≤ z := by
  intro z hz
  rcases List.mem_or_eq_of_mem_set hz with h2 | rfl
  · exact h z h2
  · exact hv
theorem bump_down_nonneg : ∀ (is ms : List Int), (∀ z ∈ ms, 0 ≤ z) → (∀ q ∈ is, 0 < ms.getD q.toNat 0) → (is.map Int.toNat).Nodup → ∀ z ∈ bump (-1) ms is, 0 ≤ z
  | [], ms, h, _, _ => h
  | q :: is, ms, h, hp, hn => by
    rw [bump]
    rw [List.map_cons, List.nodup_cons] at hn
    refine bump_down_nonneg is _ (set_nonneg h (by have := hp q (by simp); omega)) (fun a ha => ?_) hn.2
    have hne : q.toNat ≠ a.toNat := fun e => hn.1 (by rw [e]; exact List.mem_map_of_mem ha)
    rw [List.getD_eq_getElem?_getD, List.getElem?_set_ne hne, ← List.getD_eq_getElem?_getD]
    exact hp a (by simp [ha])
theorem bump_up_nonneg : ∀ (is ms : List Int), (∀ z ∈ ms, 0 ≤ z) → ∀ z ∈ bump 1 ms is, 0 ≤ z
  | [], ms, h => h
  | q :: is, ms, h => by
    rw [bump]
    refine bump_up_nonneg is _ (set_nonneg h ?_)
    by_cases hq : q.toNat < ms.length
    · have := h _ (mem_getD hq); omega
    · have e : ms.getD q.toNat 0 = 0 := by rw [List.getD_eq_getElem?_getD, List.getElem?_eq_none (by omega)]; rfl
      rw [e]; omega
theorem having_sub (ms ids : List Int) : (havingOf ms ids).Sublist ids := List.filter_sublist
theorem takes_sub (x : Int) (ms ids : List Int) : (takesOf x ms ids).Sublist (havingOf ms ids) := by
  unfold takesOf
  split
  · split
    · exact List.nil_sublist _
    · exact List.Sublist.refl _
  · exact List.take_sublist _ _
theorem takes_le (x : Int) (ms ids : List Int) : (takesOf x ms ids).length ≤ ids.length := Nat.le_trans (takes_sub x ms ids).length_le (having_le ms ids)
/-- What the reference takes: of a join all that there are, of others the first. -/
def takenOf (x : Int) (ms ids : List Int) : List Int := if x = 8 then havingOf ms ids else (havingOf ms ids).take 1
theorem taken_takes {x : Int} {ms ids : List Int} (h : readyB x ms ids = true) : takenOf x ms ids = takesOf x ms ids := by
  unfold takenOf takesOf
  by_cases hx : x = 8
  · rw [if_pos hx, if_pos hx, if_neg]
    unfold readyB at h
    rw [if_pos hx, Bool.and_eq_true] at h
    rw [having_all.2 h.2]; omega
  · rw [if_neg hx, if_neg hx]
/-- Where a node of the kind puts tokens. -/
def putsOf (x : Int) (fs : List Flw) (vs : List Int) (node : Int) : List Int := if x = 5 then [chooseR fs vs (flOf fs true node) (-1)] else flOf fs true node
/-- The tokens behind a node of the kind. -/
def behindOf (x : Int) (fs : List Flw) (ms vs : List Int) (node : Int) : List Int := bump 1 (bump (-1) ms (takesOf x ms (flOf fs false node))) (putsOf x fs vs node)
/-- The node can go on. -/
def canFire (x : Int) (fs : List Flw) (ms vs : List Int) (node : Int) : Bool :=
  readyB x ms (flOf fs false node) && !(x == 5 && decide (chooseR fs vs (flOf fs true node) (-1) < 0)) && (behindOf x fs ms vs node).all (fun m => inR m 0 3)
/-- What stands in the map, when one number is set. -/
theorem markAt_set {ms : List Int} {i : Nat} {v : Int} (h : i < ms.length) (z : Int) : (if z = (i : Int) then some (Value.int .i64 v) else markAt ms z) = markAt (ms.set i v) z := by
  unfold markAt
  by_cases hz : 0 ≤ z
  · obtain ⟨j, rfl⟩ := Int.eq_ofNat_of_zero_le hz
    rw [if_pos hz, if_pos hz, Int.toNat_natCast]
    by_cases hj : j = i
    · subst hj
      rw [if_pos rfl, List.getElem?_set_self h]; rfl
    · rw [if_neg (by omega), List.getElem?_set_ne (fun e => hj e.symm)]
  · rw [if_neg hz, if_neg hz, if_neg (by omega)]
end Go.Proofs.YtknphikoikdcjaaGreat


/- impl.behind: the tokens behind a node. -/
namespace Go.Proofs.YtknphikoikdcjaaGreat
open Go.RowKit Go.Maps Go.Shelf

shelf_lay_g SlLaysW.n5 Slmc 5 at Tryz 211 as cloneC
theorem cloneI_any (mb m : Nat) (g : Int → Option Value) (w : World) (hm : IMap Tryz.prog 3 w mb m g) :
    Calls Tryz.prog 211 #[.map (some mb)] w fun e w' => e = .returned (.map (some w.heap.size)) ∧ IMap Tryz.prog 3 w' w.heap.size m g ∧ Below w.heap.size w w' := by
  obtain ⟨D, hown, hD⟩ := hm
  have hcon := AnyW.maps_Clone_owns cloneC 3 heldR mb m D w hown
  change Calls Tryz.prog 211 _ _ _ at hcon
  exact hcon.mono fun e w' ⟨h1, h2, _, h4⟩ => ⟨h1, ⟨D, h2, hD⟩, h4⟩
theorem cloneM_any (mb m : Nat) (T : Int → Option Value) (w : World) (hm : MkM Tryz.prog 3 w mb m T) :
    Calls Tryz.prog 211 #[.map (some mb)] w fun e w' => e = .returned (.map (some w.heap.size)) ∧ MkM Tryz.prog 3 w' w.heap.size m T ∧ Below w.heap.size w w' := by
  obtain ⟨g, h1, h2⟩ := hm
  refine (cloneI_any mb m g w h1).mono ?_
  rintro e w' ⟨he, hi, hb⟩
  exact ⟨he, ⟨g, hi, h2⟩, hb⟩
set_option maxRecDepth 100000 in
set_option maxHeartbeats 1600000 in
theorem behind_any (An : Option Addr) (nn cn lo hi : Nat) (ns : List (Int × Int)) (Af : Option Addr) (lf cf bo bi : Nat) (fs : List Flw) (lo2 hi2 mb m : Nat) (ms : List Int) (k : Nat) (x y : Int) (lo3 hi3 no co : Nat) (Ao : Option Addr) (outs : List Int) (w : World)
    (hrn : Rd w lo hi 2 An nn (pvs ns)) (hB : hi ≤ w.heap.size) (hm : RowMap Tryz.prog 3 w lo2 hi2 bi (fun z => flOf fs false z)) (hB2 : hi2 ≤ w.heap.size) (hc : MkM Tryz.prog 3 w mb m (markAt ms)) (hlen : ms.length = fs.length) (h14 : fs.length ≤ 14) (hk : k < nn) (hn : nn ≤ 1048576) (hkx : ns[k]? = some (x, y))
    (hm14 : m ≤ 14) (h03 : ∀ z ∈ ms, 0 ≤ z ∧ z ≤ 3) (ho : Rd w lo3 hi3 1 Ao no (ivs outs)) (hB3 : hi3 ≤ w.heap.size) (hno : no ≤ 14) (hmo : ∀ z ∈ outs, ∃ q : Nat, z = (q : Int) ∧ q < ms.length) :
    Calls Tryz.prog 201 #[.agg #[.slice An nn cn, .slice Af lf cf, .map (some bo), .map (some bi)], .map (some mb), .int .i64 (k : Int), .slice Ao no co] w fun e w' => ∃ mb2 m2, e = .returned (.map (some mb2)) ∧
      MkM Tryz.prog 3 w' mb2 m2 (markAt (bump 1 (bump (-1) ms (takesOf x ms (flOf fs false (k : Int)))) outs)) ∧ m2 ≤ 42 ∧ w.heap.size ≤ mb2 ∧ Below w.heap.size w w' := by
  have hb1 := up_alloc (Below.refl _ w) (.cells #[.slice An nn cn, .slice Af lf cf, .map (some bo), .map (some bi)] 104)
  have hbk := Blk.new w 104 #[.slice An nn cn, .slice Af lf cf, .map (some bo), .map (some bi)]
  have hs1 : (w.alloc (.cells #[.slice An nn cn, .slice Af lf cf, .map (some bo), .map (some bi)] 104)).heap.size = w.heap.size + 1 := by simp
  have hmb := hc.lt
  have HOL := Lib.hid ho.len1
  have HCL := Lib.hid (cloneM_any mb m (markAt ms) _ (hc.keep hb1 hmb))
  go_enter Tryz.func201, Tryz.ntmps201
  go_wp2_with (fail)
  (with_reducible refine HCL.out.mono ?_)
  clear HCL
  rintro e w1 ⟨rfl, him, hb2⟩
  rw [hs1] at him
  have HB := Lib.hid (up hb1 hb2)
  have hs2 := hb2.size
  rw [hs1] at hs2
  have hlt1 := him.lt
  have HK := Lib.hid (hbk.below hb2 (by omega))
  have n0 : w1.cell? ⟨w.heap.size, 0, none⟩ = some (.slice An nn cn) := HK.out.cell 0
  have n1 : w1.cell? ⟨w.heap.size, 1, none⟩ = some (.slice Af lf cf) := HK.out.cell 1
  have n2 : w1.cell? ⟨w.heap.size, 2, none⟩ = some (.map (some bo)) := HK.out.cell 2
  have n3 : w1.cell? ⟨w.heap.size, 3, none⟩ = some (.map (some bi)) := HK.out.cell 3
  have HT := Lib.hid (takesFrom_any An nn cn lo hi ns Af lf cf bo bi fs lo2 hi2 mb m ms k x y w1 (hrn.keep HB.out hB) (Nat.le_trans hB HB.out.size) (hm.keep HB.out hB2) (Nat.le_trans hB2 HB.out.size) (hc.keep HB.out hmb) hlen h14 hk hn hkx)
  have HIM := Lib.hid him
  have HMT := Lib.hid (show ∀ (j : Nat) (z : Int), (takesOf x ms (flOf fs false (k : Int)))[j]? = some z → ∃ (q : Nat), z = (q : Int) ∧ q < ms.length from fun j z h => by
    have h1 := (having_sub ms _).subset ((takes_sub x ms _).subset (List.mem_of_getElem? h))
    obtain ⟨q, f, rfl, hf, _⟩ := flOf_mem.1 h1
    exact ⟨q, rfl, by have := (List.getElem?_eq_some_iff.1 hf).1; omega⟩)
  have htl : (takesOf x ms (flOf fs false (k : Int))).length ≤ 14 := Nat.le_trans (takes_le x ms _) (Nat.le_trans (flUp_le fs false (k : Int) fs.length) h14)
  generalize hts : takesOf x ms (flOf fs false (k : Int)) = ts at *
  have HTS := Lib.hid hts
  clear hts
  clear hb1 hb2 hbk him
  go_wp2_with (fail)
  (with_reducible refine HT.out.mono ?_)
  clear HT
  rintro e w2 ⟨At, ct, rfl, hct, hrt, _, hb3⟩
  have HB2 := Lib.hid (up HB.out hb3)
  have HIM2 := Lib.hid (HIM.out.keep hb3 hlt1)
  have hs3 := hb3.size
  have HRT := Lib.hid hrt
  clear hb3 hrt n0 n1 n2 n3 HIM HK
  go_wp2
  go_loopw [21] (fun iv wr => ∃ (j : Nat), j ≤ ts.length ∧ iv = .int .i64 j ∧ Hid (MkM Tryz.prog 3 wr (w.heap.size + 1) (m + j) (markAt (bump (-1) ms (ts.take j))) ∧ Rd wr w1.heap.size w2.heap.size 1 At ts.length (ivs ts) ∧ Below w.heap.size w wr) ∧ w2.heap.size ≤ wr.heap.size)
     (fun iv _ => ts.length - (intOf iv).toNat)
  case atStart => exact ⟨0, by omega, rfl, ⟨HIM2.out, HRT.out, HB2.out⟩, Nat.le_refl _⟩
  case round =>
    clear HIM2 HRT HB2
    obtain ⟨j, hj, rfl, HR, hsz⟩ := hrel
    by_cases hlt : j < ts.length
    · obtain ⟨b, off, z, rfl, _, _, hg, hc0⟩ := HR.out.2.1.one hlt
      obtain ⟨q, rfl, hq⟩ := HMT.out j z hg
      have HS := Lib.hid (bump_take (d := -1) (ms := ms) hg)
      have hbd := bump_in (d := -1) (by omega) (by omega) (ts.take j) ms (Int.le_refl 0) (by omega) h03
      have hcl : (bump (-1) ms (ts.take j)).length = ms.length := bump_len _ _ _
      have hv := hbd _ (mem_getD (k := q) (by rw [hcl]; exact hq))
      have htk : (ts.take j).length ≤ 14 := by rw [List.length_take]; omega
      have hq64 : in64 (q : Int) := by unfold in64; omega
      have hlk := HR.out.1.look keyedInt Tryz.underlying3 Tryz.underlying111 (zeroIntT wr) hq64 rfl
      rw [markAt_get _ q (by rw [hcl]; exact hq)] at hlk
      rw [Int.toNat_natCast] at HS
      have HMS := Lib.hid (fun v => markAt_set (ms := bump (-1) ms (ts.take j)) (i := q) (v := v) (by rw [hcl]; exact hq))
      have HX := Lib.hid HR
      have hv1 : -14 ≤ (bump (-1) ms (ts.take j)).getD q 0 := by omega
      have hv2 : (bump (-1) ms (ts.take j)).getD q 0 ≤ 17 := by omega
      clear hbd hv hcl htk hg
      generalize bump (-1) ms (ts.take j) = cur at *
      generalize cur.getD q 0 = v at *
      obtain ⟨w4, hrun, him4, hgr⟩ := HX.out.out.1.put keyedInt Tryz.underlying3 Tryz.underlying111 (by unfold maxLen; omega) hq64 (.int .i64 (v + -1))
      have HY : Hid (MkM Tryz.prog 3 w4 (w.heap.size + 1) (m + (j + 1)) (markAt (bump (-1) ms (ts.take (j + 1)))) ∧ Rd w4 w1.heap.size w2.heap.size 1 (some ⟨b, off, none⟩) ts.length (ivs ts) ∧ Below w.heap.size w w4) :=
        ⟨him4.congr (fun z => by rw [HS.out]; exact HMS.out _ z), HX.out.out.2.1.far hgr (by omega) (fun g e => by injection e with e; omega), HX.out.out.2.2.grown hgr (by omega) (fun g e => by injection e with e; omega)⟩
      have hsz4 := hgr.size
      have hjt : (j : Int) < (ts.length : Int) := by omega
      have hj0 : (0 : Int) ≤ (j : Int) := by omega
      have hsub : v - 1 = v + -1 := by omega
      clear HX HR him4 hgr
      rw [← hsub] at hrun
      clear hsub
      go_wp2
      go_roundw
      case rel => exact ⟨j + 1, by omega, by go_num, HY, by omega⟩
      case measure => simp [intOf]; omega
    · obtain rfl : j = ts.length := by omega
      have HB4 := Lib.hid HR.out.2.2
      have HIM4 := Lib.hid HR.out.1
      have hsz2 := hsz
      rw [List.take_length] at HIM4
      have hbd := bump_in (d := -1) (by omega) (by omega) ts ms (Int.le_refl 0) (by omega) h03
      have HC2 := Lib.hid (show ∀ z ∈ bump (-1) ms ts, -14 ≤ z ∧ z ≤ 17 from fun z hz => by have := hbd z hz; omega)
      have hcl : (bump (-1) ms ts).length = ms.length := bump_len _ _ _
      clear hbd HR
      generalize hcs : bump (-1) ms ts = cs at *
      have HCS := Lib.hid hcs
      clear hcs
      go_wp2
      go_loopw [32] (fun iv wr => ∃ (j : Nat), j ≤ no ∧ iv = .int .i64 j ∧ Hid (MkM Tryz.prog 3 wr (w.heap.size + 1) (m + ts.length + j) (markAt (bump 1 cs (outs.take j))) ∧ Below w.heap.size w wr) ∧ w2.heap.size ≤ wr.heap.size)
         (fun iv _ => no - (intOf iv).toNat)
      case atStart => exact ⟨0, by omega, rfl, ⟨HIM4.out, HB4.out⟩, hsz2⟩
      case round =>
        clear HIM4 HB4 hsz2 hsz
        obtain ⟨j, hj, rfl, HR, hsz⟩ := hrel
        by_cases hlt : j < no
        · obtain ⟨b, off, z, rfl, _, _, hg, hc0⟩ := (ho.keep HR.out.2 hB3).one hlt
          obtain ⟨q, rfl, hq⟩ := hmo z (List.mem_of_getElem? hg)
          have HS := Lib.hid (bump_take (d := 1) (ms := cs) hg)
          have hbd := bump_in (d := 1) (by omega) (by omega) (outs.take j) cs (by omega : (-14 : Int) ≤ 0) (by omega : (0 : Int) ≤ 17) HC2.out
          have hcl2 : (bump 1 cs (outs.take j)).length = ms.length := (bump_len _ _ _).trans hcl
          have hv := hbd _ (mem_getD (k := q) (by rw [hcl2]; exact hq))
          have htk : (outs.take j).length ≤ 14 := by rw [List.length_take]; omega
          have hq64 : in64 (q : Int) := by unfold in64; omega
          have hlk := HR.out.1.look keyedInt Tryz.underlying3 Tryz.underlying111 (zeroIntT wr) hq64 rfl
          rw [markAt_get _ q (by rw [hcl2]; exact hq)] at hlk
          rw [Int.toNat_natCast] at HS
          have HMS := Lib.hid (fun v => markAt_set (ms := bump 1 cs (outs.take j)) (i := q) (v := v) (by rw [hcl2]; exact hq))
          have HX := Lib.hid HR
          have hv1 : -28 ≤ (bump 1 cs (outs.take j)).getD q 0 := by omega
          have hv2 : (bump 1 cs (outs.take j)).getD q 0 ≤ 31 := by omega
          clear hbd hv hcl2 htk hg
          generalize bump 1 cs (outs.take j) = cur at *
          generalize cur.getD q 0 = v at *
          obtain ⟨w4, hrun, him4, hgr⟩ := HX.out.out.1.put keyedInt Tryz.underlying3 Tryz.underlying111 (by unfold maxLen; omega) hq64 (.int .i64 (v + 1))
          have HY : Hid (MkM Tryz.prog 3 w4 (w.heap.size + 1) (m + ts.length + (j + 1)) (markAt (bump 1 cs (outs.take (j + 1)))) ∧ Below w.heap.size w w4) :=
            ⟨him4.congr (fun z => by rw [HS.out]; exact HMS.out _ z), HX.out.out.2.grown hgr (by omega) (fun g e => by injection e with e; omega)⟩
          have hsz4 := hgr.size
          have hjt : (j : Int) < (no : Int) := by omega
          have hj0 : (0 : Int) ≤ (j : Int) := by omega
          clear HX HR him4 hgr
          go_wp2
          go_roundw
          case rel => exact ⟨j + 1, by omega, by go_num, HY, by omega⟩
          case measure => simp [intOf]; omega
        · obtain rfl : j = no := by omega
          have HB5 := Lib.hid HR.out.2
          have HIM5 := Lib.hid HR.out.1
          rw [List.take_of_length_le (by rw [HOL.out]; exact Nat.le_refl _)] at HIM5
          clear HR
          go_wp2
          go_ret
          exact ⟨w.heap.size + 1, m + ts.length + j, by first | rfl | simp, by rw [HTS.out, HCS.out]; exact HIM5.out, by omega, by omega, HB5.out⟩
end Go.Proofs.YtknphikoikdcjaaGreat

