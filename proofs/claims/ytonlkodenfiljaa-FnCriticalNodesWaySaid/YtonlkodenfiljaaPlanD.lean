/- Merged: PlanI, PlanJ, PlanK, PlanL, PlanM. -/
import Derived.Test.YtonlkodenfiljaaPlanC
import Derived.Test.YtonlkodenfiljaaTokNet
import Derived.Deep.RegionHeld3
import Derived.Deep.LoopGhost
import Derived.Deep.RegionLaw
import Derived.BigQuiet
/- The program's nextNodes: where the flows out of a node lead. -/
set_option linter.unusedSimpArgs false
set_option linter.unusedVariables false
namespace Go.Proofs.Ytonlkodenfiljaa
open Go.RowKit

/-- What a net in memory stands for. -/
structure NetAt (w : World) (hi : Nat) (Af : Option Addr) (lf bo bi : Nat) (fs : List Flw) : Prop where
  fls : Fls w 0 hi Af lf fs
  out : RowMap Try.prog 3 w 0 hi bo (fun z => flOf fs true z)
  inn : RowMap Try.prog 3 w 0 hi bi (fun z => flOf fs false z)
theorem NetAt.keep {w w' : World} {hi B : Nat} {Af : Option Addr} {lf bo bi : Nat} {fs : List Flw} (h : NetAt w hi Af lf bo bi fs) (hb : Below B w w') (hB : hi ≤ B) : NetAt w' hi Af lf bo bi fs :=
  ⟨h.fls.keep hb hB, h.out.keep hb hB, h.inn.keep hb hB⟩
/-- Where the flows out of a node lead. -/
def nextOf (fs : List Flw) (a : Nat) : List Int := (flOf fs true (a : Int)).map fun i => ((toOf fs i : Nat) : Int)
theorem nextOf_len (fs : List Flw) (a : Nat) : (nextOf fs a).length = (flOf fs true (a : Int)).length := by unfold nextOf; rw [List.length_map]
theorem nextOf_at {fs : List Flw} {a j kf : Nat} {f : Flw} (h : (flOf fs true (a : Int))[j]? = some (kf : Int)) (hg : fs[kf]? = some f) : (nextOf fs a)[j]? = some ((f.2.1.toNat : Nat) : Int) := by
  unfold nextOf; rw [List.getElem?_map, h]
  show some ((toOf fs (kf : Int) : Nat) : Int) = _
  rw [toOf_at hg]
theorem nextOf_outs {fs : List Flw} {N : Nat} (h : Inside fs N) {a j : Nat} {z : Int} (hz : (nextOf fs a)[j]? = some z) : ∃ v : Nat, z = (v : Int) ∧ v < N ∧ (outs (esOf fs) a)[j]? = some (a, v) := by
  unfold nextOf at hz
  rw [List.getElem?_map] at hz
  obtain ⟨i, hi, rfl⟩ := Option.map_eq_some_iff.1 hz
  have ho : (outs (esOf fs) a)[j]? = some (a, toOf fs i) := by rw [outs_flOf h, List.getElem?_map, hi]; rfl
  refine ⟨toOf fs i, rfl, ?_, ho⟩
  have := (outs_mem.1 (List.mem_of_getElem? ho)).1
  exact (esOf_ins h _ this).2
theorem outs_len {fs : List Flw} {N : Nat} (h : Inside fs N) (a : Nat) : (outs (esOf fs) a).length = (nextOf fs a).length := by rw [outs_flOf h, nextOf_len, List.length_map]

set_option maxRecDepth 100000 in
set_option maxHeartbeats 1600000 in
theorem nextNodes_any (nn cn : Nat) (An : Option Addr) (hi lf cf : Nat) (Af : Option Addr) (bo bi : Nat) (fs : List Flw) (a N : Nat) (w : World) (hN : NetAt w hi Af lf bo bi fs) (hB : hi ≤ w.heap.size) (h14 : lf ≤ 14) (hin : Inside fs N) (hN6 : N ≤ 1048576) (ha : a < N) :
    Calls Try.prog 65 #[.agg #[.slice An nn cn, .slice Af lf cf, .map (some bo), .map (some bi)], .int .i64 (a : Int)] w (Fresh (ivs (nextOf fs a)) 1 (nextOf fs a).length w) := by
  have HIN := Lib.hid hin
  have HF := Lib.hid hN.fls.1
  have hb1 := up_alloc (Below.refl _ w) (.cells #[.slice An nn cn, .slice Af lf cf, .map (some bo), .map (some bi)] 52)
  have HK1 := Lib.hid (Blk.new w 52 #[.slice An nn cn, .slice Af lf cf, .map (some bo), .map (some bi)])
  have hx64 : in64 (a : Int) := by unfold in64; omega
  obtain ⟨i0, hi0, hz0, hz1, hz2⟩ := info_parts infoInt
  obtain ⟨Ao, co, hlo, hco, hro, _⟩ := (hN.keep hb1 hB).out.look keyedInt Try.underlying3 Try.underlying48 zeroInts hx64
  have hml : (flOf fs true (a : Int)).length ≤ 14 := Nat.le_trans (flUp_le fs true (a : Int) fs.length) (by rw [HF.out]; exact h14)
  have HNL := Lib.hid (nextOf_len fs a)
  have HRO := Lib.hid hro
  have HN := Lib.hid hN
  have HB1 := Lib.hid hb1
  clear hro hN hb1 hin
  go_enter Try.func65, Try.ntmps65
  go_wp2
  go_loopw [5, 14] (fun ov iv wr => ∃ (j : Nat), j ≤ (flOf fs true (a : Int)).length ∧ iv = .int .i64 j ∧ Hid (wr.ownsRow (w.heap.size + 1) 3 1 ov j (ivs ((nextOf fs a).take j)) ∧ Blk wr w.heap.size 52 #[.slice An nn cn, .slice Af lf cf, .map (some bo), .map (some bi)] ∧ Below w.heap.size w wr ∧ Rd wr 0 hi 1 Ao (flOf fs true (a : Int)).length (ivs (flOf fs true (a : Int)))) ∧ w.heap.size + 1 ≤ wr.heap.size)
     (fun _ iv _ => (flOf fs true (a : Int)).length - (intOf iv).toNat)
  case atStart => exact ⟨0, by omega, rfl, ⟨World.ownsRow_nil _ _ _ _, HK1.out, HB1.out, HRO.out⟩, by simp⟩
  case round =>
    clear hlo
    obtain ⟨j, hj, rfl, HR, hsz⟩ := hrel
    by_cases hjn : j < (flOf fs true (a : Int)).length
    · have hbl := HR.out.2.2.1
      obtain ⟨b, off, f, hAo, hbM, _, hgf, hcf⟩ := HR.out.2.2.2.one hjn
      subst hAo
      obtain ⟨kf, fl, rfl, hfl, hfe⟩ := flOf_mem.1 (List.mem_of_getElem? hgf)
      have hkf : kf < lf := by
        have := (List.getElem?_eq_some_iff.1 hfl).1
        have := HF.out
        omega
      obtain ⟨b3, off3, fx, fy, fps, A3, m3, c3, hA3, hb3, _, hg3, hcx, hcy, hcz, _, _⟩ := (HN.out.fls.keep hbl hB).at hkf
      subst hA3
      rw [hg3] at hfl
      injection hfl with hfl
      subst hfl
      obtain ⟨_, _, hy0, hy1⟩ := HIN.out _ (List.mem_of_getElem? hg3)
      simp only at hy0 hy1
      obtain ⟨y, rfl⟩ := Int.eq_ofNat_of_zero_le hy0
      have HT := Lib.hid (take_snoc (nextOf_at hgf hg3))
      simp only [Int.toNat_natCast] at HT
      have hc1 : wr.cell? ⟨w.heap.size, 1, none⟩ = some (.slice (some ⟨b3, off3, none⟩) lf cf) := HR.out.2.1.cell 1
      have HB := Lib.hid hbl
      have hj1 : (j : Int) < ((flOf fs true (a : Int)).length : Int) := by omega
      have hkf1 : (kf : Int) < (lf : Int) := by omega
      clear hbl hgf hg3 hcx hcz hfe
      go_wp2_with (at_builtin; refine wpList_append_own_at _ rfl _ _ 27 rfl (w.heap.size + 1) 3 i0 (.int .i64 0) 1 8 Try.underlying27 hi0 hz0 hz1 hz2 rfl (by decide) _ _ _ rfl (HR.out.1.alloc _) ⟨wr.heap.size, 0, none⟩ 1 1 [.int .i64 (y : Int)] rfl rfl (cell_one_new _ _ _) ?c2 ?c3 ?c4 ?c5 ?_)
      case c2 => first | rfl | (intro u hu; simp at hu; subst hu; rfl)
      case c3 => unfold maxLen; omega
      case c4 => omega
      case c5 => first | omega | (simp; omega)
      intro v' w4 hown4 hg4 _ hloc
      have hlow := HR.out.1.lt
      have hbl4 := (up_alloc HB.out (.cells #[.int .i64 (y : Int)] 3)).grown hg4 (up_alloc HB.out (.cells #[.int .i64 (y : Int)] 3)).size (fun i hi => by have := (hlow i hi).1; omega)
      have hs4 : wr.heap.size + 1 ≤ w4.heap.size := by have := hg4.size; simpa using this
      have hblk4 := (HR.out.2.1.alloc (.cells #[.int .i64 (y : Int)] 3)).grown hg4 (fun e => by have := (hlow _ e.symm).1; omega)
      have hrow4 := (HR.out.2.2.2.keep (up_alloc (Below.refl _ wr) (.cells #[.int .i64 (y : Int)] 3)) (by omega)).far hg4 (by simp; omega) (fun g hg => by have := (hlow g hg).1; omega)
      have HX : Hid (w4.ownsRow (w.heap.size + 1) 3 1 v' (j + 1) (ivs ((nextOf fs a).take (j + 1))) ∧ Blk w4 w.heap.size 52 #[.slice An nn cn, .slice (some ⟨b3, off3, none⟩) lf cf, .map (some bo), .map (some bi)] ∧ Below w.heap.size w w4 ∧ Rd w4 0 hi 1 (some ⟨b, off, none⟩) (flOf fs true (a : Int)).length (ivs (flOf fs true (a : Int)))) := by
        refine ⟨?_, hblk4, hbl4, hrow4⟩
        rw [HT.out, ivs_append]
        exact hown4
      clear hown4 hg4 hbl4 hblk4 hrow4 HR hlow hloc
      go_wp2
      go_roundw
      case rel => exact ⟨j + 1, by omega, by go_num, HX, by omega⟩
      case measure => simp [intOf]; omega
    · obtain rfl : j = (flOf fs true (a : Int)).length := by omega
      have HO := Lib.hid HR.out.1
      have HB := Lib.hid HR.out.2.2.1
      clear HR
      go_wp2
      go_ret
      have := HO.out
      rw [← HNL.out, List.take_length] at this
      exact Fresh.of_base this HB.out (by omega)
end Go.Proofs.Ytonlkodenfiljaa


/- The program's inOrder: the nodes, each behind those from which flows lead to it. -/
namespace Go.Proofs.Ytonlkodenfiljaa
open Go.RowKit

/-- Nodes, as the program has them. -/
def ois (os : List Nat) : List Int := os.map fun v => ((v : Nat) : Int)
theorem ois_len (os : List Nat) : (ois os).length = os.length := by unfold ois; rw [List.length_map]
theorem ois_snoc (os : List Nat) (v : Nat) : ivs (ois (os ++ [v])) = ivs (ois os) ++ [.int .i64 (v : Int)] := by unfold ois; rw [List.map_append, ivs_append]; rfl
theorem ois_at {os : List Nat} {i u : Nat} (h : os[i]? = some u) : (ois os)[i]? = some (u : Int) := by unfold ois; rw [List.getElem?_map, h]; rfl
/-- What stands in the map of those that have come. -/
def cntG (co : Nat → Nat) (z : Int) : Option Value := if 0 ≤ z ∧ co z.toNat ≠ 0 then some (.int .i64 (co z.toNat : Int)) else none
theorem cntG_get (co : Nat → Nat) (v : Nat) : (cntG co (v : Int)).getD (.int .i64 0) = .int .i64 (co v : Int) := by
  unfold cntG
  rw [Int.toNat_natCast]
  by_cases h : co v = 0
  · rw [if_neg (by simp [h]), h]; rfl
  · rw [if_pos ⟨by omega, h⟩]; rfl
theorem cntG_put (es : List (Nat × Nat)) (st : List Nat × (Nat → Nat)) (u v : Nat) (z : Int) : (if z = (v : Int) then some (Value.int .i64 ((st.2 v : Int) + 1)) else cntG st.2 z) = cntG (kStep es st (u, v)).2 z := by
  unfold cntG kStep
  by_cases hz : z = (v : Int)
  · subst hz
    rw [if_pos rfl, Int.toNat_natCast]
    simp
  · rw [if_neg hz]
    by_cases h0 : 0 ≤ z
    · have : z.toNat ≠ v := by omega
      simp [this, h0]
    · simp [h0]
theorem zeroI1 (w : World) : (zeroValue 3).run Try.prog w = .ok (.int .i64 0) w := by kernel_rfl
theorem kStep_two (es : List (Nat × Nat)) (st : List Nat × (Nat → Nat)) (u v : Nat) : (kStep es st (u, v)).2 v = st.2 v + 1 := by unfold kStep; simp
theorem fold_snoc (es : List (Nat × Nat)) (l : List (Nat × Nat)) (st : List Nat × (Nat → Nat)) {j : Nat} {e : Nat × Nat} (h : l[j]? = some e) : (l.take (j + 1)).foldl (kStep es) st = kStep es ((l.take j).foldl (kStep es) st) e := by
  rw [take_snoc h, List.foldl_append]; rfl
/-- How inOrder's loop stands ahead of the node at place i. -/
def InRel (fs : List Flw) (s N : Nat) (w : World) (vn vf : Value) (bo bi : Nat) (R M i : Nat) (ov : Value) (wr : World) : Prop :=
  ∃ os co m, Walk (esOf fs) s N i os co ∧ wr.ownsRow R 3 1 ov os.length (ivs (ois os)) ∧ (∀ g, ov.ownBlock = some g → g ≠ M) ∧ IMap Try.prog 3 wr M m (cntG co) ∧ m ≤ 20 * i ∧ Blk wr w.heap.size 52 #[vn, vf, .map (some bo), .map (some bi)] ∧ Below w.heap.size w wr ∧ M < wr.heap.size
/-- Within it, behind j flows. -/
def InMid (fs : List Flw) (N : Nat) (w : World) (vn vf : Value) (bo bi : Nat) (R M i : Nat) (os : List Nat) (co : Nat → Nat) (u lo hi j : Nat) (ov : Value) (wr : World) : Prop :=
  ∃ m, wr.ownsRow R 3 1 ov (((outs (esOf fs) u).take j).foldl (kStep (esOf fs)) (os, co)).1.length (ivs (ois (((outs (esOf fs) u).take j).foldl (kStep (esOf fs)) (os, co)).1)) ∧ (∀ g, ov.ownBlock = some g → g ≠ M ∧ (g < lo ∨ hi ≤ g)) ∧ IMap Try.prog 3 wr M m (cntG (((outs (esOf fs) u).take j).foldl (kStep (esOf fs)) (os, co)).2) ∧ m ≤ 20 * i + j ∧ Blk wr w.heap.size 52 #[vn, vf, .map (some bo), .map (some bi)] ∧ Below w.heap.size w wr ∧ hi ≤ wr.heap.size
/-- An order of the nodes, in memory of its own. -/
def InOrdered (fs : List Flw) (N : Nat) (w : World) (e : Ending) (w' : World) : Prop :=
  ∃ os, Order (esOf fs) N os ∧ os.Nodup ∧ (∀ v ∈ os, v < N) ∧ Fresh (ivs (ois os)) 1 os.length w e w'

set_option maxRecDepth 100000 in
set_option maxHeartbeats 3200000 in
theorem inOrder_any (lo hi nn cn : Nat) (An : Option Addr) (ns : List (Int × Int)) (hi2 lf cf : Nat) (Af : Option Addr) (bo bi : Nat) (fs : List Flw) (w : World) (hrn : Rd w lo hi 2 An nn (pvs ns)) (hB : hi ≤ w.heap.size) (hN : NetAt w hi2 Af lf bo bi fs) (hB2 : hi2 ≤ w.heap.size) (hV : vProc ns fs = true) (hc : ∀ v : Nat, v < ns.length → ¬ Rch1 fs (v : Int) (v : Int)) :
    Calls Try.prog 64 #[.agg #[.slice An nn cn, .slice Af lf cf, .map (some bo), .map (some bi)]] w (InOrdered fs nn w) := by
  have hL := hrn.len2
  have hlen := vProc_len hV
  have hnn : nn ≤ 10 := by omega
  have h14 : lf ≤ 14 := by have := hN.fls.1; omega
  have HIN := Lib.hid (show Inside fs nn by rw [← hL]; exact vProc_inside hV)
  obtain ⟨s, y, hsn, hse⟩ := startAt_spec ns 0 (by rw [vProc_starts hV]; exact Nat.le_refl _)
  rw [Nat.zero_add] at hse
  have hs := (List.getElem?_eq_some_iff.1 hsn).1
  have HSF := Lib.hid (start_free hV hsn)
  have HEI := Lib.hid (show Ins (esOf fs) nn from esOf_ins HIN.out)
  have HW0 := Lib.hid (show Walk (esOf fs) s nn 0 [s] (fun _ => 0) from Walk.start HSF.out (by omega))
  have HORD := Lib.hid (show ∀ i os co, Walk (esOf fs) s nn i os co → os.length ≤ i → Order (esOf fs) nn os ∧ os.Nodup ∧ ∀ v ∈ os, v < nn from fun i os co hw hl => by
    refine ⟨?_, hw.kahn.nd, hw.lt⟩
    have := net_order hV hc hsn (hw.whole hl) (by rw [hL]; exact hw.lt)
    rwa [hL] at this)
  have hb1 := up_alloc (Below.refl _ w) (.cells #[.slice An nn cn, .slice Af lf cf, .map (some bo), .map (some bi)] 52)
  have HK1 := Lib.hid (Blk.new w 52 #[.slice An nn cn, .slice Af lf cf, .map (some bo), .map (some bi)])
  have HC1 := Lib.hid (startI_any lo hi nn cn An ns (.slice Af lf cf) _ (hrn.keep hb1 hB) (Nat.le_trans hB hb1.size) (by omega))
  rw [hse] at HC1
  have HB1 := Lib.hid hb1
  have HN := Lib.hid hN
  have hlt1 := HK1.out.lt
  obtain ⟨i0, hi0, hz0, hz1, hz2⟩ := info_parts infoInt
  have hmm := @run_makeMap Try.prog
  clear hrn hb1 hN hV hc hlen hsn hse hL
  go_enter Try.func64, Try.ntmps64
  go_wp2_with (fail)
  (with_reducible refine HC1.out.mono ?_)
  clear HC1
  rintro e w1 ⟨rfl, hb2⟩
  have hw1 : w.heap.size < w1.heap.size := by have := hb2.size; simp at this; omega
  have hA := up (up HB1.out hb2) (up_alloc (up_alloc (Below.refl _ w1) (.cells #[.int .i64 (s : Int)] 3)) (.map #[] 0))
  have hKA := ((HK1.out.below hb2 hlt1).alloc (.cells #[.int .i64 (s : Int)] 3)).alloc (.map #[] 0)
  have hown0 := World.ownsRow_lit w1 (base := w1.heap.size) (e := 3) (size := 1) #[.int .i64 (s : Int)] 1 (Nat.le_refl _) (by unfold maxLen; omega) (by simp)
  have hm0 := IMap.made Try.prog 3 (w1.alloc (.cells #[.int .i64 (s : Int)] 3))
  rw [show (w1.alloc (.cells #[.int .i64 (s : Int)] 3)).heap.size = w1.heap.size + 1 by simp] at hm0
  have HREL : Hid (InRel fs s nn w (.slice An nn cn) (.slice Af lf cf) bo bi w1.heap.size (w1.heap.size + 1) 0 (.slice (some ⟨w1.heap.size, 0, none⟩) 1 1) ((w1.alloc (.cells #[.int .i64 (s : Int)] 3)).alloc (.map #[] 0))) :=
    ⟨[s], fun _ => 0, 0, HW0.out, hown0.alloc _, fun g hg => by simp [Value.ownBlock] at hg; omega, hm0.congr (fun z => by simp [cntG]), Nat.zero_le _, hKA, hA, by simp⟩
  clear hb2 hA hKA hown0 hm0 HB1 HK1 HW0 hlt1
  go_wp2
  clear hmm
  generalize hM : w1.heap.size + 1 = M at *
  generalize hR : w1.heap.size = R at *
  have hRM : R < M := by omega
  clear hM hR
  go_loopw [3, 5] (fun ov iv wr => ∃ (i : Nat), i ≤ nn ∧ iv = .int .i64 i ∧ Hid (InRel fs s nn w (.slice An nn cn) (.slice Af lf cf) bo bi R M i ov wr))
     (fun _ iv _ => nn - (intOf iv).toNat)
  case atStart => exact ⟨0, by omega, rfl, HREL⟩
  case round =>
    clear HREL
    obtain ⟨wo, hwo⟩ : ∃ wo : World, wo = wr := ⟨_, rfl⟩
    subst hwo
    obtain ⟨i, hi, rfl, HR⟩ := hrel
    obtain ⟨os, co, m, hw, hown, hob, hmap, hm, hblk, hbl, hMlt⟩ := HR.out
    clear HR
    have hol := hw.len
    by_cases hin : i < os.length
    · obtain ⟨g, cg, hve, hg1, hg2, hcg⟩ := own_first hown (by omega)
      subst hve
      obtain ⟨u, hu⟩ : ∃ u, os[i]? = some u := ⟨_, List.getElem?_eq_getElem hin⟩
      have hun := hw.lt u (List.mem_of_getElem? hu)
      obtain ⟨b, off, z, hAe, _, _, hgz, hc0⟩ := (Rd.of_own hown).one hin
      injection hAe with hAe; injection hAe with e1 e2 _
      subst e1; subst e2
      rw [Nat.zero_add] at hc0
      rw [ois_at hu] at hgz
      injection hgz with hgz
      subst hgz
      have k0 := hblk.cell 0
      have k1 := hblk.cell 1
      have k2 := hblk.cell 2
      have k3 := hblk.cell 3
      simp only [List.getElem?_toArray, List.getElem?_cons_zero, List.getElem?_cons_succ] at k0 k1 k2 k3
      have HC := Lib.hid (nextNodes_any nn cn An hi2 lf cf Af bo bi fs u nn wo.drew (HN.out.keep (up_drew hbl) hB2) (Nat.le_trans hB2 hbl.size) h14 HIN.out (by omega) hun)
      have HW := Lib.hid hw
      have HO := Lib.hid hown
      have HMAP := Lib.hid hmap
      have HK := Lib.hid hblk
      have HB := Lib.hid hbl
      have HU := Lib.hid hu
      have HOB := Lib.hid hob
      have hi1 : (i : Int) < (os.length : Int) := by omega
      have hi0' : (0 : Int) ≤ (i : Int) := by omega
      clear hw hown hob hmap hblk hbl hu
      go_wp2_with (fail)
      go_region_law (go_simp; go_at_call 65; (with_reducible refine HC.out.mono ?_); rintro e w3 ⟨Ab, cb, rfl, hcb, hrb, _, hb3⟩; clear HC)
      all_goals
        have hs3 : wo.heap.size ≤ w3.heap.size := hb3.size
        have hrb' : Rd w3 wo.heap.size w3.heap.size 1 Ab (nextOf fs u).length (ivs (nextOf fs u)) := hrb
        have HRB := Lib.hid hrb'
        have hup := up (up_drew (Below.refl _ wo)) hb3
        have hnl : (nextOf fs u).length ≤ 14 := by
          rw [nextOf_len]
          have := flUp_le fs true (u : Int) fs.length
          have := HN.out.fls.1
          unfold flOf
          omega
        have HMID : Hid (InMid fs nn w (.slice An nn cn) (.slice Af lf cf) bo bi R M i os co u wo.heap.size w3.heap.size 0 (.slice (some ⟨g, 0, none⟩) os.length cg) w3) :=
          ⟨m, own_keep HO.out hup, fun g' hg' => ⟨HOB.out g' hg', .inl (by simp [Value.ownBlock] at hg'; omega)⟩, HMAP.out.keep hup hMlt, by omega, HK.out.below hup (by omega), up HB.out hup, Nat.le_refl _⟩
        have HWW := HW
        clear hrb hrb' hb3 hup HO HMAP HK HB HOB k0 k1 k2 k3 hc0
        go_wp2
        simp only [List.getElem_toArray, List.getElem_cons_succ, List.getElem_cons_zero, Act.put, List.setIfInBounds_toArray, List.set_cons_succ, List.set_cons_zero]
        go_loopw [3, 26] (fun ov jv wq => ∃ (j : Nat), j ≤ (nextOf fs u).length ∧ jv = .int .i64 j ∧ Rd wq wo.heap.size w3.heap.size 1 Ab (nextOf fs u).length (ivs (nextOf fs u)) ∧ Hid (InMid fs nn w (.slice An nn cn) (.slice Af lf cf) bo bi R M i os co u wo.heap.size w3.heap.size j ov wq))
           (fun _ jv _ => (nextOf fs u).length - (intOf jv).toNat)
        case atStart => exact ⟨0, by omega, rfl, HRB.out, HMID⟩
        case round =>
          clear HMID HRB
          obtain ⟨j, hj, rfl, hrb, HR⟩ := hrel
          obtain ⟨m2, hown, hob, hmap, hm2, hblk, hbl, hs4⟩ := HR.out
          clear HR
          by_cases hjn : j < (nextOf fs u).length
          · obtain ⟨b, off, z, hAe, _, _, hgz, hc0⟩ := hrb.one hjn
            subst hAe
            obtain ⟨v, rfl, hvn, hov⟩ := nextOf_outs HIN.out hgz
            have HF := Lib.hid (fold_snoc (esOf fs) (outs (esOf fs) u) (os, co) hov)
            obtain ⟨hk1, hk2, _, hk4⟩ := HWW.out.mid HSF.out HEI.out HU.out j
            obtain ⟨st, hst⟩ : ∃ st, ((outs (esOf fs) u).take j).foldl (kStep (esOf fs)) (os, co) = st := ⟨_, rfl⟩
            rw [hst] at hk1 hk2 hk4 hown hmap HF
            have hsl := nodup_le hk1.nd hk2
            have hcv := hk4 v
            rw [esOf_len, HN.out.fls.1] at hcv
            have hv64 : in64 (v : Int) := by unfold in64; omega
            have hl1 := hmap.look keyedInt Try.underlying3 Try.underlying76 (zeroI1 wr) hv64 rfl
            rw [cntG_get] at hl1
            obtain ⟨w4, hrun, hmap4, hgr4⟩ := hmap.put keyedInt Try.underlying3 Try.underlying76 (by unfold maxLen; omega) hv64 (.int .i64 ((st.2 v : Int) + 1))
            have hmap4' := hmap4.congr (cntG_put (esOf fs) st u v)
            have hwr : IntKind.i64.wrap ((st.2 v : Int) + 1) = (st.2 v : Int) + 1 := IntWalk.i64_in _ (by omega)
            have hown4 := hown.kept hgr4 (by
              cases hov : Value.ownBlock u3 with
              | none => exact .inl rfl
              | some k => exact .inr fun e => by injection e with e; exact (hob k hov).1 e)
            have hblk4 := hblk.grown hgr4 (fun e => by injection e with e; omega)
            have hbl4 := hbl.grown hgr4 hbl.size (fun k e => by injection e with e; omega)
            have hrb4 := hrb.far hgr4 hs4 (fun k e => by injection e with e; omega)
            have hs5 : wr.heap.size ≤ w4.heap.size := hgr4.size
            have hl2 := hmap4'.look keyedInt Try.underlying3 Try.underlying76 (zeroI1 w4) hv64 rfl
            rw [cntG_get, kStep_two] at hl2
            have hM4 := hmap4'.lt
            obtain ⟨Ai, ci, hl3, _, hri, _⟩ := (HN.out.keep hbl4 hB2).inn.look keyedInt Try.underlying3 Try.underlying48 zeroInts hv64
            rw [cntE_flOf HIN.out] at hl3
            have k3 : w4.cell? ⟨w.heap.size, 3, none⟩ = some (.map (some bi)) := hblk4.cell 3
            have hj1 : (j : Int) < ((nextOf fs u).length : Int) := by omega
            have hj0 : (0 : Int) ≤ (j : Int) := by omega
            have HM4 := Lib.hid hmap4'
            have HO4 := Lib.hid hown4
            have HK4 := Lib.hid hblk4
            have HB4 := Lib.hid hbl4
            have HR4 := Lib.hid hrb4
            have HOB := Lib.hid hob
            have HST := Lib.hid hst
            clear hk1 hk2 hk4 hov hown hob hmap hblk hbl hrb hgz hmap4 hmap4' hown4 hblk4 hbl4 hrb4 hst hri
            generalize hE : cntE (esOf fs) v = E at *
            by_cases hf : st.2 v + 1 = E
            · have HS := Lib.hid (show (kStep (esOf fs) st (u, v)).1 = st.1 ++ [v] from if_pos (by rw [hE]; exact hf))
              have hq : (((st.2 v + 1 : Nat) : Int) == (E : Int)) = true := by simp; omega
              clear hf hE
              generalize st.2 v = cv at *
              generalize hLS : st.1.length = ls at *
              have HLS := Lib.hid hLS
              clear hLS
              go_wp2_with (at_builtin; refine wpList_append_own_at _ rfl _ _ 27 rfl R 3 i0 (.int .i64 0) 1 8 Try.underlying27 hi0 hz0 hz1 hz2 rfl (by decide) _ _ _ rfl (HO4.out.alloc _) ⟨w4.heap.size, 0, none⟩ 1 1 [.int .i64 (v : Int)] rfl rfl (cell_one_new _ _ _) ?c2 ?c3 ?c4 ?c5 ?_)
              case c2 => first | rfl | (intro u hu; simp at hu; subst hu; rfl)
              case c3 => unfold maxLen; omega
              case c4 => omega
              case c5 => first | omega | (simp; omega)
              intro v' w5 hown5 hg5 _ hloc
              have hlow := HO4.out.lt
              have hs6 : w4.heap.size + 1 ≤ w5.heap.size := by have := hg5.size; simpa using this
              have hbl5 := (up_alloc HB4.out (.cells #[.int .i64 (v : Int)] 3)).grown hg5 (up_alloc HB4.out (.cells #[.int .i64 (v : Int)] 3)).size (fun i hi => by have := (hlow i hi).1; omega)
              have hblk5 := (HK4.out.alloc (.cells #[.int .i64 (v : Int)] 3)).grown hg5 (fun e => by have := (hlow _ e.symm).1; omega)
              have hrb5 := (HR4.out.keep (up_alloc (Below.refl _ w4) (.cells #[.int .i64 (v : Int)] 3)) (by omega)).far hg5 (by simp; omega) (fun g hg => (HOB.out g hg).2)
              have hmap5 := (HM4.out.alloc (.cells #[.int .i64 (v : Int)] 3)).kept hg5 (fun e => (HOB.out M e.symm).1 rfl)
              have HX : Hid (InMid fs nn w (.slice An nn cn) (.slice Af lf cf) bo bi R M i os co u wo.heap.size w3.heap.size (j + 1) v' w5) := by
                refine ⟨m2 + 1, ?_, fun g' hg' => ?_, ?_, by omega, hblk5, hbl5, by omega⟩
                · rw [HF.out, HS.out, ois_snoc, List.length_append, HLS.out]
                  exact hown5
                · rcases hloc with h1 | h1
                  · rw [h1] at hg'; exact HOB.out g' hg'
                  · rw [h1] at hg'
                    simp at hg'
                    omega
                · rw [HF.out]; exact hmap5
              have HR5 := Lib.hid hrb5
              clear hown5 hg5 hbl5 hblk5 hrb5 hmap5 HO4 hlow hloc HOB HM4 HK4 HB4 HR4
              go_wp2
              go_roundw
              case rel => exact ⟨j + 1, by omega, by go_num, HR5.out, HX⟩
              case measure => simp [intOf]; omega
            · have HS := Lib.hid (show (kStep (esOf fs) st (u, v)).1 = st.1 from if_neg (by rw [hE]; exact hf))
              have hq : (((st.2 v + 1 : Nat) : Int) == (E : Int)) = false := by simp; omega
              clear hf hE
              have HX : Hid (InMid fs nn w (.slice An nn cn) (.slice Af lf cf) bo bi R M i os co u wo.heap.size w3.heap.size (j + 1) u3 w4) := by
                refine ⟨m2 + 1, ?_, HOB.out, ?_, by omega, HK4.out, HB4.out, by omega⟩
                · rw [HF.out, HS.out]; exact HO4.out
                · rw [HF.out]; exact HM4.out
              generalize st.2 v = cv at *
              clear HO4 HOB HM4 HK4 HB4
              go_wp2
              go_roundw
              case rel => exact ⟨j + 1, by omega, by go_num, HR4.out, HX⟩
              case measure => simp [intOf]; omega
          · obtain rfl : j = (nextOf fs u).length := by omega
            have hil : i + 1 ≤ nn := by omega
            have HX : Hid (InRel fs s nn w (.slice An nn cn) (.slice Af lf cf) bo bi R M (i + 1) u3 wr) := by
              have htk : (outs (esOf fs) u).take (nextOf fs u).length = outs (esOf fs) u := List.take_of_length_le (by rw [outs_len HIN.out]; exact Nat.le_refl _)
              rw [htk] at hown hmap
              exact ⟨_, _, m2, HWW.out.next HSF.out HEI.out HU.out, hown, fun g' hg' => (hob g' hg').1, hmap, by omega, hblk, hbl, hmap.lt⟩
            clear hown hob hmap hblk hbl hrb
            go_wp2
            go_roundw
            case rel => exact ⟨i + 1, hil, by go_num, HX⟩
            case measure => simp [intOf]; omega
    · obtain ⟨Ao, co', hve, hco, hro, hsf⟩ := own_form hown
      subst hve
      have HX := Lib.hid (HORD.out i os co hw (by omega))
      have HF := Lib.hid (show Fresh (ivs (ois os)) 1 os.length w (.returned (.slice Ao os.length co')) wo from Fresh.of_base hown hbl (by omega))
      have hi1 : ¬ (i : Int) < (os.length : Int) := by omega
      clear hw hown hob hmap hblk hbl hro hsf
      go_wp2
      go_ret
      exact ⟨os, HX.out.1, HX.out.2.1, HX.out.2.2, HF.out⟩
end Go.Proofs.Ytonlkodenfiljaa


/- The program's planOf: a valid process without a circle, its times, and an order of its nodes. -/
namespace Go.Proofs.Ytonlkodenfiljaa
open Go.RowKit

theorem RowMap.put1 {P : Program} {kt : TypeId} {w : World} {lo hi b : Nat} {G : Int → List Int} (h : RowMap P kt w lo hi b G) {p : Addr} (hp : p.block < lo ∨ hi ≤ p.block) (u : Value) : RowMap P kt (w.setCell p u) lo hi b G := by
  obtain ⟨n, g, h1, h2, h3, h4⟩ := h
  refine ⟨n, g, h1.same (Below.heap_setCell w p u b (by omega)), h2, h3, fun z => ?_⟩
  obtain ⟨A, c, e, hc, hr, hs⟩ := h4 z
  refine ⟨A, c, e, hc, hr.setCell hp u, fun b' off ea j hj => ?_⟩
  rw [World.frozen?_setCell]
  exact hs b' off ea j hj
theorem Fls.put1 {w : World} {lo hi : Nat} {A : Option Addr} {n : Nat} {fs : List Flw} (h : Fls w lo hi A n fs) {B : Nat} (hB : hi ≤ B) {p : Addr} (hp : B ≤ p.block) (u : Value) : Fls (w.setCell p u) lo hi A n fs :=
  h.keep ((Below.refl B w).setCell hp u) hB
/-- Six cells are written. -/
def put6 (w : World) (q : Nat) (v0 v1 v2 v3 v4 v5 : Value) : World :=
  (((((w.setCell ⟨q, 0, none⟩ v0).setCell ⟨q, 1, none⟩ v1).setCell ⟨q, 2, none⟩ v2).setCell ⟨q, 3, none⟩ v3).setCell ⟨q, 4, none⟩ v4).setCell ⟨q, 5, none⟩ v5
theorem plan_store {w0 w : World} {q : Nat} {a0 a1 a2 a3 a4 a5 : Value} (h : Blk w q 54 #[a0, a1, a2, a3, a4, a5]) (hb : Below w0.heap.size w0 w) (hq : w0.heap.size ≤ q) (v0 v1 v2 v3 v4 v5 : Value) :
    (put6 w q v0 v1 v2 v3 v4 v5).cell? ⟨q, 0, none⟩ = some v0 ∧ (put6 w q v0 v1 v2 v3 v4 v5).cell? ⟨q, 1, none⟩ = some v1 ∧ (put6 w q v0 v1 v2 v3 v4 v5).cell? ⟨q, 2, none⟩ = some v2 ∧
    (put6 w q v0 v1 v2 v3 v4 v5).cell? ⟨q, 3, none⟩ = some v3 ∧ (put6 w q v0 v1 v2 v3 v4 v5).cell? ⟨q, 4, none⟩ = some v4 ∧ (put6 w q v0 v1 v2 v3 v4 v5).cell? ⟨q, 5, none⟩ = some v5 ∧
    Below w0.heap.size w0 (put6 w q v0 v1 v2 v3 v4 v5) := by
  have hZ := (((((h.put 0 v0).put 1 v1).put 2 v2).put 3 v3).put 4 v4).put 5 v5
  have b0 := hZ.cell 0
  have b1 := hZ.cell 1
  have b2 := hZ.cell 2
  have b3 := hZ.cell 3
  have b4 := hZ.cell 4
  have b5 := hZ.cell 5
  simp at b0 b1 b2 b3 b4 b5
  exact ⟨b0, b1, b2, b3, b4, b5, (((((hb.setCell (p := ⟨q, 0, none⟩) hq v0).setCell (p := ⟨q, 1, none⟩) hq v1).setCell (p := ⟨q, 2, none⟩) hq v2).setCell (p := ⟨q, 3, none⟩) hq v3).setCell (p := ⟨q, 4, none⟩) hq v4).setCell (p := ⟨q, 5, none⟩) hq v5⟩
theorem put6_rows {w : World} {q lo hi b : Nat} {G : Int → List Int} (h : RowMap Try.prog 3 w lo hi b G) (hq : q < lo ∨ hi ≤ q) (v0 v1 v2 v3 v4 v5 : Value) : RowMap Try.prog 3 (put6 w q v0 v1 v2 v3 v4 v5) lo hi b G :=
  (((((h.put1 (p := ⟨q, 0, none⟩) hq v0).put1 (p := ⟨q, 1, none⟩) hq v1).put1 (p := ⟨q, 2, none⟩) hq v2).put1 (p := ⟨q, 3, none⟩) hq v3).put1 (p := ⟨q, 4, none⟩) hq v4).put1 (p := ⟨q, 5, none⟩) hq v5
theorem put6_rd {w : World} {q lo hi size n : Nat} {A : Option Addr} {xs : List Value} (h : Rd w lo hi size A n xs) (hq : q < lo ∨ hi ≤ q) (v0 v1 v2 v3 v4 v5 : Value) : Rd (put6 w q v0 v1 v2 v3 v4 v5) lo hi size A n xs :=
  (((((h.setCell (p := ⟨q, 0, none⟩) hq v0).setCell (p := ⟨q, 1, none⟩) hq v1).setCell (p := ⟨q, 2, none⟩) hq v2).setCell (p := ⟨q, 3, none⟩) hq v3).setCell (p := ⟨q, 4, none⟩) hq v4).setCell (p := ⟨q, 5, none⟩) hq v5
theorem put6_size (w : World) (q : Nat) (v0 v1 v2 v3 v4 v5 : Value) : (put6 w q v0 v1 v2 v3 v4 v5).heap.size = w.heap.size := by simp [put6, World.setCell]
theorem soft6 {w : World} {q : Nat} {a0 a1 a2 a3 a4 a5 : Value} (h : Blk w q 54 #[a0, a1, a2, a3, a4, a5]) (i : Nat) : w.frozen? ⟨q, i, none⟩ = false := h.soft i

def PlanPost (ns : List (Int × Int)) (fs : List Flw) (ts : List Int) (An : Option Addr) (nn cn : Nat) (Af : Option Addr) (lf cf : Nat) (A' : Option Addr) (n' c' : Nat) (w : World) (e : Ending) (w' : World) : Prop :=
  (planOk ns fs ts = false ∧ e = .returned (.tuple #[.agg #[.slice none 0 0, .slice none 0 0, .map none, .map none, .slice none 0 0, .slice none 0 0], .bool false]) ∧ Below w.heap.size w w') ∨
  (planOk ns fs ts = true ∧ ∃ bo bi Ao co os, e = .returned (.tuple #[.agg #[.slice An nn cn, .slice Af lf cf, .map (some bo), .map (some bi), .slice A' n' c', .slice Ao os.length co], .bool true]) ∧
    NetAt w' w'.heap.size Af lf bo bi fs ∧ Rd w' 0 w'.heap.size 1 Ao os.length (ivs (ois os)) ∧ Order (esOf fs) nn os ∧ os.Nodup ∧ (∀ v ∈ os, v < nn) ∧ Below w.heap.size w w')

set_option maxRecDepth 100000 in
set_option maxHeartbeats 3200000 in
theorem planOf_any (lo hi nn cn : Nat) (An : Option Addr) (ns : List (Int × Int)) (lo1 hi1 lf cf : Nat) (Af : Option Addr) (fs : List Flw) (lo' hi' n' c' : Nat) (A' : Option Addr) (ts : List Int) (w : World) (hrn : Rd w lo hi 2 An nn (pvs ns)) (hB : hi ≤ w.heap.size) (hnn : nn ≤ 1048576)
    (hr : Fls w lo1 hi1 Af lf fs) (hB1 : hi1 ≤ w.heap.size) (hn : lf ≤ 1048576) (hv : Rd w lo' hi' 1 A' n' (ivs ts)) (hB' : hi' ≤ w.heap.size) (hn' : n' ≤ 1048576) :
    Calls Try.prog 31 #[.agg #[.slice An nn cn, .slice Af lf cf], .slice A' n' c'] w (PlanPost ns fs ts An nn cn Af lf cf A' n' c' w) := by
  have HL := Lib.hid hrn.len2
  have HT := Lib.hid hv.len1
  have hb1 := up_alloc (up_alloc (Below.refl _ w) (.cells #[.slice An nn cn, .slice Af lf cf] 26)) (.cells #[.slice none 0 0, .slice none 0 0, .map none, .map none, .slice none 0 0, .slice none 0 0] 54)
  have hp := (Blk.new w 26 #[.slice An nn cn, .slice Af lf cf]).alloc (.cells #[.slice none 0 0, .slice none 0 0, .map none, .map none, .slice none 0 0, .slice none 0 0] 54)
  have hq : Blk ((w.alloc (.cells #[.slice An nn cn, .slice Af lf cf] 26)).alloc (.cells #[.slice none 0 0, .slice none 0 0, .map none, .map none, .slice none 0 0, .slice none 0 0] 54)) (w.heap.size + 1) 54 #[.slice none 0 0, .slice none 0 0, .map none, .map none, .slice none 0 0, .slice none 0 0] := by
    simpa using Blk.new (w.alloc (.cells #[.slice An nn cn, .slice Af lf cf] 26)) 54 #[.slice none 0 0, .slice none 0 0, .map none, .map none, .slice none 0 0, .slice none 0 0]
  have hs1 : ((w.alloc (.cells #[.slice An nn cn, .slice Af lf cf] 26)).alloc (.cells #[.slice none 0 0, .slice none 0 0, .map none, .map none, .slice none 0 0, .slice none 0 0] 54)).heap.size = w.heap.size + 2 := by simp
  have HC := Lib.hid (netOf_any lo hi nn cn An ns lo1 hi1 lf cf Af fs _ (hrn.keep hb1 hB) (Nat.le_trans hB hb1.size) hnn (hr.keep hb1 hB1) (Nat.le_trans hB1 hb1.size) hn)
  have HRN := Lib.hid hrn
  have HR := Lib.hid hr
  have HV := Lib.hid hv
  have HB1 := Lib.hid hb1
  have HP := Lib.hid hp
  have HQ := Lib.hid hq
  clear hrn hr hv hb1 hp hq
  go_enter Try.func31, Try.ntmps31
  go_wp2_with (fail)
  (with_reducible refine HC.out.mono ?_)
  clear HC
  rintro e w1 (⟨hV, rfl, hb2⟩ | ⟨hV, bo, bi, rfl, hmo, hmi, hb2⟩)
  · have hs2 := hb2.size
    rw [hs1] at hs2
    have hq1 := (HQ.out.below hb2 (by omega)).alloc (.cells #[.slice none 0 0, .slice none 0 0, .map none, .map none] 52)
    have q0 := hq1.soft 0
    have q1 := hq1.soft 1
    have q2 := hq1.soft 2
    have q3 := hq1.soft 3
    have q4 := hq1.soft 4
    have q5 := hq1.soft 5
    have r0 := hq1.cell 0
    have r1 := hq1.cell 1
    have r2 := hq1.cell 2
    have r3 := hq1.cell 3
    have r4 := hq1.cell 4
    have r5 := hq1.cell 5
    simp only [List.getElem?_toArray, List.getElem?_cons_zero, List.getElem?_cons_succ] at r0 r1 r2 r3 r4 r5
    obtain ⟨b0, b1, b2, b3, b4, b5, hbz⟩ := plan_store hq1 (up_alloc (up HB1.out hb2) (.cells #[.slice none 0 0, .slice none 0 0, .map none, .map none] 52)) (by omega) (.slice none 0 0) (.slice none 0 0) (.map none) (.map none) (.slice none 0 0) (.slice none 0 0)
    have HX := Lib.hid (show planOk ns fs ts = false by unfold planOk; rw [hV]; rfl)
    have HBZ := Lib.hid hbz
    unfold put6 at b0 b1 b2 b3 b4 b5 HBZ
    clear hb2 hq1 hV hbz HP HQ HB1
    go_wp2
    exact bodyPost_ret (v := .tuple #[.agg #[.slice none 0 0, .slice none 0 0, .map none, .map none, .slice none 0 0, .slice none 0 0], .bool false]) (by simp [results, Try.results31, go_sem, b0, b1, b2, b3, b4, b5]) rfl (.inl ⟨HX.out, rfl, HBZ.out⟩)
  · unfold netV
    have hs2 := hb2.size
    rw [hs1] at hs2 hmo hmi
    have hlen := vProc_len hV
    have h14 : lf ≤ 14 := by have := HR.out.1; omega
    have hnn10 : nn ≤ 10 := by have := HL.out; omega
    have hba := up_alloc (Below.refl _ w1) (.cells #[.slice An nn cn, .slice Af lf cf, .map (some bo), .map (some bi)] 52)
    have HN1 := Lib.hid (Blk.new w1 52 #[.slice An nn cn, .slice Af lf cf, .map (some bo), .map (some bi)])
    have HP1 := Lib.hid ((HP.out.below hb2 (by omega)).alloc (.cells #[.slice An nn cn, .slice Af lf cf, .map (some bo), .map (some bi)] 52))
    have HQ1 := Lib.hid ((HQ.out.below hb2 (by omega)).alloc (.cells #[.slice An nn cn, .slice Af lf cf, .map (some bo), .map (some bi)] 52))
    have HB2 := Lib.hid (up (up HB1.out hb2) hba)
    have HMO := Lib.hid (hmo.keep hba (Nat.le_refl _))
    have HMI := Lib.hid (hmi.keep hba (Nat.le_refl _))
    have hsa : (w1.alloc (.cells #[.slice An nn cn, .slice Af lf cf, .map (some bo), .map (some bi)] 52)).heap.size = w1.heap.size + 1 := by simp
    have HVP := Lib.hid hV
    have HC2 := Lib.hid (HasCircleI_any lo hi nn cn An ns lo1 hi1 lf cf Af fs (w1.alloc (.cells #[.slice An nn cn, .slice Af lf cf, .map (some bo), .map (some bi)] 52)) (HRN.out.keep HB2.out hB) (by omega) hnn (HR.out.keep HB2.out hB1) (by omega) hn)
    have k0 := HP1.out.cell 0
    have k1 := HP1.out.cell 1
    simp only [List.getElem?_toArray, List.getElem?_cons_zero, List.getElem?_cons_succ] at k0 k1
    clear hb2 hmo hmi hba HP HQ HB1 hV hlen
    cases hC : circOf ns fs with
    | true =>
      have HX := Lib.hid (show planOk ns fs ts = false by unfold planOk; rw [hC]; simp)
      rw [hC] at HC2
      clear hC
      go_wp2_with (fail)
      (with_reducible refine HC2.out.mono ?_)
      rintro e w2 ⟨rfl, hb3⟩
      have hs3 := hb3.size
      rw [hsa] at hs3
      have hq1 := HQ1.out.below hb3 (by omega)
      have q0 := hq1.soft 0
      have q1 := hq1.soft 1
      have q2 := hq1.soft 2
      have q3 := hq1.soft 3
      have q4 := hq1.soft 4
      have q5 := hq1.soft 5
      have r0 := hq1.cell 0
      have r1 := hq1.cell 1
      have r2 := hq1.cell 2
      have r3 := hq1.cell 3
      have r4 := hq1.cell 4
      have r5 := hq1.cell 5
      simp only [List.getElem?_toArray, List.getElem?_cons_zero, List.getElem?_cons_succ] at r0 r1 r2 r3 r4 r5
      obtain ⟨b0, b1, b2, b3, b4, b5, hbz⟩ := plan_store hq1 (up HB2.out hb3) (by omega) (.slice none 0 0) (.slice none 0 0) (.map none) (.map none) (.slice none 0 0) (.slice none 0 0)
      have HBZ := Lib.hid hbz
      unfold put6 at b0 b1 b2 b3 b4 b5 HBZ
      clear hq1 hbz hb3 k0 k1
      go_wp2
      exact bodyPost_ret (v := .tuple #[.agg #[.slice none 0 0, .slice none 0 0, .map none, .map none, .slice none 0 0, .slice none 0 0], .bool false]) (by simp [results, Try.results31, go_sem, b0, b1, b2, b3, b4, b5]) rfl (.inl ⟨HX.out, rfl, HBZ.out⟩)
    | false =>
      rw [hC] at HC2
      have HCC := Lib.hid hC
      clear hC
      go_wp2_with (fail)
      (with_reducible refine HC2.out.mono ?_)
      clear HC2
      rintro e w2 ⟨rfl, hb3⟩
      have hs3 := hb3.size
      rw [hsa] at hs3
      have HN2 := Lib.hid (HN1.out.below hb3 (by omega))
      have HP2 := Lib.hid (HP1.out.below hb3 (by omega))
      have HQ2 := Lib.hid (HQ1.out.below hb3 (by omega))
      have HB3 := Lib.hid (up HB2.out hb3)
      have HMO2 := Lib.hid (HMO.out.keep hb3 (by omega))
      have HMI2 := Lib.hid (HMI.out.keep hb3 (by omega))
      clear hb3 k0 k1 HN1 HP1 HQ1 HB2 HMO HMI hsa
      have k0 := HP2.out.cell 0
      simp only [List.getElem?_toArray, List.getElem?_cons_zero, List.getElem?_cons_succ] at k0
      by_cases hne : n' = nn
      · subst hne
        have hz0 : ((n' : Int) != (n' : Int)) = false := by simp
        go_wp2
        go_loop [32] (fun iv => ∃ (k : Nat), k ≤ n' ∧ iv = .int .i64 k ∧ Hid (((ts.take k).all fun t => inR t 0 500) = true))
           (fun iv => n' - (intOf iv).toNat)
        case atStart => exact ⟨0, by omega, rfl, rfl⟩
        case round =>
          obtain ⟨k, hk, rfl, HALL⟩ := hrel
          by_cases hkn : k < n'
          · obtain ⟨b, off, v, rfl, _, _, hg, hc0⟩ := (HV.out.keep HB3.out hB').one hkn
            have hk1 : (k : Int) < (n' : Int) := by omega
            have hk0' : (0 : Int) ≤ (k : Int) := by omega
            have HG := Lib.hid hg
            clear hg
            by_cases hv0 : v < 0
            · have hv0' : decide (v < 0) = true := decide_eq_true hv0
              have HX := Lib.hid (show planOk ns fs ts = false by
                unfold planOk vTimes
                have : (ts.all fun t => inR t 0 500) = false := by
                  rw [Bool.eq_false_iff]; intro h
                  have := inR_iff.1 (List.all_eq_true.1 h v (List.mem_of_getElem? HG.out))
                  omega
                rw [this]; simp)
              have hq1 := HQ2.out
              have q0 := hq1.soft 0
              have q1 := hq1.soft 1
              have q2 := hq1.soft 2
              have q3 := hq1.soft 3
              have q4 := hq1.soft 4
              have q5 := hq1.soft 5
              have r0 := hq1.cell 0
              have r1 := hq1.cell 1
              have r2 := hq1.cell 2
              have r3 := hq1.cell 3
              have r4 := hq1.cell 4
              have r5 := hq1.cell 5
              simp only [List.getElem?_toArray, List.getElem?_cons_zero, List.getElem?_cons_succ] at r0 r1 r2 r3 r4 r5
              obtain ⟨b0, b1, b2, b3, b4, b5, hbz⟩ := plan_store hq1 HB3.out (by omega) (.slice none 0 0) (.slice none 0 0) (.map none) (.map none) (.slice none 0 0) (.slice none 0 0)
              have HBZ := Lib.hid hbz
              unfold put6 at b0 b1 b2 b3 b4 b5 HBZ
              clear hq1 hbz k0
              go_wp2
              exact bodyPost_ret (v := .tuple #[.agg #[.slice none 0 0, .slice none 0 0, .map none, .map none, .slice none 0 0, .slice none 0 0], .bool false]) (by simp [results, Try.results31, go_sem, b0, b1, b2, b3, b4, b5]) rfl (.inl ⟨HX.out, rfl, HBZ.out⟩)
            by_cases hv5 : 500 < v
            · have hv0' : decide (v < 0) = false := decide_eq_false hv0
              have hv5' : decide (500 < v) = true := decide_eq_true hv5
              have HX := Lib.hid (show planOk ns fs ts = false by
                unfold planOk vTimes
                have : (ts.all fun t => inR t 0 500) = false := by
                  rw [Bool.eq_false_iff]; intro h
                  have := inR_iff.1 (List.all_eq_true.1 h v (List.mem_of_getElem? HG.out))
                  omega
                rw [this]; simp)
              have hq1 := HQ2.out
              have q0 := hq1.soft 0
              have q1 := hq1.soft 1
              have q2 := hq1.soft 2
              have q3 := hq1.soft 3
              have q4 := hq1.soft 4
              have q5 := hq1.soft 5
              have r0 := hq1.cell 0
              have r1 := hq1.cell 1
              have r2 := hq1.cell 2
              have r3 := hq1.cell 3
              have r4 := hq1.cell 4
              have r5 := hq1.cell 5
              simp only [List.getElem?_toArray, List.getElem?_cons_zero, List.getElem?_cons_succ] at r0 r1 r2 r3 r4 r5
              obtain ⟨b0, b1, b2, b3, b4, b5, hbz⟩ := plan_store hq1 HB3.out (by omega) (.slice none 0 0) (.slice none 0 0) (.map none) (.map none) (.slice none 0 0) (.slice none 0 0)
              have HBZ := Lib.hid hbz
              unfold put6 at b0 b1 b2 b3 b4 b5 HBZ
              clear hq1 hbz k0
              go_wp2
              exact bodyPost_ret (v := .tuple #[.agg #[.slice none 0 0, .slice none 0 0, .map none, .map none, .slice none 0 0, .slice none 0 0], .bool false]) (by simp [results, Try.results31, go_sem, b0, b1, b2, b3, b4, b5]) rfl (.inl ⟨HX.out, rfl, HBZ.out⟩)
            have hv0' : decide (v < 0) = false := decide_eq_false hv0
            have hv5' : decide (500 < v) = false := decide_eq_false hv5
            have HA2 : Hid (((ts.take (k + 1)).all fun t => inR t 0 500) = true) := by
              have : inR v 0 500 = true := inR_iff.2 ⟨by omega, by omega⟩
              rw [Hid, take_snoc HG.out, List.all_append, HALL.out]; simp [this]
            clear hv0 hv5
            go_wp2
            go_round
            case rel => exact ⟨k + 1, by omega, by go_num, HA2⟩
            case measure => simp [intOf]; omega
          · obtain rfl : k = n' := by omega
            have HX := Lib.hid (show planOk ns fs ts = true by
              have h1 := HALL.out
              rw [List.take_of_length_le (by rw [HT.out]; exact Nat.le_refl _)] at h1
              unfold planOk vTimes
              rw [HVP.out, HCC.out, h1, HT.out, HL.out]; simp)
            have HPL := Lib.hid (plan_of HX.out)
            have c0 := HN2.out.cell 0
            have c1 := HN2.out.cell 1
            have c2 := HN2.out.cell 2
            have c3 := HN2.out.cell 3
            simp only [List.getElem?_toArray, List.getElem?_cons_zero, List.getElem?_cons_succ] at c0 c1 c2 c3
            have hsw : w.heap.size ≤ w2.heap.size := by omega
            have HNA := Lib.hid (show NetAt w2 w2.heap.size Af lf bo bi fs from ⟨(HR.out.keep HB3.out hB1).wide (Nat.zero_le _) (Nat.le_trans hB1 hsw), HMO2.out.wide (Nat.zero_le _) (by omega), HMI2.out.wide (Nat.zero_le _) (by omega)⟩)
            have HC := Lib.hid (inOrder_any lo hi k cn An ns w2.heap.size lf cf Af bo bi fs w2.drew (HRN.out.keep (up_drew HB3.out) hB) (Nat.le_trans hB hsw) (HNA.out.keep (up_drew (Below.refl _ w2)) (Nat.le_refl _)) (Nat.le_refl _) HPL.out.v HPL.out.c)
            clear HALL k0
            go_wp2_with (fail)
            go_region_law (go_simp; go_at_call 64; (with_reducible refine HC.out.mono ?_); rintro e w3 ⟨os, hord, hnd, hlt, Ao, co, rfl, hco, hro, _, hb4⟩; have hs4 : w2.heap.size ≤ w3.heap.size := hb4.size; have hx : Below w2.heap.size w2 w3 := up (up_drew (Below.refl _ w2)) hb4; have hn3 := HN2.out.below hx (by omega); have hq3 := HQ2.out.below hx (by omega); have e0 := hn3.cell 0; have e1 := hn3.cell 1; have e2 := hn3.cell 2; have e3 := hn3.cell 3; have q0 := hq3.soft 0; have q1 := hq3.soft 1; have q2 := hq3.soft 2; have q3 := hq3.soft 3; have q4 := hq3.soft 4; have q5 := hq3.soft 5; have r0 := hq3.cell 0; have r1 := hq3.cell 1; have r2 := hq3.cell 2; have r3 := hq3.cell 3; have r4 := hq3.cell 4; have r5 := hq3.cell 5; simp only [List.getElem?_toArray, List.getElem?_cons_zero, List.getElem?_cons_succ] at e0 e1 e2 e3 r0 r1 r2 r3 r4 r5; have HX3 := Lib.hid hx; have HQ3 := Lib.hid hq3; have HRO := Lib.hid hro; have HORD := Lib.hid hord; have HND := Lib.hid hnd; have HLT := Lib.hid hlt; clear hx hq3 hn3 hro hb4 hord hnd hlt HC)
            all_goals
              have hsz6 := put6_size w3 (w.heap.size + 1) (.slice An k cn) (.slice Af lf cf) (.map (some bo)) (.map (some bi)) (.slice A' k c') (.slice Ao os.length co)
              obtain ⟨b0, b1, b2, b3, b4, b5, hbz⟩ := plan_store HQ3.out (up HB3.out (HX3.out.mono (Nat.le_refl _))) (by omega) (.slice An k cn) (.slice Af lf cf) (.map (some bo)) (.map (some bi)) (.slice A' k c') (.slice Ao os.length co)
              have HNF := Lib.hid (show NetAt (put6 w3 (w.heap.size + 1) (.slice An k cn) (.slice Af lf cf) (.map (some bo)) (.map (some bi)) (.slice A' k c') (.slice Ao os.length co)) (put6 w3 (w.heap.size + 1) (.slice An k cn) (.slice Af lf cf) (.map (some bo)) (.map (some bi)) (.slice A' k c') (.slice Ao os.length co)).heap.size Af lf bo bi fs by
                rw [hsz6]
                exact ⟨(HR.out.keep hbz hB1).wide (Nat.zero_le _) (by omega), (put6_rows (HMO2.out.keep HX3.out (by omega)) (.inl (by omega)) _ _ _ _ _ _).wide (Nat.zero_le _) (by omega), (put6_rows (HMI2.out.keep HX3.out (by omega)) (.inl (by omega)) _ _ _ _ _ _).wide (Nat.zero_le _) (by omega)⟩)
              have HRF := Lib.hid (show Rd (put6 w3 (w.heap.size + 1) (.slice An k cn) (.slice Af lf cf) (.map (some bo)) (.map (some bi)) (.slice A' k c') (.slice Ao os.length co)) 0 (put6 w3 (w.heap.size + 1) (.slice An k cn) (.slice Af lf cf) (.map (some bo)) (.map (some bi)) (.slice A' k c') (.slice Ao os.length co)).heap.size 1 Ao os.length (ivs (ois os)) by
                rw [hsz6]
                exact (put6_rd HRO.out (.inl (by show w.heap.size + 1 < w2.heap.size; omega)) _ _ _ _ _ _).wide (Nat.zero_le _) (Nat.le_refl _))
              have HBZ := Lib.hid hbz
              unfold put6 at b0 b1 b2 b3 b4 b5 HBZ HNF HRF
              clear hbz hsz6 HQ3 HX3 HRO c0 c1 c2 c3
              go_wp2
              exact bodyPost_ret (v := .tuple #[.agg #[.slice An k cn, .slice Af lf cf, .map (some bo), .map (some bi), .slice A' k c', .slice Ao os.length co], .bool true]) (by simp [results, Try.results31, go_sem, b0, b1, b2, b3, b4, b5]) rfl (.inr ⟨HX.out, bo, bi, Ao, co, os, rfl, HNF.out, HRF.out, HORD.out, HND.out, HLT.out, HBZ.out⟩)
      · have HX := Lib.hid (show planOk ns fs ts = false by
          unfold planOk vTimes
          rw [HT.out, HL.out, decide_eq_false hne]; simp)
        have hz0 : ((n' : Int) != (nn : Int)) = true := by simp; omega
        clear hne
        have hq1 := HQ2.out
        have q0 := hq1.soft 0
        have q1 := hq1.soft 1
        have q2 := hq1.soft 2
        have q3 := hq1.soft 3
        have q4 := hq1.soft 4
        have q5 := hq1.soft 5
        have r0 := hq1.cell 0
        have r1 := hq1.cell 1
        have r2 := hq1.cell 2
        have r3 := hq1.cell 3
        have r4 := hq1.cell 4
        have r5 := hq1.cell 5
        simp only [List.getElem?_toArray, List.getElem?_cons_zero, List.getElem?_cons_succ] at r0 r1 r2 r3 r4 r5
        obtain ⟨b0, b1, b2, b3, b4, b5, hbz⟩ := plan_store hq1 HB3.out (by omega) (.slice none 0 0) (.slice none 0 0) (.map none) (.map none) (.slice none 0 0) (.slice none 0 0)
        have HBZ := Lib.hid hbz
        unfold put6 at b0 b1 b2 b3 b4 b5 HBZ
        clear hq1 hbz
        go_wp2
        exact bodyPost_ret (v := .tuple #[.agg #[.slice none 0 0, .slice none 0 0, .map none, .map none, .slice none 0 0, .slice none 0 0], .bool false]) (by simp [results, Try.results31, go_sem, b0, b1, b2, b3, b4, b5]) rfl (.inl ⟨HX.out, rfl, HBZ.out⟩)
end Go.Proofs.Ytonlkodenfiljaa


/- The program's earliest begins, and their end. -/
namespace Go.Proofs.Ytonlkodenfiljaa
open Go.RowKit

/-- What a plan in memory stands for. -/
structure PlanAt (w : World) (hi nn : Nat) (Af : Option Addr) (lf bo bi : Nat) (A' : Option Addr) (n' : Nat) (Ao : Option Addr) (os : List Nat) (ns : List (Int × Int)) (fs : List Flw) (ts : List Int) : Prop where
  net : NetAt w hi Af lf bo bi fs
  tim : Rd w 0 hi 1 A' n' (ivs ts)
  ord : Rd w 0 hi 1 Ao os.length (ivs (ois os))
  hL : ns.length = nn
  pl : Plan ns fs ts
  o : Order (esOf fs) nn os
  nd : os.Nodup
  lt : ∀ v ∈ os, v < nn
section
variable {w w' : World} {hi nn : Nat} {Af : Option Addr} {lf bo bi : Nat} {A' : Option Addr} {n' : Nat} {Ao : Option Addr} {os : List Nat} {ns : List (Int × Int)} {fs : List Flw} {ts : List Int}
theorem PlanAt.keep (h : PlanAt w hi nn Af lf bo bi A' n' Ao os ns fs ts) {B : Nat} (hb : Below B w w') (hB : hi ≤ B) : PlanAt w' hi nn Af lf bo bi A' n' Ao os ns fs ts :=
  ⟨h.net.keep hb hB, h.tim.keep hb hB, h.ord.keep hb hB, h.hL, h.pl, h.o, h.nd, h.lt⟩
theorem PlanAt.n10 (h : PlanAt w hi nn Af lf bo bi A' n' Ao os ns fs ts) : nn ≤ 10 := by have := (vProc_len h.pl.v).2.1; have := h.hL; omega
theorem PlanAt.n2 (h : PlanAt w hi nn Af lf bo bi A' n' Ao os ns fs ts) : 2 ≤ nn := by have := (vProc_len h.pl.v).1; have := h.hL; omega
theorem PlanAt.l14 (h : PlanAt w hi nn Af lf bo bi A' n' Ao os ns fs ts) : lf ≤ 14 := by have := (vProc_len h.pl.v).2.2; have := h.net.fls.1; omega
theorem PlanAt.nt (h : PlanAt w hi nn Af lf bo bi A' n' Ao os ns fs ts) : n' = nn := by have := vTimes_len h.pl.t; have := h.hL; have := h.tim.len1; omega
theorem PlanAt.ins (h : PlanAt w hi nn Af lf bo bi A' n' Ao os ns fs ts) : Inside fs nn := by have := vProc_inside h.pl.v; rwa [h.hL] at this
theorem PlanAt.len (h : PlanAt w hi nn Af lf bo bi A' n' Ao os ns fs ts) : os.length ≤ nn := nodup_le h.nd h.lt
end
/-- The begins ahead of the node at place i, and within it behind j flows. -/
def begI (ts : List Int) (es : List (Nat × Nat)) (N : Nat) (os : List Nat) (i : Nat) : List Int := plxAll ts (List.replicate N 0) ((os.take i).flatMap (outs es))
def begJ (ts : List Int) (es : List (Nat × Nat)) (N : Nat) (os : List Nat) (i u j : Nat) : List Int := plxAll ts (begI ts es N os i) ((outs es u).take j)
theorem begI_len (ts : List Int) (es : List (Nat × Nat)) (N : Nat) (os : List Nat) (i : Nat) : (begI ts es N os i).length = N := by unfold begI; rw [plxAll_len, List.length_replicate]
theorem begJ_len (ts : List Int) (es : List (Nat × Nat)) (N : Nat) (os : List Nat) (i u j : Nat) : (begJ ts es N os i u j).length = N := by unfold begJ; rw [plxAll_len, begI_len]
theorem begJ_step {ts : List Int} {es : List (Nat × Nat)} {N : Nat} {os : List Nat} {i u j : Nat} {e : Nat × Nat} (h : (outs es u)[j]? = some e) : begJ ts es N os i u (j + 1) = plx ts (begJ ts es N os i u j) e := by
  unfold begJ; rw [take_snoc h, plxAll_append]; rfl
theorem begJ_all {ts : List Int} {es : List (Nat × Nat)} {N : Nat} {os : List Nat} {i u j : Nat} (hu : os[i]? = some u) (hj : j = (outs es u).length) : begJ ts es N os i u j = begI ts es N os (i + 1) := by
  unfold begJ begI
  rw [hj, List.take_length, take_snoc hu, List.flatMap_append, plxAll_append]
  simp
theorem begJ_in {ts : List Int} {es : List (Nat × Nat)} {N : Nat} {os : List Nat} (h : Order es N os) (ht : ∀ v, 0 ≤ beg ts v ∧ beg ts v ≤ 500) (i u j v : Nat) (hN : N ≤ 10) : 0 ≤ beg (begJ ts es N os i u j) v ∧ beg (begJ ts es N os i u j) v ≤ 5000 := by
  have hc := (capOf_le h v).2
  have h0 := h.within (t := ts) (b := List.replicate N 0) (fs := (os.take i).flatMap (outs es) ++ (outs es u).take j) (fun v => (ht v).2) (by rw [List.length_replicate]) (fun v => by rw [beg_zeros]; omega) (fun v => by rw [beg_zeros]; exact (capOf_le h v).1) (fun e he => by
    rcases List.mem_append.1 he with he | he
    · obtain ⟨x, _, hx⟩ := List.mem_flatMap.1 he; exact (outs_mem.1 hx).1
    · exact (outs_mem.1 (List.mem_of_mem_take he)).1) v
  rw [plxAll_append] at h0
  unfold begJ begI
  omega
theorem begI_all {ts : List Int} {es : List (Nat × Nat)} {N : Nat} {os : List Nat} (h : Order es N os) : begI ts es N os os.length = roundsOf ts es N N := by
  unfold begI; rw [List.take_length, h.same]; rfl

set_option maxRecDepth 100000 in
set_option maxHeartbeats 3200000 in
theorem earliestI_any (hi nn cn : Nat) (An : Option Addr) (lf cf : Nat) (Af : Option Addr) (bo bi n' c' : Nat) (A' Ao : Option Addr) (co : Nat) (os : List Nat) (ns : List (Int × Int)) (fs : List Flw) (ts : List Int) (w : World) (hp : PlanAt w hi nn Af lf bo bi A' n' Ao os ns fs ts) (hB : hi ≤ w.heap.size) :
    Calls Try.prog 32 #[.agg #[.slice An nn cn, .slice Af lf cf, .map (some bo), .map (some bi), .slice A' n' c', .slice Ao os.length co]] w (OwnI w nn (earlyOf ns fs ts)) := by
  have hnn := hp.n10
  have h2 := hp.nt
  subst h2
  have h14 := hp.l14
  have hol := hp.len
  have HP := Lib.hid hp
  have HE := Lib.hid (show earlyOf ns fs ts = begI ts (esOf fs) n' os os.length by rw [begI_all hp.o]; unfold earlyOf; rw [hp.hL])
  have hb1 := up_alloc (Below.refl _ w) (.cells #[.slice An n' cn, .slice Af lf cf, .map (some bo), .map (some bi), .slice A' n' c', .slice Ao os.length co] 54)
  have hblk1 := Blk.new w 54 #[.slice An n' cn, .slice Af lf cf, .map (some bo), .map (some bi), .slice A' n' c', .slice Ao os.length co]
  have e1 : (w.alloc (.cells #[.slice An n' cn, .slice Af lf cf, .map (some bo), .map (some bi), .slice A' n' c', .slice Ao os.length co] 54)).heap.size = w.heap.size + 1 := by simp
  obtain ⟨i0, hi0, hz0, hz1, hz2⟩ := info_parts infoInt
  obtain ⟨wm, hmk, hown, hgr⟩ := run_make_full (P := Try.prog) (w.alloc (.cells #[.slice An n' cn, .slice Af lf cf, .map (some bo), .map (some bi), .slice A' n' c', .slice Ao os.length co] 54)) (w.heap.size + 1) 27 3 i0 _ 1 Try.underlying27 hi0 hz0 hz1 .i64 .i64 n' (by rw [hz2]; omega) (by unfold maxLen; omega) (by rw [e1]; exact Nat.le_refl _)
  have hbm := hb1.grown hgr (by rw [e1]; omega) (by simp)
  have hblkm := hblk1.grown hgr (by simp)
  rw [e1] at hown hmk
  have hcell0 : (madeCells (Value.int .i64 0).cells (n' * 1)).toList = ivs (List.replicate n' 0) := by
    show (madeCells #[.int .i64 0] (n' * 1)).toList = _
    rw [toList_madeCells_one, Nat.mul_one]; simp [ivs]
  rw [hcell0] at hown
  have hsm : w.heap.size + 1 < wm.heap.size := by
    rcases hown.2 with ⟨hv, _⟩ | ⟨g, cap, cur, hv, _, hh, _⟩
    · cases hv
    · injection hv with hv; injection hv with hv; injection hv with hv
      subst hv
      exact (Array.getElem?_eq_some_iff.1 hh).1
  have k0 := hblkm.cell 5
  have kn := hblk1.cell 0
  simp only [List.getElem?_toArray, List.getElem?_cons_zero, List.getElem?_cons_succ] at k0 kn
  have HOWN := Lib.hid (show wm.ownsRow (w.heap.size + 1) 3 1 (.slice (some ⟨w.heap.size + 1, 0, none⟩) n' n') n' (ivs (begI ts (esOf fs) n' os 0)) from hown)
  have HBM := Lib.hid hbm
  have HKM := Lib.hid hblkm
  clear hcell0 hgr hi0 hz0 hz1 hz2 e1 hblk1 hb1 hbm hblkm hown hp
  go_enter Try.func32, Try.ntmps32
  go_wp2
  clear hmk k0 kn
  go_loopw [17] (fun iv wr => ∃ (i : Nat), i ≤ os.length ∧ iv = .int .i64 i ∧ Hid (wr.ownsRow (w.heap.size + 1) 3 1 (.slice (some ⟨w.heap.size + 1, 0, none⟩) n' n') n' (ivs (begI ts (esOf fs) n' os i))) ∧
       Blk wr w.heap.size 54 #[.slice An n' cn, .slice Af lf cf, .map (some bo), .map (some bi), .slice A' n' c', .slice Ao os.length co] ∧ Below w.heap.size w wr ∧ w.heap.size + 1 < wr.heap.size)
     (fun iv _ => os.length - (intOf iv).toNat)
  case atStart => exact ⟨0, by omega, rfl, HOWN.out, HKM.out, HBM.out, hsm⟩
  case round =>
    clear HOWN HKM HBM hsm
    obtain ⟨i, hi', rfl, HO, hblk, hbl, hsz⟩ := hrel
    by_cases hin : i < os.length
    · obtain ⟨bq, oq, z, hAe, _, _, hgz, hc0⟩ := (HP.out.keep hbl hB).ord.one hin
      subst hAe
      obtain ⟨u, hu⟩ : ∃ u, os[i]? = some u := ⟨_, List.getElem?_eq_getElem hin⟩
      have hun := HP.out.lt u (List.mem_of_getElem? hu)
      rw [ois_at hu] at hgz
      injection hgz with hgz
      subst hgz
      have k0 := hblk.cell 0
      have k1 := hblk.cell 1
      have k2 := hblk.cell 2
      have k3 := hblk.cell 3
      simp only [List.getElem?_toArray, List.getElem?_cons_zero, List.getElem?_cons_succ] at k0 k1 k2 k3
      have HC := Lib.hid (nextNodes_any n' cn An hi lf cf Af bo bi fs u n' wr (HP.out.net.keep hbl hB) (Nat.le_trans hB hbl.size) h14 HP.out.ins (by omega) hun)
      have HK := Lib.hid hblk
      have HB := Lib.hid hbl
      have HU := Lib.hid hu
      have hi1 : (i : Int) < (os.length : Int) := by omega
      have hi0' : (0 : Int) ≤ (i : Int) := by omega
      clear hblk hbl hu
      generalize wr = wo at *
      go_wp2_with (fail)
      (with_reducible refine HC.out.mono ?_)
      clear HC
      rintro e w3 ⟨Ab, cb, rfl, hcb, hrb, _, hb3⟩
      have hs3 : wo.heap.size ≤ w3.heap.size := hb3.size
      have hnl : (nextOf fs u).length ≤ 14 := by
        rw [nextOf_len]
        have := flUp_le fs true (u : Int) fs.length
        have := HP.out.net.fls.1
        unfold flOf
        omega
      have HRB := Lib.hid hrb
      have HO3 := Lib.hid (show w3.ownsRow (w.heap.size + 1) 3 1 (.slice (some ⟨w.heap.size + 1, 0, none⟩) n' n') n' (ivs (begJ ts (esOf fs) n' os i u 0)) from own_keep HO.out hb3)
      have HK3 := Lib.hid (HK.out.below hb3 (by omega))
      have HB3 := Lib.hid (up HB.out hb3)
      clear hrb hb3 HO HK HB k0 k1 k2 k3 hc0
      go_wp2
      go_loopw [26] (fun jv wq => ∃ (j : Nat), j ≤ (nextOf fs u).length ∧ jv = .int .i64 j ∧ Rd wq wo.heap.size w3.heap.size 1 Ab (nextOf fs u).length (ivs (nextOf fs u)) ∧ Hid (wq.ownsRow (w.heap.size + 1) 3 1 (.slice (some ⟨w.heap.size + 1, 0, none⟩) n' n') n' (ivs (begJ ts (esOf fs) n' os i u j))) ∧
           Blk wq w.heap.size 54 #[.slice An n' cn, .slice Af lf cf, .map (some bo), .map (some bi), .slice A' n' c', .slice (some ⟨bq, oq, none⟩) os.length co] ∧ Below w.heap.size w wq ∧ w3.heap.size ≤ wq.heap.size)
         (fun jv _ => (nextOf fs u).length - (intOf jv).toNat)
      case atStart => exact ⟨0, by omega, rfl, HRB.out, HO3, HK3.out, HB3.out, Nat.le_refl _⟩
      case round =>
        clear HRB HO3 HK3 HB3
        obtain ⟨j, hj, rfl, hrb, HO, hblk, hbl, hs4⟩ := hrel
        by_cases hjn : j < (nextOf fs u).length
        · obtain ⟨b, off, z, hAe, _, _, hgz, hc0⟩ := hrb.one hjn
          subst hAe
          obtain ⟨v, rfl, hvn, hov⟩ := nextOf_outs HP.out.ins hgz
          have HST := Lib.hid (begJ_step (ts := ts) (N := n') (os := os) (i := i) hov)
          have hm := fun v => begJ_in HP.out.o (vTimes_at HP.out.pl.t) i u j v hnn
          have hm1 := hm u
          have hm2 := hm v
          have ht := vTimes_at HP.out.pl.t u
          have hbl' := begJ_len ts (esOf fs) n' os i u j
          obtain ⟨b2, off2, v2, hA2, hb2, _, hg2, hc2⟩ := (HP.out.keep hbl hB).tim.one hun
          have hv2 := beg_at hg2
          subst hv2
          subst hA2
          have k4 := hblk.cell 4
          simp only [List.getElem?_toArray, List.getElem?_cons_zero, List.getElem?_cons_succ] at k4
          have hov' := HO.out.cellAt v (by omega)
          rw [beg_ivs (by omega)] at hov'
          have hou := HO.out.cellAt u (by omega)
          rw [beg_ivs (by omega)] at hou
          have hfv := HO.out.frozenAt v
          have hwr : IntKind.i64.wrap (beg (begJ ts (esOf fs) n' os i u j) u + beg ts u) = beg (begJ ts (esOf fs) n' os i u j) u + beg ts u := IntWalk.i64_in _ (by omega)
          have hu0 : (0 : Int) ≤ (u : Int) := by omega
          have hu1 : (u : Int) < (n' : Int) := by omega
          have hv0 : (0 : Int) ≤ (v : Int) := by omega
          have hv1 : (v : Int) < (n' : Int) := by omega
          have hj1 : (j : Int) < ((nextOf fs u).length : Int) := by omega
          have hj0 : (0 : Int) ≤ (j : Int) := by omega
          have hst := (HO.out.stored v (.int .i64 (max (beg (begJ ts (esOf fs) n' os i u j) v) (beg (begJ ts (esOf fs) n' os i u j) u + beg ts u)))).1
          rw [ivs_put] at hst
          have HX := Lib.hid (show (wr.setCell ⟨w.heap.size + 1, v, none⟩ (.int .i64 (max (beg (begJ ts (esOf fs) n' os i u j) v) (beg (begJ ts (esOf fs) n' os i u j) u + beg ts u)))).drew.ownsRow (w.heap.size + 1) 3 1 (.slice (some ⟨w.heap.size + 1, 0, none⟩) n' n') n' (ivs (begJ ts (esOf fs) n' os i u (j + 1))) by rw [HST.out]; exact hst)
          have HK := Lib.hid (hblk.far (p := ⟨w.heap.size + 1, v, none⟩) (by simp) (.int .i64 (max (beg (begJ ts (esOf fs) n' os i u j) v) (beg (begJ ts (esOf fs) n' os i u j) u + beg ts u)))).drew
          have HB := Lib.hid (up_drew (hbl.setCell (p := ⟨w.heap.size + 1, v, none⟩) (by show _ ≤ w.heap.size + 1; omega) (.int .i64 (max (beg (begJ ts (esOf fs) n' os i u j) v) (beg (begJ ts (esOf fs) n' os i u j) u + beg ts u)))))
          have HRX := Lib.hid ((hrb.setCell (p := ⟨w.heap.size + 1, v, none⟩) (.inl hsz) (.int .i64 (max (beg (begJ ts (esOf fs) n' os i u j) v) (beg (begJ ts (esOf fs) n' os i u j) u + beg ts u)))).keep (up_drew (Below.refl _ _)) (by simp [World.setCell]; omega))
          have HSZ : Hid (w3.heap.size ≤ (wr.setCell ⟨w.heap.size + 1, v, none⟩ (.int .i64 (max (beg (begJ ts (esOf fs) n' os i u j) v) (beg (begJ ts (esOf fs) n' os i u j) u + beg ts u)))).drew.heap.size) := by simp [Hid, World.drew, World.setCell]; omega
          clear hst HO hblk hbl hrb HST hov hgz hbl' hm hg2
          generalize beg (begJ ts (esOf fs) n' os i u j) v = vy at *
          generalize beg (begJ ts (esOf fs) n' os i u j) u = vx at *
          generalize beg ts u = vt at *
          go_wp2_with (fail)
          go_region
          all_goals
            go_wp2
            go_roundw
            case rel => exact ⟨j + 1, by omega, by go_num, HRX.out, HX.out, HK.out, HB.out, HSZ.out⟩
            case measure => simp [intOf]; omega
        · obtain rfl : j = (nextOf fs u).length := by omega
          have HX := Lib.hid (show wr.ownsRow (w.heap.size + 1) 3 1 (.slice (some ⟨w.heap.size + 1, 0, none⟩) n' n') n' (ivs (begI ts (esOf fs) n' os (i + 1))) by
            have := HO.out
            rw [begJ_all HU.out (outs_len HP.out.ins u).symm] at this
            exact this)
          have HK := Lib.hid hblk
          have HB := Lib.hid hbl
          clear HO hblk hbl hrb
          go_wp2
          go_roundw
          case rel => exact ⟨i + 1, by omega, by go_num, HX.out, HK.out, HB.out, by omega⟩
          case measure => simp [intOf]; omega
    · obtain rfl : i = os.length := by omega
      clear hblk
      go_wp2
      go_ret
      exact ⟨_, _, rfl, by rw [HE.out]; exact own_base HO.out (by omega), hbl⟩
end Go.Proofs.Ytonlkodenfiljaa


/- The program's end of all, EarliestTimes, TotalTime. -/
namespace Go.Proofs.Ytonlkodenfiljaa
open Go.RowKit

set_option maxRecDepth 100000 in
set_option maxHeartbeats 1600000 in
theorem totalI_any (hi nn cn : Nat) (An : Option Addr) (lf cf : Nat) (Af : Option Addr) (bo bi n' c' : Nat) (A' Ao : Option Addr) (co : Nat) (os : List Nat) (ns : List (Int × Int)) (fs : List Flw) (ts : List Int) (w : World) (hp : PlanAt w hi nn Af lf bo bi A' n' Ao os ns fs ts) (hB : hi ≤ w.heap.size) :
    Calls Try.prog 35 #[.agg #[.slice An nn cn, .slice Af lf cf, .map (some bo), .map (some bi), .slice A' n' c', .slice Ao os.length co]] w fun e w' => e = .returned (.int .i64 (totalOf ns fs ts)) ∧ Below w.heap.size w w' := by
  have hnn := hp.n10
  have h2 := hp.nt
  subst h2
  have HP := Lib.hid hp
  have HE := Lib.hid (show totalOf ns fs ts = totalUp ts (earlyOf ns fs ts) n' by unfold totalOf; rw [hp.hL])
  have hb1 := up_alloc (Below.refl _ w) (.cells #[.slice An n' cn, .slice Af lf cf, .map (some bo), .map (some bi), .slice A' n' c', .slice Ao os.length co] 54)
  have hblk1 := Blk.new w 54 #[.slice An n' cn, .slice Af lf cf, .map (some bo), .map (some bi), .slice A' n' c', .slice Ao os.length co]
  have k0 := hblk1.cell 0
  have k1 := hblk1.cell 1
  have k2 := hblk1.cell 2
  have k3 := hblk1.cell 3
  have k4 := hblk1.cell 4
  have k5 := hblk1.cell 5
  simp only [List.getElem?_toArray, List.getElem?_cons_zero, List.getElem?_cons_succ] at k0 k1 k2 k3 k4 k5
  have HC := Lib.hid (earliestI_any hi n' cn An lf cf Af bo bi n' c' A' Ao co os ns fs ts _ (hp.keep hb1 hB) (Nat.le_trans hB hb1.size))
  have HB1 := Lib.hid hb1
  have HK1 := Lib.hid hblk1
  have hlt1 := hblk1.lt
  clear hp hb1 hblk1
  go_enter Try.func35, Try.ntmps35
  go_wp2_with (fail)
  (with_reducible refine HC.out.mono ?_)
  clear HC
  rintro e w1 ⟨g, cg, rfl, ho, hb2⟩
  have HRE := Lib.hid (Rd.of_own ho)
  have HK2 := Lib.hid (HK1.out.below hb2 hlt1)
  have HB2 := Lib.hid (up HB1.out hb2)
  clear ho hb2 k0 k1 k2 k3 k4 k5 HK1 HB1
  have k4 := HK2.out.cell 4
  simp only [List.getElem?_toArray, List.getElem?_cons_zero, List.getElem?_cons_succ] at k4
  go_wp2
  go_loop [3, 9] (fun sv iv => ∃ (k : Nat), k ≤ n' ∧ iv = .int .i64 k ∧ sv = .int .i64 (totalUp ts (earlyOf ns fs ts) k))
     (fun _ iv => n' - (intOf iv).toNat)
  case atStart => exact ⟨0, by omega, rfl, rfl⟩
  case round =>
    obtain ⟨k, hk, rfl, rfl⟩ := hrel
    by_cases hkn : k < n'
    · obtain ⟨b1, off1, v1, hA1, hb1, _, hg1, hc1⟩ := HRE.out.one hkn
      injection hA1 with hA1; injection hA1 with e1 e2 _
      subst e1; subst e2
      rw [Nat.zero_add] at hc1
      obtain ⟨b2, off2, v2, hA2, hb2, _, hg2, hc2⟩ := (HP.out.keep HB2.out hB).tim.one hkn
      subst hA2
      have e1 := beg_at hg1
      have e2 := beg_at hg2
      have s1 := HP.out.pl.early k
      have s2 := vTimes_at HP.out.pl.t k
      rw [e1] at s1
      rw [e2] at s2
      have HT := Lib.hid (totalUp_step ts (earlyOf ns fs ts) k)
      rw [e1, e2] at HT
      obtain ⟨t1, t2⟩ := HP.out.pl.total k
      have hwr : IntKind.i64.wrap (v1 + v2) = v1 + v2 := IntWalk.i64_in _ (by omega)
      have hk1 : (k : Int) < (n' : Int) := by omega
      have hk0 : (0 : Int) ≤ (k : Int) := by omega
      clear hg1 hg2 e1 e2
      generalize hS : totalUp ts (earlyOf ns fs ts) k = S at *
      clear hS
      go_wp2
      go_round
      case rel => exact ⟨k + 1, by omega, by go_num, by rw [HT.out]⟩
      case measure => simp [intOf]; omega
    · obtain rfl : k = n' := by omega
      generalize totalUp ts (earlyOf ns fs ts) k = S at *
      go_wp2
      go_ret
      exact ⟨ret_int HE.out.symm, HB2.out⟩

set_option maxRecDepth 100000 in
set_option maxHeartbeats 1600000 in
theorem EarliestTimesI_any (lo hi nn cn : Nat) (An : Option Addr) (ns : List (Int × Int)) (lo1 hi1 lf cf : Nat) (Af : Option Addr) (fs : List Flw) (lo' hi' n' c' : Nat) (A' : Option Addr) (ts : List Int) (w : World) (hrn : Rd w lo hi 2 An nn (pvs ns)) (hB : hi ≤ w.heap.size) (hnn : nn ≤ 1048576)
    (hr : Fls w lo1 hi1 Af lf fs) (hB1 : hi1 ≤ w.heap.size) (hn : lf ≤ 1048576) (hv : Rd w lo' hi' 1 A' n' (ivs ts)) (hB' : hi' ≤ w.heap.size) (hn' : n' ≤ 1048576) :
    Calls Try.prog 9 #[.agg #[.slice An nn cn, .slice Af lf cf], .slice A' n' c'] w (Fresh (ivs (earlyR ns fs ts)) 1 (earlyR ns fs ts).length w) := by
  have HL := Lib.hid hrn.len2
  have hb1 := up_alloc (Below.refl _ w) (.cells #[.slice An nn cn, .slice Af lf cf] 26)
  have hblk1 := Blk.new w 26 #[.slice An nn cn, .slice Af lf cf]
  have hlt1 := hblk1.lt
  have HC1 := Lib.hid (planOf_any lo hi nn cn An ns lo1 hi1 lf cf Af fs lo' hi' n' c' A' ts _ (hrn.keep hb1 hB) (Nat.le_trans hB hb1.size) hnn (hr.keep hb1 hB1) (Nat.le_trans hB1 hb1.size) hn (hv.keep hb1 hB') (Nat.le_trans hB' hb1.size) hn')
  have HV := Lib.hid (hv.keep hb1 hB')
  have HB1 := Lib.hid hb1
  have hsb : hi' ≤ (w.alloc (.cells #[.slice An nn cn, .slice Af lf cf] 26)).heap.size := Nat.le_trans hB' hb1.size
  clear hrn hr hv hb1 hblk1
  go_enter Try.func9, Try.ntmps9
  go_wp2_with (fail)
  (with_reducible refine HC1.out.mono ?_)
  clear HC1
  rintro e w1 (⟨hU, rfl, hb2⟩ | ⟨hU, bo, bi, Ao, co, os, rfl, hna, hro, hord, hnd, hlt, hb2⟩)
  · have HB2 := Lib.hid (up_alloc (up HB1.out hb2) (.cells #[.slice none 0 0, .slice none 0 0, .map none, .map none, .slice none 0 0, .slice none 0 0] 54))
    have HX := Lib.hid (show earlyR ns fs ts = [] by unfold earlyR; rw [hU]; rfl)
    clear hb2 hU
    go_wp2
    go_ret
    rw [HX.out]; exact Fresh.nil 1 HB2.out
  have hba := up_alloc (Below.refl _ w1) (.cells #[.slice An nn cn, .slice Af lf cf, .map (some bo), .map (some bi), .slice A' n' c', .slice Ao os.length co] 54)
  have HK := Lib.hid (Blk.new w1 54 #[.slice An nn cn, .slice Af lf cf, .map (some bo), .map (some bi), .slice A' n' c', .slice Ao os.length co])
  have HP := Lib.hid (show PlanAt (w1.alloc (.cells #[.slice An nn cn, .slice Af lf cf, .map (some bo), .map (some bi), .slice A' n' c', .slice Ao os.length co] 54)) w1.heap.size nn Af lf bo bi A' n' Ao os ns fs ts from
    ⟨hna.keep hba (Nat.le_refl _), ((HV.out.keep hb2 hsb).wide (Nat.zero_le _) (Nat.le_trans hsb hb2.size)).keep hba (Nat.le_refl _), hro.keep hba (Nat.le_refl _), HL.out, plan_of hU, hord, hnd, hlt⟩)
  have HB2 := Lib.hid (up_alloc (up HB1.out hb2) (.cells #[.slice An nn cn, .slice Af lf cf, .map (some bo), .map (some bi), .slice A' n' c', .slice Ao os.length co] 54))
  have hsa : (w1.alloc (.cells #[.slice An nn cn, .slice Af lf cf, .map (some bo), .map (some bi), .slice A' n' c', .slice Ao os.length co] 54)).heap.size = w1.heap.size + 1 := by simp
  have k0 := HK.out.cell 0
  have k1 := HK.out.cell 1
  have k2 := HK.out.cell 2
  have k3 := HK.out.cell 3
  have k4 := HK.out.cell 4
  have k5 := HK.out.cell 5
  simp only [List.getElem?_toArray, List.getElem?_cons_zero, List.getElem?_cons_succ] at k0 k1 k2 k3 k4 k5
  clear hb2 hna hro hord hnd hlt HV HB1
  have HX := Lib.hid (show earlyR ns fs ts = earlyOf ns fs ts by unfold earlyR; rw [hU]; rfl)
  have HC := Lib.hid (earliestI_any w1.heap.size nn cn An lf cf Af bo bi n' c' A' Ao co os ns fs ts _ HP.out (by omega))
  clear hU
  go_wp2_with (fail)
  (with_reducible refine HC.out.mono ?_)
  clear HC
  rintro e w2 ⟨g, cg, rfl, ho, hb3⟩
  have HO := Lib.hid ho
  have HB3 := Lib.hid (up HB2.out hb3)
  have hw1 := HB2.out.size
  clear ho hb3 k0 k1 k2 k3 k4 k5
  go_wp2
  go_ret
  rw [HX.out, earlyOf_len, HL.out]
  exact Fresh.of_base HO.out HB3.out hw1

set_option maxRecDepth 100000 in
set_option maxHeartbeats 1600000 in
theorem TotalTimeI_any (lo hi nn cn : Nat) (An : Option Addr) (ns : List (Int × Int)) (lo1 hi1 lf cf : Nat) (Af : Option Addr) (fs : List Flw) (lo' hi' n' c' : Nat) (A' : Option Addr) (ts : List Int) (w : World) (hrn : Rd w lo hi 2 An nn (pvs ns)) (hB : hi ≤ w.heap.size) (hnn : nn ≤ 1048576)
    (hr : Fls w lo1 hi1 Af lf fs) (hB1 : hi1 ≤ w.heap.size) (hn : lf ≤ 1048576) (hv : Rd w lo' hi' 1 A' n' (ivs ts)) (hB' : hi' ≤ w.heap.size) (hn' : n' ≤ 1048576) :
    Calls Try.prog 13 #[.agg #[.slice An nn cn, .slice Af lf cf], .slice A' n' c'] w (fun e w' => e = .returned (.int .i64 (totalR ns fs ts)) ∧ Below w.heap.size w w') := by
  have HL := Lib.hid hrn.len2
  have hb1 := up_alloc (Below.refl _ w) (.cells #[.slice An nn cn, .slice Af lf cf] 26)
  have hblk1 := Blk.new w 26 #[.slice An nn cn, .slice Af lf cf]
  have hlt1 := hblk1.lt
  have HC1 := Lib.hid (planOf_any lo hi nn cn An ns lo1 hi1 lf cf Af fs lo' hi' n' c' A' ts _ (hrn.keep hb1 hB) (Nat.le_trans hB hb1.size) hnn (hr.keep hb1 hB1) (Nat.le_trans hB1 hb1.size) hn (hv.keep hb1 hB') (Nat.le_trans hB' hb1.size) hn')
  have HV := Lib.hid (hv.keep hb1 hB')
  have HB1 := Lib.hid hb1
  have hsb : hi' ≤ (w.alloc (.cells #[.slice An nn cn, .slice Af lf cf] 26)).heap.size := Nat.le_trans hB' hb1.size
  clear hrn hr hv hb1 hblk1
  go_enter Try.func13, Try.ntmps13
  go_wp2_with (fail)
  (with_reducible refine HC1.out.mono ?_)
  clear HC1
  rintro e w1 (⟨hU, rfl, hb2⟩ | ⟨hU, bo, bi, Ao, co, os, rfl, hna, hro, hord, hnd, hlt, hb2⟩)
  · have HB2 := Lib.hid (up_alloc (up HB1.out hb2) (.cells #[.slice none 0 0, .slice none 0 0, .map none, .map none, .slice none 0 0, .slice none 0 0] 54))
    have HX := Lib.hid (show totalR ns fs ts = -1 by unfold totalR; rw [hU]; rfl)
    clear hb2 hU
    go_wp2
    go_ret
    exact ⟨ret_int HX.out.symm, HB2.out⟩
  have hba := up_alloc (Below.refl _ w1) (.cells #[.slice An nn cn, .slice Af lf cf, .map (some bo), .map (some bi), .slice A' n' c', .slice Ao os.length co] 54)
  have HK := Lib.hid (Blk.new w1 54 #[.slice An nn cn, .slice Af lf cf, .map (some bo), .map (some bi), .slice A' n' c', .slice Ao os.length co])
  have HP := Lib.hid (show PlanAt (w1.alloc (.cells #[.slice An nn cn, .slice Af lf cf, .map (some bo), .map (some bi), .slice A' n' c', .slice Ao os.length co] 54)) w1.heap.size nn Af lf bo bi A' n' Ao os ns fs ts from
    ⟨hna.keep hba (Nat.le_refl _), ((HV.out.keep hb2 hsb).wide (Nat.zero_le _) (Nat.le_trans hsb hb2.size)).keep hba (Nat.le_refl _), hro.keep hba (Nat.le_refl _), HL.out, plan_of hU, hord, hnd, hlt⟩)
  have HB2 := Lib.hid (up_alloc (up HB1.out hb2) (.cells #[.slice An nn cn, .slice Af lf cf, .map (some bo), .map (some bi), .slice A' n' c', .slice Ao os.length co] 54))
  have hsa : (w1.alloc (.cells #[.slice An nn cn, .slice Af lf cf, .map (some bo), .map (some bi), .slice A' n' c', .slice Ao os.length co] 54)).heap.size = w1.heap.size + 1 := by simp
  have k0 := HK.out.cell 0
  have k1 := HK.out.cell 1
  have k2 := HK.out.cell 2
  have k3 := HK.out.cell 3
  have k4 := HK.out.cell 4
  have k5 := HK.out.cell 5
  simp only [List.getElem?_toArray, List.getElem?_cons_zero, List.getElem?_cons_succ] at k0 k1 k2 k3 k4 k5
  clear hb2 hna hro hord hnd hlt HV HB1
  have HX := Lib.hid (show totalR ns fs ts = totalOf ns fs ts by unfold totalR; rw [hU]; rfl)
  have HC := Lib.hid (totalI_any w1.heap.size nn cn An lf cf Af bo bi n' c' A' Ao co os ns fs ts _ HP.out (by omega))
  generalize totalOf ns fs ts = M at *
  clear hU
  go_wp2_with (fail)
  (with_reducible refine HC.out.mono ?_)
  clear HC
  rintro e w2 ⟨rfl, hb3⟩
  have HB3 := Lib.hid (up HB2.out hb3)
  clear hb3 k0 k1 k2 k3 k4 k5
  go_wp2
  go_ret
  exact ⟨ret_int HX.out.symm, HB3.out⟩
end Go.Proofs.Ytonlkodenfiljaa

