/- Merged: TokCount, TokReady0, TokTakes. -/
import Derived.Test.YtknphikoikdcjaaGreatTokNet
/- impl.countersOf: valid tokens as a map. -/
set_option linter.unusedSimpArgs false
set_option linter.unusedVariables false
namespace Go.Proofs.YtknphikoikdcjaaGreat
open Go.RowKit

/-- Tokens are valid: one number for each flow, none above 3. -/
def vMarks (fs : List Flw) (ms : List Int) : Bool := decide (ms.length = fs.length) && ms.all fun m => inR m 0 3
/-- What stands in the map of the tokens. -/
def markAt (ms : List Int) (z : Int) : Option Value := if 0 ≤ z then (ms[z.toNat]?).map (Value.int .i64) else none
theorem markAt_put {ms : List Int} {k : Nat} {v : Int} (hk : ms[k]? = some v) (z : Int) : (if z = (k : Int) then some (Value.int .i64 v) else markAt (ms.take k) z) = markAt (ms.take (k + 1)) z := by
  have hl := (List.getElem?_eq_some_iff.1 hk).1
  unfold markAt
  by_cases hz : 0 ≤ z
  · obtain ⟨j, rfl⟩ := Int.eq_ofNat_of_zero_le hz
    rw [if_pos hz, if_pos hz, Int.toNat_natCast, List.getElem?_take, List.getElem?_take]
    by_cases hj : j = k
    · subst hj
      rw [if_pos rfl, if_pos (by omega), hk]; rfl
    · rw [if_neg (by omega)]
      by_cases h2 : j < k
      · rw [if_pos h2, if_pos (by omega)]
      · rw [if_neg h2, if_neg (by omega)]
  · rw [if_neg hz, if_neg hz, if_neg (by omega)]
theorem markAt_get (ms : List Int) (k : Nat) (hk : k < ms.length) : (markAt ms (k : Int)).getD (.int .i64 0) = .int .i64 (ms.getD k 0) := by
  unfold markAt
  rw [if_pos (by omega), Int.toNat_natCast, List.getD_eq_getElem?_getD, List.getElem?_eq_getElem hk]
  rfl
section
open Go.Maps
/-- A map of tokens, of which a flow without tokens may be missing. -/
def MkM (P : Program) (kt : TypeId) (w : World) (b n : Nat) (T : Int → Option Value) : Prop := ∃ g, IMap P kt w b n g ∧ ∀ z, g z = T z ∨ (g z = none ∧ T z = some (.int .i64 0))
theorem IMap.part {P : Program} {kt : TypeId} {w : World} {b n : Nat} {T : Int → Option Value} (h : IMap P kt w b n T) : MkM P kt w b n T := ⟨T, h, fun _ => .inl rfl⟩
variable {P : Program} {kt et t : TypeId} {w w1 : World} {b n : Nat} {T : Int → Option Value}
theorem MkM.lift (h : MkM P kt w b n T) {n' : Nat} (f : ∀ g, IMap P kt w b n g → IMap P kt w1 b n' g) : MkM P kt w1 b n' T := by
  obtain ⟨g, h1, h2⟩ := h
  exact ⟨g, f g h1, h2⟩
theorem MkM.lt (h : MkM P kt w b n T) : b < w.heap.size := by
  obtain ⟨g, h1, _⟩ := h
  exact h1.lt
theorem MkM.same (h : MkM P kt w b n T) (he : w1.heap[b]? = w.heap[b]?) : MkM P kt w1 b n T := h.lift fun _ h => h.same he
theorem MkM.kept (h : MkM P kt w b n T) {row : Option Nat} (hg : w.grownBy w1 row) (hne : some b ≠ row) : MkM P kt w1 b n T := h.lift fun _ h => h.kept hg hne
theorem MkM.keep (h : MkM P kt w b n T) {B : Nat} (hb : Below B w w1) (hB : b < B) : MkM P kt w1 b n T := h.lift fun _ h => h.keep hb hB
theorem MkM.alloc (h : MkM P kt w b n T) (o : Obj) : MkM P kt (w.alloc o) b n T := h.lift fun _ h => h.alloc o
theorem MkM.congr (h : MkM P kt w b n T) {T' : Int → Option Value} (he : ∀ z, T z = T' z) : MkM P kt w b n T' := by
  obtain ⟨g, h1, h2⟩ := h
  exact ⟨g, h1, fun z => by rw [← he z]; exact h2 z⟩
theorem MkM.look (h : MkM P kt w b n T) (K : Keyed P kt) (hk : P.underlying kt = some (.int .i64)) (ht : P.underlying t = some (.map kt et)) (hz : (zeroValue et).run P w1 = .ok (.int .i64 0) w1) {z : Int} (hr : in64 z) (he : w1.heap[b]? = w.heap[b]?) :
    (Instr.lookup t (.map (some b)) (.int .i64 z) false).run P w1 = .ok ((T z).getD (.int .i64 0)) w1 := by
  obtain ⟨g, h1, h2⟩ := h
  rw [h1.look K hk ht hz hr he]
  rcases h2 z with e | ⟨e1, e2⟩
  · rw [e]
  · rw [e1, e2]; rfl
theorem MkM.put (h : MkM P kt w b n T) (K : Keyed P kt) (hk : P.underlying kt = some (.int .i64)) (ht : P.underlying t = some (.map kt et)) (hn : n < maxLen) {z : Int} (hr : in64 z) (v : Value) :
    ∃ w1, (Instr.mapUpdate t (.map (some b)) (.int .i64 z) v).run P w = .ok () w1 ∧ MkM P kt w1 b (n + 1) (fun y => if y = z then some v else T y) ∧ w.grownBy w1 (some b) := by
  obtain ⟨g, h1, h2⟩ := h
  obtain ⟨w1, hrun, him, hg⟩ := h1.put K hk ht hn hr v
  refine ⟨w1, hrun, ⟨_, him, fun y => ?_⟩, hg⟩
  by_cases hy : y = z
  · simp [hy]
  · simp only [if_neg hy]; exact h2 y
theorem marks_get {g T : Int → Option Value} (h : ∀ z, g z = T z ∨ (g z = none ∧ T z = some (.int .i64 0))) (z : Int) : (g z).getD (.int .i64 0) = (T z).getD (.int .i64 0) := by
  rcases h z with e | ⟨e1, e2⟩
  · rw [e]
  · rw [e1, e2]; rfl
theorem marks_hit {g T : Int → Option Value} (h : ∀ z, g z = T z ∨ (g z = none ∧ T z = some (.int .i64 0))) {z : Int} {v : Value} (hg : g z = some v) : T z = some v := by
  rcases h z with e | ⟨e, _⟩
  · rw [← e, hg]
  · rw [hg] at e; cases e
end
theorem net_store {w0 w : World} {q : Nat} {a0 a1 a2 a3 : Value} (h : Blk w q 104 #[a0, a1, a2, a3]) (hb : Below w0.heap.size w0 w) (hq : w0.heap.size ≤ q) (v0 v1 v2 v3 : Value) :
    ((((w.setCell ⟨q, 0, none⟩ v0).setCell ⟨q, 1, none⟩ v1).setCell ⟨q, 2, none⟩ v2).setCell ⟨q, 3, none⟩ v3).cell? ⟨q, 0, none⟩ = some v0 ∧
    ((((w.setCell ⟨q, 0, none⟩ v0).setCell ⟨q, 1, none⟩ v1).setCell ⟨q, 2, none⟩ v2).setCell ⟨q, 3, none⟩ v3).cell? ⟨q, 1, none⟩ = some v1 ∧
    ((((w.setCell ⟨q, 0, none⟩ v0).setCell ⟨q, 1, none⟩ v1).setCell ⟨q, 2, none⟩ v2).setCell ⟨q, 3, none⟩ v3).cell? ⟨q, 2, none⟩ = some v2 ∧
    ((((w.setCell ⟨q, 0, none⟩ v0).setCell ⟨q, 1, none⟩ v1).setCell ⟨q, 2, none⟩ v2).setCell ⟨q, 3, none⟩ v3).cell? ⟨q, 3, none⟩ = some v3 ∧
    Hid (Below w0.heap.size w0 ((((w.setCell ⟨q, 0, none⟩ v0).setCell ⟨q, 1, none⟩ v1).setCell ⟨q, 2, none⟩ v2).setCell ⟨q, 3, none⟩ v3) ∧
      ((((w.setCell ⟨q, 0, none⟩ v0).setCell ⟨q, 1, none⟩ v1).setCell ⟨q, 2, none⟩ v2).setCell ⟨q, 3, none⟩ v3).heap.size = w.heap.size ∧
      ∀ i, i ≠ q → ((((w.setCell ⟨q, 0, none⟩ v0).setCell ⟨q, 1, none⟩ v1).setCell ⟨q, 2, none⟩ v2).setCell ⟨q, 3, none⟩ v3).heap[i]? = w.heap[i]?) := by
  have hZ := (((h.put 0 v0).put 1 v1).put 2 v2).put 3 v3
  have b0 := hZ.cell 0
  have b1 := hZ.cell 1
  have b2 := hZ.cell 2
  have b3 := hZ.cell 3
  simp at b0 b1 b2 b3
  refine ⟨b0, b1, b2, b3, (((hb.setCell (p := ⟨q, 0, none⟩) hq v0).setCell (p := ⟨q, 1, none⟩) hq v1).setCell (p := ⟨q, 2, none⟩) hq v2).setCell (p := ⟨q, 3, none⟩) hq v3, by simp [World.setCell], fun i hi => ?_⟩
  rw [Below.heap_setCell _ _ _ _ hi, Below.heap_setCell _ _ _ _ hi, Below.heap_setCell _ _ _ _ hi, Below.heap_setCell _ _ _ _ hi]
theorem RowMap.set4 {P : Program} {kt : TypeId} {w : World} {lo hi b : Nat} {G : Int → List Int} (h : RowMap P kt w lo hi b G) {q : Nat} (hp : q < lo ∨ hi ≤ q) (v0 v1 v2 v3 : Value) : RowMap P kt ((((w.setCell ⟨q, 0, none⟩ v0).setCell ⟨q, 1, none⟩ v1).setCell ⟨q, 2, none⟩ v2).setCell ⟨q, 3, none⟩ v3) lo hi b G := by
  have one : ∀ {w : World} (p : Addr) (u : Value), p.block < lo ∨ hi ≤ p.block → RowMap P kt w lo hi b G → RowMap P kt (w.setCell p u) lo hi b G := by
    intro w p u hp h
    obtain ⟨n, g, h1, h2, h3, h4⟩ := h
    refine ⟨n, g, h1.same (Below.heap_setCell w p u b (by omega)), h2, h3, fun z => ?_⟩
    obtain ⟨A, c, e, hc, hr, hs⟩ := h4 z
    refine ⟨A, c, e, hc, hr.setCell hp u, fun b' off ea j hj => ?_⟩
    rw [World.frozen?_setCell]
    exact hs b' off ea j hj
  exact one _ _ hp (one _ _ hp (one _ _ hp (one _ _ hp h)))

def CtrPost (ns : List (Int × Int)) (fs : List Flw) (ms : List Int) (An : Option Addr) (nn cn : Nat) (Af : Option Addr) (lf cf : Nat) (w : World) (e : Ending) (w' : World) : Prop :=
  ((vProc ns fs && vMarks fs ms) = false ∧ e = .returned (.tuple #[.agg #[.slice none 0 0, .slice none 0 0, .map none, .map none], .map none, .bool false]) ∧ Below w.heap.size w w') ∨
  (vProc ns fs = true ∧ vMarks fs ms = true ∧ ∃ bo bi mb m, e = .returned (.tuple #[.agg #[.slice An nn cn, .slice Af lf cf, .map (some bo), .map (some bi)], .map (some mb), .bool true]) ∧ RowMap Tryz.prog 3 w' w.heap.size w'.heap.size bo (fun z => flOf fs true z) ∧ RowMap Tryz.prog 3 w' w.heap.size w'.heap.size bi (fun z => flOf fs false z) ∧
    IMap Tryz.prog 3 w' mb m (markAt ms) ∧ m ≤ 14 ∧ w.heap.size ≤ mb ∧ Below w.heap.size w w')

set_option maxRecDepth 100000 in
set_option maxHeartbeats 3200000 in
theorem countersOf_any (lo hi nn cn : Nat) (An : Option Addr) (ns : List (Int × Int)) (lo1 hi1 lf cf : Nat) (Af : Option Addr) (fs : List Flw) (lo' hi' n' c' : Nat) (A' : Option Addr) (ms : List Int) (w : World) (hrn : Rd w lo hi 2 An nn (pvs ns)) (hB : hi ≤ w.heap.size) (hnn : nn ≤ 1048576)
    (hr : Fls w lo1 hi1 Af lf fs) (hB1 : hi1 ≤ w.heap.size) (hn : lf ≤ 1048576) (hv : Rd w lo' hi' 1 A' n' (ivs ms)) (hB' : hi' ≤ w.heap.size) (hn' : n' ≤ 1048576) :
    Calls Tryz.prog 122 #[.agg #[.slice An nn cn, .slice Af lf cf], .slice A' n' c'] w (CtrPost ns fs ms An nn cn Af lf cf w) := by
  have hb1 := up_alloc (up_alloc (Below.refl _ w) (.cells #[.slice An nn cn, .slice Af lf cf] 40)) (.cells #[.slice none 0 0, .slice none 0 0, .map none, .map none] 104)
  have hp := (Blk.new w 40 #[.slice An nn cn, .slice Af lf cf]).alloc (.cells #[.slice none 0 0, .slice none 0 0, .map none, .map none] 104)
  have hq : Blk ((w.alloc (.cells #[.slice An nn cn, .slice Af lf cf] 40)).alloc (.cells #[.slice none 0 0, .slice none 0 0, .map none, .map none] 104)) (w.heap.size + 1) 104 #[.slice none 0 0, .slice none 0 0, .map none, .map none] := by
    simpa using Blk.new (w.alloc (.cells #[.slice An nn cn, .slice Af lf cf] 40)) 104 #[.slice none 0 0, .slice none 0 0, .map none, .map none]
  have hs1 : ((w.alloc (.cells #[.slice An nn cn, .slice Af lf cf] 40)).alloc (.cells #[.slice none 0 0, .slice none 0 0, .map none, .map none] 104)).heap.size = w.heap.size + 1 + 1 := by simp
  have HF := Lib.hid hr.1
  have HL := Lib.hid hv.len1
  have HC := Lib.hid (netOf_any lo hi nn cn An ns lo1 hi1 lf cf Af fs _ (hrn.keep hb1 hB) (by omega) hnn (hr.keep hb1 hB1) (by omega) hn)
  go_enter Tryz.func122, Tryz.ntmps122
  go_wp2_with (fail)
  (with_reducible refine HC.out.mono ?_)
  clear HC
  rintro e w1 (⟨hV, rfl, hb2⟩ | ⟨hV, bo, bi, rfl, hmo, hmi, hb2⟩)
  · have hs2 := hb2.size
    rw [hs1] at hs2
    have hq1 := (hq.below hb2 (by omega)).alloc (.cells #[.slice none 0 0, .slice none 0 0, .map none, .map none] 104)
    have r0 : (w1.alloc (.cells #[.slice none 0 0, .slice none 0 0, .map none, .map none] 104)).cell? ⟨w.heap.size + 1, 0, none⟩ = some (.slice none 0 0) := hq1.cell 0
    have r1 : (w1.alloc (.cells #[.slice none 0 0, .slice none 0 0, .map none, .map none] 104)).cell? ⟨w.heap.size + 1, 1, none⟩ = some (.slice none 0 0) := hq1.cell 1
    have r2 : (w1.alloc (.cells #[.slice none 0 0, .slice none 0 0, .map none, .map none] 104)).cell? ⟨w.heap.size + 1, 2, none⟩ = some (.map none) := hq1.cell 2
    have r3 : (w1.alloc (.cells #[.slice none 0 0, .slice none 0 0, .map none, .map none] 104)).cell? ⟨w.heap.size + 1, 3, none⟩ = some (.map none) := hq1.cell 3
    have q0 := hq1.soft 0
    have q1 := hq1.soft 1
    have q2 := hq1.soft 2
    have q3 := hq1.soft 3
    obtain ⟨b0, b1, b2, b3, HB⟩ := net_store hq1 (up_alloc (up hb1 hb2) (.cells #[.slice none 0 0, .slice none 0 0, .map none, .map none] 104)) (by omega) (.slice none 0 0) (.slice none 0 0) (.map none) (.map none)
    have HV := Lib.hid (show (vProc ns fs && vMarks fs ms) = false by rw [hV]; rfl)
    clear hb1 hb2 hp hq hq1 hV
    go_wp2
    exact bodyPost_ret (v := .tuple #[.agg #[.slice none 0 0, .slice none 0 0, .map none, .map none], .map none, .bool false]) (by simp [results, Tryz.results122, go_sem, b0, b1, b2, b3]) rfl (.inl ⟨HV.out, rfl, HB.out.1⟩)
  unfold netV
  have hs2 := hb2.size
  rw [hs1] at hs2
  have hb3 := up_alloc (Below.refl _ w1) (.cells #[.slice An nn cn, .slice Af lf cf, .map (some bo), .map (some bi)] 104)
  have HB := Lib.hid (up hb1 hb2)
  have HP := Lib.hid (hp.below hb2 (by omega))
  have HQ := Lib.hid (hq.below hb2 (by omega))
  have HMO := Lib.hid hmo
  have HMI := Lib.hid hmi
  have HV := Lib.hid hV
  have HN := Lib.hid (Blk.new w1 104 #[.slice An nn cn, .slice Af lf cf, .map (some bo), .map (some bi)])
  have k1 : (w1.alloc (.cells #[.slice An nn cn, .slice Af lf cf, .map (some bo), .map (some bi)] 104)).cell? ⟨w.heap.size, 1, none⟩ = some (.slice Af lf cf) := (HP.out.alloc _).cell 1
  have HB3 := Lib.hid hb3
  have hlen := vProc_len hV
  have h14 : lf ≤ 14 := by have := HF.out; omega
  clear hb1 hb2 hb3 hp hq hmo hmi hV hlen
  by_cases hne : n' = lf
  · subst hne
    have hm0 : IMap Tryz.prog 3 ((w1.alloc (.cells #[.slice An nn cn, .slice Af n' cf, .map (some bo), .map (some bi)] 104)).alloc (.map #[] 0)) (w1.heap.size + 1) 0 (fun _ => none) := by
      have := IMap.made Tryz.prog 3 (w1.alloc (.cells #[.slice An nn cn, .slice Af n' cf, .map (some bo), .map (some bi)] 104))
      rwa [show (w1.alloc (.cells #[.slice An nn cn, .slice Af n' cf, .map (some bo), .map (some bi)] 104)).heap.size = w1.heap.size + 1 by simp] at this
    have HM0 := Lib.hid hm0
    clear hm0
    have hmm := @run_makeMap Tryz.prog
    go_wp2
    clear hmm
    go_loopw [31] (fun iv wr => ∃ (k : Nat), k ≤ n' ∧ iv = .int .i64 k ∧ Hid (IMap Tryz.prog 3 wr (w1.heap.size + 1) k (markAt (ms.take k)) ∧ Below w1.heap.size w1 wr ∧ Blk wr w1.heap.size 104 #[.slice An nn cn, .slice Af n' cf, .map (some bo), .map (some bi)] ∧ ((ms.take k).all fun m => inR m 0 3) = true))
       (fun iv _ => n' - (intOf iv).toNat)
    case atStart => exact ⟨0, by omega, rfl, ⟨HM0.out.congr (fun z => by simp [markAt]), up_alloc HB3.out _, HN.out.alloc _, rfl⟩⟩
    case round =>
      clear HM0 k1
      obtain ⟨k, hk, rfl, HR⟩ := hrel
      have HBL := Lib.hid HR.out.2.1
      have hsz := HBL.out.size
      by_cases hlt : k < n'
      · obtain ⟨b, off, v, rfl, _, _, hg, hc0⟩ := ((hv.keep HB.out hB').keep HBL.out (Nat.le_trans hB' HB.out.size)).one hlt
        have HG := Lib.hid hg
        have hk1 : (k : Int) < (n' : Int) := by omega
        have hk0 : (0 : Int) ≤ (k : Int) := by omega
        clear hg
        by_cases hv0 : v < 0
        · have hv0' : decide (v < 0) = true := decide_eq_true hv0
          have hq4 := HQ.out.below HBL.out (by omega)
          have r0 : wr.cell? ⟨w.heap.size + 1, 0, none⟩ = some (.slice none 0 0) := hq4.cell 0
          have r1 : wr.cell? ⟨w.heap.size + 1, 1, none⟩ = some (.slice none 0 0) := hq4.cell 1
          have r2 : wr.cell? ⟨w.heap.size + 1, 2, none⟩ = some (.map none) := hq4.cell 2
          have r3 : wr.cell? ⟨w.heap.size + 1, 3, none⟩ = some (.map none) := hq4.cell 3
          have q0 := hq4.soft 0
          have q1 := hq4.soft 1
          have q2 := hq4.soft 2
          have q3 := hq4.soft 3
          obtain ⟨b0, b1, b2, b3, HBZ⟩ := net_store hq4 (up HB.out HBL.out) (by omega) (.slice none 0 0) (.slice none 0 0) (.map none) (.map none)
          have HX := Lib.hid (show (vProc ns fs && vMarks fs ms) = false by
            have hin : inR v 0 3 = false := by
              rw [Bool.eq_false_iff]; intro h; have := inR_iff.1 h; omega
            have : (ms.all fun m => inR m 0 3) = false := by
              rw [Bool.eq_false_iff]; intro h
              have := List.all_eq_true.1 h v (List.mem_of_getElem? HG.out)
              rw [hin] at this; cases this
            simp [vMarks, this])
          clear hq4
          go_wp2
          exact bodyPost_ret (v := .tuple #[.agg #[.slice none 0 0, .slice none 0 0, .map none, .map none], .map none, .bool false]) (by simp [results, Tryz.results122, go_sem, b0, b1, b2, b3]) rfl (.inl ⟨HX.out, rfl, HBZ.out.1⟩)
        by_cases hv3 : 3 < v
        · have hv0' : decide (v < 0) = false := decide_eq_false hv0
          have hv3' : decide (3 < v) = true := decide_eq_true hv3
          have hq4 := HQ.out.below HBL.out (by omega)
          have r0 : wr.cell? ⟨w.heap.size + 1, 0, none⟩ = some (.slice none 0 0) := hq4.cell 0
          have r1 : wr.cell? ⟨w.heap.size + 1, 1, none⟩ = some (.slice none 0 0) := hq4.cell 1
          have r2 : wr.cell? ⟨w.heap.size + 1, 2, none⟩ = some (.map none) := hq4.cell 2
          have r3 : wr.cell? ⟨w.heap.size + 1, 3, none⟩ = some (.map none) := hq4.cell 3
          have q0 := hq4.soft 0
          have q1 := hq4.soft 1
          have q2 := hq4.soft 2
          have q3 := hq4.soft 3
          obtain ⟨b0, b1, b2, b3, HBZ⟩ := net_store hq4 (up HB.out HBL.out) (by omega) (.slice none 0 0) (.slice none 0 0) (.map none) (.map none)
          have HX := Lib.hid (show (vProc ns fs && vMarks fs ms) = false by
            have hin : inR v 0 3 = false := by
              rw [Bool.eq_false_iff]; intro h; have := inR_iff.1 h; omega
            have : (ms.all fun m => inR m 0 3) = false := by
              rw [Bool.eq_false_iff]; intro h
              have := List.all_eq_true.1 h v (List.mem_of_getElem? HG.out)
              rw [hin] at this; cases this
            simp [vMarks, this])
          clear hq4
          go_wp2
          exact bodyPost_ret (v := .tuple #[.agg #[.slice none 0 0, .slice none 0 0, .map none, .map none], .map none, .bool false]) (by simp [results, Tryz.results122, go_sem, b0, b1, b2, b3]) rfl (.inl ⟨HX.out, rfl, HBZ.out.1⟩)
        have hv0' : decide (v < 0) = false := decide_eq_false hv0
        have hv3' : decide (3 < v) = false := decide_eq_false hv3
        obtain ⟨w4, hrun, him, hgr⟩ := HR.out.1.put keyedInt Tryz.underlying3 Tryz.underlying111 (by unfold maxLen; omega) (by unfold in64; omega : in64 (k : Int)) (.int .i64 v)
        have HX : Hid (IMap Tryz.prog 3 w4 (w1.heap.size + 1) (k + 1) (markAt (ms.take (k + 1))) ∧ Below w1.heap.size w1 w4 ∧ Blk w4 w1.heap.size 104 #[.slice An nn cn, .slice Af n' cf, .map (some bo), .map (some bi)] ∧ ((ms.take (k + 1)).all fun m => inR m 0 3) = true) :=
          ⟨him.congr (fun z => markAt_put HG.out z), HBL.out.grown hgr hsz (fun j e => by injection e with e; omega), HR.out.2.2.1.grown hgr (by simp), by
            rw [take_snoc HG.out, List.all_append, HR.out.2.2.2]
            have : inR v 0 3 = true := inR_iff.2 ⟨by omega, by omega⟩
            simp [this]⟩
        clear him hgr HR hv0 hv3
        go_wp2
        go_roundw
        case rel => exact ⟨k + 1, by omega, by go_num, HX⟩
        case measure => simp [intOf]; omega
      · obtain rfl : k = n' := by omega
        have hq4 := HQ.out.below HBL.out (by omega)
        have hn4 := HR.out.2.2.1
        have c0 : wr.cell? ⟨w1.heap.size, 0, none⟩ = some (.slice An nn cn) := hn4.cell 0
        have c1 : wr.cell? ⟨w1.heap.size, 1, none⟩ = some (.slice Af k cf) := hn4.cell 1
        have c2 : wr.cell? ⟨w1.heap.size, 2, none⟩ = some (.map (some bo)) := hn4.cell 2
        have c3 : wr.cell? ⟨w1.heap.size, 3, none⟩ = some (.map (some bi)) := hn4.cell 3
        have r0 : wr.cell? ⟨w.heap.size + 1, 0, none⟩ = some (.slice none 0 0) := hq4.cell 0
        have r1 : wr.cell? ⟨w.heap.size + 1, 1, none⟩ = some (.slice none 0 0) := hq4.cell 1
        have r2 : wr.cell? ⟨w.heap.size + 1, 2, none⟩ = some (.map none) := hq4.cell 2
        have r3 : wr.cell? ⟨w.heap.size + 1, 3, none⟩ = some (.map none) := hq4.cell 3
        have q0 := hq4.soft 0
        have q1 := hq4.soft 1
        have q2 := hq4.soft 2
        have q3 := hq4.soft 3
        obtain ⟨b0, b1, b2, b3, HBZ⟩ := net_store hq4 (up HB.out HBL.out) (by omega) (.slice An nn cn) (.slice Af k cf) (.map (some bo)) (.map (some bi))
        have HMO2 := Lib.hid ((HMO.out.keep HBL.out (Nat.le_refl _)).set4 (q := w.heap.size + 1) (.inl (by rw [hs1]; omega)) (.slice An nn cn) (.slice Af k cf) (.map (some bo)) (.map (some bi)))
        have HMI2 := Lib.hid ((HMI.out.keep HBL.out (Nat.le_refl _)).set4 (q := w.heap.size + 1) (.inl (by rw [hs1]; omega)) (.slice An nn cn) (.slice Af k cf) (.map (some bo)) (.map (some bi)))
        have HIM := Lib.hid ((HR.out.1.same (HBZ.out.2.2 (w1.heap.size + 1) (by omega))).congr (g' := markAt ms) (fun z => by rw [List.take_of_length_le (by rw [HL.out]; exact Nat.le_refl _)]))
        have HVM := Lib.hid (show vMarks fs ms = true by
          have h1 := HR.out.2.2.2
          rw [List.take_of_length_le (by rw [HL.out]; exact Nat.le_refl _)] at h1
          simp [vMarks, HL.out, HF.out]
          simpa using h1)
        have HSZ := Lib.hid HBZ.out.2.1
        clear hq4 hn4 HR
        go_wp2
        refine bodyPost_ret (v := .tuple #[.agg #[.slice An nn cn, .slice Af k cf, .map (some bo), .map (some bi)], .map (some (w1.heap.size + 1)), .bool true]) (by simp [results, Tryz.results122, go_sem, b0, b1, b2, b3]) rfl (.inr ⟨HV.out, HVM.out, bo, bi, w1.heap.size + 1, k, rfl, ?_, ?_, HIM.out, h14, by omega, HBZ.out.1⟩)
        · exact HMO2.out.wide (by rw [hs1]; omega) (by rw [HSZ.out]; exact hsz)
        · exact HMI2.out.wide (by rw [hs1]; omega) (by rw [HSZ.out]; exact hsz)
  · have hne' : ((n' : Int) != (lf : Int)) = true := by rw [bne_iff_ne]; omega
    have hq1 := HQ.out.alloc (.cells #[.slice An nn cn, .slice Af lf cf, .map (some bo), .map (some bi)] 104)
    have r0 : (w1.alloc (.cells #[.slice An nn cn, .slice Af lf cf, .map (some bo), .map (some bi)] 104)).cell? ⟨w.heap.size + 1, 0, none⟩ = some (.slice none 0 0) := hq1.cell 0
    have r1 : (w1.alloc (.cells #[.slice An nn cn, .slice Af lf cf, .map (some bo), .map (some bi)] 104)).cell? ⟨w.heap.size + 1, 1, none⟩ = some (.slice none 0 0) := hq1.cell 1
    have r2 : (w1.alloc (.cells #[.slice An nn cn, .slice Af lf cf, .map (some bo), .map (some bi)] 104)).cell? ⟨w.heap.size + 1, 2, none⟩ = some (.map none) := hq1.cell 2
    have r3 : (w1.alloc (.cells #[.slice An nn cn, .slice Af lf cf, .map (some bo), .map (some bi)] 104)).cell? ⟨w.heap.size + 1, 3, none⟩ = some (.map none) := hq1.cell 3
    have q0 := hq1.soft 0
    have q1 := hq1.soft 1
    have q2 := hq1.soft 2
    have q3 := hq1.soft 3
    obtain ⟨b0, b1, b2, b3, HBZ⟩ := net_store hq1 (up HB.out HB3.out) (by omega) (.slice none 0 0) (.slice none 0 0) (.map none) (.map none)
    have HX := Lib.hid (show (vProc ns fs && vMarks fs ms) = false by
      have : ¬ ms.length = fs.length := by have := HF.out; have := HL.out; omega
      simp [vMarks, this])
    clear hq1
    go_wp2
    exact bodyPost_ret (v := .tuple #[.agg #[.slice none 0 0, .slice none 0 0, .map none, .map none], .map none, .bool false]) (by simp [results, Tryz.results122, go_sem, b0, b1, b2, b3]) rfl (.inl ⟨HX.out, rfl, HBZ.out.1⟩)
end Go.Proofs.YtknphikoikdcjaaGreat


/- Ready nodes, in plain mathematics. No program. -/
namespace Go.Proofs.YtknphikoikdcjaaGreat
open Go.RowKit

/-- There is a token on the flow. -/
def pos (ms : List Int) (i : Int) : Bool := decide (0 < ms.getD i.toNat 0)
def havingOf (ms ids : List Int) : List Int := ids.filter (pos ms)
/-- The flows of which a node of the kind takes a token. -/
def takesOf (x : Int) (ms ids : List Int) : List Int := if x = 8 then (if (havingOf ms ids).length < ids.length then [] else havingOf ms ids) else (havingOf ms ids).take 1
/-- A node of the kind is ready. -/
def readyB (x : Int) (ms ids : List Int) : Bool := if x = 8 then (!ids.isEmpty && ids.all (pos ms)) else ids.any (pos ms)
theorem having_yes {ms ids : List Int} {k : Nat} {q : Int} (hk : ids[k]? = some q) (h : 0 < ms.getD q.toNat 0) : havingOf ms (ids.take (k + 1)) = havingOf ms (ids.take k) ++ [q] := by
  rw [take_snoc hk, havingOf, List.filter_append, havingOf]
  have : pos ms q = true := decide_eq_true h
  simp [this]
theorem having_no {ms ids : List Int} {k : Nat} {q : Int} (hk : ids[k]? = some q) (h : ¬ 0 < ms.getD q.toNat 0) : havingOf ms (ids.take (k + 1)) = havingOf ms (ids.take k) := by
  rw [take_snoc hk, havingOf, List.filter_append, havingOf]
  have : pos ms q = false := decide_eq_false h
  simp [this]
theorem having_le (ms ids : List Int) : (havingOf ms ids).length ≤ ids.length := List.length_filter_le _ _
theorem having_all {ms ids : List Int} : (havingOf ms ids).length = ids.length ↔ ids.all (pos ms) = true := by
  rw [havingOf, List.length_filter_eq_length_iff, List.all_eq_true]
theorem having_any {ms ids : List Int} : havingOf ms ids = [] ↔ ids.any (pos ms) = false := by
  rw [havingOf, List.filter_eq_nil_iff]
  simp [List.any_eq_false]
theorem takes_ready (x : Int) (ms ids : List Int) : decide (0 < (takesOf x ms ids).length) = readyB x ms ids := by
  unfold takesOf readyB
  by_cases hx : x = 8
  · rw [if_pos hx, if_pos hx]
    have hle := having_le ms ids
    by_cases hl : (havingOf ms ids).length < ids.length
    · rw [if_pos hl]
      have : ids.all (pos ms) = false := by
        cases h : ids.all (pos ms) with
        | false => rfl
        | true => have := having_all.2 h; omega
      rw [this]; simp
    · rw [if_neg hl]
      have he : (havingOf ms ids).length = ids.length := by omega
      rw [having_all.1 he, he]
      cases ids <;> simp
  · rw [if_neg hx, if_neg hx, List.length_take]
    cases h : ids.any (pos ms) with
    | false => rw [having_any.2 h]; rfl
    | true =>
      have : havingOf ms ids ≠ [] := fun e => by rw [having_any.1 e] at h; cases h
      have hp : 0 < (havingOf ms ids).length := List.length_pos_iff.2 this
      rw [decide_eq_true]; omega
/-- What ReadyNodes answers. -/
def kindAt (ns : List (Int × Int)) (k : Nat) : Int := (ns.getD k (0, 0)).1
def readyUp (ns : List (Int × Int)) (fs : List Flw) (ms : List Int) (k : Nat) : List Int := ((List.range k).filter fun (i : Nat) => readyB (kindAt ns i) ms (flOf fs false (i : Int))).map fun (i : Nat) => (i : Int)
def readyOf (ns : List (Int × Int)) (fs : List Flw) (ms : List Int) : List Int := if vProc ns fs && vMarks fs ms then readyUp ns fs ms ns.length else []
theorem kindAt_is {ns : List (Int × Int)} {k : Nat} {x y : Int} (h : ns[k]? = some (x, y)) : kindAt ns k = x := by
  rw [kindAt, List.getD_eq_getElem?_getD, h]; rfl
theorem readyUp_yes {ns : List (Int × Int)} {fs : List Flw} {ms : List Int} {k : Nat} (h : readyB (kindAt ns k) ms (flOf fs false (k : Int)) = true) : readyUp ns fs ms (k + 1) = readyUp ns fs ms k ++ [(k : Int)] := by
  simp [readyUp, List.range_succ, h]
theorem readyUp_no {ns : List (Int × Int)} {fs : List Flw} {ms : List Int} {k : Nat} (h : readyB (kindAt ns k) ms (flOf fs false (k : Int)) = false) : readyUp ns fs ms (k + 1) = readyUp ns fs ms k := by
  simp [readyUp, List.range_succ, h]
theorem readyUp_le (ns : List (Int × Int)) (fs : List Flw) (ms : List Int) (k : Nat) : (readyUp ns fs ms k).length ≤ k := by
  have := List.length_filter_le (fun (i : Nat) => readyB (kindAt ns i) ms (flOf fs false (i : Int))) (List.range k)
  simpa [readyUp] using this
end Go.Proofs.YtknphikoikdcjaaGreat


/- impl.takesFrom, impl.isReady. -/
namespace Go.Proofs.YtknphikoikdcjaaGreat
open Go.RowKit

theorem infoIntT : (Tryz.prog.info? 3).map (fun i => (i.zero, i.size, i.bytes)) = some (some (.int .i64 0), 1, 8) := by kernel_rfl
theorem zeroIntT (w : World) : (zeroValue 3).run Tryz.prog w = .ok (.int .i64 0) w := by kernel_rfl
set_option maxRecDepth 100000 in
set_option maxHeartbeats 3200000 in
theorem takesFrom_any (An : Option Addr) (nn cn lo hi : Nat) (ns : List (Int × Int)) (Af : Option Addr) (lf cf bo bi : Nat) (fs : List Flw) (lo2 hi2 mb m : Nat) (ms : List Int) (k : Nat) (x y : Int) (w : World)
    (hrn : Rd w lo hi 2 An nn (pvs ns)) (hB : hi ≤ w.heap.size) (hm : RowMap Tryz.prog 3 w lo2 hi2 bi (fun z => flOf fs false z)) (hB2 : hi2 ≤ w.heap.size) (hc : MkM Tryz.prog 3 w mb m (markAt ms)) (hlen : ms.length = fs.length) (h14 : fs.length ≤ 14) (hk : k < nn) (hn : nn ≤ 1048576) (hkx : ns[k]? = some (x, y)) :
    Calls Tryz.prog 180 #[.agg #[.slice An nn cn, .slice Af lf cf, .map (some bo), .map (some bi)], .map (some mb), .int .i64 (k : Int)] w (Fresh (ivs (takesOf x ms (flOf fs false (k : Int)))) 1 (takesOf x ms (flOf fs false (k : Int))).length w) := by
  obtain ⟨i0, hi0, hz0, hz1, hz2⟩ := info_parts infoIntT
  have hk64 : in64 (k : Int) := by unfold in64; omega
  have hb1 := up_alloc (Below.refl _ w) (.cells #[.slice An nn cn, .slice Af lf cf, .map (some bo), .map (some bi)] 104)
  have hbk := Blk.new w 104 #[.slice An nn cn, .slice Af lf cf, .map (some bo), .map (some bi)]
  have hs1 : (w.alloc (.cells #[.slice An nn cn, .slice Af lf cf, .map (some bo), .map (some bi)] 104)).heap.size = w.heap.size + 1 := by simp
  have HMEM := Lib.hid (show ∀ (j : Nat) (z : Int), (flOf fs false (k : Int))[j]? = some z → ∃ (q : Nat), z = (q : Int) ∧ q < ms.length from fun j z h => by
    obtain ⟨q, f, rfl, hf, _⟩ := flOf_mem.1 (List.mem_of_getElem? h)
    exact ⟨q, rfl, by have := (List.getElem?_eq_some_iff.1 hf).1; omega⟩)
  have hml : (flOf fs false (k : Int)).length ≤ 14 := Nat.le_trans (flUp_le fs false (k : Int) fs.length) h14
  have hmb := hc.lt
  have HLK := Lib.hid (show ∀ (w' : World), Below w.heap.size w w' → ∃ A c, (Instr.lookup 100 (.map (some bi)) (.int .i64 (k : Int)) false).run Tryz.prog w' = .ok (.slice A (flOf fs false (k : Int)).length c) w' ∧ (flOf fs false (k : Int)).length ≤ c ∧ Rd w' lo2 hi2 1 A (flOf fs false (k : Int)).length (ivs (flOf fs false (k : Int))) from fun w' hb => by
    obtain ⟨A, c, h1, h2, h3, _⟩ := (hm.keep hb hB2).look keyedInt Tryz.underlying3 Tryz.underlying100 zeroInts hk64
    exact ⟨A, c, h1, h2, h3⟩)
  have HGT := Lib.hid (show ∀ (w' : World) (q : Nat), Below w.heap.size w w' → q < ms.length → (Instr.lookup 111 (.map (some mb)) (.int .i64 (q : Int)) false).run Tryz.prog w' = .ok (.int .i64 (ms.getD q 0)) w' from fun w' q hb hq => by
    have := (hc.keep hb hmb).look keyedInt Tryz.underlying3 Tryz.underlying111 (zeroIntT w') (by unfold in64; omega : in64 (q : Int)) rfl
    rw [markAt_get ms q hq] at this
    exact this)
  obtain ⟨Ai, ci, hlo, hci, hri⟩ := HLK.out _ hb1
  generalize flOf fs false (k : Int) = ids at *
  have HT : Hid (ids.take ids.length = ids) := List.take_length
  go_enter Tryz.func180, Tryz.ntmps180
  go_wp2
  go_loopw [7, 16] (fun hv iv wr => ∃ (j : Nat), j ≤ ids.length ∧ iv = .int .i64 j ∧ Hid (Rd wr lo2 hi2 1 Ai ids.length (ivs ids) ∧ Blk wr w.heap.size 104 #[.slice An nn cn, .slice Af lf cf, .map (some bo), .map (some bi)] ∧ Below w.heap.size w wr) ∧ Hid (wr.ownsRow (w.heap.size + 1) 3 1 hv (havingOf ms (ids.take j)).length (ivs (havingOf ms (ids.take j)))) ∧ w.heap.size + 1 ≤ wr.heap.size)
     (fun _ iv _ => ids.length - (intOf iv).toNat)
  case atStart => exact ⟨0, by omega, rfl, ⟨hri, hbk, hb1⟩, World.ownsRow_nil _ _ _ _, by rw [hs1]; exact Nat.le_refl _⟩
  case round =>
    clear hri hbk hb1 hlo
    obtain ⟨j, hj, rfl, HR, HO, hsw⟩ := hrel
    have HB := Lib.hid HR.out.2.2
    have hsz := HB.out.size
    by_cases hlt : j < ids.length
    · obtain ⟨b, off, z, rfl, hbh, _, hg, hc0⟩ := HR.out.1.one hlt
      obtain ⟨q, rfl, hq⟩ := HMEM.out j z hg
      have hget := HGT.out wr q HB.out hq
      have hj1 : (j : Int) < (ids.length : Int) := by omega
      have hj0 : (0 : Int) ≤ (j : Int) := by omega
      by_cases hp : 0 < ms.getD q 0
      · have HH := Lib.hid (having_yes (ms := ms) hg (by rw [Int.toNat_natCast]; exact hp))
        have hp' : decide (0 < ms.getD q 0) = true := decide_eq_true hp
        have hle := having_le ms (ids.take j)
        have hle2 : (ids.take j).length ≤ 14 := by rw [List.length_take]; omega
        generalize ms.getD q 0 = mq at *
        clear hg
        go_wp2_with (at_builtin; refine wpList_append_own _ rfl _ _ 26 rfl (w.heap.size + 1) 3 i0 (.int .i64 0) 1 8 Tryz.underlying26 hi0 hz0 hz1 hz2 rfl (by decide) _ _ _ rfl (HO.out.alloc _) _ 1 1 [.int .i64 (q : Int)] rfl rfl (cell_one_new _ _ _) ?c2 ?c3 ?c4 ?c5 ?_)
        case c2 => intro u hu; simp at hu; subst hu; rfl
        case c3 => unfold maxLen; omega
        case c4 => omega
        case c5 => simp; omega
        intro v' w4 hown4 hg4 _
        have HB4 := Lib.hid (up_grown (up_alloc HB.out (.cells #[.int .i64 (q : Int)] 3)) (HO.out.alloc _) hg4 (by omega))
        have HK4 := Lib.hid ((HR.out.2.1.alloc (.cells #[.int .i64 (q : Int)] 3)).own_grown (HO.out.alloc _) hg4 (by omega))
        have HR4 := Lib.hid (((HR.out.1.keep (up_alloc (Below.refl _ wr) (.cells #[.int .i64 (q : Int)] 3)) (by omega)).far hg4 (by simp; omega) (fun g e => by have := ((HO.out.alloc (.cells #[.int .i64 (q : Int)] 3)).lt g e).1; omega)))
        have hs4 := HB4.out.size
        have hs4' : w.heap.size + 1 ≤ w4.heap.size := by have := HK4.out.lt; omega
        have HO4 := Lib.hid hown4
        clear hg4 hown4
        go_wp2
        go_roundw
        case rel =>
          refine ⟨j + 1, by omega, by go_num, ⟨HR4.out, HK4.out, HB4.out⟩, ?_, hs4'⟩
          rw [Hid, HH.out, ivs_append, List.length_append]
          exact HO4.out
        case measure => simp [intOf]; omega
      · have HH := Lib.hid (having_no (ms := ms) hg (by rw [Int.toNat_natCast]; exact hp))
        have hp' : decide (0 < ms.getD q 0) = false := decide_eq_false hp
        generalize ms.getD q 0 = mq at *
        clear hg
        go_wp2
        go_roundw
        case rel => exact ⟨j + 1, by omega, by go_num, HR, by rw [HH.out]; exact HO, hsw⟩
        case measure => simp [intOf]; omega
    · obtain rfl : j = ids.length := by omega
      rw [HT.out] at HO
      have hle := having_le ms ids
      have k0 : wr.cell? ⟨w.heap.size, 0, none⟩ = some (.slice An nn cn) := HR.out.2.1.cell 0
      have k3 : wr.cell? ⟨w.heap.size, 3, none⟩ = some (.map (some bi)) := HR.out.2.1.cell 3
      obtain ⟨bn, off, xx, yy, rfl, _, _, hgn, hn0, _⟩ := (hrn.keep HB.out hB).pair hk
      have hxx : xx = x := by rw [hkx] at hgn; injection hgn with hgn; injection hgn with h1 _; exact h1.symm
      subst hxx
      have hk1 : (k : Int) < (nn : Int) := by omega
      clear hgn
      obtain ⟨Ah, ch, rfl, hch, hrh, hsh⟩ := own_form HO.out
      by_cases hx : xx = 8
      · subst hx
        obtain ⟨A2, c2, hl2, _, _⟩ := HLK.out _ HB.out
        by_cases hl : (havingOf ms ids).length < ids.length
        · have HT2 := Lib.hid (show takesOf 8 ms ids = [] by simp [takesOf, hl])
          have hl' : decide (((havingOf ms ids).length : Int) < (ids.length : Int)) = true := decide_eq_true (by omega)
          have hl'' : decide ((havingOf ms ids).length < ids.length) = true := decide_eq_true hl
          go_wp2
          go_ret
          rw [HT2.out]
          exact Fresh.nil 1 HB.out
        · have HT2 := Lib.hid (show takesOf 8 ms ids = havingOf ms ids by simp [takesOf, hl])
          have hl' : decide (((havingOf ms ids).length : Int) < (ids.length : Int)) = false := decide_eq_false (by omega)
          have hl'' : decide ((havingOf ms ids).length < ids.length) = false := decide_eq_false hl
          go_wp2
          go_ret
          rw [HT2.out]
          exact ⟨Ah, ch, rfl, hch, hrh.wide (by omega) (Nat.le_refl _), hsh, HB.out⟩
      · have hx' : (xx != 8) = true := by simpa using hx
        have HT2 := Lib.hid (show takesOf xx ms ids = (havingOf ms ids).take 1 by simp [takesOf, hx])
        clear hx
        by_cases h0 : (havingOf ms ids).length = 0
        · have hnil : havingOf ms ids = [] := List.eq_nil_of_length_eq_zero h0
          rw [hnil] at HT2
          rw [h0] at hch hrh hsh
          rw [h0]
          go_wp2
          go_ret
          rw [HT2.out]
          exact ⟨_, _, rfl, by simp, ⟨rfl, fun h => absurd h (by simp)⟩, fun b off e j hj => by simp at hj, HB.out⟩
        · obtain ⟨g, cg, hvg, hg1, hg2, _⟩ := own_first HO.out (by omega)
          injection hvg with hvg _ hcg
          subst hvg; subst hcg
          have hmin : min 1 (havingOf ms ids).length = 1 := by omega
          have hcut := own_cut HO.out (m := 1) (by omega)
          have HCUT := Lib.hid hcut
          have hlt2 : ((havingOf ms ids).take 1).length = 1 := by rw [List.length_take]; omega
          have hmin2 : min (1 : Int) ((havingOf ms ids).length : Int) = 1 := by omega
          clear hcut
          go_wp2
          go_ret
          rw [HT2.out, hlt2]
          have hx1 : ivs ((havingOf ms ids).take 1) = (ivs (havingOf ms ids)).take (1 * 1) := by simp [ivs]
          rw [hx1]
          exact ⟨_, ch, rfl, by omega, (Rd.of_own HCUT.out).wide (by omega) (Nat.le_refl _), Soft.of_own HCUT.out, HB.out⟩
end Go.Proofs.YtknphikoikdcjaaGreat

