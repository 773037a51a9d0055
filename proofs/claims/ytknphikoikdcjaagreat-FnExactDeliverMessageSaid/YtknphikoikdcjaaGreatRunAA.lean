/- Merged: RunA, RunH, RunB. -/
import Derived.Test.YtknphikoikdcjaaGreatInstMathA
import Derived.Test.YtknphikoikdcjaaGreatTokFireA
import Derived.Test.YtknphikoikdcjaaGreatTokReadyI
/- An instance that runs, in memory: what its cells lead to. -/
set_option linter.unusedSimpArgs false
set_option linter.unusedVariables false
namespace Go.Proofs.YtknphikoikdcjaaGreat
open Go.RowKit

/-- The process' nodes and flows, its two maps, the tokens' map. -/
structure NetM (w : World) (ns : List (Int × Int)) (fs : List Flw) (ms : List Int) (An : Option Addr) (nn : Nat) (Af : Option Addr) (lf bo bi mb m : Nat) : Prop where
  nodes : Rd w 0 w.heap.size 2 An nn (pvs ns)
  flows : Fls w 0 w.heap.size Af lf fs
  om : RowMap Tryz.prog 3 w 0 w.heap.size bo (fun z => flOf fs true z)
  im : RowMap Tryz.prog 3 w 0 w.heap.size bi (fun z => flOf fs false z)
  cm : MkM Tryz.prog 3 w mb m (markAt ms)
  mm : m ≤ 14
  vp : vProc ns fs = true
  vm : vMarks fs ms = true
section
variable {w w' : World} {ns : List (Int × Int)} {fs : List Flw} {ms : List Int} {An : Option Addr} {nn : Nat} {Af : Option Addr} {lf bo bi mb m : Nat}
theorem NetM.keep (h : NetM w ns fs ms An nn Af lf bo bi mb m) (hb : Below w.heap.size w w') : NetM w' ns fs ms An nn Af lf bo bi mb m :=
  ⟨(h.nodes.keep hb (Nat.le_refl _)).wide (Nat.le_refl _) hb.size, (h.flows.keep hb (Nat.le_refl _)).wide (Nat.le_refl _) hb.size, (h.om.keep hb (Nat.le_refl _)).wide (Nat.le_refl _) hb.size, (h.im.keep hb (Nat.le_refl _)).wide (Nat.le_refl _) hb.size, h.cm.keep hb h.cm.lt, h.mm, h.vp, h.vm⟩
theorem NetM.nl (h : NetM w ns fs ms An nn Af lf bo bi mb m) : ns.length = nn := h.nodes.len2
end
theorem vMarks_lenR {fs : List Flw} {ms : List Int} (h : vMarks fs ms = true) : ms.length = fs.length := by
  simp only [vMarks, Bool.and_eq_true, decide_eq_true_eq] at h
  exact h.1
theorem vMarks_03 {fs : List Flw} {ms : List Int} (h : vMarks fs ms = true) : ∀ z ∈ ms, 0 ≤ z ∧ z ≤ 3 := fun z hz => by
  simp only [vMarks, Bool.and_eq_true, decide_eq_true_eq, List.all_eq_true] at h
  have := inR_iff.1 (h.2 z hz)
  omega
/-- A row of a slice, wherever it lies. -/
theorem rd_up {w w' : World} {k n : Nat} {A : Option Addr} {zs : List Value} (h : Rd w 0 w.heap.size k A n zs) (hb : Below w.heap.size w w') : Rd w' 0 w'.heap.size k A n zs := (h.keep hb (Nat.le_refl _)).wide (Nat.le_refl _) hb.size
end Go.Proofs.YtknphikoikdcjaaGreat


/- The tokens' map holds no more entries than there are flows. -/
namespace Go.Proofs.YtknphikoikdcjaaGreat
open Go.RowKit Go.Maps
open Go.WideElems (Fit rg rd_key rg_of rd_val)

theorem bounded_len : ∀ (n : Nat) (l : List Nat), l.Nodup → (∀ x ∈ l, x < n) → l.length ≤ n
  | 0, l, _, h => by
    cases l with
    | nil => simp
    | cons a l => exact absurd (h a (by simp)) (by omega)
  | n + 1, l, hd, h => by
    by_cases hn : n ∈ l
    · have h1 := bounded_len n (l.erase n) (hd.erase n) (fun x hx => by
        have h2 := (hd.mem_erase_iff).1 hx
        have h3 := h x h2.2
        have h4 := h2.1
        omega)
      rw [List.length_erase_of_mem hn] at h1
      omega
    · have h1 := bounded_len n l hd (fun x hx => by
        have h3 := h x hx
        have h4 : x ≠ n := fun e => hn (e ▸ hx)
        omega)
      omega
def litNat : Lit → Nat
  | .int _ z => z.toNat
  | _ => 0
theorem markAt_in {ms : List Int} {z : Int} {v : Value} (h : markAt ms z = some v) : 0 ≤ z ∧ z.toNat < ms.length := by
  unfold markAt at h
  by_cases hz : 0 ≤ z
  · rw [if_pos hz] at h
    refine ⟨hz, ?_⟩
    cases hg : ms[z.toNat]? with
    | none => rw [hg] at h; simp at h
    | some a => exact (List.getElem?_eq_some_iff.1 hg).1
  · rw [if_neg hz] at h; cases h
theorem IMap.tight {P : Program} {kt : TypeId} {w : World} {b n : Nat} {g : Int → Option Value} {ms : List Int} (h : IMap P kt w b n g) (hk : P.underlying kt = some (.int .i64)) (K : Keyed P kt) (hin : ∀ {z : Int} {v : Value}, g z = some v → 0 ≤ z ∧ z.toNat < ms.length) : IMap P kt w b ms.length g := by
  obtain ⟨D, ho, hat⟩ := h
  obtain ⟨es, clock, hb, F, hs, hD⟩ := ho
  refine ⟨D, ⟨es, clock, hb, F, ?_, hD⟩, hat⟩
  subst hD
  have hap := Maps.fit_apart K F
  have hst := Maps.sorted_sorted K.one _ (Maps.fit_keys F) hap
  have hap2 : ((es.toList.map (rg P kt heldR)).foldr DataW.insert []).Pairwise (fun p q => p.1 ≠ q.1) := hst.imp (fun {a b} hab e => by rw [e, WideShapes.before_irrefl] at hab; cases hab)
  have hin2 : ∀ p ∈ es.toList.map (rg P kt heldR), ∃ z : Int, p.1 = .int .i64 z ∧ 0 ≤ z ∧ z.toNat < ms.length := by
    intro p hp
    have hps := mem_sorted.2 hp
    obtain ⟨x, hx, rfl⟩ := List.mem_map.1 hp
    obtain ⟨y, hy⟩ := F.reads x hx
    rw [rg_of hy] at hps ⊢
    have hv := WideAt.atKey_mem (d := y.2) .nil (K.key (rd_key hy)) hap2 hps
    obtain ⟨z, hz1, hz2, hz3⟩ := Maps.keyOf_int_inv hk (rd_key hy)
    obtain ⟨u, hu1, hu2⟩ := rd_val hy
    refine ⟨z, hz2, ?_⟩
    have h1 := hat z
    rw [hz2] at hv
    rw [hv, hu2] at h1
    simp only [heldR, Option.some.injEq] at hu1
    rw [← hu1] at h1
    cases hm : g z with
    | none => rw [hm] at h1; cases h1
    | some v => exact hin hm
  have hl : ((es.toList.map (rg P kt heldR)).map (fun p => litNat p.1)).length ≤ ms.length := by
    apply bounded_len
    · unfold List.Nodup
      rw [List.pairwise_map]
      refine List.Pairwise.imp_of_mem ?_ hap
      intro p q hp hq hne e
      obtain ⟨z, e1, h0, h1⟩ := hin2 p hp
      obtain ⟨z', e1', h0', h1'⟩ := hin2 q hq
      apply hne
      rw [e1, e1'] at e ⊢
      simp only [litNat] at e
      rw [show z = z' by omega]
    · intro x hx
      obtain ⟨p, hp, rfl⟩ := List.mem_map.1 hx
      obtain ⟨z, e, h0, h1⟩ := hin2 p hp
      rw [e]
      exact h1
  simpa using hl
theorem MkM.tight {P : Program} {kt : TypeId} {w : World} {b n : Nat} {ms : List Int} (h : MkM P kt w b n (markAt ms)) (hk : P.underlying kt = some (.int .i64)) (K : Keyed P kt) : MkM P kt w b ms.length (markAt ms) := by
  obtain ⟨g, h1, h2⟩ := h
  exact ⟨g, IMap.tight h1 hk K (fun h => markAt_in (marks_hit h2 h)), h2⟩
end Go.Proofs.YtknphikoikdcjaaGreat


/- What an instance that runs tells of itself: waiting, waitsAt, timersByNode. (Written by gen/runb.py.) -/
namespace Go.Proofs.YtknphikoikdcjaaGreat
open Go.RowKit

theorem zeroIntR (w : World) : (zeroValue 3).run Tryz.prog w = .ok (.int .i64 0) w := by kernel_rfl
theorem zeroIntsR (w : World) : (zeroValue 26).run Tryz.prog w = .ok (.slice none 0 0) w := by kernel_rfl
theorem one_inR {ns : List (Int × Int)} {fs : List Flw} (hV : vProc ns fs = true) {k : Nat} {x y : Int} (h : ns[k]? = some (x, y)) (hx : x = 2 ∨ x = 3 ∨ x = 4) : (flOf fs false (k : Int)).length = 1 := by
  have hn := (vProc_node hV h).2
  rcases hx with h | h | h <;> subst h <;> simp [vKind] at hn <;> omega
theorem waitAt_one {fs : List Flw} {ms : List Int} {node : Int} {q : Int} (h : (flOf fs false node)[0]? = some q) : waitAt fs ms node = ms.getD q.toNat 0 := by
  unfold waitAt
  cases hf : flOf fs false node with
  | nil => rw [hf] at h; cases h
  | cons a l => rw [hf] at h; simp at h; subst h; rfl
set_option maxRecDepth 100000 in
set_option maxHeartbeats 1600000 in
theorem waiting_any (An : Option Addr) (nn cn : Nat) (ns : List (Int × Int)) (Af : Option Addr) (lf cf : Nat) (fs : List Flw) (bo bi mb m : Nat) (ms : List Int) (Av : Option Addr) (nv cv : Nat) (cl : Int) (At : Option Addr) (nt ct : Nat) (k : Nat) (x y : Int) (w : World) (hN : NetM w ns fs ms An nn Af lf bo bi mb m) (hkx : ns[k]? = some (x, y)) (hx : x = 2 ∨ x = 3 ∨ x = 4) (hk : k ≤ 1048576) :
    Calls Tryz.prog 164 #[.agg #[.slice An nn cn, .slice Af lf cf, .map (some bo), .map (some bi), .map (some mb), .slice Av nv cv, .int .i64 cl, .slice At nt ct], .int .i64 (k : Int)] w fun e w' => e = .returned (.int .i64 (waitAt fs ms (k : Int))) ∧ Below w.heap.size w w' := by
  have hb1 := up_alloc (Below.refl _ w) (.cells #[.slice An nn cn, .slice Af lf cf, .map (some bo), .map (some bi), .map (some mb), .slice Av nv cv, .int .i64 cl, .slice At nt ct] 114)
  have hbk := Blk.new w 114 #[.slice An nn cn, .slice Af lf cf, .map (some bo), .map (some bi), .map (some mb), .slice Av nv cv, .int .i64 cl, .slice At nt ct]
  have hN1 := hN.keep hb1
  have hlen := one_inR hN.vp hkx hx
  have hk64 : in64 (k : Int) := by unfold in64; omega
  generalize hw0 : w.alloc (.cells #[.slice An nn cn, .slice Af lf cf, .map (some bo), .map (some bi), .map (some mb), .slice Av nv cv, .int .i64 cl, .slice At nt ct] 114) = w0 at *
  have hbd := up_drew (Below.refl _ w0)
  have hN2 := hN1.keep hbd
  obtain ⟨A, c, hlk, hcc, hrr, _⟩ := hN2.im.look keyedInt Tryz.underlying3 Tryz.underlying100 zeroIntsR hk64
  rw [hlen] at hlk hcc hrr
  obtain ⟨b, off, q, hA, _, _, hq, hcq⟩ := hrr.one (show 0 < 1 by omega)
  subst hA
  obtain ⟨q', hq', hq14⟩ : ∃ q' : Nat, q = (q' : Int) ∧ q' < ms.length := by
    obtain ⟨i, f, hf, hi, _⟩ := flOf_mem.1 (List.mem_of_getElem? hq)
    have hl := vMarks_lenR hN.vm
    exact ⟨i, hf, by rw [hl]; exact (List.getElem?_eq_some_iff.1 hi).1⟩
  subst hq'
  have hq64 : in64 (q' : Int) := by have h1 := vMarks_lenR hN.vm; have h2 := (vProc_len hN.vp).2.2; unfold in64; omega
  have hlt := hN2.cm.look keyedInt Tryz.underlying3 Tryz.underlying111 (zeroIntR w0.drew) hq64 rfl
  rw [markAt_get _ q' hq14] at hlt
  have HW := Lib.hid (waitAt_one (ms := ms) hq)
  rw [Int.toNat_natCast] at HW
  have HB := Lib.hid hb1
  generalize ms.getD q' 0 = v at hlt HW
  subst hw0
  have c3 : (w.alloc (.cells #[.slice An nn cn, .slice Af lf cf, .map (some bo), .map (some bi), .map (some mb), .slice Av nv cv, .int .i64 cl, .slice At nt ct] 114)).cell? ⟨w.heap.size, 3, none⟩ = some (.map (some bi)) := hbk.cell 3
  have c4 : (w.alloc (.cells #[.slice An nn cn, .slice Af lf cf, .map (some bo), .map (some bi), .map (some mb), .slice Av nv cv, .int .i64 cl, .slice At nt ct] 114)).cell? ⟨w.heap.size, 4, none⟩ = some (.map (some mb)) := hbk.cell 4
  have hcq3 : (w.alloc (.cells #[.slice An nn cn, .slice Af lf cf, .map (some bo), .map (some bi), .map (some mb), .slice Av nv cv, .int .i64 cl, .slice At nt ct] 114)).cell? ⟨b, off, none⟩ = some (.int .i64 (q' : Int)) := hcq
  clear hcq
  clear hN hN1 hN2 hkx hx hrr hq hk64 hlen hb1 hbk hbd
  go_enter Tryz.func164, Tryz.ntmps164
  go_wp2_with (fail)
  go_region
  all_goals
    go_wp2
    go_ret
    exact ⟨by rw [HW.out]; rfl, up_drew HB.out⟩
set_option maxRecDepth 100000 in
set_option maxHeartbeats 800000 in
theorem isReady_noR (An : Option Addr) (nn cn : Nat) (Af : Option Addr) (lf cf bo bi mb : Nat) (node : Int) (w : World) (hin : inR node 0 ((nn : Int) - 1) = false) :
    Calls Tryz.prog 154 #[.agg #[.slice An nn cn, .slice Af lf cf, .map (some bo), .map (some bi)], .map (some mb), .int .i64 node] w fun e w' => e = .returned (.bool false) ∧ Below w.heap.size w w' := by
  have hb1 := up_alloc (Below.refl _ w) (.cells #[.slice An nn cn, .slice Af lf cf, .map (some bo), .map (some bi)] 104)
  go_enter Tryz.func154, Tryz.ntmps154
  go_wp2_with (fail)
  (with_reducible refine (isNode_any An nn cn node _).mono ?_)
  rintro e w2 ⟨rfl, rfl⟩
  rw [hin]
  have HB := Lib.hid hb1
  clear hin hb1
  go_wp2
  go_ret
  exact ⟨rfl, HB.out⟩
set_option maxRecDepth 100000 in
set_option maxHeartbeats 1600000 in
theorem waitsAt_any (An : Option Addr) (nn cn : Nat) (ns : List (Int × Int)) (Af : Option Addr) (lf cf : Nat) (fs : List Flw) (bo bi mb m : Nat) (ms : List Int) (Av : Option Addr) (nv cv : Nat) (cl : Int) (At : Option Addr) (nt ct : Nat) (node kind : Int) (w : World) (hN : NetM w ns fs ms An nn Af lf bo bi mb m) (hnn : nn ≤ 1048576) :
    Calls Tryz.prog 91 #[.agg #[.slice An nn cn, .slice Af lf cf, .map (some bo), .map (some bi), .map (some mb), .slice Av nv cv, .int .i64 cl, .slice At nt ct], .int .i64 node, .int .i64 kind] w fun e w' => e = .returned (.bool (inR node 0 ((nn : Int) - 1) && readyB (kindAt ns node.toNat) ms (flOf fs false node) && (kindAt ns node.toNat == kind))) ∧ Below w.heap.size w w' := by
  have hb1 := up_alloc (Below.refl _ w) (.cells #[.slice An nn cn, .slice Af lf cf, .map (some bo), .map (some bi), .map (some mb), .slice Av nv cv, .int .i64 cl, .slice At nt ct] 114)
  have HK := Lib.hid (Blk.new w 114 #[.slice An nn cn, .slice Af lf cf, .map (some bo), .map (some bi), .map (some mb), .slice Av nv cv, .int .i64 cl, .slice At nt ct])
  have HN1 := Lib.hid (hN.keep hb1)
  have HB := Lib.hid hb1
  have hz : (w.alloc (.cells #[.slice An nn cn, .slice Af lf cf, .map (some bo), .map (some bi), .map (some mb), .slice Av nv cv, .int .i64 cl, .slice At nt ct] 114)).heap.size = w.heap.size + 1 := by simp
  clear hb1 hN
  cases hin : inR node 0 ((nn : Int) - 1) with
  | false =>
    have HC := Lib.hid (isReady_noR An nn cn Af lf cf bo bi mb node (w.alloc (.cells #[.slice An nn cn, .slice Af lf cf, .map (some bo), .map (some bi), .map (some mb), .slice Av nv cv, .int .i64 cl, .slice At nt ct] 114)) hin)
    clear hin
    go_enter Tryz.func91, Tryz.ntmps91
    go_wp2_with (fail)
    (with_reducible refine HC.out.mono ?_)
    rintro e w1 ⟨rfl, hb1⟩
    have HB1 := Lib.hid (up HB.out hb1)
    clear hb1
    go_wp2
    go_ret
    exact ⟨rfl, HB1.out⟩
  | true =>
    rw [inR_iff] at hin
    obtain ⟨k, rfl⟩ : ∃ k : Nat, node = (k : Int) := ⟨node.toNat, by omega⟩
    have hk : k < nn := by omega
    obtain ⟨b, off, x, y, hA, _, _, hkx, hc0, hc1⟩ := HN1.out.nodes.pair hk
    have hx := kindAt_is hkx
    rw [Int.toNat_natCast, hx]
    subst hA
    have HC := Lib.hid (isReady_any _ nn cn 0 _ ns Af lf cf bo bi fs 0 _ mb m ms k x y _ HN1.out.nodes (Nat.le_refl _) HN1.out.im (Nat.le_refl _) HN1.out.cm (vMarks_lenR HN1.out.vm) (vProc_len HN1.out.vp).2.2 hk hnn hkx)
    clear hkx hx hin
    go_enter Tryz.func91, Tryz.ntmps91
    go_wp2_with (fail)
    (with_reducible refine HC.out.mono ?_)
    rintro e w1 ⟨rfl, hb1⟩
    have HB1 := Lib.hid (up HB.out hb1)
    have HK1 := Lib.hid (HK.out.below hb1 (by omega))
    have d0 := (hb1.cell (p := ⟨b, off + k * 2, none⟩) (by show b < _; omega)).trans hc0
    have k0 : w1.cell? ⟨w.heap.size, 0, none⟩ = some (.slice (some ⟨b, off, none⟩) nn cn) := HK1.out.cell 0
    have hk0 : (0 : Int) ≤ (k : Int) := by omega
    have hk1 : (k : Int) < (nn : Int) := by omega
    clear hb1 hc0 hc1 HN1 HC HK HK1
    cases hrb : readyB x ms (flOf fs false (k : Int)) with
    | false =>
      have HRB := Lib.hid hrb
      clear hrb
      go_wp2
      go_ret
      exact ⟨by simp [HRB.out], HB1.out⟩
    | true =>
      have HRB := Lib.hid hrb
      clear hrb
      go_wp2
      go_ret
      exact ⟨by simp [HRB.out], HB1.out⟩
/-- How many timers each node has, as a map tells it. -/
def cntAt (ts : List (Int × Int)) (z : Int) : Option Value := if tAt ts z = 0 then none else some (.int .i64 (tAt ts z : Nat))
theorem cntAt_get (ts : List (Int × Int)) (z : Int) : (cntAt ts z).getD (.int .i64 0) = .int .i64 (tAt ts z : Nat) := by
  unfold cntAt
  split
  · rename_i h; rw [h]; rfl
  · rfl
theorem tAt_snoc (ts : List (Int × Int)) (t : Int × Int) (z : Int) : tAt (ts ++ [t]) z = tAt ts z + (if t.1 = z then 1 else 0) := by
  unfold tAt
  rw [List.countP_append, List.countP_cons, List.countP_nil, Nat.zero_add]
  by_cases h : t.1 = z <;> simp [h]
theorem cntAt_snoc (ts : List (Int × Int)) (x y : Int) (z : Int) : (if z = x then some (Value.int .i64 ((tAt ts x : Nat) + 1 : Int)) else cntAt ts z) = cntAt (ts ++ [(x, y)]) z := by
  unfold cntAt
  rw [tAt_snoc]
  by_cases h : z = x
  · subst h
    simp
  · rw [if_neg h, if_neg (show ¬ (x, y).1 = z from fun e => h e.symm), Nat.add_zero]
set_option maxRecDepth 100000 in
set_option maxHeartbeats 1600000 in
theorem timersByNode_any (An : Option Addr) (nn cn : Nat) (ns : List (Int × Int)) (Af : Option Addr) (lf cf : Nat) (fs : List Flw) (bo bi mb m : Nat) (ms : List Int) (Av : Option Addr) (nv cv : Nat) (cl : Int) (At : Option Addr) (nt ct : Nat) (ts : List (Int × Int)) (w : World) (ht : Rd w 0 w.heap.size 2 At nt (pvs ts)) (hnt : nt ≤ 1048576) (h64 : ∀ t ∈ ts, in64 t.1) :
    Calls Tryz.prog 163 #[.agg #[.slice An nn cn, .slice Af lf cf, .map (some bo), .map (some bi), .map (some mb), .slice Av nv cv, .int .i64 cl, .slice At nt ct]] w fun e w' => ∃ hb, e = .returned (.map (some hb)) ∧ IMap Tryz.prog 3 w' hb nt (cntAt ts) ∧ w.heap.size ≤ hb ∧ Below w.heap.size w w' := by
  have HL := Lib.hid ht.len2
  have H64 := Lib.hid h64
  have hb1 := up_alloc (up_alloc (Below.refl _ w) (.cells #[.slice An nn cn, .slice Af lf cf, .map (some bo), .map (some bi), .map (some mb), .slice Av nv cv, .int .i64 cl, .slice At nt ct] 114)) (.map #[] 0)
  have HK := Lib.hid ((Blk.new w 114 #[.slice An nn cn, .slice Af lf cf, .map (some bo), .map (some bi), .map (some mb), .slice Av nv cv, .int .i64 cl, .slice At nt ct]).alloc (.map #[] 0))
  have HT := Lib.hid (ht.keep hb1 (Nat.le_refl _))
  have hz : ((w.alloc (.cells #[.slice An nn cn, .slice Af lf cf, .map (some bo), .map (some bi), .map (some mb), .slice Av nv cv, .int .i64 cl, .slice At nt ct] 114)).alloc (.map #[] 0)).heap.size = w.heap.size + 1 + 1 := by simp
  have HM := Lib.hid (show IMap Tryz.prog 3 ((w.alloc (.cells #[.slice An nn cn, .slice Af lf cf, .map (some bo), .map (some bi), .map (some mb), .slice Av nv cv, .int .i64 cl, .slice At nt ct] 114)).alloc (.map #[] 0)) (w.heap.size + 1) 0 (cntAt (ts.take 0)) from by
    have := IMap.made Tryz.prog 3 (w.alloc (.cells #[.slice An nn cn, .slice Af lf cf, .map (some bo), .map (some bi), .map (some mb), .slice Av nv cv, .int .i64 cl, .slice At nt ct] 114))
    rw [show (w.alloc (.cells #[.slice An nn cn, .slice Af lf cf, .map (some bo), .map (some bi), .map (some mb), .slice Av nv cv, .int .i64 cl, .slice At nt ct] 114)).heap.size = w.heap.size + 1 by simp] at this
    exact this.congr (fun z => by simp [cntAt, tAt]))
  have HB := Lib.hid hb1
  clear hb1 h64
  go_enter Tryz.func163, Tryz.ntmps163
  have hmm := @run_makeMap Tryz.prog
  have k7 : ((w.alloc (.cells #[.slice An nn cn, .slice Af lf cf, .map (some bo), .map (some bi), .map (some mb), .slice Av nv cv, .int .i64 cl, .slice At nt ct] 114)).alloc (.map #[] 0)).cell? ⟨w.heap.size, 7, none⟩ = some (.slice At nt ct) := HK.out.cell 7
  go_wp2
  clear hmm k7
  generalize (w.alloc (.cells #[.slice An nn cn, .slice Af lf cf, .map (some bo), .map (some bi), .map (some mb), .slice Av nv cv, .int .i64 cl, .slice At nt ct] 114)).alloc (.map #[] 0) = w1 at *
  go_loopw [10] (fun iv wr => ∃ (k : Nat), k ≤ nt ∧ iv = .int .i64 k ∧ Hid (IMap Tryz.prog 3 wr (w.heap.size + 1) k (cntAt (ts.take k))) ∧ Hid (Below w.heap.size w wr) ∧ Hid (Rd wr 0 w.heap.size 2 At nt (pvs ts)) ∧ w.heap.size + 1 + 1 ≤ wr.heap.size)
     (fun iv _ => nt - (intOf iv).toNat)
  case atStart => exact ⟨0, by omega, rfl, HM.out, HB.out, HT.out, by omega⟩
  case round =>
    clear HM HB HT HK
    obtain ⟨k, hk, rfl, HM, HB, HT, hsz⟩ := hrel
    by_cases hlt : k < nt
    · obtain ⟨b, off, x, y, hA, hbl, _, hg, hc0, hc1⟩ := HT.out.pair hlt
      subst hA
      have hx64 : in64 x := H64.out _ (List.mem_of_getElem? hg)
      have hb2 := up_alloc (Below.refl _ wr) (.cells #[.int .i64 x, .int .i64 y] 96)
      have HM2 := Lib.hid (HM.out.keep hb2 HM.out.lt)
      have HB2 := Lib.hid (up HB.out hb2)
      have HT2 := Lib.hid (HT.out.keep hb2 (by omega))
      have hlk := HM2.out.look keyedInt Tryz.underlying3 Tryz.underlying105 (zeroIntR _) hx64 rfl
      rw [cntAt_get] at hlk
      have HS := Lib.hid (fun z => cntAt_snoc (ts.take k) x y z)
      rw [← take_snoc hg] at HS
      have hcl : tAt (ts.take k) x ≤ k := by
        have h1 : tAt (ts.take k) x ≤ (ts.take k).length := List.countP_le_length
        rw [List.length_take] at h1; omega
      generalize hv : tAt (ts.take k) x = v at *
      obtain ⟨w4, hrun, him4, hgr⟩ := HM2.out.put keyedInt Tryz.underlying3 Tryz.underlying105 (by unfold maxLen; omega) hx64 (.int .i64 ((v : Int) + 1))
      have HM4 := Lib.hid (him4.congr HS.out)
      have HB4 := Lib.hid (HB2.out.grown hgr (by have := hb2.size; omega) (fun g e => by injection e with e; omega))
      have HT4 := Lib.hid (HT2.out.far hgr (by have := hb2.size; omega) (fun g e => by injection e with e; omega))
      have hs4 := hgr.size
      have hsw : (wr.alloc (.cells #[.int .i64 x, .int .i64 y] 96)).heap.size = wr.heap.size + 1 := by simp
      have hwv : IntKind.i64.wrap ((v : Int) + 1) = (v : Int) + 1 := IntWalk.i64_in _ (by omega)
      have hk1 : (k : Int) < (nt : Int) := by omega
      have hk0 : (0 : Int) ≤ (k : Int) := by omega
      clear HM HB HT HM2 HB2 HT2 him4 hgr hg hv hb2
      go_wp2
      go_roundw
      case rel => exact ⟨k + 1, by omega, by go_num, HM4, HB4, HT4, by omega⟩
      case measure => simp [intOf]; omega
    · obtain rfl : k = nt := by omega
      have HM2 := Lib.hid (show IMap Tryz.prog 3 wr (w.heap.size + 1) k (cntAt ts) from by have := HM.out; rwa [List.take_of_length_le (by rw [HL.out]; exact Nat.le_refl _)] at this)
      go_wp2
      go_ret
      exact ⟨_, rfl, HM2.out, by omega, HB.out⟩
end Go.Proofs.YtknphikoikdcjaaGreat

