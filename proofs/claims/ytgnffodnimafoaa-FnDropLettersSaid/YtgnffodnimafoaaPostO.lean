/- impl.officeOf, impl.ValidPost: a post office is valid. -/
import Derived.Test.YtgnffodnimafoaaPostF
import Derived.Test.YtgnffodnimafoaaPostQ
import Derived.Test.YtgnffodnimafoaaPostR
import Derived.Maps.Range
import Derived.Maps.RangeWalk
set_option linter.unusedSimpArgs false
set_option linter.unusedVariables false
namespace Go.Proofs.Ytgnffodnimafoaa
open Go.RowKit Go.Maps

theorem ranges_below {P : Program} {k : TypeId} {R : Value → Option (DataW Value × List MemPlace)} {b r n B : Nat} {D : DataW Value} {left : Lit → Bool} {cnt : Nat} {w w' : World} (h : w.ranges P k R b r n D left cnt) (hb : Below B w w') (h1 : b < B) (h2 : r < B) : w'.ranges P k R b r n D left cnt := by
  obtain ⟨es, clock, since, seen, c0, q1, q2, q3, q4, q5, rest⟩ := h
  exact ⟨es, clock, since, seen, c0, (hb.block b h1).trans q1, q2, q3, q4, (hb.block r h2).trans q5, rest⟩
theorem rangeLeft_below {b r B : Nat} {w w' : World} (hb : Below B w w') (h1 : b < B) (h2 : r < B) : w'.rangeLeft b r = w.rangeLeft b r := by
  unfold World.rangeLeft
  rw [hb.block b h1, hb.block r h2]
/-- What officeOf answers. -/
def OPost (ss ls : List Tri) (w : World) (e : Ending) (w' : World) : Prop :=
  (vPost ss ls = false ∧ e = .returned (.tuple #[.agg #[.map none, .map none], .bool false]) ∧ Below w.heap.size w w') ∨
  (vPost ss ls = true ∧ ∃ b1 b2, e = .returned (.tuple #[.agg #[.map (some b1), .map (some b2)], .bool true]) ∧
    KRowMap mk2 Try.prog 68 w' w.heap.size w'.heap.size b1 (idxOf adS ss) ∧ KRowMap mk2 Try.prog 68 w' w.heap.size w'.heap.size b2 (idxOf adL ls) ∧ Below w.heap.size w w')
theorem KRowMap.set {κ : Type} {mk : κ → Value} {P : Program} {kt : TypeId} {w : World} {lo hi b : Nat} {G : κ → List Int} (h : KRowMap mk P kt w lo hi b G) {p : Addr} (hp : p.block < lo) (u : Value) : KRowMap mk P kt (w.setCell p u) lo hi b G := by
  obtain ⟨n, g, h1, h2, h3, h5, h4⟩ := h
  refine ⟨n, g, h1.same (Below.heap_setCell w p u b (by omega)), h2, h3, h5, fun z => ?_⟩
  obtain ⟨A, c, e, hc, hr, hs⟩ := h4 z
  exact ⟨A, c, e, hc, hr.setCell (.inl hp) u, hs.store p u⟩
set_option maxRecDepth 100000 in
set_option maxHeartbeats 3200000 in
theorem officeOf_any (lo hi nn cn : Nat) (An : Option Addr) (ns : List Tri) (lo' hi' n c : Nat) (A : Option Addr) (fs : List Tri) (w : World) (hrn : Rd w lo hi 3 An nn (tvs ns)) (hB : hi ≤ w.heap.size) (hnn : nn ≤ 1048576)
    (hr : Rd w lo' hi' 3 A n (tvs fs)) (hB' : hi' ≤ w.heap.size) (hn : n ≤ 1048576) :
    Calls Try.prog 34 #[.agg #[.slice An nn cn, .slice A n c]] w (OPost ns fs w) := by
  have hb0 := up_alloc (up_alloc (Below.refl _ w) (.cells #[.slice An nn cn, .slice A n c] 26)) (.cells #[.map none, .map none] 59)
  have hp0 := (Blk.new w 26 #[.slice An nn cn, .slice A n c]).alloc (.cells #[.map none, .map none] 59)
  have hq0 := Blk.new (w.alloc (.cells #[.slice An nn cn, .slice A n c] 26)) 59 #[.map none, .map none]
  have e1 : (w.alloc (.cells #[.slice An nn cn, .slice A n c] 26)).heap.size = w.heap.size + 1 := by simp
  have e2 : ((w.alloc (.cells #[.slice An nn cn, .slice A n c] 26)).alloc (.cells #[.map none, .map none] 59)).heap.size = w.heap.size + 1 + 1 := by simp
  rw [e1] at hq0
  have HC1 := Lib.hid (queuesSub_any lo hi nn cn An ns _ (hrn.keep hb0 hB) (Nat.le_trans hB hb0.size) hnn)
  have HB0 := Lib.hid hb0
  have HP0 := Lib.hid hp0
  have HQ0 := Lib.hid hq0
  have HE2 := Lib.hid e2
  clear hb0 hp0 hq0 e1 e2
  go_enter Try.func34, Try.ntmps34
  go_wp2_with (fail)
  (with_reducible refine HC1.out.mono ?_)
  clear HC1
  rintro e w1 hQ1
  have hb1 : Below ((w.alloc (.cells #[.slice An nn cn, .slice A n c] 26)).alloc (.cells #[.map none, .map none] 59)).heap.size ((w.alloc (.cells #[.slice An nn cn, .slice A n c] 26)).alloc (.cells #[.map none, .map none] 59)) w1 := by
    rcases hQ1 with ⟨_, _, h⟩ | ⟨_, _, _, _, h⟩ <;> exact h
  have hs1 := hb1.size
  rw [HE2.out] at hs1
  have HB1 := Lib.hid (up HB0.out hb1)
  have HP1 := Lib.hid (HP0.out.below hb1 (by rw [HE2.out]; omega))
  have HQ1 := Lib.hid (HQ0.out.below hb1 (by rw [HE2.out]; omega))
  have c1 : w1.cell? ⟨w.heap.size, 1, none⟩ = some (.slice A n c) := HP1.out.cell 1
  have HC2 := Lib.hid (queuesLetter_any lo' hi' n c A fs w1 (hr.keep HB1.out hB') (Nat.le_trans hB' HB1.out.size) hn)
  clear hb1 HB0 HP0 HQ0
  rcases hQ1 with ⟨hv1, rfl, _⟩ | ⟨hv1, b1, rfl, hm1, _⟩
  · -- the subscriptions are not valid
    have HX := Lib.hid (show vPost ns fs = false by rw [vPost_ads, hv1]; rfl)
    go_wp2_with (fail)
    (with_reducible refine HC2.out.mono ?_)
    rintro e w2 hQ2
    have hb2 : Below w1.heap.size w1 w2 := by
      rcases hQ2 with ⟨_, _, h⟩ | ⟨_, _, _, _, h⟩ <;> exact h
    have HB2 := Lib.hid (up HB1.out hb2)
    have hq2 := HQ1.out.below hb2 (by omega)
    have r0 : w2.cell? ⟨w.heap.size + 1, 0, none⟩ = some (.map none) := hq2.cell 0
    have r1 : w2.cell? ⟨w.heap.size + 1, 1, none⟩ = some (.map none) := hq2.cell 1
    have s0 := hq2.soft 0
    have s1 := hq2.soft 1
    have hz := (hq2.put 0 (.map none)).put 1 (.map none)
    have z0 := hz.cell 0
    have z1 := hz.cell 1
    simp at z0 z1
    have HBZ := Lib.hid ((HB2.out.setCell (p := ⟨w.heap.size + 1, 0, none⟩) (by show w.heap.size ≤ w.heap.size + 1; omega) (.map none)).setCell (p := ⟨w.heap.size + 1, 1, none⟩) (by show w.heap.size ≤ w.heap.size + 1; omega) (.map none))
    clear hb2 hq2 hz HC2
    rcases hQ2 with ⟨_, rfl, _⟩ | ⟨_, b2, rfl, _, _⟩
    · go_wp2
      exact bodyPost_ret (v := .tuple #[.agg #[.map none, .map none], .bool false]) (by simp [results, Try.results34, go_sem, z0, z1]) rfl (.inl ⟨HX.out, rfl, HBZ.out⟩)
    · go_wp2
      exact bodyPost_ret (v := .tuple #[.agg #[.map none, .map none], .bool false]) (by simp [results, Try.results34, go_sem, z0, z1]) rfl (.inl ⟨HX.out, rfl, HBZ.out⟩)
  · rw [HE2.out] at hm1
    have HM1 := Lib.hid hm1
    have HV1 := Lib.hid hv1
    clear hm1 hv1
    go_wp2_with (fail)
    (with_reducible refine HC2.out.mono ?_)
    rintro e w2 hQ2
    have hb2 : Below w1.heap.size w1 w2 := by
      rcases hQ2 with ⟨_, _, h⟩ | ⟨_, _, _, _, h⟩ <;> exact h
    have hs2 := hb2.size
    have HB2 := Lib.hid (up HB1.out hb2)
    have HM2 := Lib.hid (HM1.out.keep hb2 (Nat.le_refl _))
    have hq2 := HQ1.out.below hb2 (by omega)
    have HQ2 := Lib.hid hq2
    clear hb2 hq2 HC2 HQ1 HB1 HM1 HP1 c1
    rcases hQ2 with ⟨hv2, rfl, _⟩ | ⟨hv2, b2, rfl, hm2, _⟩
    · have HX := Lib.hid (show vPost ns fs = false by rw [vPost_ads, HV1.out, hv2]; rfl)
      have r0 : w2.cell? ⟨w.heap.size + 1, 0, none⟩ = some (.map none) := HQ2.out.cell 0
      have r1 : w2.cell? ⟨w.heap.size + 1, 1, none⟩ = some (.map none) := HQ2.out.cell 1
      have s0 := HQ2.out.soft 0
      have s1 := HQ2.out.soft 1
      have hz := (HQ2.out.put 0 (.map none)).put 1 (.map none)
      have z0 := hz.cell 0
      have z1 := hz.cell 1
      simp at z0 z1
      have HBZ := Lib.hid ((HB2.out.setCell (p := ⟨w.heap.size + 1, 0, none⟩) (by show w.heap.size ≤ w.heap.size + 1; omega) (.map none)).setCell (p := ⟨w.heap.size + 1, 1, none⟩) (by show w.heap.size ≤ w.heap.size + 1; omega) (.map none))
      clear hz
      go_wp2
      exact bodyPost_ret (v := .tuple #[.agg #[.map none, .map none], .bool false]) (by simp [results, Try.results34, go_sem, z0, z1]) rfl (.inl ⟨HX.out, rfl, HBZ.out⟩)
    · obtain ⟨n2, g2, hk2, hlo2, hhi2, hne2, hrows2⟩ := hm2
      have HMF := Lib.hid (show KRowMap mk2 Try.prog 68 w2 w1.heap.size w2.heap.size b2 (idxOf adL fs) from ⟨n2, g2, hk2, hlo2, hhi2, hne2, hrows2⟩)
      have HSOME := Lib.hid (show ∀ z, idxOf adL fs z ≠ [] → ∃ v, g2 z = some v from fun z hz => by
        obtain ⟨A', c', e', _⟩ := hrows2 z
        cases hg : g2 z with
        | some v => exact ⟨v, rfl⟩
        | none =>
          rw [hg] at e'
          simp [rowAt] at e'
          exact absurd (List.eq_nil_of_length_eq_zero e'.2.1.symm) hz)
      obtain ⟨D, hown, hD⟩ := hk2
      have HV2 := Lib.hid hv2
      have HNE := Lib.hid hne2
      have HDD := Lib.hid hD
      clear hrows2 hne2 hv2 hD
      go_wp2_with (first
        | (at_range; refine wpList_range_own _ rfl _ 57 rfl 68 52 keyedAddr Try.underlying57 heldR b2 n2 D rfl hown ?_; intro w3 hrg0 hg0 hs0)
        | go_in)
      go_frame
      have hb3 : Below w2.heap.size w2 w3 := (Below.refl _ _).grown hg0 (Nat.le_refl _) (by simp)
      have hbl2 := hown.lt
      go_loopw [] (fun wr => ∃ (left : Lit → Bool) (cnt : Nat), wr.ranges Try.prog 68 heldR b2 w2.heap.size n2 D left cnt ∧ Below w2.heap.size w2 wr ∧ w2.heap.size < wr.heap.size ∧ Hid (∀ z l, keyOf Try.prog 68 (mk2 z) = some l → g2 z ≠ none → left l = false → idxOf adS ns z = []))
        (fun wr => wr.rangeLeft b2 w2.heap.size)
      case atStart =>
        refine ⟨_, _, hrg0, hb3, by omega, fun z l hl hg hf => absurd ?_ hg⟩
        have h := HDD.out z l hl
        rw [atKey_of_not_has hf .nil] at h
        cases hgz : g2 z with
        | none => rfl
        | some v => rw [hgz] at h; simp [asHeld] at h
      case round =>
        clear hrg0 hg0 hs0 hb3 hown
        obtain ⟨left, cnt, hrg, hb, hsz, HI⟩ := hrel
        have HBr := Lib.hid hb
        clear hb
        go_wp2_with (first
          | (at_next; refine wpList_next_ranges _ rfl _ rfl 68 keyedAddr heldR mk2 id (fun key kl hkey => by obtain ⟨x, _, _, rfl⟩ := addrInv hkey; exact ⟨x, rfl⟩) (fun v y hv => ⟨v, rfl⟩) b2 w2.heap.size n2 D left cnt rfl hrg ?_ ?_)
          | go_in)
        · intro hc0 hl0
          have HX := Lib.hid (show vPost ns fs = true by
            rw [vPost_ads, HV1.out, HV2.out]
            show (fs.all fun l => (idxOf adS ns (adL l)).isEmpty) = true
            refine List.all_eq_true.2 fun l hl => List.isEmpty_iff.2 ?_
            obtain ⟨v, hv⟩ := HSOME.out (adL l) (idx_some.2 ⟨l, hl, rfl⟩)
            have hvl := HV2.out
            rw [vLets, Bool.and_eq_true] at hvl
            have hvl1 := List.all_eq_true.1 hvl.1 l hl
            have hrg : 0 ≤ (adL l).1 ∧ (adL l).1 ≤ 99 ∧ 0 ≤ (adL l).2 ∧ (adL l).2 ≤ 99 := by
              simp only [vLet, Bool.and_eq_true, inR_iff] at hvl1
              simp only [adL]
              omega
            obtain ⟨l', hl'⟩ := addrKey w2 (adL l) (by unfold in64; omega) (by unfold in64; omega)
            exact HI.out (adL l) l' hl' (by rw [hv]; simp) (hl0 l'))
          have hq := HQ2.out.below HBr.out (by omega)
          have r0 : wr.cell? ⟨w.heap.size + 1, 0, none⟩ = some (.map none) := hq.cell 0
          have r1 : wr.cell? ⟨w.heap.size + 1, 1, none⟩ = some (.map none) := hq.cell 1
          have s0 := hq.soft 0
          have s1 := hq.soft 1
          have hz := (hq.put 0 (.map (some b1))).put 1 (.map (some b2))
          have z0 := hz.cell 0
          have z1 := hz.cell 1
          simp at z0 z1
          have hsw := HBr.out.size
          have HBZ := Lib.hid (((up HB2.out HBr.out).setCell (p := ⟨w.heap.size + 1, 0, none⟩) (by show w.heap.size ≤ w.heap.size + 1; omega) (.map (some b1))).setCell (p := ⟨w.heap.size + 1, 1, none⟩) (by show w.heap.size ≤ w.heap.size + 1; omega) (.map (some b2)))
          have hfin : wr.heap.size = ((wr.setCell ⟨w.heap.size + 1, 0, none⟩ (.map (some b1))).setCell ⟨w.heap.size + 1, 1, none⟩ (.map (some b2))).heap.size := by simp [World.setCell]
          have HA1 := Lib.hid ((((HM2.out.keep HBr.out (by omega)).set (p := ⟨w.heap.size + 1, 0, none⟩) (by show w.heap.size + 1 < _; omega) (.map (some b1))).set (p := ⟨w.heap.size + 1, 1, none⟩) (by show w.heap.size + 1 < _; omega) (.map (some b2))).wide (lo' := w.heap.size) (by omega) (by rw [← hfin]; omega : _ ≤ ((wr.setCell ⟨w.heap.size + 1, 0, none⟩ (.map (some b1))).setCell ⟨w.heap.size + 1, 1, none⟩ (.map (some b2))).heap.size))
          have HA2 := Lib.hid ((((HMF.out.keep HBr.out (Nat.le_refl _)).set (p := ⟨w.heap.size + 1, 0, none⟩) (by show w.heap.size + 1 < _; omega) (.map (some b1))).set (p := ⟨w.heap.size + 1, 1, none⟩) (by show w.heap.size + 1 < _; omega) (.map (some b2))).wide (lo' := w.heap.size) (by omega) (by rw [← hfin]; omega : _ ≤ ((wr.setCell ⟨w.heap.size + 1, 0, none⟩ (.map (some b1))).setCell ⟨w.heap.size + 1, 1, none⟩ (.map (some b2))).heap.size))
          clear hq hz hrg hc0 hl0 hfin
          go_wp2
          exact bodyPost_ret (v := .tuple #[.agg #[.map (some b1), .map (some b2)], .bool true]) (by simp [results, Try.results34, go_sem, z0, z1]) rfl (.inr ⟨HX.out, b1, b2, rfl, HA1.out, HA2.out, HBZ.out⟩)
        · intro x1 x2 c kl y ps w4 cnt1 hkey hlx hR hat hrg1 hlt hg1 hs1 hen
          obtain ⟨x, rfl, rfl⟩ : ∃ x : Int × Int, x1 = x.1 ∧ x2 = x.2 := ⟨(x1, x2), rfl, rfl⟩
          obtain ⟨x', ha1, ha2, hax⟩ := addrInv hkey
          obtain rfl := mk2_inj _ _ hax
          have hc : y = .held c := by simp [heldR] at hR; rw [← hR.1]
          have h1 := hat .nil
          rw [HDD.out x kl hkey, hc] at h1
          have hgx : g2 x = some c := asHeld_inj (a := g2 x) (b := some c) h1
          have hb4 : Below w2.heap.size w2 w4 := HBr.out.grown hg1 HBr.out.size (fun j hj => by cases hj; exact Nat.le_refl _)
          have hba := up_alloc hb4 (.cells #[.int .i64 x.1, .int .i64 x.2] 68)
          have hrga := hrg1.alloc (.cells #[.int .i64 x.1, .int .i64 x.2] 68)
          have HFC := Lib.hid (firstQ_any w.heap.size w1.heap.size b1 (idxOf adS ns) x _ ((HM2.out.keep hba (by omega)).wide (by omega) (Nat.le_refl _)) (Nat.le_trans hs2 hba.size) ha1 ha2)
          have hsa : w2.heap.size < (w4.alloc (.cells #[.int .i64 x.1, .int .i64 x.2] 68)).heap.size := by simp; omega
          have HBA := Lib.hid hba
          have HRG := Lib.hid hrga
          have HRL := Lib.hid hrg1.left_eq
          have HRL0 := Lib.hid hrg.left_eq
          have HLX := Lib.hid hlx
          have HKX := Lib.hid hkey
          have HGX := Lib.hid hgx
          unfold mk2 at hen
          clear hR hat hc h1 hax hb4 hba hrga hrg1 hrg hlx hkey hgx hg1
          go_wp2_with (fail)
          refine HFC.out.mono ?_
          clear HFC
          rintro e w5 ⟨rfl, hb5⟩
          have HB5 := Lib.hid (up HBA.out hb5)
          have HRG5 := Lib.hid (ranges_below HRG.out hb5 (by omega) hsa)
          have hs5 := hb5.size
          cases hI : idxOf adS ns x with
          | nil =>
            have HII := Lib.hid hI
            clear hI hb5 hen
            go_wp2
            go_roundw
            case rel =>
              refine ⟨_, cnt1, HRG5.out, HB5.out, by omega, fun z l hl hg hf => ?_⟩
              by_cases hz : z = x
              · rw [hz]; exact HII.out
              · refine HI.out z l hl hg ?_
                have hne : l ≠ kl := fun e => hz (mk2_inj _ _ (keyedAddr.inj (by rw [hl, e]) HKX.out))
                rw [sameKey_ne hne] at hf
                simpa using hf
            case measure =>
              rw [HRG5.out.left_eq, HRL0.out]
              exact hlt
          | cons i is =>
            have HX := Lib.hid (show vPost ns fs = false by
              rw [vPost_ads, HV1.out, HV2.out]
              show (fs.all fun l => (idxOf adS ns (adL l)).isEmpty) = false
              rw [Bool.eq_false_iff]
              intro h
              obtain ⟨l, hl, hlx⟩ := idx_some.1 (HNE.out x c HGX.out)
              have := List.all_eq_true.1 h l hl
              rw [hlx, hI] at this
              cases this)
            have hq := HQ2.out.below HB5.out (by omega)
            have r0 : w5.cell? ⟨w.heap.size + 1, 0, none⟩ = some (.map none) := hq.cell 0
            have r1 : w5.cell? ⟨w.heap.size + 1, 1, none⟩ = some (.map none) := hq.cell 1
            have s0 := hq.soft 0
            have s1 := hq.soft 1
            have hz := (hq.put 0 (.map none)).put 1 (.map none)
            have z0 := hz.cell 0
            have z1 := hz.cell 1
            simp at z0 z1
            have HBZ := Lib.hid (((up HB2.out HB5.out).setCell (p := ⟨w.heap.size + 1, 0, none⟩) (by show w.heap.size ≤ w.heap.size + 1; omega) (.map none)).setCell (p := ⟨w.heap.size + 1, 1, none⟩) (by show w.heap.size ≤ w.heap.size + 1; omega) (.map none))
            clear hI hb5 hq hz hen
            go_wp2
            exact bodyPost_ret (v := .tuple #[.agg #[.map none, .map none], .bool false]) (by simp [results, Try.results34, go_sem, z0, z1]) rfl (.inl ⟨HX.out, rfl, HBZ.out⟩)
theorem ValidPostI_any (lo hi nn cn : Nat) (An : Option Addr) (ns : List Tri) (lo' hi' n c : Nat) (A : Option Addr) (fs : List Tri) (w : World) (hrn : Rd w lo hi 3 An nn (tvs ns)) (hB : hi ≤ w.heap.size) (hnn : nn ≤ 1048576)
    (hr : Rd w lo' hi' 3 A n (tvs fs)) (hB' : hi' ≤ w.heap.size) (hn : n ≤ 1048576) :
    Calls Try.prog 16 #[.agg #[.slice An nn cn, .slice A n c]] w fun e w' => e = .returned (.bool (vPost ns fs)) ∧ Below w.heap.size w w' := by
  have hb1 := up_alloc (Below.refl _ w) (.cells #[.slice An nn cn, .slice A n c] 26)
  have HC := Lib.hid (officeOf_any lo hi nn cn An ns lo' hi' n c A fs _ (hrn.keep hb1 hB) (Nat.le_trans hB hb1.size) hnn (hr.keep hb1 hB') (Nat.le_trans hB' hb1.size) hn)
  have HB := Lib.hid hb1
  clear hb1
  go_enter Try.func16, Try.ntmps16
  go_wp2_with (fail)
  (with_reducible refine HC.out.mono ?_)
  rintro e w1 (⟨hv, rfl, hb2⟩ | ⟨hv, b1, b2, rfl, _, _, hb2⟩)
  · have HB2 := Lib.hid (up_alloc (up HB.out hb2) (.cells #[.map none, .map none] 59))
    clear hb2
    go_wp2
    go_ret
    exact ⟨ret_bool hv.symm, HB2.out⟩
  · have HB2 := Lib.hid (up_alloc (up HB.out hb2) (.cells #[.map (some b1), .map (some b2)] 59))
    clear hb2
    go_wp2
    go_ret
    exact ⟨ret_bool hv.symm, HB2.out⟩
end Go.Proofs.Ytgnffodnimafoaa
