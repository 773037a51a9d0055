/- Merged: TokTakenS0, PlanS, PlanS2, PlanT, PlanU, PlanV. -/
import Derived.Test.YtonlkodenfiljaaBase
import Derived.Test.YtonlkodenfiljaaPlanB
import Derived.Test.YtonlkodenfiljaaProcReachB
import Derived.Lib.MinMax
import Derived.BigRegion
import Derived.BigQuiet
/- Small facts on rows of ints. -/
set_option linter.unusedSimpArgs false
set_option linter.unusedVariables false
namespace Go.Proofs.Ytonlkodenfiljaa
open Go.RowKit
theorem ivs_put (ms : List Int) (k : Nat) (v : Int) : (ivs ms).set k (.int .i64 v) = ivs (ms.set k v) := by simp [ivs, List.map_set]
end Go.Proofs.Ytonlkodenfiljaa


/- The reference's earliest begins, their end, the latest begins. -/
namespace Go.Proofs.Ytonlkodenfiljaa
open Go.RowKit

/-- A row of ints of its own, in a block of its own. -/
def OwnI (w : World) (n : Nat) (ms : List Int) (e : Ending) (w' : World) : Prop :=
  ∃ g c, e = .returned (.slice (some ⟨g, 0, none⟩) n c) ∧ w'.ownsRow w.heap.size 3 1 (.slice (some ⟨g, 0, none⟩) n c) n (ivs ms) ∧ Below w.heap.size w w'
theorem OwnI.fresh {w : World} {n : Nat} {ms : List Int} {e : Ending} {w' : World} (h : OwnI w n ms e w') : Fresh (ivs ms) 1 n w e w' := by
  obtain ⟨g, c, rfl, ho, hb⟩ := h
  exact Fresh.of_own ho hb
theorem beg_ivs {ms : List Int} {k : Nat} (h : k < ms.length) : (ivs ms)[k]? = some (.int .i64 (beg ms k)) := by
  rw [ivs, List.getElem?_map, at_beg h]; rfl

set_option maxRecDepth 100000 in
set_option maxHeartbeats 3200000 in
theorem earliestS_any (nn cn : Nat) (An : Option Addr) (ns : List (Int × Int)) (lo' hi' n c : Nat) (A : Option Addr) (fs : List Flw) (lo2 hi2 n2 c2 : Nat) (A2 : Option Addr) (ts : List Int) (w : World) (hL : ns.length = nn)
    (hr : Fls w lo' hi' A n fs) (hB' : hi' ≤ w.heap.size) (hn : n ≤ 1048576) (hv : Rd w lo2 hi2 1 A2 n2 (ivs ts)) (hB2 : hi2 ≤ w.heap.size) (hP : Plan ns fs ts) :
    Calls Try.prog 34 #[.agg #[.slice An nn cn, .slice A n c], .slice A2 n2 c2] w (OwnI w nn (earlyOf ns fs ts)) := by
  have hnn : nn ≤ 10 := by have := (vProc_len hP.v).2.1; omega
  have h2 : n2 = nn := by have := vTimes_len hP.t; have := hv.len1; omega
  subst h2
  have HF := Lib.hid hr.1
  have HIN := Lib.hid (show Inside fs n2 by rw [← hL]; exact vProc_inside hP.v)
  have HPL := Lib.hid hP
  have HL := Lib.hid hL
  have HV := Lib.hid hv
  have hb1 := up_alloc (Below.refl _ w) (.cells #[.slice An n2 cn, .slice A n c] 26)
  have hblk1 := Blk.new w 26 #[.slice An n2 cn, .slice A n c]
  have e1 : (w.alloc (.cells #[.slice An n2 cn, .slice A n c] 26)).heap.size = w.heap.size + 1 := by simp
  obtain ⟨i0, hi0, hz0, hz1, hz2⟩ := info_parts infoInt
  obtain ⟨wm, hmk, hown, hgr⟩ := run_make_full (P := Try.prog) (w.alloc (.cells #[.slice An n2 cn, .slice A n c] 26)) (w.heap.size + 1) 27 3 i0 _ 1 Try.underlying27 hi0 hz0 hz1 .i64 .i64 n2 (by rw [hz2]; omega) (by unfold maxLen; omega) (by rw [e1]; exact Nat.le_refl _)
  have hbm := hb1.grown hgr (by rw [e1]; omega) (by simp)
  have hblkm := hblk1.grown hgr (by simp)
  rw [e1] at hown hmk
  have hcell0 : (madeCells (Value.int .i64 0).cells (n2 * 1)).toList = ivs (List.replicate n2 0) := by
    show (madeCells #[.int .i64 0] (n2 * 1)).toList = _
    rw [toList_madeCells_one, Nat.mul_one]; simp [ivs]
  rw [hcell0] at hown
  have HOWN := Lib.hid (show wm.ownsRow (w.heap.size + 1) 3 1 (.slice (some ⟨w.heap.size + 1, 0, none⟩) n2 n2) n2 (ivs (roundsOf ts (esOf fs) ns.length 0)) by rw [HL.out]; exact hown)
  have HBM := Lib.hid hbm
  have HKM := Lib.hid hblkm
  clear hcell0 hgr hi0 hz0 hz1 hz2 e1 hblk1 hb1 hbm hblkm hown hP hL hv
  go_enter Try.func34, Try.ntmps34
  go_wp2
  clear hmk
  go_loopw [6] (fun rv wr => ∃ (k : Nat), k ≤ n2 ∧ rv = .int .i64 k ∧ Hid (wr.ownsRow (w.heap.size + 1) 3 1 (.slice (some ⟨w.heap.size + 1, 0, none⟩) n2 n2) n2 (ivs (roundsOf ts (esOf fs) ns.length k))) ∧
       Blk wr w.heap.size 26 #[.slice An n2 cn, .slice A n c] ∧ Below w.heap.size w wr ∧ w.heap.size + 1 < wr.heap.size)
     (fun rv _ => n2 - (intOf rv).toNat)
  case atStart => exact ⟨0, by omega, rfl, HOWN.out, HKM.out, HBM.out, by
    have := HOWN.out
    rcases this.2 with ⟨hv, _⟩ | ⟨g, cap, cur, hv, _, hh, _⟩
    · cases hv
    · injection hv with hv; injection hv with hv; injection hv with hv
      subst hv
      exact (Array.getElem?_eq_some_iff.1 hh).1⟩
  case round =>
    clear HOWN HKM HBM
    obtain ⟨k, hk, rfl, HO, hblk, hbl, hsz⟩ := hrel
    have hszp := hblk.lt
    have hd0 : wr.cell? ⟨w.heap.size, 0, none⟩ = some (.slice An n2 cn) := hblk.cell 0
    by_cases hkn : k < n2
    · have HK := Lib.hid hblk
      have HB := Lib.hid hbl
      clear hblk hbl
      go_wp2
      go_loopw [7] (fun iv wq => ∃ (j : Nat), j ≤ n ∧ iv = .int .i64 j ∧ Hid (wq.ownsRow (w.heap.size + 1) 3 1 (.slice (some ⟨w.heap.size + 1, 0, none⟩) n2 n2) n2 (ivs (midOf ts fs ns.length k j))) ∧
           Blk wq w.heap.size 26 #[.slice An n2 cn, .slice A n c] ∧ Below w.heap.size w wq ∧ w.heap.size + 1 < wq.heap.size)
         (fun iv _ => n - (intOf iv).toNat)
      case atStart => exact ⟨0, by omega, rfl, HO, HK.out, HB.out, hsz⟩
      case round =>
        clear HO HK HB hd0 hsz
        obtain ⟨j, hj, rfl, HO, hblk, hbl, hsz⟩ := hrel
        have hszq := hblk.lt
        have hd1 : wr.cell? ⟨w.heap.size, 1, none⟩ = some (.slice A n c) := hblk.cell 1
        by_cases hjn : j < n
        · obtain ⟨b, off, x, y, ps, A', m, c', hA, hbB, _, hg, hx, hy, hz, _, _⟩ := (hr.keep hbl hB').at hjn
          subst hA
          have hins := HIN.out _ (List.mem_of_getElem? hg)
          obtain ⟨hi1, hi2, hi3, hi4⟩ := hins
          simp only at hi1 hi2 hi3 hi4
          obtain ⟨kx, rfl⟩ := Int.eq_ofNat_of_zero_le hi1
          obtain ⟨ky, rfl⟩ := Int.eq_ofNat_of_zero_le hi3
          have hkx : kx < n2 := by omega
          have hky : ky < n2 := by omega
          have HST := Lib.hid (midOf_step (ts := ts) (N := ns.length) (r := k) hg)
          have hlen : (midOf ts fs ns.length k j).length = n2 := (midOf_len _ _ _ _ _).trans HL.out
          have hm := HPL.out.mid k j
          have hm1 := hm kx
          have hm2 := hm ky
          have ht := vTimes_at HPL.out.t kx
          simp only [Int.toNat_natCast] at HST
          obtain ⟨b2, off2, v2, rfl, hb2, _, hg2, hc2⟩ := (HV.out.keep hbl hB2).one hkx
          have hv2 := beg_at hg2
          subst hv2
          have hba := up_alloc (Below.refl _ wr) (.cells #[.int .i64 (kx : Int), .int .i64 (ky : Int), .slice A' m c'] 37)
          have hO1 := HO.out.alloc (.cells #[.int .i64 (kx : Int), .int .i64 (ky : Int), .slice A' m c'] 37)
          have hFB := Blk.new wr 37 #[.int .i64 (kx : Int), .int .i64 (ky : Int), .slice A' m c']
          have f0 := hFB.cell 0
          have f1 := hFB.cell 1
          simp only [List.getElem?_toArray, List.getElem?_cons_zero, List.getElem?_cons_succ] at f0 f1
          have g2 := (hba.cell (p := ⟨b2, off2 + kx, none⟩) (by show b2 < wr.heap.size; omega)).trans hc2
          have hK1 := hblk.alloc (.cells #[.int .i64 (kx : Int), .int .i64 (ky : Int), .slice A' m c'] 37)
          have hB1 := up_alloc hbl (.cells #[.int .i64 (kx : Int), .int .i64 (ky : Int), .slice A' m c'] 37)
          have hs1 : wr.heap.size + 1 ≤ (wr.alloc (.cells #[.int .i64 (kx : Int), .int .i64 (ky : Int), .slice A' m c'] 37)).heap.size := by simp
          have hwr : IntKind.i64.wrap (beg (midOf ts fs ns.length k j) kx + beg ts kx) = beg (midOf ts fs ns.length k j) kx + beg ts kx := IntWalk.i64_in _ (by omega)
          clear hm hg hg2 HO hblk hbl hFB hba
          go_wp2_with (fail)
          generalize wr.alloc (.cells #[.int .i64 (kx : Int), .int .i64 (ky : Int), .slice A' m c'] 37) = wd at *
          have hoy := hO1.cellAt ky (by omega)
          rw [beg_ivs (by omega)] at hoy
          have hox := hO1.cellAt kx (by omega)
          rw [beg_ivs (by omega)] at hox
          have hfy := hO1.frozenAt ky
          have hx0 : (0 : Int) ≤ (kx : Int) := by omega
          have hy0 : (0 : Int) ≤ (ky : Int) := by omega
          have hst := (hO1.stored ky (.int .i64 (max (beg (midOf ts fs ns.length k j) ky) (beg (midOf ts fs ns.length k j) kx + beg ts kx)))).1
          rw [ivs_put] at hst
          have HX := Lib.hid (show (wd.setCell ⟨w.heap.size + 1, ky, none⟩ (.int .i64 (max (beg (midOf ts fs ns.length k j) ky) (beg (midOf ts fs ns.length k j) kx + beg ts kx)))).drew.ownsRow (w.heap.size + 1) 3 1 (.slice (some ⟨w.heap.size + 1, 0, none⟩) n2 n2) n2 (ivs (midOf ts fs ns.length k (j + 1))) by rw [HST.out]; exact hst)
          have HK := Lib.hid (hK1.far (p := ⟨w.heap.size + 1, ky, none⟩) (by simp) (.int .i64 (max (beg (midOf ts fs ns.length k j) ky) (beg (midOf ts fs ns.length k j) kx + beg ts kx)))).drew
          have HB := Lib.hid (up_drew (hB1.setCell (p := ⟨w.heap.size + 1, ky, none⟩) (by show _ ≤ w.heap.size + 1; omega) (.int .i64 (max (beg (midOf ts fs ns.length k j) ky) (beg (midOf ts fs ns.length k j) kx + beg ts kx)))))
          have HSZ : Hid (w.heap.size + 1 < (wd.setCell ⟨w.heap.size + 1, ky, none⟩ (.int .i64 (max (beg (midOf ts fs ns.length k j) ky) (beg (midOf ts fs ns.length k j) kx + beg ts kx)))).drew.heap.size) := by simp [Hid, World.drew, World.setCell]; omega
          clear hst hO1 hK1 hB1 HST hz hx hy hc2 hd1 hlen
          generalize beg (midOf ts fs ns.length k j) ky = vy at *
          generalize beg (midOf ts fs ns.length k j) kx = vx at *
          generalize beg ts kx = vt at *
          go_region
          all_goals
            go_wp2
            go_roundw
            case rel => exact ⟨j + 1, by omega, by go_num, HX.out, HK.out, HB.out, HSZ.out⟩
            case measure => simp [intOf]; omega
        · obtain rfl : j = n := by omega
          have HX := Lib.hid (show wr.ownsRow (w.heap.size + 1) 3 1 (.slice (some ⟨w.heap.size + 1, 0, none⟩) n2 n2) n2 (ivs (roundsOf ts (esOf fs) ns.length (k + 1))) by
            have := HO.out
            rw [← HF.out, midOf_all] at this
            exact this)
          have HK := Lib.hid hblk
          have HB := Lib.hid hbl
          clear HO hblk hbl
          go_wp2
          go_roundw
          case rel => exact ⟨k + 1, by omega, by go_num, HX.out, HK.out, HB.out, hsz⟩
          case measure => simp [intOf]; omega
    · obtain rfl : k = n2 := by omega
      clear hblk
      have HX := Lib.hid (show wr.ownsRow (w.heap.size + 1) 3 1 (.slice (some ⟨w.heap.size + 1, 0, none⟩) k k) k (ivs (earlyOf ns fs ts)) by
        have := HO.out
        unfold earlyOf
        rw [HL.out] at this ⊢
        exact this)
      clear HO
      go_wp2
      go_ret
      exact ⟨_, _, rfl, own_base HX.out (by omega), hbl⟩
end Go.Proofs.Ytonlkodenfiljaa


/- The reference's end and latest begins. -/
namespace Go.Proofs.Ytonlkodenfiljaa
open Go.RowKit

set_option maxRecDepth 100000 in
set_option maxHeartbeats 800000 in
theorem totalS_any (lo1 hi1 n c1 : Nat) (A1 : Option Addr) (b : List Int) (lo2 hi2 c2 : Nat) (A2 : Option Addr) (ts : List Int) (w : World) (hb : Rd w lo1 hi1 1 A1 n (ivs b)) (hB1 : hi1 ≤ w.heap.size) (ht : Rd w lo2 hi2 1 A2 n (ivs ts)) (hB2 : hi2 ≤ w.heap.size) (hn : n ≤ 1048576)
    (h1 : ∀ k, 0 ≤ totalUp ts b k ∧ totalUp ts b k ≤ 5500) (h2 : ∀ v, v < n → 0 ≤ beg b v ∧ beg b v ≤ 5500 ∧ 0 ≤ beg ts v ∧ beg ts v ≤ 500) :
    Calls Try.prog 36 #[.slice A1 n c1, .slice A2 n c2] w fun e w' => e = .returned (.int .i64 (totalUp ts b n)) ∧ Below w.heap.size w w' := by
  have H1 := Lib.hid h1
  have H2 := Lib.hid h2
  clear h1 h2
  go_enter Try.func36, Try.ntmps36
  go_wp2
  go_loopw [5, 6] (fun sv iv wr => ∃ (k : Nat), k ≤ n ∧ iv = .int .i64 k ∧ sv = .int .i64 (totalUp ts b k) ∧ Below w.heap.size w wr)
     (fun _ iv _ => n - (intOf iv).toNat)
  case atStart => exact ⟨0, by omega, rfl, rfl, Below.refl _ _⟩
  case round =>
    obtain ⟨k, hk, rfl, rfl, hbl⟩ := hrel
    by_cases hkn : k < n
    · obtain ⟨b1, off1, v1, rfl, hb1, _, hg1, hc1⟩ := (hb.keep hbl hB1).one hkn
      obtain ⟨b2, off2, v2, rfl, hb2, _, hg2, hc2⟩ := (ht.keep hbl hB2).one hkn
      have e1 := beg_at hg1
      have e2 := beg_at hg2
      have hs := H2.out k hkn
      rw [e1, e2] at hs
      obtain ⟨s1, s2, s3, s4⟩ := hs
      have HT := Lib.hid (totalUp_step ts b k)
      rw [e1, e2] at HT
      obtain ⟨t1, t2⟩ := H1.out k
      have hwr : IntKind.i64.wrap (v1 + v2) = v1 + v2 := IntWalk.i64_in _ (by omega)
      have hk1 : (k : Int) < (n : Int) := by omega
      have hk0 : (0 : Int) ≤ (k : Int) := by omega
      have HB := Lib.hid hbl
      clear hg1 hg2 e1 e2 hbl
      generalize hS : totalUp ts b k = S at *
      clear hS
      go_wp2_with (fail)
      go_quiet (fail)
      go_wp2
      go_roundw
      case rel => exact ⟨k + 1, by omega, by go_num, by rw [HT.out], up_drewN HB.out _⟩
      case measure => simp [intOf]; omega
    · obtain rfl : k = n := by omega
      go_wp2
      go_ret
      exact ⟨rfl, hbl⟩

/-- The latest begins, at first. -/
def initUp (ts : List Int) (M : Int) (k : Nat) : List Int := (List.range k).map fun v => M - beg ts v
theorem initUp_step (ts : List Int) (M : Int) (k : Nat) : initUp ts M (k + 1) = initUp ts M k ++ [M - beg ts k] := by unfold initUp; rw [List.range_succ, List.map_append]; rfl
theorem initUp_len (ts : List Int) (M : Int) (k : Nat) : (initUp ts M k).length = k := by unfold initUp; rw [List.length_map, List.length_range]
set_option maxRecDepth 100000 in
set_option maxHeartbeats 3200000 in
theorem latestS_any (nn cn : Nat) (An : Option Addr) (ns : List (Int × Int)) (lo' hi' n c : Nat) (A : Option Addr) (fs : List Flw) (lo2 hi2 n2 c2 : Nat) (A2 : Option Addr) (ts : List Int) (w : World) (hL : ns.length = nn)
    (hr : Fls w lo' hi' A n fs) (hB' : hi' ≤ w.heap.size) (hn : n ≤ 1048576) (hv : Rd w lo2 hi2 1 A2 n2 (ivs ts)) (hB2 : hi2 ≤ w.heap.size) (hP : Plan ns fs ts) :
    Calls Try.prog 68 #[.agg #[.slice An nn cn, .slice A n c], .slice A2 n2 c2] w (OwnI w nn (lateOf ns fs ts)) := by
  have hnn : nn ≤ 10 := by have := (vProc_len hP.v).2.1; omega
  have h2 : n2 = nn := by have := vTimes_len hP.t; have := hv.len1; omega
  subst h2
  have hlen2 := (vProc_len hP.v).1
  have HF := Lib.hid hr.1
  have HIN := Lib.hid (show Inside fs n2 by rw [← hL]; exact vProc_inside hP.v)
  have HPL := Lib.hid hP
  have HL := Lib.hid hL
  have HV := Lib.hid hv
  have HR := Lib.hid hr
  have hb1 := up_alloc (Below.refl _ w) (.cells #[.slice An n2 cn, .slice A n c] 26)
  have hblk1 := Blk.new w 26 #[.slice An n2 cn, .slice A n c]
  have hlt1 := hblk1.lt
  obtain ⟨i0, hi0, hz0, hz1, hz2⟩ := info_parts infoInt
  go_enter Try.func68, Try.ntmps68
  go_wp2_with (fail)
  (with_reducible refine (earliestS_any n2 cn An ns lo' hi' n c A fs lo2 hi2 n2 c2 A2 ts _ hL (hr.keep hb1 hB') (Nat.le_trans hB' hb1.size) hn (hv.keep hb1 hB2) (Nat.le_trans hB2 hb1.size) hP).mono ?_)
  rintro e w1 ⟨g1, cg1, rfl, ho1, hb2⟩
  have hb02 := up hb1 hb2
  have HX1 := Lib.hid (hblk1.below hb2 hlt1)
  have HB1 := Lib.hid hb02
  have hRo := Rd.of_own ho1
  have HRO := Lib.hid hRo
  clear hb2 ho1 hblk1 hb1 hr hv hP hb02 hRo
  go_wp2_with (fail)
  (with_reducible refine (totalS_any _ _ n2 cg1 _ (earlyOf ns fs ts) lo2 hi2 c2 A2 ts _ HRO.out (Nat.le_refl _) (HV.out.keep HB1.out hB2) (Nat.le_trans hB2 HB1.out.size) (by omega) (fun k => HPL.out.total k) (fun v hv => by have h1 := HPL.out.early v; have h2 := vTimes_at HPL.out.t v; omega)).mono ?_)
  rintro e w2 ⟨rfl, hb2⟩
  have hw1 := HX1.out.lt
  have HX2 := Lib.hid (HX1.out.below hb2 hw1)
  have HB2 := Lib.hid (up HB1.out hb2)
  have hw2 : w.heap.size < w2.heap.size := HX2.out.lt
  have hM := HPL.out.total n2
  have hML : ∀ r k v, v < n2 → -5500 ≤ beg (midL ts fs (totalUp ts (earlyOf ns fs ts) n2) ns.length r k) v ∧ beg (midL ts fs (totalUp ts (earlyOf ns fs ts) n2) ns.length r k) v ≤ 5500 := fun r k v hv => by
    have := HPL.out.midL r k v (by rw [HL.out]; exact hv)
    unfold totalOf at this
    rw [HL.out] at this ⊢
    exact this
  have hLT : lateOf ns fs ts = roundsL ts (esOf fs) (totalUp ts (earlyOf ns fs ts) n2) ns.length n2 := by
    unfold lateOf totalOf
    rw [HL.out]
  generalize totalUp ts (earlyOf ns fs ts) n2 = M at *
  have HML := Lib.hid hML
  have HLT := Lib.hid hLT
  obtain ⟨M0, M1⟩ := hM
  have hown0 := World.ownsRow_made w2 (base := w2.heap.size) (e := 3) (size := 1) #[] 0 (Nat.le_refl _) (by unfold maxLen; omega) (by simp)
  have HO0 := Lib.hid hown0
  have HB3 := Lib.hid (up_alloc (Below.refl _ w2) (.cells #[] 3))
  have HX3 := Lib.hid (HX2.out.alloc (.cells #[] 3))
  clear hb2 HX1 HB1 HRO hML hLT hown0 hL
  go_wp2
  go_loopw [6, 7] (fun ov iv wr => ∃ (k : Nat), k ≤ n2 ∧ iv = .int .i64 k ∧ Hid (wr.ownsRow w2.heap.size 3 1 ov k (ivs (initUp ts M k))) ∧ Blk wr w.heap.size 26 #[.slice An n2 cn, .slice A n c] ∧ Below w2.heap.size w2 wr)
     (fun _ iv _ => n2 - (intOf iv).toNat)
  case atStart => exact ⟨0, by omega, rfl, HO0.out, HX3.out, HB3.out⟩
  case round =>
    clear HO0 HX3 HB3
    obtain ⟨k, hk, rfl, HO, hblk, hbl⟩ := hrel
    have hszr := hbl.size
    have hd0 : wr.cell? ⟨w.heap.size, 0, none⟩ = some (.slice An n2 cn) := hblk.cell 0
    by_cases hkn : k < n2
    · obtain ⟨b2, off2, v2, rfl, hb2, _, hg2, hc2⟩ := ((HV.out.keep HB2.out hB2).keep hbl (Nat.le_trans hB2 HB2.out.size)).one hkn
      have e2 := beg_at hg2
      have ht := vTimes_at HPL.out.t k
      rw [e2] at ht
      obtain ⟨t1, t2⟩ := ht
      have HT := Lib.hid (initUp_step ts M k)
      rw [e2] at HT
      have hwr : IntKind.i64.wrap (M - v2) = M - v2 := IntWalk.i64_in _ (by omega)
      have HB := Lib.hid hbl
      have HK := Lib.hid hblk
      have hk1 : (k : Int) < (n2 : Int) := by omega
      have hk0 : (0 : Int) ≤ (k : Int) := by omega
      clear hg2 e2 hbl hblk
      go_wp2_with (at_builtin; refine wpList_append_own_at _ rfl _ _ 27 rfl w2.heap.size 3 i0 (.int .i64 0) 1 8 Try.underlying27 hi0 hz0 hz1 hz2 rfl (by decide) _ _ _ rfl (HO.out.alloc _) ⟨wr.heap.size, 0, none⟩ 1 1 [.int .i64 (M - v2)] rfl rfl (cell_one_new _ _ _) ?c2 ?c3 ?c4 ?c5 ?_)
      case c2 => first | rfl | (intro u hu; simp at hu; subst hu; rfl)
      case c3 => unfold maxLen; omega
      case c4 => omega
      case c5 => first | omega | (simp; omega)
      intro v' w4 hown4 hg4 _ hloc
      have hlow := HO.out.lt
      have hbl4 := (up_alloc HB.out (.cells #[.int .i64 (M - v2)] 3)).grown hg4 (up_alloc HB.out (.cells #[.int .i64 (M - v2)] 3)).size (fun i hi => by have := (hlow i hi).1; omega)
      have hblk4 := (HK.out.alloc (.cells #[.int .i64 (M - v2)] 3)).grown hg4 (fun e => by have := (hlow _ e.symm).1; omega)
      have HX : Hid (w4.ownsRow w2.heap.size 3 1 v' (k + 1) (ivs (initUp ts M (k + 1))) ∧ Blk w4 w.heap.size 26 #[.slice An n2 cn, .slice A n c] ∧ Below w2.heap.size w2 w4) := by
        refine ⟨?_, hblk4, hbl4⟩
        rw [HT.out, ivs_append]
        exact hown4
      clear hown4 hg4 hbl4 hblk4 HO hlow hloc hd0
      go_wp2
      go_roundw
      case rel => exact ⟨k + 1, by omega, by go_num, HX.out.1, HX.out.2.1, HX.out.2.2⟩
      case measure => simp [intOf]; omega
    · obtain rfl : k = n2 := by omega
      obtain ⟨g, cg, hve, hg1, hg2, _⟩ := own_first HO.out (by have := HL.out; omega)
      rw [hve] at HO ⊢
      have HO0 := Lib.hid (show wr.ownsRow w2.heap.size 3 1 (.slice (some ⟨g, 0, none⟩) k cg) k (ivs (roundsL ts (esOf fs) M ns.length 0)) by
        rw [roundsL, HL.out]; exact HO.out)
      have HKM := Lib.hid hblk
      have HBM := Lib.hid (up HB2.out hbl)
      clear hve HO hblk hbl
      go_wp2
      clear hd0
      generalize wr = wo at *
      go_loopw [8] (fun rv wr => ∃ (r : Nat), r ≤ k ∧ rv = .int .i64 r ∧ Hid (wr.ownsRow w2.heap.size 3 1 (.slice (some ⟨g, 0, none⟩) k cg) k (ivs (roundsL ts (esOf fs) M ns.length r))) ∧
           Blk wr w.heap.size 26 #[.slice An k cn, .slice A n c] ∧ Below w.heap.size w wr ∧ g < wr.heap.size)
         (fun rv _ => k - (intOf rv).toNat)
      case atStart => exact ⟨0, by omega, rfl, HO0.out, HKM.out, HBM.out, hg2⟩
      case round =>
        clear HO0 HKM HBM hg2
        obtain ⟨r, hr', rfl, HO, hblk, hbl, hsz⟩ := hrel
        have hszp := hblk.lt
        have hd0 : wr.cell? ⟨w.heap.size, 0, none⟩ = some (.slice An k cn) := hblk.cell 0
        by_cases hrn : r < k
        · have HK := Lib.hid hblk
          have HB := Lib.hid hbl
          clear hblk hbl
          go_wp2
          go_loopw [9] (fun iv wq => ∃ (j : Nat), j ≤ n ∧ iv = .int .i64 j ∧ Hid (wq.ownsRow w2.heap.size 3 1 (.slice (some ⟨g, 0, none⟩) k cg) k (ivs (midL ts fs M ns.length r j))) ∧
               Blk wq w.heap.size 26 #[.slice An k cn, .slice A n c] ∧ Below w.heap.size w wq ∧ g < wq.heap.size)
             (fun iv _ => n - (intOf iv).toNat)
          case atStart => exact ⟨0, by omega, rfl, HO, HK.out, HB.out, hsz⟩
          case round =>
            clear HO HK HB hd0 hsz
            obtain ⟨j, hj, rfl, HO, hblk, hbl, hsz⟩ := hrel
            have hszq := hblk.lt
            have hd1 : wr.cell? ⟨w.heap.size, 1, none⟩ = some (.slice A n c) := hblk.cell 1
            by_cases hjn : j < n
            · obtain ⟨b, off, x, y, ps, A', m, c', hA, hbB, _, hg, hx, hy, hz, _, _⟩ := (HR.out.keep hbl hB').at hjn
              subst hA
              have hins := HIN.out _ (List.mem_of_getElem? hg)
              obtain ⟨hi1, hi2, hi3, hi4⟩ := hins
              simp only at hi1 hi2 hi3 hi4
              obtain ⟨kx, rfl⟩ := Int.eq_ofNat_of_zero_le hi1
              obtain ⟨ky, rfl⟩ := Int.eq_ofNat_of_zero_le hi3
              have hkx : kx < k := by omega
              have hky : ky < k := by omega
              have HST := Lib.hid (midL_step (ts := ts) (M := M) (N := ns.length) (r := r) hg)
              have hlen : (midL ts fs M ns.length r j).length = k := (midL_len _ _ _ _ _ _).trans HL.out
              have hm1 := HML.out r j kx hkx
              have hm2 := HML.out r j ky hky
              have ht := vTimes_at HPL.out.t kx
              simp only [Int.toNat_natCast] at HST
              obtain ⟨b2, off2, v2, rfl, hb2, _, hg2, hc2⟩ := (HV.out.keep hbl hB2).one hkx
              have hv2 := beg_at hg2
              subst hv2
              have hba := up_alloc (Below.refl _ wr) (.cells #[.int .i64 (kx : Int), .int .i64 (ky : Int), .slice A' m c'] 37)
              have hO1 := HO.out.alloc (.cells #[.int .i64 (kx : Int), .int .i64 (ky : Int), .slice A' m c'] 37)
              have hFB := Blk.new wr 37 #[.int .i64 (kx : Int), .int .i64 (ky : Int), .slice A' m c']
              have f0 := hFB.cell 0
              have f1 := hFB.cell 1
              simp only [List.getElem?_toArray, List.getElem?_cons_zero, List.getElem?_cons_succ] at f0 f1
              have g2 := (hba.cell (p := ⟨b2, off2 + kx, none⟩) (by show b2 < wr.heap.size; omega)).trans hc2
              have hK1 := hblk.alloc (.cells #[.int .i64 (kx : Int), .int .i64 (ky : Int), .slice A' m c'] 37)
              have hB1 := up_alloc hbl (.cells #[.int .i64 (kx : Int), .int .i64 (ky : Int), .slice A' m c'] 37)
              have hs1 : wr.heap.size + 1 ≤ (wr.alloc (.cells #[.int .i64 (kx : Int), .int .i64 (ky : Int), .slice A' m c'] 37)).heap.size := by simp
              have hwr : IntKind.i64.wrap (beg (midL ts fs M ns.length r j) ky - beg ts kx) = beg (midL ts fs M ns.length r j) ky - beg ts kx := IntWalk.i64_in _ (by omega)
              have hne1 : b ≠ g := by omega
              clear hg hg2 HO hblk hbl hFB hba
              go_wp2_with (fail)
              generalize wr.alloc (.cells #[.int .i64 (kx : Int), .int .i64 (ky : Int), .slice A' m c'] 37) = wd at *
              have hoy := hO1.cellAt ky (by omega)
              rw [beg_ivs (by omega)] at hoy
              have hox := hO1.cellAt kx (by omega)
              rw [beg_ivs (by omega)] at hox
              have hfx := hO1.frozenAt kx
              have hx0 : (0 : Int) ≤ (kx : Int) := by omega
              have hy0 : (0 : Int) ≤ (ky : Int) := by omega
              have hst := (hO1.stored kx (.int .i64 (min (beg (midL ts fs M ns.length r j) kx) (beg (midL ts fs M ns.length r j) ky - beg ts kx)))).1
              rw [ivs_put] at hst
              have HX := Lib.hid (show (wd.setCell ⟨g, kx, none⟩ (.int .i64 (min (beg (midL ts fs M ns.length r j) kx) (beg (midL ts fs M ns.length r j) ky - beg ts kx)))).drew.ownsRow w2.heap.size 3 1 (.slice (some ⟨g, 0, none⟩) k cg) k (ivs (midL ts fs M ns.length r (j + 1))) by rw [HST.out]; exact hst)
              have HK := Lib.hid (hK1.far (p := ⟨g, kx, none⟩) (by show w.heap.size ≠ g; omega) (.int .i64 (min (beg (midL ts fs M ns.length r j) kx) (beg (midL ts fs M ns.length r j) ky - beg ts kx)))).drew
              have HB := Lib.hid (up_drew (hB1.setCell (p := ⟨g, kx, none⟩) (by show _ ≤ g; omega) (.int .i64 (min (beg (midL ts fs M ns.length r j) kx) (beg (midL ts fs M ns.length r j) ky - beg ts kx)))))
              have HSZ : Hid (g < (wd.setCell ⟨g, kx, none⟩ (.int .i64 (min (beg (midL ts fs M ns.length r j) kx) (beg (midL ts fs M ns.length r j) ky - beg ts kx)))).drew.heap.size) := by simp [Hid, World.drew, World.setCell]; omega
              clear hst hO1 hK1 hB1 HST hz hx hy hc2 hd1 hlen
              generalize beg (midL ts fs M ns.length r j) ky = vy at *
              generalize beg (midL ts fs M ns.length r j) kx = vx at *
              generalize beg ts kx = vt at *
              go_region
              all_goals
                go_wp2
                go_roundw
                case rel => exact ⟨j + 1, by omega, by go_num, HX.out, HK.out, HB.out, HSZ.out⟩
                case measure => simp [intOf]; omega
            · obtain rfl : j = n := by omega
              have HX := Lib.hid (show wr.ownsRow w2.heap.size 3 1 (.slice (some ⟨g, 0, none⟩) k cg) k (ivs (roundsL ts (esOf fs) M ns.length (r + 1))) by
                have := HO.out
                rw [← HF.out, midL_all] at this
                exact this)
              have HK := Lib.hid hblk
              have HB := Lib.hid hbl
              clear HO hblk hbl
              go_wp2
              go_roundw
              case rel => exact ⟨r + 1, by omega, by go_num, HX.out, HK.out, HB.out, hsz⟩
              case measure => simp [intOf]; omega
        · obtain rfl : r = k := by omega
          clear hblk
          have HX := Lib.hid (show wr.ownsRow w2.heap.size 3 1 (.slice (some ⟨g, 0, none⟩) r cg) r (ivs (lateOf ns fs ts)) by
            rw [HLT.out]
            exact HO.out)
          clear HO
          go_wp2
          go_ret
          exact ⟨_, _, rfl, own_base HX.out (by omega), hbl⟩
end Go.Proofs.Ytonlkodenfiljaa


/- The reference's functions of chapter 15. -/
namespace Go.Proofs.Ytonlkodenfiljaa
open Go.RowKit

set_option maxRecDepth 100000 in
set_option maxHeartbeats 1600000 in
theorem validPlanS_any (lo hi nn cn : Nat) (An : Option Addr) (ns : List (Int × Int)) (lo1 hi1 lf cf : Nat) (Af : Option Addr) (fs : List Flw) (lo' hi' n' c' : Nat) (A' : Option Addr) (ts : List Int) (w : World) (hrn : Rd w lo hi 2 An nn (pvs ns)) (hB : hi ≤ w.heap.size) (hnn : nn ≤ 1048576)
    (hr : Fls w lo1 hi1 Af lf fs) (hB1 : hi1 ≤ w.heap.size) (hn : lf ≤ 1048576) (hv : Rd w lo' hi' 1 A' n' (ivs ts)) (hB' : hi' ≤ w.heap.size) (hn' : n' ≤ 1048576) :
    Calls Try.prog 33 #[.agg #[.slice An nn cn, .slice Af lf cf], .slice A' n' c'] w fun e w' => e = .returned (.bool (planOk ns fs ts)) ∧ Below w.heap.size w w' := by
  have HL := Lib.hid hrn.len2
  have HT := Lib.hid hv.len1
  have HRN := Lib.hid hrn
  have HR := Lib.hid hr
  have HV := Lib.hid hv
  have hb1 := up_alloc (Below.refl _ w) (.cells #[.slice An nn cn, .slice Af lf cf] 26)
  have hblk1 := Blk.new w 26 #[.slice An nn cn, .slice Af lf cf]
  have hlt1 := hblk1.lt
  have HC1 := Lib.hid (validProcessS_any lo hi nn cn An ns lo1 hi1 lf cf Af fs _ (hrn.keep hb1 hB) (Nat.le_trans hB hb1.size) hnn (hr.keep hb1 hB1) (Nat.le_trans hB1 hb1.size) hn)
  have HB1 := Lib.hid hb1
  have HK1 := Lib.hid hblk1
  clear hrn hr hv hb1 hblk1
  cases hVP : vProc ns fs with
  | false =>
    have HX := Lib.hid (show planOk ns fs ts = false by unfold planOk; rw [hVP]; rfl)
    rw [hVP] at HC1
    clear hVP
    go_enter Try.func33, Try.ntmps33
    go_wp2_with (fail)
    (with_reducible refine HC1.out.mono ?_)
    rintro e w1 ⟨rfl, hb2⟩
    have HB2 := Lib.hid (up HB1.out hb2)
    clear hb2
    go_wp2
    go_ret
    exact ⟨ret_bool HX.out.symm, HB2.out⟩
  | true =>
  rw [hVP] at HC1
  go_enter Try.func33, Try.ntmps33
  go_wp2_with (fail)
  (with_reducible refine HC1.out.mono ?_)
  rintro e w1 ⟨rfl, hb2⟩
  have HX2 := Lib.hid (HK1.out.below hb2 hlt1)
  have HB2 := Lib.hid (up HB1.out hb2)
  have hlt2 := HX2.out.lt
  have k0 : w1.cell? ⟨w.heap.size, 0, none⟩ = some (.slice An nn cn) := HX2.out.cell 0
  have k1 : w1.cell? ⟨w.heap.size, 1, none⟩ = some (.slice Af lf cf) := HX2.out.cell 1
  have HC2 := Lib.hid (HasCircleS_any lo hi nn cn An ns lo1 hi1 lf cf Af fs _ (HRN.out.keep HB2.out hB) (Nat.le_trans hB HB2.out.size) hnn (HR.out.keep HB2.out hB1) (Nat.le_trans hB1 HB2.out.size) hn)
  clear hb2 HC1 HK1 HB1 hlt1
  have HVP := Lib.hid hVP
  clear hVP
  cases hC : circOf ns fs with
  | true =>
    have HX := Lib.hid (show planOk ns fs ts = false by unfold planOk; rw [hC]; simp)
    rw [hC] at HC2
    clear hC
    go_wp2_with (fail)
    (with_reducible refine HC2.out.mono ?_)
    rintro e w2 ⟨rfl, hb3⟩
    have HB3 := Lib.hid (up HB2.out hb3)
    clear hb3 k0 k1
    go_wp2
    go_ret
    exact ⟨ret_bool HX.out.symm, HB3.out⟩
  | false =>
  rw [hC] at HC2
  have HCC := Lib.hid hC
  clear hC
  go_wp2_with (fail)
  (with_reducible refine HC2.out.mono ?_)
  rintro e w2 ⟨rfl, hb3⟩
  have HX3 := Lib.hid (HX2.out.below hb3 hlt2)
  have HB3 := Lib.hid (up HB2.out hb3)
  clear hb3 k0 k1 HX2 HC2 hlt2
  have k0 : w2.cell? ⟨w.heap.size, 0, none⟩ = some (.slice An nn cn) := HX3.out.cell 0
  by_cases hlen : n' = nn
  · subst hlen
    have hq : ((n' : Int) == (n' : Int)) = true := by simp
    have HOK := Lib.hid (show planOk ns fs ts = allR ts 0 500 by
      unfold planOk vTimes
      rw [HVP.out, HCC.out, HT.out, HL.out]
      simp [allR])
    have HA := Lib.hid (allIn_any lo' hi' n' c' A' ts 0 500 w2 (HV.out.keep HB3.out hB') (by omega))
    go_wp2_with (fail)
    (with_reducible refine HA.out.mono ?_)
    rintro e w3 ⟨rfl, rfl⟩
    generalize hU : allR ts 0 500 = u at *
    clear hU
    cases u
    all_goals
      go_wp2
      go_ret
      exact ⟨ret_bool HOK.out.symm, HB3.out⟩
  · have HX := Lib.hid (show planOk ns fs ts = false by
      unfold planOk vTimes
      rw [HT.out, HL.out, decide_eq_false hlen]; simp)
    have hq : ((n' : Int) == (nn : Int)) = false := by simp; omega
    clear hlen
    go_wp2
    go_ret
    exact ⟨ret_bool HX.out.symm, HB3.out⟩

set_option maxRecDepth 100000 in
set_option maxHeartbeats 1600000 in
theorem EarliestTimesS_any (lo hi nn cn : Nat) (An : Option Addr) (ns : List (Int × Int)) (lo1 hi1 lf cf : Nat) (Af : Option Addr) (fs : List Flw) (lo' hi' n' c' : Nat) (A' : Option Addr) (ts : List Int) (w : World) (hrn : Rd w lo hi 2 An nn (pvs ns)) (hB : hi ≤ w.heap.size) (hnn : nn ≤ 1048576)
    (hr : Fls w lo1 hi1 Af lf fs) (hB1 : hi1 ≤ w.heap.size) (hn : lf ≤ 1048576) (hv : Rd w lo' hi' 1 A' n' (ivs ts)) (hB' : hi' ≤ w.heap.size) (hn' : n' ≤ 1048576) :
    Calls Try.prog 11 #[.agg #[.slice An nn cn, .slice Af lf cf], .slice A' n' c'] w (Fresh (ivs (earlyR ns fs ts)) 1 (earlyR ns fs ts).length w) := by
  have HL := Lib.hid hrn.len2
  have HR := Lib.hid hr
  have HV := Lib.hid hv
  have hb1 := up_alloc (Below.refl _ w) (.cells #[.slice An nn cn, .slice Af lf cf] 26)
  have hblk1 := Blk.new w 26 #[.slice An nn cn, .slice Af lf cf]
  have hlt1 := hblk1.lt
  have HC1 := Lib.hid (validPlanS_any lo hi nn cn An ns lo1 hi1 lf cf Af fs lo' hi' n' c' A' ts _ (hrn.keep hb1 hB) (Nat.le_trans hB hb1.size) hnn (hr.keep hb1 hB1) (Nat.le_trans hB1 hb1.size) hn (hv.keep hb1 hB') (Nat.le_trans hB' hb1.size) hn')
  have HB1 := Lib.hid hb1
  have HK1 := Lib.hid hblk1
  clear hrn hr hv hb1 hblk1
  go_enter Try.func11, Try.ntmps11
  go_wp2_with (fail)
  (with_reducible refine HC1.out.mono ?_)
  rintro e w1 ⟨rfl, hb2⟩
  have HX2 := Lib.hid (HK1.out.below hb2 hlt1)
  have HB2 := Lib.hid (up HB1.out hb2)
  have k0 : w1.cell? ⟨w.heap.size, 0, none⟩ = some (.slice An nn cn) := HX2.out.cell 0
  have k1 : w1.cell? ⟨w.heap.size, 1, none⟩ = some (.slice Af lf cf) := HX2.out.cell 1
  clear hb2 HC1 HK1 HB1
  cases hU : planOk ns fs ts with
  | false =>
    have HX := Lib.hid (show earlyR ns fs ts = [] by unfold earlyR; rw [hU]; rfl)
    clear hU
    go_wp2
    go_ret
    rw [HX.out]
    exact Fresh.nil 1 HB2.out
  | true =>
    have HP := Lib.hid (plan_of hU)
    have HX := Lib.hid (show earlyR ns fs ts = earlyOf ns fs ts by unfold earlyR; rw [hU]; rfl)
    have HC2 := Lib.hid (earliestS_any nn cn An ns lo1 hi1 lf cf Af fs lo' hi' n' c' A' ts w1 HL.out (HR.out.keep HB2.out hB1) (Nat.le_trans hB1 HB2.out.size) hn (HV.out.keep HB2.out hB') (Nat.le_trans hB' HB2.out.size) HP.out)
    clear hU
    go_wp2_with (fail)
    (with_reducible refine HC2.out.mono ?_)
    rintro e w2 ⟨g, cg, rfl, ho, hb3⟩
    have HO := Lib.hid ho
    have HB3 := Lib.hid (up HB2.out hb3)
    have hw1 := HB2.out.size
    clear ho hb3 k0 k1
    go_wp2
    go_ret
    rw [HX.out, earlyOf_len, HL.out]
    exact Fresh.of_base HO.out HB3.out hw1

set_option maxRecDepth 100000 in
set_option maxHeartbeats 1600000 in
theorem TotalTimeS_any (lo hi nn cn : Nat) (An : Option Addr) (ns : List (Int × Int)) (lo1 hi1 lf cf : Nat) (Af : Option Addr) (fs : List Flw) (lo' hi' n' c' : Nat) (A' : Option Addr) (ts : List Int) (w : World) (hrn : Rd w lo hi 2 An nn (pvs ns)) (hB : hi ≤ w.heap.size) (hnn : nn ≤ 1048576)
    (hr : Fls w lo1 hi1 Af lf fs) (hB1 : hi1 ≤ w.heap.size) (hn : lf ≤ 1048576) (hv : Rd w lo' hi' 1 A' n' (ivs ts)) (hB' : hi' ≤ w.heap.size) (hn' : n' ≤ 1048576) :
    Calls Try.prog 14 #[.agg #[.slice An nn cn, .slice Af lf cf], .slice A' n' c'] w fun e w' => e = .returned (.int .i64 (totalR ns fs ts)) ∧ Below w.heap.size w w' := by
  have HL := Lib.hid hrn.len2
  have HT := Lib.hid hv.len1
  have HR := Lib.hid hr
  have HV := Lib.hid hv
  have hb1 := up_alloc (Below.refl _ w) (.cells #[.slice An nn cn, .slice Af lf cf] 26)
  have hblk1 := Blk.new w 26 #[.slice An nn cn, .slice Af lf cf]
  have hlt1 := hblk1.lt
  have HC1 := Lib.hid (validPlanS_any lo hi nn cn An ns lo1 hi1 lf cf Af fs lo' hi' n' c' A' ts _ (hrn.keep hb1 hB) (Nat.le_trans hB hb1.size) hnn (hr.keep hb1 hB1) (Nat.le_trans hB1 hb1.size) hn (hv.keep hb1 hB') (Nat.le_trans hB' hb1.size) hn')
  have HB1 := Lib.hid hb1
  have HK1 := Lib.hid hblk1
  clear hrn hr hv hb1 hblk1
  go_enter Try.func14, Try.ntmps14
  go_wp2_with (fail)
  (with_reducible refine HC1.out.mono ?_)
  rintro e w1 ⟨rfl, hb2⟩
  have HX2 := Lib.hid (HK1.out.below hb2 hlt1)
  have HB2 := Lib.hid (up HB1.out hb2)
  have k0 : w1.cell? ⟨w.heap.size, 0, none⟩ = some (.slice An nn cn) := HX2.out.cell 0
  have k1 : w1.cell? ⟨w.heap.size, 1, none⟩ = some (.slice Af lf cf) := HX2.out.cell 1
  clear hb2 HC1 HK1 HB1
  cases hU : planOk ns fs ts with
  | false =>
    have HX := Lib.hid (show totalR ns fs ts = -1 by unfold totalR; rw [hU]; rfl)
    clear hU
    go_wp2
    go_ret
    exact ⟨ret_int HX.out.symm, HB2.out⟩
  | true =>
    have HP := Lib.hid (plan_of hU)
    have HX := Lib.hid (show totalR ns fs ts = totalUp ts (earlyOf ns fs ts) nn by unfold totalR; rw [hU, ← HL.out]; rfl)
    have HC2 := Lib.hid (earliestS_any nn cn An ns lo1 hi1 lf cf Af fs lo' hi' n' c' A' ts w1 HL.out (HR.out.keep HB2.out hB1) (Nat.le_trans hB1 HB2.out.size) hn (HV.out.keep HB2.out hB') (Nat.le_trans hB' HB2.out.size) HP.out)
    have hnn' : n' = nn := by have := vTimes_len HP.out.t; have := HT.out; have := HL.out; omega
    subst hnn'
    clear hU
    go_wp2_with (fail)
    (with_reducible refine HC2.out.mono ?_)
    rintro e w2 ⟨g, cg, rfl, ho, hb3⟩
    have HRO := Lib.hid (Rd.of_own ho)
    have HB3 := Lib.hid (up HB2.out hb3)
    clear ho hb3 k0 k1
    go_wp2_with (fail)
    (with_reducible refine (totalS_any _ _ n' cg _ (earlyOf ns fs ts) lo' hi' c' A' ts _ HRO.out (Nat.le_refl _) (HV.out.keep HB3.out hB') (Nat.le_trans hB' HB3.out.size) (by omega) (fun k => HP.out.total k) (fun v hv => by have h1 := HP.out.early v; have h2 := vTimes_at HP.out.t v; omega)).mono ?_)
    rintro e w3 ⟨rfl, hb4⟩
    have HB4 := Lib.hid (up HB3.out hb4)
    clear hb4 HRO
    generalize totalUp ts (earlyOf ns fs ts) n' = M at *
    go_wp2
    go_ret
    exact ⟨ret_int HX.out.symm, HB4.out⟩
end Go.Proofs.Ytonlkodenfiljaa


/- The reference's slack and critical nodes. -/
namespace Go.Proofs.Ytonlkodenfiljaa
open Go.RowKit

/-- The first k of one list, the others of another. -/
def mixL (a b : List Int) (k : Nat) : List Int := a.take k ++ b.drop k
theorem mixL_len {a b : List Int} (h : a.length = b.length) (k : Nat) : (mixL a b k).length = b.length := by
  unfold mixL; rw [List.length_append, List.length_take, List.length_drop]; omega
theorem mixL_at {a b : List Int} (h : a.length = b.length) {k : Nat} (hk : k < b.length) : beg (mixL a b k) k = beg b k := by
  unfold beg mixL
  rw [List.getD_eq_getElem?_getD, List.getD_eq_getElem?_getD, List.getElem?_append_right (by rw [List.length_take]; omega), List.length_take, List.getElem?_drop, show k + (k - min k a.length) = k by omega]
theorem mixL_step {a b : List Int} (h : a.length = b.length) {k : Nat} (hk : k < b.length) : (mixL a b k).set k (beg a k) = mixL a b (k + 1) := by
  have ha : a[k]? = some (beg a k) := at_beg (by omega)
  unfold mixL
  rw [List.set_append_right _ _ (by rw [List.length_take]; omega), List.length_take, show k - min k a.length = 0 by omega, List.drop_eq_getElem_cons hk, List.set_cons_zero, take_snoc ha, List.append_assoc]
  rfl
theorem slackOf_at {ns : List (Int × Int)} {fs : List Flw} {ts : List Int} {k : Nat} (hk : k < ns.length) : beg (slackOf ns fs ts) k = beg (lateOf ns fs ts) k - beg (earlyOf ns fs ts) k := by
  unfold slackOf; rw [beg_range, if_pos hk]

set_option maxRecDepth 100000 in
set_option maxHeartbeats 1600000 in
theorem SlackTimesS_any (lo hi nn cn : Nat) (An : Option Addr) (ns : List (Int × Int)) (lo1 hi1 lf cf : Nat) (Af : Option Addr) (fs : List Flw) (lo' hi' n' c' : Nat) (A' : Option Addr) (ts : List Int) (w : World) (hrn : Rd w lo hi 2 An nn (pvs ns)) (hB : hi ≤ w.heap.size) (hnn : nn ≤ 1048576)
    (hr : Fls w lo1 hi1 Af lf fs) (hB1 : hi1 ≤ w.heap.size) (hn : lf ≤ 1048576) (hv : Rd w lo' hi' 1 A' n' (ivs ts)) (hB' : hi' ≤ w.heap.size) (hn' : n' ≤ 1048576) :
    Calls Try.prog 38 #[.agg #[.slice An nn cn, .slice Af lf cf], .slice A' n' c'] w (Fresh (ivs (slackR ns fs ts)) 1 (slackR ns fs ts).length w) := by
  have HL := Lib.hid hrn.len2
  have HT := Lib.hid hv.len1
  have HR := Lib.hid hr
  have HV := Lib.hid hv
  have hb1 := up_alloc (Below.refl _ w) (.cells #[.slice An nn cn, .slice Af lf cf] 26)
  have hblk1 := Blk.new w 26 #[.slice An nn cn, .slice Af lf cf]
  have hlt1 := hblk1.lt
  have HC1 := Lib.hid (validPlanS_any lo hi nn cn An ns lo1 hi1 lf cf Af fs lo' hi' n' c' A' ts _ (hrn.keep hb1 hB) (Nat.le_trans hB hb1.size) hnn (hr.keep hb1 hB1) (Nat.le_trans hB1 hb1.size) hn (hv.keep hb1 hB') (Nat.le_trans hB' hb1.size) hn')
  have HB1 := Lib.hid hb1
  have HK1 := Lib.hid hblk1
  clear hrn hr hv hb1 hblk1
  go_enter Try.func38, Try.ntmps38
  go_wp2_with (fail)
  (with_reducible refine HC1.out.mono ?_)
  rintro e w1 ⟨rfl, hb2⟩
  have HX2 := Lib.hid (HK1.out.below hb2 hlt1)
  have HB2 := Lib.hid (up HB1.out hb2)
  have k0 : w1.cell? ⟨w.heap.size, 0, none⟩ = some (.slice An nn cn) := HX2.out.cell 0
  have k1 : w1.cell? ⟨w.heap.size, 1, none⟩ = some (.slice Af lf cf) := HX2.out.cell 1
  clear hb2 HC1 HK1 HB1
  cases hU : planOk ns fs ts with
  | false =>
    have HX := Lib.hid (show slackR ns fs ts = [] by unfold slackR; rw [hU]; rfl)
    clear hU
    go_wp2
    go_ret
    rw [HX.out]
    exact Fresh.nil 1 HB2.out
  | true =>
    have HP := Lib.hid (plan_of hU)
    have HX := Lib.hid (show slackR ns fs ts = slackOf ns fs ts by unfold slackR; rw [hU]; rfl)
    have HC2 := Lib.hid (earliestS_any nn cn An ns lo1 hi1 lf cf Af fs lo' hi' n' c' A' ts w1 HL.out (HR.out.keep HB2.out hB1) (Nat.le_trans hB1 HB2.out.size) hn (HV.out.keep HB2.out hB') (Nat.le_trans hB' HB2.out.size) HP.out)
    clear hU
    have hlt2 := HX2.out.lt
    go_wp2_with (fail)
    (with_reducible refine HC2.out.mono ?_)
    rintro e w2 ⟨g, cg, rfl, ho, hb3⟩
    have HRE := Lib.hid (Rd.of_own ho)
    have HB3 := Lib.hid (up HB2.out hb3)
    have HX3 := Lib.hid (HX2.out.below hb3 hlt2)
    clear ho hb3 k0 k1 HC2 HX2 hlt1
    have k0 : w2.cell? ⟨w.heap.size, 0, none⟩ = some (.slice An nn cn) := HX3.out.cell 0
    have k1 : w2.cell? ⟨w.heap.size, 1, none⟩ = some (.slice Af lf cf) := HX3.out.cell 1
    have HC3 := Lib.hid (latestS_any nn cn An ns lo1 hi1 lf cf Af fs lo' hi' n' c' A' ts w2 HL.out (HR.out.keep HB3.out hB1) (Nat.le_trans hB1 HB3.out.size) hn (HV.out.keep HB3.out hB') (Nat.le_trans hB' HB3.out.size) HP.out)
    go_wp2_with (fail)
    (with_reducible refine HC3.out.mono ?_)
    rintro e w3 ⟨g2, cg2, rfl, ho, hb4⟩
    have HO := Lib.hid (show w3.ownsRow w2.heap.size 3 1 (.slice (some ⟨g2, 0, none⟩) nn cg2) nn (ivs (mixL (slackOf ns fs ts) (lateOf ns fs ts) 0)) from ho)
    have HB4 := Lib.hid (up HB3.out hb4)
    have HRE4 := Lib.hid (HRE.out.keep hb4 (Nat.le_refl _))
    have hg1 : w2.heap.size ≤ g2 := by
      obtain ⟨g3, c3, hge, hq1, _⟩ := own_first ho (by have := (vProc_len HP.out.v).1; have := HL.out; omega)
      injection hge with h1 _ _; injection h1 with h1; injection h1 with h1 _ _
      omega
    have hsz3 := hb4.size
    clear ho hb4 k0 k1 HC3 HX3 HRE
    have hnn10 : nn ≤ 10 := by have := (vProc_len HP.out.v).2.1; have := HL.out; omega
    go_wp2
    go_loopw [7] (fun iv wr => ∃ (k : Nat), k ≤ nn ∧ iv = .int .i64 k ∧ Hid (wr.ownsRow w2.heap.size 3 1 (.slice (some ⟨g2, 0, none⟩) nn cg2) nn (ivs (mixL (slackOf ns fs ts) (lateOf ns fs ts) k))) ∧ Hid (Rd wr w1.heap.size w2.heap.size 1 (some ⟨g, 0, none⟩) nn (ivs (earlyOf ns fs ts))) ∧ Below w.heap.size w wr ∧ w2.heap.size ≤ wr.heap.size)
       (fun iv _ => nn - (intOf iv).toNat)
    case atStart => exact ⟨0, by omega, rfl, HO.out, HRE4.out, HB4.out, hsz3⟩
    case round =>
      clear HO HRE4 HB4
      obtain ⟨k, hk, rfl, HO, HRE, hbl, hszr⟩ := hrel
      by_cases hkn : k < nn
      · obtain ⟨b1, off1, v1, hAe, hb1, _, hg1', hc1⟩ := HRE.out.one hkn
        injection hAe with hAe; injection hAe with e1 e2 _
        subst e1; subst e2
        rw [Nat.zero_add] at hc1
        have hv1 := beg_at hg1'
        have hkl : k < ns.length := by have := HL.out; omega
        have hle : (slackOf ns fs ts).length = (lateOf ns fs ts).length := by rw [slackOf_len, lateOf_len]
        have hkl2 : k < (lateOf ns fs ts).length := by rw [lateOf_len]; exact hkl
        have hlt := HP.out.late k hkl
        have hea := HP.out.early k
        rw [hv1] at hea
        have hmx := mixL_at hle hkl2
        have HST := Lib.hid (mixL_step hle hkl2)
        have hsk := slackOf_at (fs := fs) (ts := ts) hkl
        have hox := HO.out.cellAt k (by omega)
        rw [beg_ivs (by rw [mixL_len hle]; exact hkl2), hmx] at hox
        have hfx := HO.out.frozenAt k
        rw [hv1] at hsk
        rw [hsk] at HST
        generalize beg (lateOf ns fs ts) k = vl at *
        obtain ⟨l1, l2⟩ := hlt
        obtain ⟨a1, a2⟩ := hea
        have hwr : IntKind.i64.wrap (vl - v1) = vl - v1 := IntWalk.i64_in _ (by omega)
        have hk0 : (0 : Int) ≤ (k : Int) := by omega
        have hk1 : (k : Int) < (nn : Int) := by omega
        have hst := (HO.out.stored k (.int .i64 (vl - v1))).1
        rw [ivs_put, HST.out] at hst
        have HX1 := Lib.hid (show (wr.setCell ⟨g2, k, none⟩ (.int .i64 (vl - v1))).drew.ownsRow w2.heap.size 3 1 (.slice (some ⟨g2, 0, none⟩) nn cg2) nn (ivs (mixL (slackOf ns fs ts) (lateOf ns fs ts) (k + 1))) from hst)
        have HR1 := Lib.hid (show Rd (wr.setCell ⟨g2, k, none⟩ (.int .i64 (vl - v1))).drew w1.heap.size w2.heap.size 1 (some ⟨g, 0, none⟩) nn (ivs (earlyOf ns fs ts)) from (HRE.out.setCell (p := ⟨g2, k, none⟩) (.inr hg1) (.int .i64 (vl - v1))).keep (up_drew (Below.refl _ _)) (by simp [World.setCell]; omega))
        have HB := Lib.hid (up_drew (hbl.setCell (p := ⟨g2, k, none⟩) (by show _ ≤ g2; have := HB3.out.size; omega) (.int .i64 (vl - v1))))
        clear hst hle hkl2 hmx hsk HST hg1' hv1 HO HRE hbl
        go_wp2_with (fail)
        go_region
        all_goals
          go_wp2
          go_roundw
          case rel => exact ⟨k + 1, by omega, by go_num, HX1.out, HR1.out, HB.out, by simp [World.drew, World.setCell]; omega⟩
          case measure => simp [intOf]; omega
      · obtain rfl : k = nn := by omega
        have HF := Lib.hid (show wr.ownsRow w2.heap.size 3 1 (.slice (some ⟨g2, 0, none⟩) k cg2) k (ivs (slackOf ns fs ts)) by
          have := HO.out
          have h1 : mixL (slackOf ns fs ts) (lateOf ns fs ts) k = slackOf ns fs ts := by
            unfold mixL
            rw [List.take_of_length_le (by rw [slackOf_len, HL.out]; exact Nat.le_refl _), List.drop_of_length_le (by rw [lateOf_len, HL.out]; exact Nat.le_refl _), List.append_nil]
          rw [h1] at this
          exact this)
        have hw2 := HB3.out.size
        have HCAP := Lib.hid (show k ≤ cg2 by obtain ⟨_, _, hge, hc, _⟩ := own_form HF.out; injection hge with _ _ e; subst e; exact hc)
        clear HO HRE
        go_wp2
        go_ret
        rw [HX.out, slackOf_len, HL.out]
        exact ⟨some ⟨g2, 0, none⟩, cg2, rfl, HCAP.out, (Rd.of_own HF.out).wide hw2 (Nat.le_refl _), Soft.of_own HF.out, hbl⟩
end Go.Proofs.Ytonlkodenfiljaa


/- The reference's critical nodes. -/
namespace Go.Proofs.Ytonlkodenfiljaa
open Go.RowKit

set_option maxRecDepth 100000 in
set_option maxHeartbeats 1600000 in
theorem CriticalNodesS_any (lo hi nn cn : Nat) (An : Option Addr) (ns : List (Int × Int)) (lo1 hi1 lf cf : Nat) (Af : Option Addr) (fs : List Flw) (lo' hi' n' c' : Nat) (A' : Option Addr) (ts : List Int) (w : World) (hrn : Rd w lo hi 2 An nn (pvs ns)) (hB : hi ≤ w.heap.size) (hnn : nn ≤ 1048576)
    (hr : Fls w lo1 hi1 Af lf fs) (hB1 : hi1 ≤ w.heap.size) (hn : lf ≤ 1048576) (hv : Rd w lo' hi' 1 A' n' (ivs ts)) (hB' : hi' ≤ w.heap.size) (hn' : n' ≤ 1048576) :
    Calls Try.prog 18 #[.agg #[.slice An nn cn, .slice Af lf cf], .slice A' n' c'] w (Fresh (ivs (critR ns fs ts)) 1 (critR ns fs ts).length w) := by
  have HL := Lib.hid hrn.len2
  have hb1 := up_alloc (up_alloc (Below.refl _ w) (.cells #[.slice An nn cn, .slice Af lf cf] 26)) (.cells #[] 3)
  have e1 : (w.alloc (.cells #[.slice An nn cn, .slice Af lf cf] 26)).heap.size = w.heap.size + 1 := by simp
  have hown0 := World.ownsRow_made (w.alloc (.cells #[.slice An nn cn, .slice Af lf cf] 26)) (base := w.heap.size + 1) (e := 3) (size := 1) #[] 0 (by simp) (by unfold maxLen; omega) (by simp)
  rw [e1] at hown0
  have HO0 := Lib.hid hown0
  have hbp := (Blk.new w 26 #[.slice An nn cn, .slice Af lf cf]).alloc (.cells #[] 3)
  have k0 := hbp.cell 0
  have k1 := hbp.cell 1
  simp only [List.getElem?_toArray, List.getElem?_cons_zero, List.getElem?_cons_succ] at k0 k1
  obtain ⟨i0, hi0, hz0, hz1, hz2⟩ := info_parts infoInt
  have hs1 : ((w.alloc (.cells #[.slice An nn cn, .slice Af lf cf] 26)).alloc (.cells #[] 3)).heap.size = w.heap.size + 2 := by simp
  have HC1 := Lib.hid (SlackTimesS_any lo hi nn cn An ns lo1 hi1 lf cf Af fs lo' hi' n' c' A' ts _ (hrn.keep hb1 hB) (Nat.le_trans hB hb1.size) hnn (hr.keep hb1 hB1) (Nat.le_trans hB1 hb1.size) hn (hv.keep hb1 hB') (Nat.le_trans hB' hb1.size) hn')
  have HB1 := Lib.hid hb1
  clear hrn hr hv hb1 hbp hown0 e1
  go_enter Try.func18, Try.ntmps18
  go_wp2_with (fail)
  (with_reducible refine HC1.out.mono ?_)
  clear HC1
  cases hU : planOk ns fs ts with
  | false =>
    have HX := Lib.hid (show critR ns fs ts = [] by unfold critR; rw [hU]; rfl)
    rw [show slackR ns fs ts = [] by unfold slackR; rw [hU]; rfl]
    clear hU
    rintro e w1 ⟨A1, c1, rfl, _, _, _, hb2⟩
    have HB2 := Lib.hid (up HB1.out hb2)
    clear hb2 k0 k1
    go_wp2
    go_ret
    rw [HX.out]
    exact Fresh.nil 1 HB2.out
  | true =>
    have HP := Lib.hid (plan_of hU)
    have HX := Lib.hid (show critR ns fs ts = critUp (slackOf ns fs ts) nn by unfold critR; rw [hU, ← HL.out]; rfl)
    rw [show slackR ns fs ts = slackOf ns fs ts by unfold slackR; rw [hU]; rfl, slackOf_len, HL.out]
    have hlen := vProc_len HP.out.v
    have hnn2 : 2 ≤ nn := by have := HL.out; omega
    have hnn10 : nn ≤ 10 := by have := HL.out; omega
    have hq0 : ((nn : Int) == 0) = false := by simp; omega
    clear hU hlen
    rintro e w1 ⟨A1, c1, rfl, _, hrs, _, hb2⟩
    have HO1 := Lib.hid (own_keep HO0.out hb2)
    have HB2 := Lib.hid (up HB1.out hb2)
    have hs2 := hb2.size
    rw [hs1] at hs2 hrs
    have HRS := Lib.hid hrs
    clear hb2 k0 k1 hrs HO0 HB1
    go_wp2
    go_loopw [5, 7] (fun ov iv wr => ∃ (k : Nat), k ≤ nn ∧ iv = .int .i64 k ∧ Hid (wr.ownsRow (w.heap.size + 1) 3 1 ov (critUp (slackOf ns fs ts) k).length (ivs (critUp (slackOf ns fs ts) k))) ∧ Rd wr (w.heap.size + 2) w1.heap.size 1 A1 nn (ivs (slackOf ns fs ts)) ∧ Hid (∀ g, ov.ownBlock = some g → g = w.heap.size + 1 ∨ w1.heap.size ≤ g) ∧ w1.heap.size ≤ wr.heap.size ∧ Hid (Below w.heap.size w wr))
       (fun _ iv _ => nn - (intOf iv).toNat)
    case atStart => exact ⟨0, by omega, rfl, by simpa [critUp, ivs] using HO1, HRS.out, fun g hg => .inl (by simpa [Value.ownBlock] using hg.symm), Nat.le_refl _, HB2⟩
    case round =>
      clear HO1 HRS HB2
      obtain ⟨k, hk, rfl, HO, hrs, HOB, hsz, HB⟩ := hrel
      have hul := critUp_le (slackOf ns fs ts) k
      by_cases hkn : k < nn
      · obtain ⟨b, off, v1, rfl, hbB, _, hgs, hc0⟩ := hrs.one hkn
        have hv1 := beg_at hgs
        have HRS := Lib.hid hrs
        have hk1 : (k : Int) < (nn : Int) := by omega
        have hk0 : (0 : Int) ≤ (k : Int) := by omega
        by_cases hz : v1 = 0
        · have HU2 := Lib.hid (critUp_yes (sl := slackOf ns fs ts) (k := k) (by rw [hv1]; exact hz))
          have hz' : (v1 == 0) = true := by simpa using hz
          clear hz hgs hv1 hrs
          go_wp2_with (at_builtin; refine wpList_append_own_at _ rfl _ _ 27 rfl (w.heap.size + 1) 3 i0 (.int .i64 0) 1 8 Try.underlying27 hi0 hz0 hz1 hz2 rfl (by decide) _ _ _ rfl (HO.out.alloc _) ⟨wr.heap.size, 0, none⟩ 1 1 [.int .i64 (k : Int)] rfl rfl (cell_one_new _ _ _) ?c2 ?c3 ?c4 ?c5 ?_)
          case c2 => first | rfl | (intro u hu; simp at hu; subst hu; rfl)
          case c3 => unfold maxLen; omega
          case c4 => omega
          case c5 => first | omega | (simp; omega)
          intro v' w4 hown4 hg4 _ hloc
          have hbl4 := (up_alloc HB.out (.cells #[.int .i64 (k : Int)] 3)).grown hg4 (up_alloc HB.out (.cells #[.int .i64 (k : Int)] 3)).size (fun j hj => by have := ((HO.out).lt j hj).1; omega)
          have hs4 : wr.heap.size + 1 ≤ w4.heap.size := by have := hg4.size; simpa using this
          have hrs4 := (HRS.out.keep (up_alloc (Below.refl _ wr) (.cells #[.int .i64 (k : Int)] 3)) hsz).far hg4 (by simp; omega) (fun g hg => by have := HOB.out g hg; omega)
          have HOB4 : Hid (∀ g, v'.ownBlock = some g → g = w.heap.size + 1 ∨ w1.heap.size ≤ g) := fun g hg => by
            rcases hloc with h1 | h1
            · rw [h1] at hg; exact HOB.out g hg
            · rw [h1] at hg
              simp at hg
              omega
          have HX4 : Hid (w4.ownsRow (w.heap.size + 1) 3 1 v' (critUp (slackOf ns fs ts) (k + 1)).length (ivs (critUp (slackOf ns fs ts) (k + 1)))) := by
            rw [HU2.out, ivs_append, List.length_append]
            exact hown4
          have HB4 := Lib.hid hbl4
          have HRS4 := Lib.hid hrs4
          clear hown4 hg4 hbl4 HO hrs4 HRS HOB hloc hc0
          go_wp2
          go_roundw
          case rel => exact ⟨k + 1, by omega, by go_num, HX4, HRS4.out, HOB4, by omega, HB4⟩
          case measure => simp [intOf]; omega
        · have HU2 := Lib.hid (critUp_no (sl := slackOf ns fs ts) (k := k) (by rw [hv1]; exact hz))
          have hz' : (v1 == 0) = false := by simpa using hz
          clear hz hgs hv1 hrs
          go_wp2
          go_roundw
          case rel => exact ⟨k + 1, by omega, by go_num, by rw [HU2.out]; exact HO, HRS.out, HOB, hsz, HB⟩
          case measure => simp [intOf]; omega
      · obtain rfl : k = nn := by omega
        clear hrs
        go_wp2
        go_ret
        rw [HX.out]
        exact Fresh.of_base HO.out HB.out (by omega)
end Go.Proofs.Ytonlkodenfiljaa

