/- Merged: DrawP13, DrawP14. -/
import Derived.Test.YtcckmabdflhfmaaDrawP12
import Derived.Test.YtcckmabdflhfmaaDrawVals
import Derived.Deep.RegionLaw
/- The drawing of processes: tokens, values, and what the laws on them draw. -/
namespace Go.Proofs.Ytcckmabdflhfmaa
open Go.RowKit

set_option maxHeartbeats 400000 in
theorem copyIntsN_any (lo hi n c : Nat) (A : Option Addr) (ys : List Int) (w : World) (hr : Rd w lo hi 1 A n (ivs ys)) (hB : hi ≤ w.heap.size) (hn : n ≤ 1048576) :
    Calls Try.prog 114 #[.slice A n c] w fun e w' => ∃ v, e = .returned v ∧ w'.ownsRow w.heap.size 3 1 v n (ivs ys) ∧ Below w.heap.size w w' := by
  obtain ⟨i0, hi0, hz0, hz1, hz2⟩ := info_parts infoIntD
  have hown1 : (w.alloc (.cells #[] 3)).ownsRow w.heap.size 3 1 (.slice (some ⟨w.heap.size, 0, none⟩) 0 0) 0 [] := World.ownsRow_made w #[] 0 (Nat.le_refl _) (by unfold maxLen; omega) (by simp)
  have hbl := up_alloc (Below.refl _ w) (.cells #[] 3)
  have hr1 := hr.keep hbl hB
  go_enter Try.func114, Try.ntmps114
  go_wp2_with (at_builtin; refine wpList_append_rd _ rfl _ _ 26 rfl w.heap.size 3 i0 (.int .i64 0) 1 8 Try.underlying26 hi0 hz0 hz1 hz2 rfl (by decide) _ _ _ rfl hown1 lo hi A n c (ivs ys) rfl hr1 (ivs_one ys) ?c3 ?c4 ?c5 ?_)
  case c3 => unfold maxLen; omega
  case c4 => omega
  case c5 => simp
  intro v2 w2 hown2 hg2 _
  have hb2 := up_grown hbl hown1 hg2 (Nat.le_refl _)
  try simp only [Nat.zero_add, List.nil_append] at hown2
  have HO := Lib.hid hown2
  clear hown1 hown2 hg2 hr1 hbl
  go_wp2
  go_ret
  exact ⟨v2, rfl, HO.out, hb2⟩

set_option maxRecDepth 100000 in
set_option maxHeartbeats 1600000 in
theorem spoilN_any (r : Nat) (A : Option Addr) (n c : Nat) (xs : List Int) (p : Int) (lo hi m c1 : Nat) (A1 : Option Addr) (ys : List Int) (u : Int) (w : World) (h : Rdr w r A n c xs p) (hp : p ≤ 900000)
    (hr : Rd w lo hi 1 A1 m (ivs ys)) (hB : hi ≤ w.heap.size) (hm : m ≤ 1000) :
    Calls Try.prog 107 #[.pointer (some ⟨r, 0, none⟩), .slice A1 m c1, .int .i64 u] w (IntsPost r A n c xs p 4 (m + 1) w) := by
  obtain ⟨i0, hi0, hz0, hz1, hz2⟩ := info_parts infoIntD
  have hrb := h.lt
  have hp0 := h.2.2.2.2
  have HL := Lib.hid hr.len1
  go_enter Try.func107, Try.ntmps107
  go_wp2_with (fail)
  (with_reducible refine (copyIntsN_any lo hi m c1 A1 ys w hr hB (by omega)).mono ?_)
  rintro e w1 ⟨v, rfl, hown1, hb1⟩
  obtain ⟨A2, c2, rfl, hgc, hcm⟩ := own_cap hown1
  have hR1 := h.below hb1
  have hG1 := but_below (but_refl r w) hb1
  clear hb1 h hr
  go_wp2_with (fail)
  (with_reducible refine (pick_any r A n c xs p 20 w1 hR1 (by omega) (by omega)).mono ?_)
  rintro e w2 ⟨q, rfl, q0, q1, _, hRX, hG2⟩
  have q1' := q1 (by omega)
  have hownX := own_but hown1 hG2 hrb
  have hGX := but_trans hG1 hG2
  clear hG2 hown1 hG1 hR1 q1
  by_cases hm0 : m = 0
  · subst hm0
    rcases (show q = 0 ∨ q = 1 ∨ q = 2 ∨ 3 ≤ q by omega) with rfl | rfl | rfl | hq3
    · go_wp2_with (at_builtin; refine wpList_append_own _ rfl _ _ 26 rfl w.heap.size 3 i0 (.int .i64 0) 1 8 Try.underlying26 hi0 hz0 hz1 hz2 rfl (by decide) _ _ _ rfl (hownX.alloc _) _ 1 1 [.int .i64 u] rfl rfl (cell_one_new _ _ _) ?c2 ?c3 ?c4 ?c5 ?_)
      case c2 => intro u hu; simp at hu; subst hu; rfl
      case c3 => unfold maxLen; omega
      case c4 => omega
      case c5 => have := hGX.size; simp; omega
      intro v' w4 hown4 hg4 _
      have hG4 := but_grown (but_alloc hGX _) (hownX.alloc _) hg4 (Nat.le_refl _)
      have hR4 := rdr_grown (rdr_alloc hRX _) (hownX.alloc _) hg4 hrb
      clear hg4 hownX hGX hRX
      obtain ⟨A', c', hv, hcc, hcm'⟩ := own_cap hown4
      rw [hv] at hown4
      have HO := Lib.hid (Rd.of_own hown4)
      clear hown4
      subst hv
      go_wp2
      go_ret
      exact ⟨A', 0 + 1, c', ys ++ [u], _, rfl, by omega, hcc, hcm', by rw [ivs_append]; exact HO.out, hR4, by omega, hG4⟩
    · have HO := Lib.hid (Rd.of_own hownX)
      clear hownX
      go_wp2
      go_ret
      exact ⟨_, 0, c2, ys, _, rfl, by omega, hgc, hcm, HO.out, hRX, by omega, hGX⟩
    · have HO := Lib.hid (Rd.of_own hownX)
      clear hownX
      go_wp2
      go_ret
      exact ⟨_, 0, c2, ys, _, rfl, by omega, hgc, hcm, HO.out, hRX, by omega, hGX⟩
    · have g0 : (q == 0) = false := by simp; omega
      have g1 : (q == 1) = false := by simp; omega
      have g2 : (q == 2) = false := by simp; omega
      have HO := Lib.hid (Rd.of_own hownX)
      clear hownX
      go_wp2
      go_ret
      exact ⟨_, 0, c2, ys, _, rfl, by omega, hgc, hcm, HO.out, hRX, by omega, hGX⟩
  obtain ⟨m, rfl⟩ : ∃ m', m = m' + 1 := ⟨m - 1, by omega⟩
  obtain ⟨g, rfl, hg1, hg2⟩ := own_long hownX (by omega)
  rcases (show q = 0 ∨ q = 1 ∨ q = 2 ∨ 3 ≤ q by omega) with rfl | rfl | rfl | hq3
  · go_wp2_with (at_builtin; refine wpList_append_own _ rfl _ _ 26 rfl w.heap.size 3 i0 (.int .i64 0) 1 8 Try.underlying26 hi0 hz0 hz1 hz2 rfl (by decide) _ _ _ rfl (hownX.alloc _) _ 1 1 [.int .i64 u] rfl rfl (cell_one_new _ _ _) ?c2 ?c3 ?c4 ?c5 ?_)
    case c2 => intro u hu; simp at hu; subst hu; rfl
    case c3 => unfold maxLen; omega
    case c4 => omega
    case c5 => have := hGX.size; simp; omega
    intro v' w4 hown4 hg4 _
    have hG4 := but_grown (but_alloc hGX _) (hownX.alloc _) hg4 (Nat.le_refl _)
    have hR4 := rdr_grown (rdr_alloc hRX _) (hownX.alloc _) hg4 hrb
    clear hg4 hownX hGX hRX
    obtain ⟨A', c', hv, hcc, hcm'⟩ := own_cap hown4
    rw [hv] at hown4
    have HO := Lib.hid (Rd.of_own hown4)
    clear hown4
    subst hv
    go_wp2
    go_ret
    exact ⟨A', m + 1 + 1, c', ys ++ [u], _, rfl, by omega, hcc, hcm', by rw [ivs_append]; exact HO.out, hR4, by omega, hG4⟩
  · have hm1 : (0 : Int) < ((m + 1 : Nat) : Int) := by omega
    by_cases hcap : c2 = 1
    · obtain rfl : m = 0 := by omega
      subst hcap
      clear hownX
      go_wp2
      go_ret
      exact ⟨_, 0, 0, [], _, rfl, by omega, by omega, by omega, Rd.nil _ _ _ _ _, hRX, by omega, hGX⟩
    · have HO := Lib.hid (Rd.of_own hownX).tail
      clear hownX
      go_wp2
      go_ret
      exact ⟨_, m, c2 - 1, ys.tail, _, rfl, by omega, by omega, by omega, by rw [← ivs_tail]; simpa using HO.out, hRX, by omega, hGX⟩
  · go_wp2_with (fail)
    (with_reducible refine (pick_any r A n c xs (p + 1) ((m : Int) + 1) w2 hRX (by omega) (by omega)).mono ?_)
    rintro e w3 ⟨k, rfl, k0, k1, _, hR3, hG3⟩
    have k1' := k1 (by omega)
    obtain ⟨k, rfl⟩ := Int.eq_ofNat_of_zero_le k0
    have hown3 := own_but hownX hG3 hrb
    have hG3' := but_trans hGX hG3
    clear hG3 hownX hGX hRX k1
    go_wp2_with (fail)
    have hb := Blk.new w3 3 #[.int .i64 (-1), .int .i64 u, .int .i64 0, .int .i64 1]
    (with_reducible refine (one_any r A n c xs (p + 1 + 1) w3.heap.size (w3.heap.size + 1) 4 4 _ [-1, u, 0, 1] _ (rdr_alloc hR3 _) (by omega) (Rd.of_blk hb rfl) (by simp) (by omega) (by omega) (.inl hR3.lt)).mono ?_)
    rintro e w4 ⟨x, rfl, _, hR4, hG4⟩
    have hown4 := own_but (hown3.alloc _) hG4 hrb
    have hG4' := but_trans (but_alloc hG3' _) hG4
    clear hb hG4 hown3 hG3' hR3
    have hkn : k < m + 1 := by omega
    have hd0 := hown4.cellAt k (by omega)
    obtain ⟨z0, e0⟩ : ∃ z, (ivs ys)[k]? = some z := ⟨_, List.getElem?_eq_getElem (by rw [ivs_length, HL.out]; exact hkn)⟩
    rw [e0] at hd0
    clear e0
    have hf0 := hown4.frozenAt k
    have hst := (hown4.stored k (.int .i64 x)).1
    rw [show (ivs ys).set k (.int .i64 x) = ivs (ys.set k x) by simp [ivs, List.map_set]] at hst
    have HST := Lib.hid hst
    have hne : r ≠ g := by omega
    have HRR := Lib.hid (show Rdr (w4.setCell ⟨g, k, none⟩ (.int .i64 x)) r A n c xs (p + 1 + 1 + 1) from
      ⟨hR4.1.far hne _, hR4.2.1.setCell (p := ⟨g, _, none⟩) (.inr (by show r ≤ g; omega)) _, hR4.2.2⟩)
    clear hst hown4
    go_wp2
    go_ret
    exact ⟨_, m + 1, c2, ys.set k x, _, rfl, by omega, hgc, hcm, Rd.of_own HST.out, HRR.out, by omega, but_put hG4' (p := ⟨g, _, none⟩) (.inr hg1) _⟩
  · have g0 : (q == 0) = false := by simp; omega
    have g1 : (q == 1) = false := by simp; omega
    have g2 : (q == 2) = false := by simp; omega
    have HO := Lib.hid (Rd.of_own hownX)
    clear hownX
    go_wp2
    go_ret
    exact ⟨_, m + 1, c2, ys, _, rfl, by omega, hgc, hcm, HO.out, hRX, by omega, hGX⟩

theorem set_range (ys : List Int) (k : Nat) (x : Int) (h : ∀ z ∈ ys, 0 ≤ z ∧ z ≤ 3) (hx : 0 ≤ x ∧ x ≤ 3) : ∀ z ∈ ys.set k x, 0 ≤ z ∧ z ≤ 3 := fun z hz => by
  rcases List.mem_or_eq_of_mem_set hz with h' | rfl
  · exact h z h'
  · exact hx
set_option maxRecDepth 100000 in
set_option maxHeartbeats 1600000 in
theorem anyMarks_any (r : Nat) (A : Option Addr) (n c : Nat) (xs : List Int) (p : Int) (An : Option Addr) (nn cn : Nat) (Af : Option Addr) (lf cf : Nat) (w : World) (h : Rdr w r A n c xs p) (hp : p ≤ 800000) (hlf : lf ≤ 21) :
    Calls Try.prog 70 #[.pointer (some ⟨r, 0, none⟩), .agg #[.slice An nn cn, .slice Af lf cf]] w (IntsPost r A n c xs p 20 22 w) := by
  obtain ⟨i0, hi0, hz0, hz1, hz2⟩ := info_parts infoIntD
  have hrb := h.lt
  have hp0 := h.2.2.2.2
  have hG1 := but_alloc (but_refl r w) (.cells #[.slice An nn cn, .slice Af lf cf] 33)
  have hR1 := rdr_alloc h (.cells #[.slice An nn cn, .slice Af lf cf] 33)
  have hp1 := Blk.new w 33 #[.slice An nn cn, .slice Af lf cf]
  have hs1 : (w.alloc (.cells #[.slice An nn cn, .slice Af lf cf] 33)).heap.size = w.heap.size + 1 := by simp
  obtain ⟨wm, hmk, hown, hgr⟩ := run_make_full (P := Try.prog) (w.alloc (.cells #[.slice An nn cn, .slice Af lf cf] 33)) (w.heap.size + 1) 26 3 i0 _ 1 Try.underlying26 hi0 hz0 hz1 .i64 .i64 lf (by rw [hz2]; omega) (by unfold maxLen; omega) (by rw [hs1]; exact Nat.le_refl _)
  have hbm : Below (w.alloc (.cells #[.slice An nn cn, .slice Af lf cf] 33)).heap.size (w.alloc (.cells #[.slice An nn cn, .slice Af lf cf] 33)) wm := (Below.refl _ _).grown hgr (Nat.le_refl _) (by simp)
  have hRm := hR1.below hbm
  have hGm := but_below hG1 hbm
  rw [hs1] at hown hmk
  have hcell0 : (madeCells (Value.int .i64 0).cells (lf * 1)).toList = ivs (List.replicate lf 0) := by
    show (madeCells #[.int .i64 0] (lf * 1)).toList = _
    rw [toList_madeCells_one, Nat.mul_one]; simp [ivs]
  rw [hcell0] at hown
  have HO := Lib.hid hown
  clear hcell0 hgr hp1 hG1 hR1 hbm hown hs1
  go_enter Try.func70, Try.ntmps70
  go_wp2_with (fail)
  clear hmk
  have hb := Blk.new wm 3 #[.int .i64 1, .int .i64 2, .int .i64 3, .int .i64 0, .int .i64 6]
  (with_reducible refine (one_any r A n c xs p wm.heap.size (wm.heap.size + 1) 5 5 _ [1, 2, 3, 0, 6] _ (rdr_alloc hRm _) (by omega) (Rd.of_blk hb rfl) (by simp) (by omega) (by omega) (.inl hRm.lt)).mono ?_)
  rintro e w2 ⟨x, rfl, hx, hR2, hG2⟩
  have hx0 : 0 ≤ x ∧ x ≤ 6 := by simp at hx; omega
  have HO2 := Lib.hid (own_but (HO.out.alloc _) hG2 (by omega))
  have hGX := but_trans (but_alloc hGm _) hG2
  have HR2 := Lib.hid hR2
  have HGX := Lib.hid hGX
  have hx1 := hx0.1
  have hx2 := hx0.2
  clear hb hG2 hGm hRm hx hx0 HO hR2 hGX h hi0 hz0 hz1 hz2
  go_wp2
  go_loopw [6] (fun nv wr => ∃ (k : Nat) (ys : List Int), nv = .int .i64 k ∧ k ≤ 6 ∧ ys.length = lf ∧ (∀ z ∈ ys, 0 ≤ z ∧ z ≤ 3) ∧ wr.ownsRow (w.heap.size + 1) 3 1 (.slice (some ⟨w.heap.size + 1, 0, none⟩) lf lf) lf (ivs ys) ∧ (∃ p', Rdr wr r A n c xs p' ∧ p' ≤ p + 1 + (6 - k)) ∧ But r w wr)
     (fun nv _ => (intOf nv).toNat)
  case atStart =>
    obtain ⟨x, rfl⟩ := Int.eq_ofNat_of_zero_le hx1
    exact ⟨x, List.replicate lf 0, rfl, by omega, by simp, fun z hz => by rw [(List.mem_replicate.1 hz).2]; omega, HO2.out, ⟨_, HR2.out, by omega⟩, HGX.out⟩
  case round =>
    clear HO2 HR2 HGX
    obtain ⟨k, ys, rfl, hk6, hyl, hy3, hown, ⟨p', hR, hpp⟩, hG⟩ := hrel
    have HY := Lib.hid hyl
    have H3 := Lib.hid hy3
    clear hyl hy3
    by_cases hgo : 0 < k ∧ 0 < lf
    · obtain ⟨g1, g2⟩ := hgo
      have g1' : (0 : Int) < (k : Int) := by omega
      have g2' : (0 : Int) < (lf : Int) := by omega
      have HOw := Lib.hid hown
      have HGw := Lib.hid hG
      clear hown hG
      go_wp2_with (fail)
      (with_reducible refine (pick_any r A n c xs p' (lf : Int) _ hR (by omega) (by omega)).mono ?_)
      rintro e w3 ⟨q, rfl, q0, q1, _, hR3, hG3⟩
      have q1' := q1 (by omega)
      obtain ⟨q, rfl⟩ := Int.eq_ofNat_of_zero_le q0
      have hown3 := own_but HOw.out hG3 (by omega)
      have hG3' := but_trans HGw.out hG3
      clear hG3 hR q1 HOw HGw
      have hql : q < lf := by omega
      have hd0 := hown3.cellAt q (by omega)
      obtain ⟨y, hy⟩ : ∃ y, ys[q]? = some y := ⟨_, List.getElem?_eq_getElem (by rw [HY.out]; exact hql)⟩
      have hyv : (ivs ys)[q]? = some (.int .i64 y) := by simp [ivs, hy]
      have hyr := H3.out y (List.mem_of_getElem? hy)
      rw [hyv] at hd0
      have hy0 := hyr.1
      have hy9 := hyr.2
      have hf0 := hown3.frozenAt q
      have HS := Lib.hid (show ∀ v : Int, (w3.setCell ⟨w.heap.size + 1, q, none⟩ (.int .i64 v)).ownsRow (w.heap.size + 1) 3 1 (.slice (some ⟨w.heap.size + 1, 0, none⟩) lf lf) lf (ivs (ys.set q v)) from fun v => by
        have hst := (hown3.stored q (.int .i64 v)).1
        rw [show (ivs ys).set q (.int .i64 v) = ivs (ys.set q v) by simp [ivs, List.map_set]] at hst
        exact hst)
      have hne : r ≠ w.heap.size + 1 := by omega
      have HRR := Lib.hid (show ∀ v : Int, Rdr (w3.setCell ⟨w.heap.size + 1, q, none⟩ (.int .i64 v)) r A n c xs (p' + 1) from fun v =>
        ⟨hR3.1.far hne _, hR3.2.1.setCell (p := ⟨w.heap.size + 1, _, none⟩) (.inr (by show r ≤ w.heap.size + 1; omega)) _, hR3.2.2⟩)
      have HGG := Lib.hid (show ∀ v : Int, But r w (w3.setCell ⟨w.heap.size + 1, q, none⟩ (.int .i64 v)) from fun v => but_put hG3' (p := ⟨w.heap.size + 1, _, none⟩) (.inr (by show w.heap.size ≤ w.heap.size + 1; omega)) _)
      clear hown3 hyv hy hyr hG3' hR3
      go_wp2
      go_roundw
      case rel => exact ⟨k - 1, ys.set q (min (y + 1) 3), by go_num, by omega, by rw [List.length_set]; exact HY.out, set_range ys q _ H3.out (by omega), HS.out _, ⟨_, HRR.out _, by omega⟩, HGG.out _⟩
      case measure => simp [intOf]; omega
    · have hO := Lib.hid (Rd.of_own hown)
      clear hown
      rcases (show k = 0 ∨ (0 < k ∧ lf = 0) by omega) with rfl | ⟨g1, rfl⟩
      all_goals
        go_wp2_with (fail)
        (with_reducible refine (spoilN_any r A n c xs p' _ _ _ _ _ ys 4 _ hR (by omega) hO.out (Nat.le_refl _) (by omega)).mono ?_)
        rintro e w4 ⟨A', n', c', zs, p2, rfl, hn2, hc2, hm2, hrd, hR4, hp2, hG4⟩
        go_wp2
        go_ret
        exact ⟨A', n', c', zs, p2, rfl, by omega, hc2, hm2, hrd.wide hG.size (Nat.le_refl _), hR4, by omega, but_trans hG hG4⟩
end Go.Proofs.Ytcckmabdflhfmaa


/- The drawing of a process and tokens. (Written by gen/drawmarks.py.) -/
namespace Go.Proofs.Ytcckmabdflhfmaa
open Go.RowKit

/-- A drawn process, and drawn tokens. -/
def DrawPrM (w : World) (e : Ending) (w' : World) : Prop :=
  ∃ An nn cn Af lf cf ns fs A2 n2 c2 ms, e = .returned (.tuple #[.agg #[.slice An nn cn, .slice Af lf cf], .slice A2 n2 c2]) ∧ n2 ≤ 22 ∧ Prs w' w.heap.size w'.heap.size An nn cn Af lf cf ns fs ∧ Rd w' w.heap.size w'.heap.size 1 A2 n2 (ivs ms) ∧ Below w.heap.size w w'
set_option maxRecDepth 100000 in
set_option maxHeartbeats 1600000 in
theorem drawReadyNodes_any (n c : Nat) (A : Option Addr) (xs : List Int) (w : World) (hr : Rd w 0 w.heap.size 1 A n (bvs xs)) (hby : Bytes xs) (hn : n ≤ 1048576) (hc : n ≤ c) (hc2 : c ≤ 9223372036854775807) :
    Calls Try.prog 33 #[.slice A n c] w (DrawPrM w) := by
  have hb0 := up_alloc (Below.refl _ w) (.cells #[.slice none 0 0, .slice none 0 0] 33)
  have hq0 := Blk.new w 33 #[.slice none 0 0, .slice none 0 0]
  have HR := Lib.hid ((hr.keep hb0 (Nat.le_refl _)).wide (Nat.le_refl _) hb0.size)
  have hs0 : (w.alloc (.cells #[.slice none 0 0, .slice none 0 0] 33)).heap.size = w.heap.size + 1 := by simp
  go_enter Try.func33, Try.ntmps33
  go_wp2_with (fail)
  (with_reducible refine (newReader_any n c A xs _ HR.out hby hn hc hc2).mono ?_)
  rintro e w1 ⟨r, n', c', xs', rfl, hrw, hR1, hb1⟩
  rw [hs0] at hrw
  have hq1 := hq0.below hb1 (by omega)
  have hb01 := up hb0 hb1
  have hs1 := hb1.size
  rw [hs0] at hs1
  have hrl := hR1.lt
  clear hq0 hb0 hb1 HR hr
  go_wp2_with (fail)
  (with_reducible refine (anyProcess_any r A n' c' xs' 0 w1 hR1 (by omega)).mono ?_)
  rintro e w2 hD
  obtain ⟨An, nn, cn, Af, lf, cf, ns, fs, p', rfl, hP, hR2, hp2, hG⟩ := hD.prs
  clear hD
  have hs2 := hG.size
  have hrl2 := hR2.lt
  have hf21 := hP.f21
  have hX := up_drew (up_alloc (Below.refl _ w2) (.cells #[.slice An nn cn, .slice Af lf cf] 33))
  have hq2 := (hq1.but hG (by omega)).below hX (by omega)
  have hZ2 := (Blk.new w2 33 #[.slice An nn cn, .slice Af lf cf]).drew
  have hp0 := hR2.2.2.2.2
  have hb2 : Below w.heap.size w w2 := hb01.grown hG hb01.size (fun k e => by injection e with e; omega)
  have HB2 := Lib.hid (up hb2 hX)
  have HP := Lib.hid (hP.keep hX (Nat.le_refl _))
  have HC := Lib.hid (anyMarks_any r A n' c' xs' p' An nn cn Af lf cf _ (hR2.below hX) (by omega) hf21)
  have HQ := Lib.hid hq2
  have HZ := Lib.hid hZ2
  have hsx : ((w2.alloc (.cells #[.slice An nn cn, .slice Af lf cf] 33)).drew).heap.size = w2.heap.size + 1 := by simp [World.drew]
  clear hP hb2 hX hq2 hq1 hb01 hG hR2 hZ2 hR1
  go_wp2_with (fail)
  go_region_law (go_simp; go_at_call 70; (with_reducible refine HC.out.mono ?_); rintro e w3 ⟨A2, n2, c2, ms, p3, rfl, hn2, _, _, hrd, _, _, hG3⟩
                 have hq3 := HQ.out.but hG3 (by omega)
                 have hz3 := HZ.out.but hG3 (by omega)
                 have j0 : w3.cell? ⟨w2.heap.size, 0, none⟩ = some (.slice An nn cn) := hz3.cell 0
                 have j1 : w3.cell? ⟨w2.heap.size, 1, none⟩ = some (.slice Af lf cf) := hz3.cell 1
                 have r0 : w3.cell? ⟨w.heap.size, 0, none⟩ = some (.slice none 0 0) := hq3.cell 0
                 have r1 : w3.cell? ⟨w.heap.size, 1, none⟩ = some (.slice none 0 0) := hq3.cell 1
                 have q0 := hq3.soft 0
                 have q1 := hq3.soft 1
                 have HQ3 := Lib.hid hq3
                 have HG3 := Lib.hid hG3
                 have HRD := Lib.hid hrd
                 clear hq3 hz3 hG3 hrd)
  all_goals
    have hZ := (HQ3.out.put 0 (.slice An nn cn)).put 1 (.slice Af lf cf)
    have b0 := hZ.cell 0
    have b1 := hZ.cell 1
    simp at b0 b1
    have hP3 := HP.out.far HG3.out (by rw [hsx]; omega) (fun k e => by injection e with e; omega)
    have hs3 := HG3.out.size
    rw [hsx] at hs3
    have HPF := Lib.hid (((hP3.set (p := ⟨w.heap.size, 0, none⟩) (.inl (by show w.heap.size < w1.heap.size; omega)) (.slice An nn cn)).set (p := ⟨w.heap.size, 1, none⟩) (.inl (by show w.heap.size < w1.heap.size; omega)) (.slice Af lf cf)).wide (show w.heap.size ≤ w1.heap.size by omega) (show w2.heap.size ≤ ((w3.setCell ⟨w.heap.size, 0, none⟩ (.slice An nn cn)).setCell ⟨w.heap.size, 1, none⟩ (.slice Af lf cf)).heap.size by simp [World.setCell]; omega))
    have hb3 : Below w.heap.size w w3 := HB2.out.grown HG3.out HB2.out.size (fun k e => by injection e with e; omega)
    have hrd := HRD.out
    rw [hsx] at hrd
    have HRF := Lib.hid (((hrd.setCell (p := ⟨w.heap.size, 0, none⟩) (.inl (by show w.heap.size < w2.heap.size + 1; omega)) (.slice An nn cn)).setCell (p := ⟨w.heap.size, 1, none⟩) (.inl (by show w.heap.size < w2.heap.size + 1; omega)) (.slice Af lf cf)).wide (show w.heap.size ≤ w2.heap.size + 1 by omega) (show w3.heap.size ≤ ((w3.setCell ⟨w.heap.size, 0, none⟩ (.slice An nn cn)).setCell ⟨w.heap.size, 1, none⟩ (.slice Af lf cf)).heap.size by simp [World.setCell]))
    clear hrd
    have HB := Lib.hid ((hb3.setCell (p := ⟨w.heap.size, 0, none⟩) (Nat.le_refl _) (.slice An nn cn)).setCell (p := ⟨w.heap.size, 1, none⟩) (Nat.le_refl _) (.slice Af lf cf))
    clear hZ hP3 hb3 HC HQ HZ HB2 HP j0 j1
    go_wp2
    exact bodyPost_ret (v := .tuple #[.agg #[.slice An nn cn, .slice Af lf cf], .slice A2 n2 c2]) (by simp [results, Try.results33, go_sem, b0, b1]) rfl ⟨An, nn, cn, Af, lf, cf, ns, fs, A2, n2, c2, ms, rfl, by omega, HPF.out, HRF.out, HB.out⟩
set_option maxRecDepth 100000 in
set_option maxHeartbeats 1600000 in
theorem drawTokenCount_any (n c : Nat) (A : Option Addr) (xs : List Int) (w : World) (hr : Rd w 0 w.heap.size 1 A n (bvs xs)) (hby : Bytes xs) (hn : n ≤ 1048576) (hc : n ≤ c) (hc2 : c ≤ 9223372036854775807) :
    Calls Try.prog 44 #[.slice A n c] w (DrawPrM w) := by
  have hb0 := up_alloc (Below.refl _ w) (.cells #[.slice none 0 0, .slice none 0 0] 33)
  have hq0 := Blk.new w 33 #[.slice none 0 0, .slice none 0 0]
  have HR := Lib.hid ((hr.keep hb0 (Nat.le_refl _)).wide (Nat.le_refl _) hb0.size)
  have hs0 : (w.alloc (.cells #[.slice none 0 0, .slice none 0 0] 33)).heap.size = w.heap.size + 1 := by simp
  go_enter Try.func44, Try.ntmps44
  go_wp2_with (fail)
  (with_reducible refine (drawReadyNodes_any n c A xs _ HR.out hby hn hc hc2).mono ?_)
  rintro e w2 ⟨An, nn, cn, Af, lf, cf, ns, fs, A2, n2, c2, ms, rfl, hn2, hP, hrd, hb1⟩
  have hb2 := up hb0 hb1
  have hq2 := hq0.below hb1 (by omega)
  have hs1 := hb1.size
  rw [hs0] at hs1
  have r0 : w2.cell? ⟨w.heap.size, 0, none⟩ = some (.slice none 0 0) := hq2.cell 0
  have r1 : w2.cell? ⟨w.heap.size, 1, none⟩ = some (.slice none 0 0) := hq2.cell 1
  have q0 := hq2.soft 0
  have q1 := hq2.soft 1
  have hZ := (hq2.put 0 (.slice An nn cn)).put 1 (.slice Af lf cf)
  have b0 := hZ.cell 0
  have b1 := hZ.cell 1
  simp at b0 b1
  have hP' : Prs w2 (w.heap.size + 1) w2.heap.size An nn cn Af lf cf ns fs := by rw [hs0] at hP; exact hP
  have HPF := Lib.hid (((hP'.set (p := ⟨w.heap.size, 0, none⟩) (.inl (by show w.heap.size < w.heap.size + 1; omega)) (.slice An nn cn)).set (p := ⟨w.heap.size, 1, none⟩) (.inl (by show w.heap.size < w.heap.size + 1; omega)) (.slice Af lf cf)).wide (show w.heap.size ≤ w.heap.size + 1 by omega) (show w2.heap.size ≤ ((w2.setCell ⟨w.heap.size, 0, none⟩ (.slice An nn cn)).setCell ⟨w.heap.size, 1, none⟩ (.slice Af lf cf)).heap.size by simp [World.setCell]))
  rw [hs0] at hrd
  have HRF := Lib.hid (((hrd.setCell (p := ⟨w.heap.size, 0, none⟩) (.inl (by show w.heap.size < w.heap.size + 1; omega)) (.slice An nn cn)).setCell (p := ⟨w.heap.size, 1, none⟩) (.inl (by show w.heap.size < w.heap.size + 1; omega)) (.slice Af lf cf)).wide (show w.heap.size ≤ w.heap.size + 1 by omega) (show w2.heap.size ≤ ((w2.setCell ⟨w.heap.size, 0, none⟩ (.slice An nn cn)).setCell ⟨w.heap.size, 1, none⟩ (.slice Af lf cf)).heap.size by simp [World.setCell]))
  clear hrd
  have HB := Lib.hid ((hb2.setCell (p := ⟨w.heap.size, 0, none⟩) (Nat.le_refl _) (.slice An nn cn)).setCell (p := ⟨w.heap.size, 1, none⟩) (Nat.le_refl _) (.slice Af lf cf))
  clear hP hP' hb2 hZ hq2 hq0 hb1 hb0 HR hr
  go_wp2
  exact bodyPost_ret (v := .tuple #[.agg #[.slice An nn cn, .slice Af lf cf], .slice A2 n2 c2]) (by simp [results, Try.results44, go_sem, b0, b1]) rfl ⟨An, nn, cn, Af, lf, cf, ns, fs, A2, n2, c2, ms, rfl, hn2, HPF.out, HRF.out, HB.out⟩
end Go.Proofs.Ytcckmabdflhfmaa

