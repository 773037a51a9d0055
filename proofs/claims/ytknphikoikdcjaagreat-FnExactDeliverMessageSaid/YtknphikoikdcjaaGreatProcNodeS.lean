/- spec.validNode. -/
import Derived.Test.YtknphikoikdcjaaGreatProcSpecA
set_option linter.unusedSimpArgs false
set_option linter.unusedVariables false
namespace Go.Proofs.YtknphikoikdcjaaGreat
open Go.RowKit

def NodeP (fs : List Flw) (k : Nat) (kd vl : Int) (w : World) (e : Ending) (w' : World) : Prop := e = .returned (.bool (vNode kd vl (flOf fs false k).length (flOf fs true k).length)) ∧ Below w.heap.size w w'

set_option maxRecDepth 100000 in
set_option maxHeartbeats 1600000 in
theorem validNodeS_any (lo hi nn cn : Nat) (An : Option Addr) (ns : List (Int × Int)) (lo' hi' n c : Nat) (A : Option Addr) (fs : List Flw) (k : Nat) (kd vl : Int) (w : World) (hrn : Rd w lo hi 2 An nn (pvs ns)) (hB : hi ≤ w.heap.size) (_hnn : nn ≤ 1048576)
    (hr : Fls w lo' hi' A n fs) (hB' : hi' ≤ w.heap.size) (hn : n ≤ 1048576) (hk : k < nn) (hg : ns[k]? = some (kd, vl)) :
    Calls Tryz.prog 143 #[.agg #[.slice An nn cn, .slice A n c], .int .i64 (k : Int)] w (NodeP fs k kd vl w) := by
  obtain ⟨b, off, kd', vl', rfl, hbB, _, hg', hc0, hc1⟩ := hrn.pair hk
  rw [hg] at hg'
  injection hg' with hg'
  injection hg' with e1 e2
  subst e1; subst e2
  have hbw : b < w.heap.size := by omega
  have hk4 : (k : Int) < (nn : Int) := by omega
  have Hg := Lib.hid hg
  clear hg
  go_enter Tryz.func143, Tryz.ntmps143
  have hli := Nat.le_trans (flUp_le fs false (k : Int) fs.length) (Nat.le_of_eq hr.1)
  have hlo := Nat.le_trans (flUp_le fs true (k : Int) fs.length) (Nat.le_of_eq hr.1)
  rw [show flUp fs false (k : Int) fs.length = flOf fs false (k : Int) from rfl] at hli
  rw [show flUp fs true (k : Int) fs.length = flOf fs true (k : Int) from rfl] at hlo
  have hli := Nat.le_trans (flUp_le fs false (k : Int) fs.length) (Nat.le_of_eq hr.1)
  have hlo := Nat.le_trans (flUp_le fs true (k : Int) fs.length) (Nat.le_of_eq hr.1)
  rw [show flUp fs false (k : Int) fs.length = flOf fs false (k : Int) from rfl] at hli
  rw [show flUp fs true (k : Int) fs.length = flOf fs true (k : Int) from rfl] at hlo
  have hli := Nat.le_trans (flUp_le fs false (k : Int) fs.length) (Nat.le_of_eq hr.1)
  have hlo := Nat.le_trans (flUp_le fs true (k : Int) fs.length) (Nat.le_of_eq hr.1)
  rw [show flUp fs false (k : Int) fs.length = flOf fs false (k : Int) from rfl] at hli
  rw [show flUp fs true (k : Int) fs.length = flOf fs true (k : Int) from rfl] at hlo
  go_wp2_with (fail)
  have hb1 := up_alloc (up_alloc (Below.refl _ w) (.cells #[.slice (some ⟨b, off, none⟩) nn cn, .slice A n c] 40)) (.cells #[.int .i64 kd, .int .i64 vl] 137)
  have hbn : Blk ((w.alloc (.cells #[.slice (some ⟨b, off, none⟩) nn cn, .slice A n c] 40)).alloc (.cells #[.int .i64 kd, .int .i64 vl] 137)) (w.heap.size + 1) 137 #[.int .i64 kd, .int .i64 vl] := by
    have := Blk.new (w.alloc (.cells #[.slice (some ⟨b, off, none⟩) nn cn, .slice A n c] 40)) 137 #[.int .i64 kd, .int .i64 vl]
    rw [show (w.alloc (.cells #[.slice (some ⟨b, off, none⟩) nn cn, .slice A n c] 40)).heap.size = w.heap.size + 1 by simp] at this
    exact this
  have hbp := (Blk.new w 40 #[.slice (some ⟨b, off, none⟩) nn cn, .slice A n c]).alloc (.cells #[.int .i64 kd, .int .i64 vl] 137)
  have hr1 := hr.keep hb1 hB'
  have hs1 := hbn.lt
  (with_reducible refine (flowsOf_any lo' hi' n c A _ fs (k : Int) false _ hr1 (by simp; omega) hn).mono ?_)
  rintro e w2 ⟨A2, c2, rfl, _, _, _, hb2⟩
  have hsz1 := hb1.size
  have hr2 := hr1.keep hb2 (by omega)
  have hbn2 := hbn.below hb2 hs1
  have hbp2 := hbp.below hb2 (by omega)
  have hsz2 := hb2.size
  have hb02 := up hb1 hb2
  clear hb1 hb2 hbn hbp hr1 hs1
  have hs2 := hbn2.lt
  have hd0 : w2.cell? ⟨w.heap.size, 0, none⟩ = some (.slice (some ⟨b, off, none⟩) nn cn) := hbp2.cell 0
  have hd1 : w2.cell? ⟨w.heap.size, 1, none⟩ = some (.slice A n c) := hbp2.cell 1
  generalize hi : (flOf fs false (k : Int)).length = i at hli
  have Hi := Lib.hid hi
  clear hi
  go_wp2_with (fail)
  (with_reducible refine (flowsOf_any lo' hi' n c A _ fs (k : Int) true w2 hr2 (by omega) hn).mono ?_)
  rintro e w3 ⟨A3, c3, rfl, _, _, _, hb3⟩
  have hbn3 := hbn2.below hb3 hs2
  have hb03 := up hb02 hb3
  have hs3 := hbn3.lt
  clear hbn2 hbp2 hb02 hb3 hd0 hd1 hr2
  have he0 : w3.cell? ⟨w.heap.size + 1, 0, none⟩ = some (.int .i64 kd) := hbn3.cell 0
  have he1 : w3.cell? ⟨w.heap.size + 1, 1, none⟩ = some (.int .i64 vl) := hbn3.cell 1
  generalize ho : (flOf fs true (k : Int)).length = o at hlo
  have Ho := Lib.hid ho
  clear ho
  have HB := Lib.hid hb03
  clear hbn3 hb03 hsz1 hsz2 hc0 hc1
  by_cases h0 : kd = 0
  · subst h0
    by_cases hz : vl = 0
    · have hz1 : (vl != 0) = false := by simpa using hz
      by_cases hp : (i : Int) = 0
      · by_cases hq : (o : Int) = 1
        · have hv := Lib.hid (show vNode 0 vl i o = true by simp [vNode, vVal, vKind, hz, hp, hq] <;> (intros; omega))
          have hp1 : ((i : Int) == 0) = true := by simpa using hp
          have hq1 : ((o : Int) == 1) = true := by simpa using hq
          clear hz hp hq
          go_wp2
          go_ret
          exact ⟨ret_bool (by rw [Hi.out, Ho.out]; exact hv.out.symm), HB.out⟩
        · have hv := Lib.hid (show vNode 0 vl i o = false by simp [vNode, vVal, vKind, hz, hp, hq] <;> (intros; omega))
          have hp1 : ((i : Int) == 0) = true := by simpa using hp
          have hq1 : ((o : Int) == 1) = false := by simpa using hq
          clear hz hp hq
          go_wp2
          go_ret
          exact ⟨ret_bool (by rw [Hi.out, Ho.out]; exact hv.out.symm), HB.out⟩
      · have hv := Lib.hid (show vNode 0 vl i o = false by simp [vNode, vVal, vKind, hz] <;> (intros; omega))
        have hp1 : ((i : Int) == 0) = false := by simpa using hp
        clear hz hp
        go_wp2
        go_ret
        exact ⟨ret_bool (by rw [Hi.out, Ho.out]; exact hv.out.symm), HB.out⟩
    · have hv := Lib.hid (show vNode 0 vl i o = false by simp [vNode, vVal, vKind, hz])
      have hz1 : (vl != 0) = true := by simpa using hz
      clear hz
      go_wp2
      go_ret
      exact ⟨ret_bool (by rw [Hi.out, Ho.out]; exact hv.out.symm), HB.out⟩
  by_cases h1 : kd = 1
  · subst h1
    by_cases hz : vl = 0
    · have hz1 : (vl != 0) = false := by simpa using hz
      by_cases hp : (i : Int) = 1
      · by_cases hq : (o : Int) = 0
        · have hv := Lib.hid (show vNode 1 vl i o = true by simp [vNode, vVal, vKind, hz, hp, hq] <;> (intros; omega))
          have hp1 : ((i : Int) == 1) = true := by simpa using hp
          have hq1 : ((o : Int) == 0) = true := by simpa using hq
          clear hz hp hq
          go_wp2
          go_ret
          exact ⟨ret_bool (by rw [Hi.out, Ho.out]; exact hv.out.symm), HB.out⟩
        · have hv := Lib.hid (show vNode 1 vl i o = false by simp [vNode, vVal, vKind, hz, hp] <;> (intros; omega))
          have hp1 : ((i : Int) == 1) = true := by simpa using hp
          have hq1 : ((o : Int) == 0) = false := by simpa using hq
          clear hz hp hq
          go_wp2
          go_ret
          exact ⟨ret_bool (by rw [Hi.out, Ho.out]; exact hv.out.symm), HB.out⟩
      · have hv := Lib.hid (show vNode 1 vl i o = false by simp [vNode, vVal, vKind, hz, hp] <;> (intros; omega))
        have hp1 : ((i : Int) == 1) = false := by simpa using hp
        clear hz hp
        go_wp2
        go_ret
        exact ⟨ret_bool (by rw [Hi.out, Ho.out]; exact hv.out.symm), HB.out⟩
    · have hv := Lib.hid (show vNode 1 vl i o = false by simp [vNode, vVal, vKind, hz])
      have hz1 : (vl != 0) = true := by simpa using hz
      clear hz
      go_wp2
      go_ret
      exact ⟨ret_bool (by rw [Hi.out, Ho.out]; exact hv.out.symm), HB.out⟩
  by_cases h2 : kd = 2
  · subst h2
    by_cases hz : vl = 0
    · have hz1 : (vl != 0) = false := by simpa using hz
      by_cases hp : (i : Int) = 1
      · by_cases hq : (o : Int) = 1
        · have hv := Lib.hid (show vNode 2 vl i o = true by simp [vNode, vVal, vKind, hz, hp, hq] <;> (intros; omega))
          have hp1 : ((i : Int) == 1) = true := by simpa using hp
          have hq1 : ((o : Int) == 1) = true := by simpa using hq
          clear hz hp hq
          go_wp2
          go_ret
          exact ⟨ret_bool (by rw [Hi.out, Ho.out]; exact hv.out.symm), HB.out⟩
        · have hv := Lib.hid (show vNode 2 vl i o = false by simp [vNode, vVal, vKind, hz, hp, hq] <;> (intros; omega))
          have hp1 : ((i : Int) == 1) = true := by simpa using hp
          have hq1 : ((o : Int) == 1) = false := by simpa using hq
          clear hz hp hq
          go_wp2
          go_ret
          exact ⟨ret_bool (by rw [Hi.out, Ho.out]; exact hv.out.symm), HB.out⟩
      · have hv := Lib.hid (show vNode 2 vl i o = false by simp [vNode, vVal, vKind, hz, hp] <;> (intros; omega))
        have hp1 : ((i : Int) == 1) = false := by simpa using hp
        clear hz hp
        go_wp2
        go_ret
        exact ⟨ret_bool (by rw [Hi.out, Ho.out]; exact hv.out.symm), HB.out⟩
    · have hv := Lib.hid (show vNode 2 vl i o = false by simp [vNode, vVal, vKind, hz])
      have hz1 : (vl != 0) = true := by simpa using hz
      clear hz
      go_wp2
      go_ret
      exact ⟨ret_bool (by rw [Hi.out, Ho.out]; exact hv.out.symm), HB.out⟩
  by_cases h3 : kd = 3
  · subst h3
    by_cases hp : (i : Int) = 1
    · by_cases hq : (o : Int) = 1
      · have hv := Lib.hid (show vNode 3 vl i o = inR vl 1 100 by simp [vNode, vVal, vKind, hp, hq])
        have hp1 : ((i : Int) == 1) = true := by simpa using hp
        have hq1 : ((o : Int) == 1) = true := by simpa using hq
        clear hp hq
        go_wp2_with (go_at_call 101; refine (inRange_any _ _ _ _).mono ?_; rintro e w' ⟨rfl, rfl⟩)
        go_ret
        exact ⟨ret_bool (by rw [Hi.out, Ho.out]; exact hv.out.symm), HB.out⟩
      · have hv := Lib.hid (show vNode 3 vl i o = false by simp [vNode, vVal, vKind, hp, hq])
        have hp1 : ((i : Int) == 1) = true := by simpa using hp
        have hq1 : ((o : Int) == 1) = false := by simpa using hq
        clear hp hq
        go_wp2
        go_ret
        exact ⟨ret_bool (by rw [Hi.out, Ho.out]; exact hv.out.symm), HB.out⟩
    · have hv := Lib.hid (show vNode 3 vl i o = false by simp [vNode, vVal, vKind, hp])
      have hp1 : ((i : Int) == 1) = false := by simpa using hp
      clear hp
      go_wp2
      go_ret
      exact ⟨ret_bool (by rw [Hi.out, Ho.out]; exact hv.out.symm), HB.out⟩
  by_cases h4 : kd = 4
  · subst h4
    by_cases hp : (i : Int) = 1
    · by_cases hq : (o : Int) = 1
      · have hv := Lib.hid (show vNode 4 vl i o = inR vl 0 9 by simp [vNode, vVal, vKind, hp, hq])
        have hp1 : ((i : Int) == 1) = true := by simpa using hp
        have hq1 : ((o : Int) == 1) = true := by simpa using hq
        clear hp hq
        go_wp2_with (go_at_call 101; refine (inRange_any _ _ _ _).mono ?_; rintro e w' ⟨rfl, rfl⟩)
        go_ret
        exact ⟨ret_bool (by rw [Hi.out, Ho.out]; exact hv.out.symm), HB.out⟩
      · have hv := Lib.hid (show vNode 4 vl i o = false by simp [vNode, vVal, vKind, hp, hq])
        have hp1 : ((i : Int) == 1) = true := by simpa using hp
        have hq1 : ((o : Int) == 1) = false := by simpa using hq
        clear hp hq
        go_wp2
        go_ret
        exact ⟨ret_bool (by rw [Hi.out, Ho.out]; exact hv.out.symm), HB.out⟩
    · have hv := Lib.hid (show vNode 4 vl i o = false by simp [vNode, vVal, vKind, hp])
      have hp1 : ((i : Int) == 1) = false := by simpa using hp
      clear hp
      go_wp2
      go_ret
      exact ⟨ret_bool (by rw [Hi.out, Ho.out]; exact hv.out.symm), HB.out⟩
  by_cases h5 : kd = 5
  · subst h5
    by_cases hz : vl = 0
    · have hz1 : (vl != 0) = false := by simpa using hz
      by_cases hp : (i : Int) = 1
      · by_cases hq : (2 : Int) ≤ o
        · have hv := Lib.hid (show vNode 5 vl i o = true by simp [vNode, vVal, vKind, hz, hp, hq] <;> (intros; omega))
          have hp1 : ((i : Int) == 1) = true := by simpa using hp
          have hq1 : decide ((2 : Int) ≤ o) = true := by simpa using hq
          clear hz hp hq
          go_wp2
          go_ret
          exact ⟨ret_bool (by rw [Hi.out, Ho.out]; exact hv.out.symm), HB.out⟩
        · have hv := Lib.hid (show vNode 5 vl i o = false by simp [vNode, vVal, vKind, hz, hp, hq] <;> (intros; omega))
          have hp1 : ((i : Int) == 1) = true := by simpa using hp
          have hq1 : decide ((2 : Int) ≤ o) = false := by simpa using hq
          clear hz hp hq
          go_wp2
          go_ret
          exact ⟨ret_bool (by rw [Hi.out, Ho.out]; exact hv.out.symm), HB.out⟩
      · have hv := Lib.hid (show vNode 5 vl i o = false by simp [vNode, vVal, vKind, hz, hp] <;> (intros; omega))
        have hp1 : ((i : Int) == 1) = false := by simpa using hp
        clear hz hp
        go_wp2
        go_ret
        exact ⟨ret_bool (by rw [Hi.out, Ho.out]; exact hv.out.symm), HB.out⟩
    · have hv := Lib.hid (show vNode 5 vl i o = false by simp [vNode, vVal, vKind, hz])
      have hz1 : (vl != 0) = true := by simpa using hz
      clear hz
      go_wp2
      go_ret
      exact ⟨ret_bool (by rw [Hi.out, Ho.out]; exact hv.out.symm), HB.out⟩
  by_cases h6 : kd = 6
  · subst h6
    by_cases hz : vl = 0
    · have hz1 : (vl != 0) = false := by simpa using hz
      by_cases hp : (i : Int) = 1
      · by_cases hq : (2 : Int) ≤ o
        · have hv := Lib.hid (show vNode 6 vl i o = true by simp [vNode, vVal, vKind, hz, hp, hq] <;> (intros; omega))
          have hp1 : ((i : Int) == 1) = true := by simpa using hp
          have hq1 : decide ((2 : Int) ≤ o) = true := by simpa using hq
          clear hz hp hq
          go_wp2
          go_ret
          exact ⟨ret_bool (by rw [Hi.out, Ho.out]; exact hv.out.symm), HB.out⟩
        · have hv := Lib.hid (show vNode 6 vl i o = false by simp [vNode, vVal, vKind, hz, hp, hq] <;> (intros; omega))
          have hp1 : ((i : Int) == 1) = true := by simpa using hp
          have hq1 : decide ((2 : Int) ≤ o) = false := by simpa using hq
          clear hz hp hq
          go_wp2
          go_ret
          exact ⟨ret_bool (by rw [Hi.out, Ho.out]; exact hv.out.symm), HB.out⟩
      · have hv := Lib.hid (show vNode 6 vl i o = false by simp [vNode, vVal, vKind, hz, hp] <;> (intros; omega))
        have hp1 : ((i : Int) == 1) = false := by simpa using hp
        clear hz hp
        go_wp2
        go_ret
        exact ⟨ret_bool (by rw [Hi.out, Ho.out]; exact hv.out.symm), HB.out⟩
    · have hv := Lib.hid (show vNode 6 vl i o = false by simp [vNode, vVal, vKind, hz])
      have hz1 : (vl != 0) = true := by simpa using hz
      clear hz
      go_wp2
      go_ret
      exact ⟨ret_bool (by rw [Hi.out, Ho.out]; exact hv.out.symm), HB.out⟩
  by_cases h7 : kd = 7
  · subst h7
    by_cases hz : vl = 0
    · have hz1 : (vl != 0) = false := by simpa using hz
      by_cases hp : (2 : Int) ≤ i
      · by_cases hq : (o : Int) = 1
        · have hv := Lib.hid (show vNode 7 vl i o = true by simp [vNode, vVal, vKind, hz, hp, hq] <;> (intros; omega))
          have hp1 : decide ((2 : Int) ≤ i) = true := by simpa using hp
          have hq1 : ((o : Int) == 1) = true := by simpa using hq
          clear hz hp hq
          go_wp2
          go_ret
          exact ⟨ret_bool (by rw [Hi.out, Ho.out]; exact hv.out.symm), HB.out⟩
        · have hv := Lib.hid (show vNode 7 vl i o = false by simp [vNode, vVal, vKind, hz, hp, hq] <;> (intros; omega))
          have hp1 : decide ((2 : Int) ≤ i) = true := by simpa using hp
          have hq1 : ((o : Int) == 1) = false := by simpa using hq
          clear hz hp hq
          go_wp2
          go_ret
          exact ⟨ret_bool (by rw [Hi.out, Ho.out]; exact hv.out.symm), HB.out⟩
      · have hv := Lib.hid (show vNode 7 vl i o = false by simp [vNode, vVal, vKind, hz, hp] <;> (intros; omega))
        have hp1 : decide ((2 : Int) ≤ i) = false := by simpa using hp
        clear hz hp
        go_wp2
        go_ret
        exact ⟨ret_bool (by rw [Hi.out, Ho.out]; exact hv.out.symm), HB.out⟩
    · have hv := Lib.hid (show vNode 7 vl i o = false by simp [vNode, vVal, vKind, hz])
      have hz1 : (vl != 0) = true := by simpa using hz
      clear hz
      go_wp2
      go_ret
      exact ⟨ret_bool (by rw [Hi.out, Ho.out]; exact hv.out.symm), HB.out⟩
  by_cases h8 : kd = 8
  · subst h8
    by_cases hz : vl = 0
    · have hz1 : (vl != 0) = false := by simpa using hz
      by_cases hp : (2 : Int) ≤ i
      · by_cases hq : (o : Int) = 1
        · have hv := Lib.hid (show vNode 8 vl i o = true by simp [vNode, vVal, vKind, hz, hp, hq] <;> (intros; omega))
          have hp1 : decide ((2 : Int) ≤ i) = true := by simpa using hp
          have hq1 : ((o : Int) == 1) = true := by simpa using hq
          clear hz hp hq
          go_wp2
          go_ret
          exact ⟨ret_bool (by rw [Hi.out, Ho.out]; exact hv.out.symm), HB.out⟩
        · have hv := Lib.hid (show vNode 8 vl i o = false by simp [vNode, vVal, vKind, hz, hp, hq] <;> (intros; omega))
          have hp1 : decide ((2 : Int) ≤ i) = true := by simpa using hp
          have hq1 : ((o : Int) == 1) = false := by simpa using hq
          clear hz hp hq
          go_wp2
          go_ret
          exact ⟨ret_bool (by rw [Hi.out, Ho.out]; exact hv.out.symm), HB.out⟩
      · have hv := Lib.hid (show vNode 8 vl i o = false by simp [vNode, vVal, vKind, hz, hp] <;> (intros; omega))
        have hp1 : decide ((2 : Int) ≤ i) = false := by simpa using hp
        clear hz hp
        go_wp2
        go_ret
        exact ⟨ret_bool (by rw [Hi.out, Ho.out]; exact hv.out.symm), HB.out⟩
    · have hv := Lib.hid (show vNode 8 vl i o = false by simp [vNode, vVal, vKind, hz])
      have hz1 : (vl != 0) = true := by simpa using hz
      clear hz
      go_wp2
      go_ret
      exact ⟨ret_bool (by rw [Hi.out, Ho.out]; exact hv.out.symm), HB.out⟩
  have hv := Lib.hid (show vNode kd vl i o = false by simp [vNode, vKind, h0, h1, h2, h3, h4, h5, h6, h7, h8])
  have g0 : (kd == 0) = false := by simpa using h0
  have g1 : (kd == 1) = false := by simpa using h1
  have g2 : (kd == 2) = false := by simpa using h2
  have g3 : (kd == 3) = false := by simpa using h3
  have g4 : (kd == 4) = false := by simpa using h4
  have g5 : (kd == 5) = false := by simpa using h5
  have g6 : (kd == 6) = false := by simpa using h6
  have g7 : (kd == 7) = false := by simpa using h7
  have g8 : (kd == 8) = false := by simpa using h8
  have gg3 : (kd != 3) = true := by simpa using h3
  have gg4 : (kd != 4) = true := by simpa using h4
  clear h0 h1 h2 h3 h4 h5 h6 h7 h8
  by_cases hz : vl = 0
  · have hz1 : (vl != 0) = false := by simpa using hz
    clear hz
    go_wp2
    go_ret
    exact ⟨ret_bool (by rw [Hi.out, Ho.out]; exact hv.out.symm), HB.out⟩
  · have hz1 : (vl != 0) = true := by simpa using hz
    clear hz
    go_wp2
    go_ret
    exact ⟨ret_bool (by rw [Hi.out, Ho.out]; exact hv.out.symm), HB.out⟩
end Go.Proofs.YtknphikoikdcjaaGreat
