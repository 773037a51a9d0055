/- The exact laws' helpers: marks and what is held; ints. -/
import Derived.Test.YtknphikoikdcjaaGreatRows
import Derived.Test.YtknphikoikdcjaaGreatBase
import Derived.BigQuiet
import Derived.Deep.QuietTactic
import Derived.WalkLawsBesides
set_option linter.unusedSimpArgs false
set_option linter.unusedVariables false
namespace Go.Proofs.YtknphikoikdcjaaGreat
open Go.RowKit

theorem infoIntX : (Tryz.prog.info? 3).map (fun i => (i.zero, i.size, i.bytes)) = some (some (.int .i64 0), 1, 8) := by kernel_rfl

theorem Rd.store {w : World} {lo hi size n : Nat} {b off : Nat} {xs : List Value} (h : Rd w lo hi size (some ⟨b, off, none⟩) n xs) (j : Nat) (hj : j < n * size) (u : Value) : Rd (w.setCell ⟨b, off + j, none⟩ u) lo hi size (some ⟨b, off, none⟩) n (xs.set j u) := by
  refine ⟨by rw [List.length_set]; exact h.1, fun hn => ?_⟩
  obtain ⟨b', off', e, h1, h2, hc⟩ := h.2 hn
  injection e with e; injection e with e1 e2
  subst e1; subst e2
  refine ⟨b, off, rfl, h1, h2, fun i v hv => ?_⟩
  have hjl : j < xs.length := by rw [h.1]; exact hj
  by_cases hij : i = j
  · subst hij
    rw [List.getElem?_set_self hjl] at hv
    rw [← Option.some.inj hv]
    exact World.cell?_setCell_same w _ _ (hc i _ (List.getElem?_eq_getElem hjl))
  · rw [List.getElem?_set_ne (fun e => hij e.symm)] at hv
    rw [World.cell?_setCell_other w _ _ _ (fun e => hij (by injection e with _ e; omega))]
    exact hc i v hv
theorem Soft.store {w : World} {size n : Nat} {A : Option Addr} (h : Soft w size A n) (p : Addr) (u : Value) : Soft (w.setCell p u) size A n := fun b off e j hj => by
  rw [World.frozen?_setCell]; exact h b off e j hj
/-- Of what was there only the block of the slice may have changed, and nothing if the slice is empty. -/
abbrev In (A : Option Addr) (n : Nat) (w w' : World) : Prop := w.grownBy w' (if n = 0 then none else A.map (·.block))
theorem in_refl (A : Option Addr) (n : Nat) (w : World) : In A n w w := World.grownBy.refl w _
theorem in_store {b off n : Nat} {a w : World} (h : In (some ⟨b, off, none⟩) n a w) (hn : 0 < n) (i : Nat) (u : Value) : In (some ⟨b, off, none⟩) n a (w.setCell ⟨b, i, none⟩ u) := by
  have hne0 : ¬ n = 0 := by omega
  unfold In at *
  rw [if_neg hne0] at *
  exact ⟨h.os, h.tape, h.output, by simpa [World.setCell] using h.size, fun k hk hne => (Below.heap_setCell w _ u k (fun e => hne (by rw [e]; rfl))).trans (h.block k hk hne)⟩
theorem in_row {w : World} {lo hi size n : Nat} {A : Option Addr} {xs : List Value} (hA : Rd w lo hi size A n xs) : ∀ g, (if n = 0 then none else A.map (·.block)) = some g → lo ≤ g ∧ g < hi := by
  intro g e
  rcases Nat.eq_zero_or_pos n with h0 | h0
  · rw [if_pos h0] at e; cases e
  · rw [if_neg (by omega)] at e
    obtain ⟨b, off, rfl, h1, h2⟩ := hA.form h0
    simp at e
    omega
/-- Another slice reads as it did. -/
theorem Rd.other {w w' : World} {lo hi size n lo' hi' size' m : Nat} {A B : Option Addr} {xs ys : List Value} (h : Rd w lo hi size A n xs) (hw : hi ≤ w.heap.size) (hin : In B m w w') (hB : Rd w lo' hi' size' B m ys) (hd : hi ≤ lo' ∨ hi' ≤ lo) : Rd w' lo hi size A n xs :=
  h.far hin hw (fun g e => by have := in_row hB g e; omega)
theorem in_below {A : Option Addr} {a w w' : World} {lo hi size n : Nat} {xs : List Value} (h : Below a.heap.size a w) (hin : In A n w w') (hA : Rd w lo hi size A n xs) (hlo : a.heap.size ≤ lo) : Below a.heap.size a w' :=
  h.grown hin h.size (fun k e => by have := in_row hA k e; omega)
theorem Soft.kept {w w' : World} {lo hi size n B : Nat} {A : Option Addr} {xs : List Value} (h : Soft w size A n) (hr : Rd w lo hi size A n xs) (hb : Below B w w') (hB : hi ≤ B) : Soft w' size A n := fun b off e j hj => by
  have hn : 0 < n := by
    rcases Nat.eq_zero_or_pos n with h0 | h0
    · subst h0; simp at hj
    · exact h0
  obtain ⟨b', off', e', _, h2⟩ := hr.form hn
  rw [e] at e'; injection e' with e'; injection e' with e1 _
  exact (hb.frozen (p := ⟨b, off + j, none⟩) (by show b < B; omega)).trans (h b off e j hj)
theorem Soft.other {w w' : World} {lo hi size n lo' hi' size' m : Nat} {A B : Option Addr} {xs ys : List Value} (h : Soft w size A n) (hr : Rd w lo hi size A n xs) (hw : hi ≤ w.heap.size) (hin : In B m w w') (hB : Rd w lo' hi' size' B m ys) (hd : hi ≤ lo' ∨ hi' ≤ lo) : Soft w' size A n := fun b off e j hj => by
  have hn : 0 < n := by
    rcases Nat.eq_zero_or_pos n with h0 | h0
    · subst h0; simp at hj
    · exact h0
  obtain ⟨b', off', e', h1, h2⟩ := hr.form hn
  rw [e] at e'; injection e' with e'; injection e' with e1 _
  exact (World.frozen?_of_block (w := w) (a := ⟨b, off + j, none⟩) (hin.block b (by omega) (fun e => by have := in_row hB b e.symm; omega))).trans (h b off e j hj)

def seqI (k : Int) (n : Nat) : List Int := (List.range n).map fun (i : Nat) => k + (i : Int)
def seqP (k : Int) (n : Nat) : List (Int × Int) := (List.range n).map fun (i : Nat) => (k + 2 * (i : Int), k + 2 * (i : Int) + 1)
theorem seqI_snoc (k : Int) (n : Nat) : seqI k (n + 1) = seqI k n ++ [k + (n : Int)] := by simp [seqI, List.range_succ]
theorem seqP_snoc (k : Int) (n : Nat) : seqP k (n + 1) = seqP k n ++ [(k + 2 * (n : Int), k + 2 * (n : Int) + 1)] := by simp [seqP, List.range_succ]
theorem seqI_length (k : Int) (n : Nat) : (seqI k n).length = n := by simp [seqI]
theorem seqP_length (k : Int) (n : Nat) : (seqP k n).length = n := by simp [seqP]
theorem seqI_get {k : Int} {n i : Nat} (hi : i < n) : (seqI k n)[i]? = some (k + (i : Int)) := by simp [seqI, hi]
theorem seqP_get {k : Int} {n i : Nat} (hi : i < n) : (seqP k n)[i]? = some (k + 2 * (i : Int), k + 2 * (i : Int) + 1) := by simp [seqP, hi]
theorem mixI_step (k : Int) (zs : List Value) (n i : Nat) (hz : zs.length = n * 1) (hi : i < n) : (ivs (seqI k i) ++ zs.drop i).set i (.int .i64 (k + (i : Int))) = ivs (seqI k (i + 1)) ++ zs.drop (i + 1) := by
  have h1 : (ivs (seqI k i)).length = i := by rw [ivs_length, seqI_length]
  rw [List.drop_eq_getElem_cons (show i < zs.length by omega), List.set_append_right _ _ (by omega), h1, Nat.sub_self, List.set_cons_zero, seqI_snoc, ivs_append]
  simp [ivs]
theorem mixP_step (k : Int) (zs : List Value) (n i : Nat) (hz : zs.length = n * 2) (hi : i < n) : ((pvs (seqP k i) ++ zs.drop (i * 2)).set (i * 2) (.int .i64 (k + 2 * (i : Int)))).set (i * 2 + 1) (.int .i64 (k + 2 * (i : Int) + 1)) = pvs (seqP k (i + 1)) ++ zs.drop ((i + 1) * 2) := by
  have h1 : (pvs (seqP k i)).length = i * 2 := by rw [pvs_length, seqP_length]
  rw [List.drop_eq_getElem_cons (show i * 2 < zs.length by omega), List.drop_eq_getElem_cons (show i * 2 + 1 < zs.length by omega)]
  rw [List.set_append_right _ _ (by omega), h1, Nat.sub_self, List.set_cons_zero, List.set_append_right _ _ (by omega), h1, show i * 2 + 1 - i * 2 = 1 by omega, List.set_cons_succ, List.set_cons_zero, seqP_snoc, pvs_append]
  simp [pvs, pv, show (i + 1) * 2 = i * 2 + 1 + 1 by omega]

/-- The slice's cells have been written: the numbers from k on. -/
def Marked (vs : List Value) (lo hi size : Nat) (A : Option Addr) (n : Nat) (r : Int) (w : World) (e : Ending) (w' : World) : Prop :=
  e = .returned (.int .i64 r) ∧ Rd w' lo hi size A n vs ∧ Soft w' size A n ∧ In A n w w'

set_option maxHeartbeats 800000 in
theorem markIntS_any (lo hi n c : Nat) (A : Option Addr) (zs : List Value) (k0 : Int) (w : World) (hr : Rd w lo hi 1 A n zs) (hs : Soft w 1 A n) (hn : n ≤ 1048576) (hk0 : 0 ≤ k0) (hk1 : k0 ≤ 1000000000000000) :
    Calls Tryz.prog 23 #[.slice A n c, .int .i64 k0] w (Marked (ivs (seqI k0 n)) lo hi 1 A n (k0 + n) w) := by
  have HZ := Lib.hid hr.1
  go_enter Tryz.func23, Tryz.ntmps23
  go_wp2
  go_loopw [1, 5] (fun kv iv wr => ∃ (i : Nat), i ≤ n ∧ iv = .int .i64 i ∧ kv = .int .i64 (k0 + (i : Int)) ∧ Rd wr lo hi 1 A n (ivs (seqI k0 i) ++ zs.drop i) ∧ Soft wr 1 A n ∧ In A n w wr)
     (fun _ iv _ => n - (intOf iv).toNat)
  case atStart => exact ⟨0, by omega, rfl, by simp, by simpa [seqI, ivs] using hr, hs, in_refl _ _ _⟩
  case round =>
    clear hr hs
    obtain ⟨i, hi_, rfl, rfl, hr, hs, hin⟩ := hrel
    by_cases hlt : i < n
    · obtain ⟨b, off, x, rfl, _, _, _, hc⟩ := hr.val hlt
      have hf := hs b off rfl i (by omega)
      have hr2 := hr.store i (by omega) (.int .i64 (k0 + (i : Int)))
      rw [mixI_step k0 zs n i HZ.out hlt] at hr2
      have HR := Lib.hid hr2
      have HS := Lib.hid (hs.store ⟨b, off + i, none⟩ (.int .i64 (k0 + (i : Int))))
      have HI := Lib.hid (in_store hin (by omega) (off + i) (.int .i64 (k0 + (i : Int))))
      clear hr2 hr hs hin
      go_wp2
      go_roundw
      case rel => exact ⟨i + 1, by omega, by go_num, by go_num, HR.out, HS.out, HI.out⟩
      case measure => simp [intOf]; omega
    · obtain rfl : i = n := by omega
      rw [List.drop_of_length_le (by rw [HZ.out]; omega), List.append_nil] at hr
      have HR := Lib.hid hr
      clear hr
      go_wp2
      go_ret
      exact ⟨rfl, HR.out, hs, hin⟩

set_option maxHeartbeats 800000 in
theorem heldIntS_any (lo hi n c : Nat) (A : Option Addr) (k0 : Int) (w : World) (hr : Rd w lo hi 1 A n (ivs (seqI k0 n))) (hn : n ≤ 1048576) (hk0 : 0 ≤ k0) (hk1 : k0 ≤ 1000000000000000) :
    Calls Tryz.prog 30 #[.slice A n c, .int .i64 k0] w fun e w' => e = .returned (.int .i64 (k0 + n)) ∧ w = w' := by
  go_enter Tryz.func30, Tryz.ntmps30
  go_wp2
  go_loop [1, 5] (fun kv iv => ∃ (i : Nat), i ≤ n ∧ iv = .int .i64 i ∧ kv = .int .i64 (k0 + (i : Int)))
     (fun _ iv => n - (intOf iv).toNat)
  case atStart => exact ⟨0, by omega, rfl, by simp⟩
  case round =>
    obtain ⟨i, hi_, rfl, rfl⟩ := hrel
    by_cases hlt : i < n
    · obtain ⟨b, off, x, rfl, _, _, hg, hc⟩ := hr.one hlt
      rw [seqI_get hlt] at hg
      obtain rfl := Option.some.inj hg
      clear hg
      go_wp2
      go_round
      case rel => exact ⟨i + 1, by omega, by go_num, by go_num⟩
      case measure => simp [intOf]; omega
    · obtain rfl : i = n := by omega
      go_wp2
      go_ret
      exact ⟨rfl, rfl⟩

set_option maxHeartbeats 800000 in
theorem markPartS_any (lo hi n c : Nat) (A : Option Addr) (zs : List Value) (k0 : Int) (w : World) (hr : Rd w lo hi 2 A n zs) (hs : Soft w 2 A n) (hn : n ≤ 1048576) (hk0 : 0 ≤ k0) (hk1 : k0 ≤ 1000000000000000) :
    Calls Tryz.prog 141 #[.slice A n c, .int .i64 k0] w (Marked (pvs (seqP k0 n)) lo hi 2 A n (k0 + 2 * n) w) := by
  have HZ := Lib.hid hr.1
  go_enter Tryz.func141, Tryz.ntmps141
  go_wp2
  go_loopw [1, 5] (fun kv iv wr => ∃ (i : Nat), i ≤ n ∧ iv = .int .i64 i ∧ kv = .int .i64 (k0 + 2 * (i : Int)) ∧ Rd wr lo hi 2 A n (pvs (seqP k0 i) ++ zs.drop (i * 2)) ∧ Soft wr 2 A n ∧ In A n w wr)
     (fun _ iv _ => n - (intOf iv).toNat)
  case atStart => exact ⟨0, by omega, rfl, by simp, by simpa [seqP, pvs] using hr, hs, in_refl _ _ _⟩
  case round =>
    clear hr hs
    obtain ⟨i, hi_, rfl, rfl, hr, hs, hin⟩ := hrel
    by_cases hlt : i < n
    · have hl := hr.1
      obtain ⟨b, off, rfl, _, _⟩ := hr.form (by omega)
      obtain ⟨b', off', e, _, _, hcc⟩ := hr.2 (by omega)
      injection e with e; injection e with e1 e2
      subst e1; subst e2
      have hc0 := hcc (i * 2) _ (List.getElem?_eq_getElem (by omega))
      have hc1 := hcc (i * 2 + 1) _ (List.getElem?_eq_getElem (by omega))
      rw [← Nat.add_assoc] at hc1
      generalize (pvs (seqP k0 i) ++ zs.drop (i * 2))[i * 2]'(by omega) = z0 at hc0
      generalize (pvs (seqP k0 i) ++ zs.drop (i * 2))[i * 2 + 1]'(by omega) = z1 at hc1
      have hf0 := hs b off rfl (i * 2) (by omega)
      have hf1 := hs b off rfl (i * 2 + 1) (by omega)
      rw [← Nat.add_assoc] at hf1
      have hr2 := (hr.store (i * 2) (by omega) (.int .i64 (k0 + 2 * (i : Int)))).store (i * 2 + 1) (by omega) (.int .i64 (k0 + 2 * (i : Int) + 1))
      rw [mixP_step k0 zs n i HZ.out hlt, ← Nat.add_assoc] at hr2
      have HR := Lib.hid hr2
      have HS := Lib.hid ((hs.store ⟨b, off + i * 2, none⟩ (.int .i64 (k0 + 2 * (i : Int)))).store ⟨b, off + i * 2 + 1, none⟩ (.int .i64 (k0 + 2 * (i : Int) + 1)))
      have HI := Lib.hid (in_store (in_store hin (by omega) (off + i * 2) (.int .i64 (k0 + 2 * (i : Int)))) (by omega) (off + i * 2 + 1) (.int .i64 (k0 + 2 * (i : Int) + 1)))
      clear hr2 hr hs hin hcc hl
      go_wp2
      go_roundw
      case rel => exact ⟨i + 1, by omega, by go_num, by go_num, HR.out, HS.out, HI.out⟩
      case measure => simp [intOf]; omega
    · obtain rfl : i = n := by omega
      rw [List.drop_of_length_le (by rw [HZ.out]; omega), List.append_nil] at hr
      have HR := Lib.hid hr
      clear hr
      go_wp2
      go_ret
      exact ⟨rfl, HR.out, hs, hin⟩


set_option maxHeartbeats 400000 in
theorem eqIntS_any (lo hi n c lo' hi' n' c' : Nat) (A A' : Option Addr) (xs ys : List Int) (w : World) (hr : Rd w lo hi 1 A n (ivs xs)) (hB : hi ≤ w.heap.size) (hn : n ≤ 1048576) (hr' : Rd w lo' hi' 1 A' n' (ivs ys)) (hB' : hi' ≤ w.heap.size) (hn' : n' ≤ 1048576) :
    Calls Tryz.prog 21 #[.slice A n c, .slice A' n' c'] w fun e w' => e = .returned (.bool (xs == ys)) ∧ Below w.heap.size w w' := by
  have HL := Lib.hid hr.len1
  have HL' := Lib.hid hr'.len1
  by_cases hnn : n = n'
  · subst hnn
    go_enter Tryz.func21, Tryz.ntmps21
    go_wp2
    go_loopw [5] (fun iv wr => ∃ (k : Nat), k ≤ n ∧ iv = .int .i64 k ∧ Hid ((xs == ys) = (xs.drop k == ys.drop k)) ∧ Below w.heap.size w wr)
       (fun iv _ => n - (intOf iv).toNat)
    case atStart => exact ⟨0, by omega, rfl, rfl, Below.refl _ _⟩
    case round =>
      obtain ⟨k, hk, rfl, hS, hbl⟩ := hrel
      by_cases hlt : k < n
      · have hsz := hbl.size
        obtain ⟨b, off, x, rfl, hbB, _, hg, hc0⟩ := (hr.keep hbl hB).one hlt
        obtain ⟨b', off', y, rfl, hbB', _, hg', hc0'⟩ := (hr'.keep hbl hB').one hlt
        have Hg := Lib.hid hg; clear hg
        have Hg' := Lib.hid hg'; clear hg'
        have hkn : (k : Int) < (n : Int) := by omega
        have hk0 : (0 : Int) ≤ (k : Int) := by omega
        go_wp2
        go_quiet (fail)
        by_cases he : x = y
        · subst he
          go_wp2
          go_roundw
          case rel =>
            refine ⟨k + 1, by omega, by go_num, ?_, up_drewN hbl _⟩
            rw [Hid, hS.out, drop_cons2 Hg.out, drop_cons2 Hg'.out]
            simp
          case measure => simp [intOf]; omega
        · have he1 : (x == y) = false := by simpa using he
          have he2 : (x != y) = true := by simpa using he
          have He := Lib.hid he
          clear he
          go_wp2
          go_ret
          refine ⟨ret_bool ?_, up_drewN hbl _⟩
          rw [hS.out, drop_cons2 Hg.out, drop_cons2 Hg'.out]
          symm
          rw [beq_eq_false_iff_ne]
          intro h
          injection h with h _
          exact He.out h
      · obtain rfl : k = n := by omega
        go_wp2
        go_ret
        refine ⟨ret_bool ?_, hbl⟩
        rw [hS.out, List.drop_of_length_le (by rw [HL.out]; omega), List.drop_of_length_le (by rw [HL'.out]; omega)]
        rfl
  · have hne : ((n : Int) != (n' : Int)) = true := by rw [bne_iff_ne]; omega
    go_enter Tryz.func21, Tryz.ntmps21
    go_wp2
    go_ret
    refine ⟨ret_bool ?_, Below.refl _ _⟩
    symm
    rw [beq_eq_false_iff_ne]
    intro h
    exact hnn (by rw [← HL.out, ← HL'.out, h])

theorem mixA_step (ps : List Int) (zs : List Value) (n k : Nat) (x : Int) (hp : ps.length = n) (hz : zs.length = n * 1) (hk : k < n) (hg : ps[k]? = some x) :
    (ivs (ps.take k) ++ zs.drop k).set k (.int .i64 x) = ivs (ps.take (k + 1)) ++ zs.drop (k + 1) := by
  have h1 : (ivs (ps.take k)).length = k := by rw [ivs_length, List.length_take]; omega
  rw [List.drop_eq_getElem_cons (show k < zs.length by omega), List.set_append_right _ _ (by omega), h1, Nat.sub_self, List.set_cons_zero, take_snoc hg, ivs_append]
  simp [ivs]
set_option maxRecDepth 100000 in
set_option maxHeartbeats 400000 in
theorem toIntS_any (lo hi n c : Nat) (A : Option Addr) (ps : List Int) (w : World) (hr : Rd w lo hi 1 A n (ivs ps)) (hB : hi ≤ w.heap.size) (hn : n ≤ 1048576) :
    Calls Tryz.prog 16 #[.slice A n c] w (Fresh (ivs ps) 1 n w) := by
  have HL := Lib.hid hr.len1
  obtain ⟨i0, hi0, hz0, hz1, hz2⟩ := info_parts infoIntX
  obtain ⟨wm, hmk, hown, hgr⟩ := run_make_full (P := Tryz.prog) w w.heap.size 26 3 i0 _ 1 Tryz.underlying26 hi0 hz0 hz1 .i64 .i64 n (by rw [hz2]; omega) (by unfold maxLen; omega) (Nat.le_refl _)
  have hbm : Below w.heap.size w wm := (Below.refl _ _).grown hgr (Nat.le_refl _) (by simp)
  generalize hzs : (madeCells (Value.int .i64 0).cells (n * 1)).toList = zs at hown
  have hzl : Hid (zs.length = n * 1) := by rw [Hid, ← hzs]; simp [size_madeCells]
  clear hzs hgr hi0 hz0 hz1 hz2
  go_enter Tryz.func16, Tryz.ntmps16
  go_wp2
  clear hmk
  go_loopw [4] (fun iv wr => ∃ (k : Nat), k ≤ n ∧ iv = .int .i64 k ∧ wr.ownsRow w.heap.size 3 1 (.slice (some ⟨w.heap.size, 0, none⟩) n n) n (ivs (ps.take k) ++ zs.drop k) ∧ Below w.heap.size w wr)
     (fun iv _ => n - (intOf iv).toNat)
  case atStart => exact ⟨0, by omega, rfl, by simpa [ivs] using hown, hbm⟩
  case round =>
    clear hown hbm
    obtain ⟨k, hk, rfl, hown, hbl⟩ := hrel
    by_cases hlt : k < n
    · obtain ⟨b, off, x, rfl, hbB, _, hg, hc0⟩ := (hr.keep hbl hB).one hlt
      have hkn : (k : Int) < (n : Int) := by omega
      have hsz := hbl.size
      have hlen : (ivs (ps.take k) ++ zs.drop k).length = n * 1 := hown.1
      have hd0 := hown.cellAt k (by omega)
      rw [List.getElem?_eq_getElem (by rw [hlen]; omega)] at hd0
      generalize hq0 : (ivs (ps.take k) ++ zs.drop k)[k]'(by rw [hlen]; omega) = q0 at hd0
      have hf0 := hown.frozenAt k
      have hst := (hown.stored k (.int .i64 x)).1
      rw [mixA_step ps zs n k x HL.out hzl.out hlt hg] at hst
      have Hst := Lib.hid hst
      clear hq0 hst hlen hown hg
      go_wp2
      go_roundw
      case rel => exact ⟨k + 1, by omega, by go_num, Hst.out, hbl.setCell (by show _ ≤ w.heap.size; omega) _⟩
      case measure => simp [intOf]; omega
    · obtain rfl : k = n := by omega
      have Ho := Lib.hid hown; clear hown
      go_wp2
      go_ret
      have ho := Ho.out
      rw [List.take_of_length_le (by rw [HL.out]; omega), List.drop_of_length_le (by rw [hzl.out]; omega), List.append_nil] at ho
      exact ⟨_, _, rfl, Nat.le_refl _, Rd.of_own ho, Soft.of_own ho, hbl⟩
end Go.Proofs.YtknphikoikdcjaaGreat
