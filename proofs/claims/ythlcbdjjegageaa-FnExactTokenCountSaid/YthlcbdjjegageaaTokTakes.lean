/- impl.takesFrom, impl.isReady. -/
import Derived.Test.YthlcbdjjegageaaTokReady0
namespace Go.Proofs.Ythlcbdjjegageaa
open Go.RowKit

theorem infoIntT : (Try.prog.info? 3).map (fun i => (i.zero, i.size, i.bytes)) = some (some (.int .i64 0), 1, 8) := by kernel_rfl
theorem zeroIntT (w : World) : (zeroValue 3).run Try.prog w = .ok (.int .i64 0) w := by kernel_rfl
set_option maxRecDepth 100000 in
set_option maxHeartbeats 3200000 in
theorem takesFrom_any (An : Option Addr) (nn cn lo hi : Nat) (ns : List (Int × Int)) (Af : Option Addr) (lf cf bo bi : Nat) (fs : List Flw) (lo2 hi2 mb m : Nat) (ms : List Int) (k : Nat) (x y : Int) (w : World)
    (hrn : Rd w lo hi 2 An nn (pvs ns)) (hB : hi ≤ w.heap.size) (hm : RowMap Try.prog 3 w lo2 hi2 bi (fun z => flOf fs false z)) (hB2 : hi2 ≤ w.heap.size) (hc : IMap Try.prog 3 w mb m (markAt ms)) (hlen : ms.length = fs.length) (h14 : fs.length ≤ 14) (hk : k < nn) (hn : nn ≤ 1048576) (hkx : ns[k]? = some (x, y)) :
    Calls Try.prog 116 #[.agg #[.slice An nn cn, .slice Af lf cf, .map (some bo), .map (some bi)], .map (some mb), .int .i64 (k : Int)] w (Fresh (ivs (takesOf x ms (flOf fs false (k : Int)))) 1 (takesOf x ms (flOf fs false (k : Int))).length w) := by
  obtain ⟨i0, hi0, hz0, hz1, hz2⟩ := info_parts infoIntT
  have hk64 : in64 (k : Int) := by unfold in64; omega
  have hb1 := up_alloc (Below.refl _ w) (.cells #[.slice An nn cn, .slice Af lf cf, .map (some bo), .map (some bi)] 81)
  have hbk := Blk.new w 81 #[.slice An nn cn, .slice Af lf cf, .map (some bo), .map (some bi)]
  have hs1 : (w.alloc (.cells #[.slice An nn cn, .slice Af lf cf, .map (some bo), .map (some bi)] 81)).heap.size = w.heap.size + 1 := by simp
  have HMEM := Lib.hid (show ∀ (j : Nat) (z : Int), (flOf fs false (k : Int))[j]? = some z → ∃ (q : Nat), z = (q : Int) ∧ q < ms.length from fun j z h => by
    obtain ⟨q, f, rfl, hf, _⟩ := flOf_mem.1 (List.mem_of_getElem? h)
    exact ⟨q, rfl, by have := (List.getElem?_eq_some_iff.1 hf).1; omega⟩)
  have hml : (flOf fs false (k : Int)).length ≤ 14 := Nat.le_trans (flUp_le fs false (k : Int) fs.length) h14
  have hmb := hc.lt
  have HLK := Lib.hid (show ∀ (w' : World), Below w.heap.size w w' → ∃ A c, (Instr.lookup 63 (.map (some bi)) (.int .i64 (k : Int)) false).run Try.prog w' = .ok (.slice A (flOf fs false (k : Int)).length c) w' ∧ (flOf fs false (k : Int)).length ≤ c ∧ Rd w' lo2 hi2 1 A (flOf fs false (k : Int)).length (ivs (flOf fs false (k : Int))) from fun w' hb => by
    obtain ⟨A, c, h1, h2, h3, _⟩ := (hm.keep hb hB2).look keyedInt Try.underlying3 Try.underlying63 zeroInts hk64
    exact ⟨A, c, h1, h2, h3⟩)
  have HGT := Lib.hid (show ∀ (w' : World) (q : Nat), Below w.heap.size w w' → q < ms.length → (Instr.lookup 85 (.map (some mb)) (.int .i64 (q : Int)) false).run Try.prog w' = .ok (.int .i64 (ms.getD q 0)) w' from fun w' q hb hq => by
    have := (hc.keep hb hmb).look keyedInt Try.underlying3 Try.underlying85 (zeroIntT w') (by unfold in64; omega : in64 (q : Int)) rfl
    rw [markAt_get ms q hq] at this
    exact this)
  obtain ⟨Ai, ci, hlo, hci, hri⟩ := HLK.out _ hb1
  generalize flOf fs false (k : Int) = ids at *
  have HT : Hid (ids.take ids.length = ids) := List.take_length
  go_enter Try.func116, Try.ntmps116
  go_wp2
  go_loopw [7, 16] (fun hv iv wr => ∃ (j : Nat), j ≤ ids.length ∧ iv = .int .i64 j ∧ Hid (Rd wr lo2 hi2 1 Ai ids.length (ivs ids) ∧ Blk wr w.heap.size 81 #[.slice An nn cn, .slice Af lf cf, .map (some bo), .map (some bi)] ∧ Below w.heap.size w wr) ∧ Hid (wr.ownsRow (w.heap.size + 1) 3 1 hv (havingOf ms (ids.take j)).length (ivs (havingOf ms (ids.take j)))) ∧ w.heap.size + 1 ≤ wr.heap.size)
     (fun _ iv _ => ids.length - (intOf iv).toNat)
  case atStart => exact ⟨0, by omega, rfl, ⟨hri, hbk, hb1⟩, World.ownsRow_nil _ _ _ _, by rw [hs1]; exact Nat.le_refl _⟩
  case round =>
    clear hri hbk hb1 hlo
    obtain ⟨j, hj, rfl, HR, HO, hsw⟩ := hrel
    have HB := Lib.hid HR.out.2.2
    have hsz := HB.out.size
    by_cases hlt : j < ids.length
    · obtain ⟨b, off, z, rfl, hbh, _, hg, hc0⟩ := HR.out.1.one hlt
      obtain ⟨q, rfl, hq⟩ := HMEM.out j z hg
      have hget := HGT.out wr q HB.out hq
      have hj1 : (j : Int) < (ids.length : Int) := by omega
      have hj0 : (0 : Int) ≤ (j : Int) := by omega
      by_cases hp : 0 < ms.getD q 0
      · have HH := Lib.hid (having_yes (ms := ms) hg (by rw [Int.toNat_natCast]; exact hp))
        have hp' : decide (0 < ms.getD q 0) = true := decide_eq_true hp
        have hle := having_le ms (ids.take j)
        have hle2 : (ids.take j).length ≤ 14 := by rw [List.length_take]; omega
        generalize ms.getD q 0 = mq at *
        clear hg
        go_wp2_with (at_builtin; refine wpList_append_own _ rfl _ _ 29 rfl (w.heap.size + 1) 3 i0 (.int .i64 0) 1 8 Try.underlying29 hi0 hz0 hz1 hz2 rfl (by decide) _ _ _ rfl (HO.out.alloc _) _ 1 1 [.int .i64 (q : Int)] rfl rfl (cell_one_new _ _ _) ?c2 ?c3 ?c4 ?c5 ?_)
        case c2 => intro u hu; simp at hu; subst hu; rfl
        case c3 => unfold maxLen; omega
        case c4 => omega
        case c5 => simp; omega
        intro v' w4 hown4 hg4 _
        have HB4 := Lib.hid (up_grown (up_alloc HB.out (.cells #[.int .i64 (q : Int)] 3)) (HO.out.alloc _) hg4 (by omega))
        have HK4 := Lib.hid ((HR.out.2.1.alloc (.cells #[.int .i64 (q : Int)] 3)).own_grown (HO.out.alloc _) hg4 (by omega))
        have HR4 := Lib.hid (((HR.out.1.keep (up_alloc (Below.refl _ wr) (.cells #[.int .i64 (q : Int)] 3)) (by omega)).far hg4 (by simp; omega) (fun g e => by have := ((HO.out.alloc (.cells #[.int .i64 (q : Int)] 3)).lt g e).1; omega)))
        have hs4 := HB4.out.size
        have hs4' : w.heap.size + 1 ≤ w4.heap.size := by have := HK4.out.lt; omega
        have HO4 := Lib.hid hown4
        clear hg4 hown4
        go_wp2
        go_roundw
        case rel =>
          refine ⟨j + 1, by omega, by go_num, ⟨HR4.out, HK4.out, HB4.out⟩, ?_, hs4'⟩
          rw [Hid, HH.out, ivs_append, List.length_append]
          exact HO4.out
        case measure => simp [intOf]; omega
      · have HH := Lib.hid (having_no (ms := ms) hg (by rw [Int.toNat_natCast]; exact hp))
        have hp' : decide (0 < ms.getD q 0) = false := decide_eq_false hp
        generalize ms.getD q 0 = mq at *
        clear hg
        go_wp2
        go_roundw
        case rel => exact ⟨j + 1, by omega, by go_num, HR, by rw [HH.out]; exact HO, hsw⟩
        case measure => simp [intOf]; omega
    · obtain rfl : j = ids.length := by omega
      rw [HT.out] at HO
      have hle := having_le ms ids
      have k0 : wr.cell? ⟨w.heap.size, 0, none⟩ = some (.slice An nn cn) := HR.out.2.1.cell 0
      have k3 : wr.cell? ⟨w.heap.size, 3, none⟩ = some (.map (some bi)) := HR.out.2.1.cell 3
      obtain ⟨bn, off, xx, yy, rfl, _, _, hgn, hn0, _⟩ := (hrn.keep HB.out hB).pair hk
      have hxx : xx = x := by rw [hkx] at hgn; injection hgn with hgn; injection hgn with h1 _; exact h1.symm
      subst hxx
      have hk1 : (k : Int) < (nn : Int) := by omega
      clear hgn
      obtain ⟨Ah, ch, rfl, hch, hrh, hsh⟩ := own_form HO.out
      by_cases hx : xx = 8
      · subst hx
        obtain ⟨A2, c2, hl2, _, _⟩ := HLK.out _ HB.out
        by_cases hl : (havingOf ms ids).length < ids.length
        · have HT2 := Lib.hid (show takesOf 8 ms ids = [] by simp [takesOf, hl])
          have hl' : decide (((havingOf ms ids).length : Int) < (ids.length : Int)) = true := decide_eq_true (by omega)
          have hl'' : decide ((havingOf ms ids).length < ids.length) = true := decide_eq_true hl
          go_wp2
          go_ret
          rw [HT2.out]
          exact Fresh.nil 1 HB.out
        · have HT2 := Lib.hid (show takesOf 8 ms ids = havingOf ms ids by simp [takesOf, hl])
          have hl' : decide (((havingOf ms ids).length : Int) < (ids.length : Int)) = false := decide_eq_false (by omega)
          have hl'' : decide ((havingOf ms ids).length < ids.length) = false := decide_eq_false hl
          go_wp2
          go_ret
          rw [HT2.out]
          exact ⟨Ah, ch, rfl, hch, hrh.wide (by omega) (Nat.le_refl _), hsh, HB.out⟩
      · have hx' : (xx != 8) = true := by simpa using hx
        have HT2 := Lib.hid (show takesOf xx ms ids = (havingOf ms ids).take 1 by simp [takesOf, hx])
        clear hx
        by_cases h0 : (havingOf ms ids).length = 0
        · have hnil : havingOf ms ids = [] := List.eq_nil_of_length_eq_zero h0
          rw [hnil] at HT2
          rw [h0] at hch hrh hsh
          rw [h0]
          go_wp2
          go_ret
          rw [HT2.out]
          exact ⟨_, _, rfl, by simp, ⟨rfl, fun h => absurd h (by simp)⟩, fun b off e j hj => by simp at hj, HB.out⟩
        · obtain ⟨g, cg, hvg, hg1, hg2, _⟩ := own_first HO.out (by omega)
          injection hvg with hvg _ hcg
          subst hvg; subst hcg
          have hmin : min 1 (havingOf ms ids).length = 1 := by omega
          have hcut := own_cut HO.out (m := 1) (by omega)
          have HCUT := Lib.hid hcut
          have hlt2 : ((havingOf ms ids).take 1).length = 1 := by rw [List.length_take]; omega
          have hmin2 : min (1 : Int) ((havingOf ms ids).length : Int) = 1 := by omega
          clear hcut
          go_wp2
          go_ret
          rw [HT2.out, hlt2]
          have hx1 : ivs ((havingOf ms ids).take 1) = (ivs (havingOf ms ids)).take (1 * 1) := by simp [ivs]
          rw [hx1]
          exact ⟨_, ch, rfl, by omega, (Rd.of_own HCUT.out).wide (by omega) (Nat.le_refl _), Soft.of_own HCUT.out, HB.out⟩
end Go.Proofs.Ythlcbdjjegageaa
