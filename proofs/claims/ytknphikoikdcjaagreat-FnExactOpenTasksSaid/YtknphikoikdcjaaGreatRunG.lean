/- The program: OpenTasks. (Written by gen/rung.py.) -/
import Derived.Test.YtknphikoikdcjaaGreatRunF
import Derived.Test.YtknphikoikdcjaaGreatInstS7
set_option linter.unusedSimpArgs false
set_option linter.unusedVariables false
namespace Go.Proofs.YtknphikoikdcjaaGreat
open Go.RowKit

theorem task_is {ns : List (Int × Int)} {fs : List Flw} {ms : List Int} (hV : vProc ns fs = true) (hM : vMarks fs ms = true) {k : Nat} (hk : k < ns.length) : taskAt ns fs ms k = (readyB (kindAt ns k) ms (flOf fs false (k : Int)) && (kindAt ns k == 2)) := by
  unfold taskAt
  cases hb : (kindAt ns k == 2) with
  | false => simp
  | true =>
    rw [wait_ready hV hM hk (.inl (by simpa using hb))]
    simp
theorem tasksOf_len (ns : List (Int × Int)) (fs : List Flw) (ms vs : List Int) (cl : Int) (ts : List Tm) : (tasksOf ns fs ms vs cl ts).length ≤ ns.length := by
  unfold tasksOf
  split
  · exact tasksUp_le ns fs ms ns.length
  · exact Nat.zero_le _
set_option maxRecDepth 100000 in
set_option maxHeartbeats 3200000 in
theorem OpenTasksI_any (lo hi nn cn : Nat) (An : Option Addr) (ns : List (Int × Int)) (lo1 hi1 lf cf : Nat) (Af : Option Addr) (fs : List Flw) (lom him nm cm : Nat) (Am : Option Addr) (ms : List Int) (lov hiv nv cv : Nat) (Av : Option Addr) (vs : List Int) (cl : Int) (lot hit nt ct : Nat) (At : Option Addr) (ts : List Tm) (w : World) (hrn : Rd w lo hi 2 An nn (pvs ns)) (hB : hi ≤ w.heap.size) (hnn : nn ≤ 1048576) (hr : Fls w lo1 hi1 Af lf fs) (hB1 : hi1 ≤ w.heap.size) (hn : lf ≤ 1048576) (hm : Rd w lom him 1 Am nm (ivs ms)) (hBm : him ≤ w.heap.size) (hnm : nm ≤ 1048576) (hv : Rd w lov hiv 1 Av nv (ivs vs)) (hBv : hiv ≤ w.heap.size) (hnv : nv ≤ 1048576) (ht : Rd w lot hit 2 At nt (pvs ts)) (hBt : hit ≤ w.heap.size) (hnt : nt ≤ 1048576) :
    Calls Tryz.prog 29 #[.agg #[.slice An nn cn, .slice Af lf cf], .agg #[.slice Am nm cm, .slice Av nv cv, .int .i64 cl, .slice At nt ct]] w (Fresh (ivs (tasksOf ns fs ms vs cl ts)) 1 (tasksOf ns fs ms vs cl ts).length w) := by
  obtain ⟨i0, hi0, hz0, hz1, hz2⟩ := info_parts infoIntT
  have hb0 := up_alloc (up_alloc (Below.refl _ w) (.cells #[.slice An nn cn, .slice Af lf cf] 40)) (.cells #[.slice Am nm cm, .slice Av nv cv, .int .i64 cl, .slice At nt ct] 34)
  have HP := Lib.hid ((Blk.new w 40 #[.slice An nn cn, .slice Af lf cf]).alloc (.cells #[.slice Am nm cm, .slice Av nv cv, .int .i64 cl, .slice At nt ct] 34))
  have HX := Lib.hid (show Blk ((w.alloc (.cells #[.slice An nn cn, .slice Af lf cf] 40)).alloc (.cells #[.slice Am nm cm, .slice Av nv cv, .int .i64 cl, .slice At nt ct] 34)) (w.heap.size + 1) 34 #[.slice Am nm cm, .slice Av nv cv, .int .i64 cl, .slice At nt ct] from Blk.newAtR (by simp))
  have hz : ((w.alloc (.cells #[.slice An nn cn, .slice Af lf cf] 40)).alloc (.cells #[.slice Am nm cm, .slice Av nv cv, .int .i64 cl, .slice At nt ct] 34)).heap.size = w.heap.size + 1 + 1 := by simp
  have HB := Lib.hid hb0
  have HLT := Lib.hid ht.len2
  have HNL := Lib.hid hrn.len2
  clear hb0
  have p0 : ((w.alloc (.cells #[.slice An nn cn, .slice Af lf cf] 40)).alloc (.cells #[.slice Am nm cm, .slice Av nv cv, .int .i64 cl, .slice At nt ct] 34)).cell? ⟨w.heap.size, 0, none⟩ = some (.slice An nn cn) := HP.out.cell 0
  have p1 : ((w.alloc (.cells #[.slice An nn cn, .slice Af lf cf] 40)).alloc (.cells #[.slice Am nm cm, .slice Av nv cv, .int .i64 cl, .slice At nt ct] 34)).cell? ⟨w.heap.size, 1, none⟩ = some (.slice Af lf cf) := HP.out.cell 1
  go_enter Tryz.func29, Tryz.ntmps29
  go_wp2_with (fail)
  clear p0 p1
  generalize ((w.alloc (.cells #[.slice An nn cn, .slice Af lf cf] 40)).alloc (.cells #[.slice Am nm cm, .slice Av nv cv, .int .i64 cl, .slice At nt ct] 34)) = w0 at *
  (with_reducible refine (runningOf_any lo hi nn cn An ns lo1 hi1 lf cf Af fs lom him nm cm Am ms lov hiv nv cv Av vs cl lot hit nt ct At ts w0 (hrn.keep HB.out hB) (by omega) hnn (hr.keep HB.out hB1) (by omega) hn (hm.keep HB.out hBm) (by omega) hnm (hv.keep HB.out hBv) (by omega) hnv (ht.keep HB.out hBt) (by omega) hnt).mono ?_)
  rintro e w1 (⟨hno, rfl, hb1⟩ | ⟨hV, hI, bo, bi, mb, m, rfl, hN, hmb, hb1⟩)
  · have HB1 := Lib.hid (up_alloc (up HB.out hb1) (.cells #[.slice none 0 0, .slice none 0 0, .map none, .map none, .map none, .slice none 0 0, .int .i64 0, .slice none 0 0] 114))
    have HNO := Lib.hid (show tasksOf ns fs ms vs cl ts = [] by unfold tasksOf; rw [hno]; rfl)
    clear hb1 hno
    go_wp2
    go_ret
    rw [HNO.out]
    exact ⟨none, 0, rfl, Nat.le_refl _, Rd.nil _ _ _ _ _, (fun b off e j hj => by simp at hj), HB1.out⟩
  · have hs1 := hb1.size
    have hb2 := up_alloc (Below.refl _ w1) (.cells #[.slice An nn cn, .slice Af lf cf, .map (some bo), .map (some bi), .map (some mb), .slice Av nv cv, .int .i64 cl, .slice At nt ct] 114)
    have HB2 := Lib.hid (up (up HB.out hb1) hb2)
    have HP2 := Lib.hid ((HP.out.below hb1 (by omega)).below hb2 (by omega))
    have HR2 := Lib.hid (Blk.new w1 114 #[.slice An nn cn, .slice Af lf cf, .map (some bo), .map (some bi), .map (some mb), .slice Av nv cv, .int .i64 cl, .slice At nt ct])
    have HN2 := Lib.hid (hN.keep hb2)
    have hs2 : w1.heap.size + 1 ≤ (w1.alloc (.cells #[.slice An nn cn, .slice Af lf cf, .map (some bo), .map (some bi), .map (some mb), .slice Av nv cv, .int .i64 cl, .slice At nt ct] 114)).heap.size := by simp
    have HYES := Lib.hid (show tasksOf ns fs ms vs cl ts = tasksUp ns fs ms ns.length by unfold tasksOf; rw [hV, hI]; rfl)
    have HTA := Lib.hid (fun (k : Nat) (hk : k < ns.length) => task_is hN.vp hN.vm hk)
    have p0 : (w1.alloc (.cells #[.slice An nn cn, .slice Af lf cf, .map (some bo), .map (some bi), .map (some mb), .slice Av nv cv, .int .i64 cl, .slice At nt ct] 114)).cell? ⟨w.heap.size, 0, none⟩ = some (.slice An nn cn) := HP2.out.cell 0
    clear hb1 hb2 hV hI hN HB HX HP
    go_wp2
    clear p0
    generalize w1.alloc (.cells #[.slice An nn cn, .slice Af lf cf, .map (some bo), .map (some bi), .map (some mb), .slice Av nv cv, .int .i64 cl, .slice At nt ct] 114) = w2 at *
    have hrl := HR2.out.lt
    go_loopw [7, 20] (fun v iv wr => ∃ (j : Nat), j ≤ nn ∧ iv = .int .i64 j ∧ Hid (wr.ownsRow w2.heap.size 3 1 v (tasksUp ns fs ms j).length (ivs (tasksUp ns fs ms j))) ∧ Hid (Below w2.heap.size w2 wr))
       (fun _ iv _ => nn - (intOf iv).toNat)
    case atStart => exact ⟨0, by omega, rfl, World.ownsRow_nil _ _ _ _, Below.refl _ _⟩
    case round =>
      obtain ⟨j, hj, rfl, HO, HBR⟩ := hrel
      have hsr := HBR.out.size
      by_cases hlt : j < nn
      · have HW := Lib.hid (waitsAt_any An nn cn ns Af lf cf fs bo bi mb m ms Av nv cv cl At nt ct (j : Int) 2 wr (HN2.out.keep HBR.out) hnn)
        have htk := HTA.out j (by rw [HNL.out]; exact hlt)
        rw [show inR (j : Int) 0 ((nn : Int) - 1) = true from inR_iff.2 (by omega), Bool.true_and, Int.toNat_natCast, ← htk] at HW
        have HR3 := Lib.hid (HR2.out.below HBR.out hrl)
        have hj1 : (j : Int) < (nn : Int) := by omega
        have hj0 : (0 : Int) ≤ (j : Int) := by omega
        have hle := tasksUp_le ns fs ms j
        clear htk
        have c0 : wr.cell? ⟨w1.heap.size, 0, none⟩ = some (.slice An nn cn) := HR3.out.cell 0
        have c1 : wr.cell? ⟨w1.heap.size, 1, none⟩ = some (.slice Af lf cf) := HR3.out.cell 1
        have c2 : wr.cell? ⟨w1.heap.size, 2, none⟩ = some (.map (some bo)) := HR3.out.cell 2
        have c3 : wr.cell? ⟨w1.heap.size, 3, none⟩ = some (.map (some bi)) := HR3.out.cell 3
        have c4 : wr.cell? ⟨w1.heap.size, 4, none⟩ = some (.map (some mb)) := HR3.out.cell 4
        have c5 : wr.cell? ⟨w1.heap.size, 5, none⟩ = some (.slice Av nv cv) := HR3.out.cell 5
        have c6 : wr.cell? ⟨w1.heap.size, 6, none⟩ = some (.int .i64 cl) := HR3.out.cell 6
        have c7 : wr.cell? ⟨w1.heap.size, 7, none⟩ = some (.slice At nt ct) := HR3.out.cell 7
        go_wp2_with (fail)
        (with_reducible refine HW.out.mono ?_)
        rintro e w3 ⟨rfl, hb3⟩
        have HB3 := Lib.hid (up HBR.out hb3)
        have HO3 := Lib.hid (own_keep HO.out hb3)
        have hs3 := hb3.size
        clear hb3 HW HO HBR c0 c1 c2 c3 c4 c5 c6 c7
        cases hb : taskAt ns fs ms j with
        | false =>
          have HU := Lib.hid (tasksUp_no hb)
          clear hb
          go_wp2
          go_roundw
          case rel => exact ⟨j + 1, by omega, by go_num, by rw [HU.out]; exact HO3, HB3⟩
          case measure => simp [intOf]; omega
        | true =>
          have HU := Lib.hid (tasksUp_yes hb)
          clear hb
          go_wp2_with (at_builtin; refine wpList_append_own _ rfl _ _ 26 rfl w2.heap.size 3 i0 (.int .i64 0) 1 8 Tryz.underlying26 hi0 hz0 hz1 hz2 rfl (by decide) _ _ _ rfl (HO3.out.alloc _) _ 1 1 [.int .i64 (j : Int)] rfl rfl (cell_one_new _ _ _) ?c2 ?c3 ?c4 ?c5 ?_)
          case c2 => intro u hu; simp at hu; subst hu; rfl
          case c3 => unfold maxLen; omega
          case c4 => omega
          case c5 => simp; omega
          intro v' w4 hown4 hg4 _
          have HB4 := Lib.hid (up_grown (up_alloc HB3.out (.cells #[.int .i64 (j : Int)] 3)) (HO3.out.alloc _) hg4 (Nat.le_refl _))
          have HO4 := Lib.hid (own_intl hown4)
          clear hown4 hg4 HO3 HB3
          go_wp2
          go_roundw
          case rel => exact ⟨j + 1, by omega, by first | rfl | go_num, by rw [HU.out]; exact HO4, HB4⟩
          case measure => simp [intOf]; omega
      · obtain rfl : j = nn := by omega
        have HQ := Lib.hid (show tasksOf ns fs ms vs cl ts = tasksUp ns fs ms j by rw [HYES.out, HNL.out])
        obtain ⟨A9, c9, rfl, hk9, hr9, hs9⟩ := own_form HO.out
        have HR9 := Lib.hid hr9
        have HS9 := Lib.hid hs9
        clear hr9 hs9 HO
        go_wp2
        go_ret
        rw [HQ.out]
        exact ⟨A9, c9, rfl, hk9, HR9.out.wide (by have := HB2.out.size; omega) (Nat.le_refl _), HS9.out, up HB2.out HBR.out⟩
end Go.Proofs.YtknphikoikdcjaaGreat
