/- The drawing of processes: a flow more, a node more. -/
import Derived.Test.YthlcbdjjegageaaDrawP0
import Derived.Test.YthlcbdjjegageaaRowMaps
import Derived.Deep.RegionHeld3
import Derived.Deep.DrawnRows
namespace Go.Proofs.Ythlcbdjjegageaa
open Go.RowKit
attribute [local go_sem ↓] Go.wp_at_zero Go.wp_at_succ

theorem infoFlowD : (Try.prog.info? 40).map (fun i => (i.zero, i.size, i.bytes)) = some (some (.agg #[.int .i64 0, .int .i64 0, .slice none 0 0]), 3, 40) := by kernel_rfl
theorem infoNodeD : (Try.prog.info? 32).map (fun i => (i.zero, i.size, i.bytes)) = some (some (.agg #[.int .i64 0, .int .i64 0]), 2, 16) := by kernel_rfl

/-- A process with one flow more. -/
def Linked (Bad : Nat → Prop) (vn : Value) (ns : List (Int × Int)) (fs' : List Flw) (w : World) (e : Ending) (w' : World) : Prop :=
  ∃ vf', e = .returned (.agg #[vn, vf']) ∧ Prc w' Bad vn vf' ns fs' ∧ Below w.heap.size w w'

set_option maxRecDepth 100000 in
set_option maxHeartbeats 6400000 in
theorem link_any (Bad : Nat → Prop) (l u nn cn : Nat) (An A Aw : Option Addr) (n c nw cw : Nat) (ns : List (Int × Int)) (fs : List Flw) (x y : Int) (ps : List (Int × Int)) (w : World) (hp : Prc w Bad (.slice An nn cn) (.slice A n c) ns fs) (hnf : n = fs.length) (hn : n ≤ 1000) (hbad : ∀ b, Bad b → b < w.heap.size)
    (hw : Rd w l u 2 Aw nw (pvs ps)) (hl : ∀ b, Bad b → b < l ∨ u ≤ b) (hu : u ≤ w.heap.size) (hnw : nw ≤ 16) (hoff : Off (.slice An nn cn) l u) :
    Calls Try.prog 87 #[.agg #[.slice An nn cn, .slice A n c], .int .i64 x, .int .i64 y, .slice Aw nw cw] w (Linked Bad (.slice An nn cn) ns (fs ++ [(x, y, ps)]) w) := by
  subst hnf
  obtain ⟨h1, _, hb1, _, hs, h3, h4, h5⟩ := hp
  have HBN := Lib.hid hb1
  obtain ⟨i0, hi0, hz0, hz1, hz2⟩ := info_parts infoFlowD
  have H1 := Lib.hid h1
  have H3 := Lib.hid h3
  have H5 := Lib.hid h5
  have HW := Lib.hid hw
  have hb2 := up_alloc (up_alloc (Below.refl _ w) (.cells #[.slice An nn cn, .slice A fs.length c] 26)) (.cells #[.slice none 0 0, .slice none 0 0] 26)
  have hp2 := (Blk.new w 26 #[.slice An nn cn, .slice A fs.length c]).alloc (.cells #[.slice none 0 0, .slice none 0 0] 26)
  have hr2 : Blk ((w.alloc (.cells #[.slice An nn cn, .slice A fs.length c] 26)).alloc (.cells #[.slice none 0 0, .slice none 0 0] 26)) (w.heap.size + 1) 26 #[.slice none 0 0, .slice none 0 0] := by
    simpa using Blk.new (w.alloc (.cells #[.slice An nn cn, .slice A fs.length c] 26)) 26 #[.slice none 0 0, .slice none 0 0]
  have hsr := (Rd.of_own h4).keep hb2 (Nat.le_refl _)
  have hsz2 : ((w.alloc (.cells #[.slice An nn cn, .slice A fs.length c] 26)).alloc (.cells #[.slice none 0 0, .slice none 0 0] 26)).heap.size = w.heap.size + 1 + 1 := by simp
  clear h1 h3 h4 h5 hw hb1
  go_enter Try.func87, Try.ntmps87
  go_wp2
  -- the three orders: the empty row first (a), then what is new (b), or what is new first (c)
  generalize hw2 : (w.alloc (.cells #[.slice An nn cn, .slice A fs.length c] 26)).alloc (.cells #[.slice none 0 0, .slice none 0 0] 26) = w2 at *
  clear hw2
  have k0 : w2.cell? ⟨w.heap.size, 0, none⟩ = some (.slice An nn cn) := hp2.cell 0
  have k1 : w2.cell? ⟨w.heap.size, 1, none⟩ = some (.slice A fs.length c) := hp2.cell 1
  have oa : ((w2.alloc (.cells #[] 40)).drew).ownsRow (w.heap.size + 1 + 1) 40 3 (.slice (some ⟨w.heap.size + 1 + 1, 0, none⟩) 0 0) 0 [] := by
    have := World.ownsRow_made w2 (base := w.heap.size + 1 + 1) (e := 40) (size := 3) #[] 0 (by omega) (by unfold maxLen; omega) (by simp)
    rw [hsz2] at this
    exact this.drew
  have ob : (((w2.alloc (.cells #[] 40)).alloc (.cells #[.int .i64 x, .int .i64 y, .slice Aw nw cw] 40)).drew).ownsRow (w.heap.size + 1 + 1) 40 3 (.slice (some ⟨w.heap.size + 1 + 1, 0, none⟩) 0 0) 0 [] := by
    have := World.ownsRow_made w2 (base := w.heap.size + 1 + 1) (e := 40) (size := 3) #[] 0 (by omega) (by unfold maxLen; omega) (by simp)
    rw [hsz2] at this
    exact (this.alloc _).drew
  have oc : (((w2.alloc (.cells #[.int .i64 x, .int .i64 y, .slice Aw nw cw] 40)).alloc (.cells #[] 40)).drew).ownsRow (w.heap.size + 1 + 1) 40 3 (.slice (some ⟨w.heap.size + 1 + 1 + 1, 0, none⟩) 0 0) 0 [] := by
    have := World.ownsRow_made (w2.alloc (.cells #[.int .i64 x, .int .i64 y, .slice Aw nw cw] 40)) (base := w.heap.size + 1 + 1) (e := 40) (size := 3) #[] 0 (by simp; omega) (by unfold maxLen; omega) (by simp)
    have e : (w2.alloc (.cells #[.int .i64 x, .int .i64 y, .slice Aw nw cw] 40)).heap.size = w.heap.size + 1 + 1 + 1 := by simp [hsz2]
    rw [e] at this
    exact this.drew
  have sa := hsr.keep (up_drew (up_alloc (Below.refl _ w2) (.cells #[] 40))) (by omega)
  have sb := hsr.keep (up_drew (up_alloc (up_alloc (Below.refl _ w2) (.cells #[] 40)) (.cells #[.int .i64 x, .int .i64 y, .slice Aw nw cw] 40))) (by omega)
  have sc := hsr.keep (up_drew (up_alloc (up_alloc (Below.refl _ w2) (.cells #[.int .i64 x, .int .i64 y, .slice Aw nw cw] 40)) (.cells #[] 40))) (by omega)
  have OA := Lib.hid oa
  have OB := Lib.hid ob
  have OC := Lib.hid oc
  have SA := Lib.hid sa
  have SB := Lib.hid sb
  have SC := Lib.hid sc
  clear oa ob oc sa sb sc hsr
  have FB : Blk (((w2.alloc (.cells #[] 40)).alloc (.cells #[.int .i64 x, .int .i64 y, .slice Aw nw cw] 40)).drew) (w.heap.size + 1 + 1 + 1) 40 #[.int .i64 x, .int .i64 y, .slice Aw nw cw] := by
    have := Blk.new (w2.alloc (.cells #[] 40)) 40 #[.int .i64 x, .int .i64 y, .slice Aw nw cw]
    have e : (w2.alloc (.cells #[] 40)).heap.size = w.heap.size + 1 + 1 + 1 := by simp [hsz2]
    rw [e] at this
    exact this.drew
  have FC : Blk (((w2.alloc (.cells #[.int .i64 x, .int .i64 y, .slice Aw nw cw] 40)).alloc (.cells #[] 40)).drew) (w.heap.size + 1 + 1) 40 #[.int .i64 x, .int .i64 y, .slice Aw nw cw] := by
    have := Blk.new w2 40 #[.int .i64 x, .int .i64 y, .slice Aw nw cw]
    rw [hsz2] at this
    exact (this.alloc _).drew
  have FB := Lib.hid FB
  have FC := Lib.hid FC
  go_region_held3 (fun w' => w'.cell? ⟨w.heap.size, 0, none⟩ = some (.slice An nn cn) ∧ w'.cell? ⟨w.heap.size, 1, none⟩ = some (.slice A fs.length c))
    (first
      | exact ⟨k0, k1⟩
      | (go_split_ands; refine ⟨by go_keep, by go_keep⟩)
      | (go_split_ands; refine ⟨?_, ?_⟩ <;> (rw [hg1.cell_far _ (by simp [hsz2]; omega) (by simp [Value.ownBlock]; omega)]; assumption))
      | (go_split_ands; refine ⟨?_, ?_⟩ <;> (rw [hg2.cell_far _ (by have := hg1.size; simp [hsz2] at this ⊢; omega) (fun e => by have := (ho1.lt _ e.symm).1; simp at this; omega)]; assumption)))
    ((first
      | (refine step_append_rd _ (by rfl) _ _ _ (by rfl) (w.heap.size + 1 + 1) 40 i0 _ 3 40 Try.underlying24 hi0 hz0 hz1 hz2 rfl (by omega) (.slice (some ⟨w.heap.size + 1 + 1, 0, none⟩) 0 0) 0 [] (by rfl) OA.out 0 w.heap.size A fs.length c (fvs fs hs) (by rfl) SA.out (fvs_one fs hs) (by unfold maxLen; omega) (by omega) (by simp; omega) ?_; intro v1 w3 ho1 hg1 hl1)
      | (refine step_append_rd _ (by rfl) _ _ _ (by rfl) (w.heap.size + 1 + 1) 40 i0 _ 3 40 Try.underlying24 hi0 hz0 hz1 hz2 rfl (by omega) (.slice (some ⟨w.heap.size + 1 + 1, 0, none⟩) 0 0) 0 [] (by rfl) OB.out 0 w.heap.size A fs.length c (fvs fs hs) (by rfl) SB.out (fvs_one fs hs) (by unfold maxLen; omega) (by omega) (by simp; omega) ?_; intro v1 w3 ho1 hg1 hl1)
      | (refine step_append_rd _ (by rfl) _ _ _ (by rfl) (w.heap.size + 1 + 1) 40 i0 _ 3 40 Try.underlying24 hi0 hz0 hz1 hz2 rfl (by omega) (.slice (some ⟨w.heap.size + 1 + 1 + 1, 0, none⟩) 0 0) 0 [] (by rfl) OC.out 0 w.heap.size A fs.length c (fvs fs hs) (by rfl) SC.out (fvs_one fs hs) (by unfold maxLen; omega) (by omega) (by simp; omega) ?_; intro v1 w3 ho1 hg1 hl1)
      | (refine step_append_rd _ (by rfl) _ _ _ (by rfl) (w.heap.size + 1 + 1) 40 i0 _ 3 40 Try.underlying24 hi0 hz0 hz1 hz2 rfl (by omega) v1 (0 + fs.length) ([] ++ fvs fs hs) (by rfl) (ho1.alloc _) _ _ _ 1 1 [.int .i64 x, .int .i64 y, .slice Aw nw cw] (by rfl) (Rd.of_blk (Blk.new w3 40 #[.int .i64 x, .int .i64 y, .slice Aw nw cw]) rfl) (by intro u hu; simp at hu; rcases hu with rfl | rfl | rfl <;> rfl) (by unfold maxLen; omega) (by omega) (by have := hg1.size; simp [hsz2] at this ⊢; omega) ?_
         intro v2 w4 ho2 hg2 hl2
         obtain ⟨A2, c2, rfl, _, _⟩ := own_cap ho2
         have hR4 : Blk w4 (w.heap.size + 1) 26 #[.slice none 0 0, .slice none 0 0] := ((((hr2.alloc _).drew).grown hg1 (by simp [Value.ownBlock])).alloc _).grown hg2 (fun e => by have := (ho1.lt _ e.symm).1; omega)
         have r0 : w4.cell? ⟨w.heap.size + 1, 0, none⟩ = some (.slice none 0 0) := hR4.cell 0
         have r1 : w4.cell? ⟨w.heap.size + 1, 1, none⟩ = some (.slice none 0 0) := hR4.cell 1
         have q0 := hR4.soft 0
         have q1 := hR4.soft 1
         have HR4 := Lib.hid hR4
         have HB4 := Lib.hid (show Below w.heap.size w w4 from ((up_alloc ((up_drew (up_alloc hb2 (.cells #[] 40))).grown hg1 (by simp; omega) (fun j hj => by simp [Value.ownBlock] at hj; omega)) (.cells #[.int .i64 x, .int .i64 y, .slice Aw nw cw] 40)).grown hg2 (by have := hg1.size; simp [hsz2] at this ⊢; omega) (fun j hj => by have := (ho1.lt j hj).1; omega)))
         clear hR4)
      | (refine step_append_rd _ (by rfl) _ _ _ (by rfl) (w.heap.size + 1 + 1) 40 i0 _ 3 40 Try.underlying24 hi0 hz0 hz1 hz2 rfl (by omega) v1 (0 + fs.length) ([] ++ fvs fs hs) (by rfl) ho1 _ _ _ 1 1 [.int .i64 x, .int .i64 y, .slice Aw nw cw] (by rfl) (Rd.of_blk (FB.out.grown hg1 (by simp [Value.ownBlock])) rfl) (by intro u hu; simp at hu; rcases hu with rfl | rfl | rfl <;> rfl) (by unfold maxLen; omega) (by omega) (by have := hg1.size; simp [hsz2] at this ⊢; omega) ?_
         intro v2 w4 ho2 hg2 hl2
         obtain ⟨A2, c2, rfl, _, _⟩ := own_cap ho2
         have hR4 : Blk w4 (w.heap.size + 1) 26 #[.slice none 0 0, .slice none 0 0] := ((((hr2.alloc _).alloc _).drew).grown hg1 (by simp [Value.ownBlock])).grown hg2 (fun e => by have := (ho1.lt _ e.symm).1; omega)
         have r0 : w4.cell? ⟨w.heap.size + 1, 0, none⟩ = some (.slice none 0 0) := hR4.cell 0
         have r1 : w4.cell? ⟨w.heap.size + 1, 1, none⟩ = some (.slice none 0 0) := hR4.cell 1
         have q0 := hR4.soft 0
         have q1 := hR4.soft 1
         have HR4 := Lib.hid hR4
         have HB4 := Lib.hid (show Below w.heap.size w w4 from (((up_drew (up_alloc (up_alloc hb2 (.cells #[] 40)) (.cells #[.int .i64 x, .int .i64 y, .slice Aw nw cw] 40))).grown hg1 (by simp; omega) (fun j hj => by simp [Value.ownBlock] at hj; omega)).grown hg2 (by have := hg1.size; simp [hsz2] at this ⊢; omega) (fun j hj => by have := (ho1.lt j hj).1; omega)))
         clear hR4)
      | (refine step_append_rd _ (by rfl) _ _ _ (by rfl) (w.heap.size + 1 + 1) 40 i0 _ 3 40 Try.underlying24 hi0 hz0 hz1 hz2 rfl (by omega) v1 (0 + fs.length) ([] ++ fvs fs hs) (by rfl) ho1 _ _ _ 1 1 [.int .i64 x, .int .i64 y, .slice Aw nw cw] (by rfl) (Rd.of_blk (FC.out.grown hg1 (by simp [Value.ownBlock])) rfl) (by intro u hu; simp at hu; rcases hu with rfl | rfl | rfl <;> rfl) (by unfold maxLen; omega) (by omega) (by have := hg1.size; simp [hsz2] at this ⊢; omega) ?_
         intro v2 w4 ho2 hg2 hl2
         obtain ⟨A2, c2, rfl, _, _⟩ := own_cap ho2
         have hR4 : Blk w4 (w.heap.size + 1) 26 #[.slice none 0 0, .slice none 0 0] := ((((hr2.alloc _).alloc _).drew).grown hg1 (by simp [Value.ownBlock])).grown hg2 (fun e => by have := (ho1.lt _ e.symm).1; omega)
         have r0 : w4.cell? ⟨w.heap.size + 1, 0, none⟩ = some (.slice none 0 0) := hR4.cell 0
         have r1 : w4.cell? ⟨w.heap.size + 1, 1, none⟩ = some (.slice none 0 0) := hR4.cell 1
         have q0 := hR4.soft 0
         have q1 := hR4.soft 1
         have HR4 := Lib.hid hR4
         have HB4 := Lib.hid (show Below w.heap.size w w4 from (((up_drew (up_alloc (up_alloc hb2 (.cells #[.int .i64 x, .int .i64 y, .slice Aw nw cw] 40)) (.cells #[] 40))).grown hg1 (by simp; omega) (fun j hj => by simp [Value.ownBlock] at hj; omega)).grown hg2 (by have := hg1.size; simp [hsz2] at this ⊢; omega) (fun j hj => by have := (ho1.lt j hj).1; omega)))
         clear hR4)))
  all_goals
    have hB2 := (HR4.out.put 0 (.slice An nn cn)).put 1 (.slice A2 (fs.length + 1) c2)
    have b0 := hB2.cell 0
    have b1 := hB2.cell 1
    simp at b0 b1
    have hgs := (grown_set w4 ⟨w.heap.size + 1, 0, none⟩ (.slice An nn cn)).trans (grown_set (w4.setCell ⟨w.heap.size + 1, 0, none⟩ (.slice An nn cn)) ⟨w.heap.size + 1, 1, none⟩ (.slice A2 (fs.length + 1) c2))
    have ho3 := own_grown ho2 hgs (fun j hj => by simp at hj; omega)
    rw [Nat.zero_add, List.nil_append] at ho3
    have HO3 := Lib.hid (own_base ho3 (show w.heap.size ≤ w.heap.size + 1 + 1 by omega))
    have HBF := Lib.hid ((HB4.out.setCell (p := ⟨w.heap.size + 1, 0, none⟩) (by simp) (.slice An nn cn)).setCell (p := ⟨w.heap.size + 1, 1, none⟩) (by simp) (.slice A2 (fs.length + 1) c2))
    clear hB2 hgs ho3 ho2 hg2 hl2 ho1 hg1 hl1 r0 r1 q0 q1
    go_wp2
    refine bodyPost_ret (v := .agg #[.slice An nn cn, .slice A2 (fs.length + 1) c2]) (by simp [results, Try.results87, go_sem, b0, b1]) rfl ⟨_, rfl, ?_, HBF.out⟩
    exact Prc.flow (h0 := (Aw, nw, cw)) H1.out HBN.out H3.out H5.out HW.out hl hu hnw hoff HBF.out HO3.out hbad
end Go.Proofs.Ythlcbdjjegageaa
