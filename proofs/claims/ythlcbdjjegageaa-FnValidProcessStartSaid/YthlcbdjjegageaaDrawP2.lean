/- The drawing of processes: a node more. -/
import Derived.Test.YthlcbdjjegageaaDrawP1
namespace Go.Proofs.Ythlcbdjjegageaa
open Go.RowKit
attribute [local go_sem ↓] Go.wp_at_zero Go.wp_at_succ

/-- A process with one node more, and its number. -/
def Added (Bad : Nat → Prop) (vf : Value) (ns' : List (Int × Int)) (fs : List Flw) (k : Int) (w : World) (e : Ending) (w' : World) : Prop :=
  ∃ vn', e = .returned (.tuple #[.agg #[vn', vf], .int .i64 k]) ∧ Prc w' Bad vn' vf ns' fs ∧ (∀ g, vn'.ownBlock = some g → w.heap.size ≤ g) ∧ Below w.heap.size w w'

set_option maxRecDepth 100000 in
set_option maxHeartbeats 6400000 in
theorem add_any (Bad : Nat → Prop) (nn cn n c : Nat) (An A : Option Addr) (ns : List (Int × Int)) (fs : List Flw) (kd vl : Int) (w : World) (hp : Prc w Bad (.slice An nn cn) (.slice A n c) ns fs) (hnn : nn = ns.length) (hn : nn ≤ 1000) (hbad : ∀ b, Bad b → b < w.heap.size) :
    Calls Try.prog 88 #[.agg #[.slice An nn cn, .slice A n c], .int .i64 kd, .int .i64 vl] w (Added Bad (.slice A n c) (ns ++ [(kd, vl)]) fs (nn : Int) w) := by
  subst hnn
  have HP := Lib.hid hp
  obtain ⟨h1, _⟩ := hp
  obtain ⟨i0, hi0, hz0, hz1, hz2⟩ := info_parts infoNodeD
  have hb2 := up_alloc (up_alloc (Below.refl _ w) (.cells #[.slice An ns.length cn, .slice A n c] 26)) (.cells #[.slice none 0 0, .slice none 0 0] 26)
  have hp2 := (Blk.new w 26 #[.slice An ns.length cn, .slice A n c]).alloc (.cells #[.slice none 0 0, .slice none 0 0] 26)
  have hr2 : Blk ((w.alloc (.cells #[.slice An ns.length cn, .slice A n c] 26)).alloc (.cells #[.slice none 0 0, .slice none 0 0] 26)) (w.heap.size + 1) 26 #[.slice none 0 0, .slice none 0 0] := by
    simpa using Blk.new (w.alloc (.cells #[.slice An ns.length cn, .slice A n c] 26)) 26 #[.slice none 0 0, .slice none 0 0]
  have hsr := (Rd.of_own h1).keep hb2 (Nat.le_refl _)
  have hsz2 : ((w.alloc (.cells #[.slice An ns.length cn, .slice A n c] 26)).alloc (.cells #[.slice none 0 0, .slice none 0 0] 26)).heap.size = w.heap.size + 1 + 1 := by simp
  clear h1
  go_enter Try.func88, Try.ntmps88
  go_wp2
  -- the three orders: the empty row first (a), then what is new (b), or what is new first (c)
  generalize hw2 : (w.alloc (.cells #[.slice An ns.length cn, .slice A n c] 26)).alloc (.cells #[.slice none 0 0, .slice none 0 0] 26) = w2 at *
  clear hw2
  have k0 : w2.cell? ⟨w.heap.size, 0, none⟩ = some (.slice An ns.length cn) := hp2.cell 0
  have k1 : w2.cell? ⟨w.heap.size, 1, none⟩ = some (.slice A n c) := hp2.cell 1
  have oa : ((w2.alloc (.cells #[] 32)).drew).ownsRow (w.heap.size + 1 + 1) 32 2 (.slice (some ⟨w.heap.size + 1 + 1, 0, none⟩) 0 0) 0 [] := by
    have := World.ownsRow_made w2 (base := w.heap.size + 1 + 1) (e := 32) (size := 2) #[] 0 (by omega) (by unfold maxLen; omega) (by simp)
    rw [hsz2] at this
    exact this.drew
  have ob : (((w2.alloc (.cells #[] 32)).alloc (.cells #[.int .i64 kd, .int .i64 vl] 32)).drew).ownsRow (w.heap.size + 1 + 1) 32 2 (.slice (some ⟨w.heap.size + 1 + 1, 0, none⟩) 0 0) 0 [] := by
    have := World.ownsRow_made w2 (base := w.heap.size + 1 + 1) (e := 32) (size := 2) #[] 0 (by omega) (by unfold maxLen; omega) (by simp)
    rw [hsz2] at this
    exact (this.alloc _).drew
  have oc : (((w2.alloc (.cells #[.int .i64 kd, .int .i64 vl] 32)).alloc (.cells #[] 32)).drew).ownsRow (w.heap.size + 1 + 1) 32 2 (.slice (some ⟨w.heap.size + 1 + 1 + 1, 0, none⟩) 0 0) 0 [] := by
    have := World.ownsRow_made (w2.alloc (.cells #[.int .i64 kd, .int .i64 vl] 32)) (base := w.heap.size + 1 + 1) (e := 32) (size := 2) #[] 0 (by simp; omega) (by unfold maxLen; omega) (by simp)
    have e : (w2.alloc (.cells #[.int .i64 kd, .int .i64 vl] 32)).heap.size = w.heap.size + 1 + 1 + 1 := by simp [hsz2]
    rw [e] at this
    exact this.drew
  have sa := hsr.keep (up_drew (up_alloc (Below.refl _ w2) (.cells #[] 32))) (by omega)
  have sb := hsr.keep (up_drew (up_alloc (up_alloc (Below.refl _ w2) (.cells #[] 32)) (.cells #[.int .i64 kd, .int .i64 vl] 32))) (by omega)
  have sc := hsr.keep (up_drew (up_alloc (up_alloc (Below.refl _ w2) (.cells #[.int .i64 kd, .int .i64 vl] 32)) (.cells #[] 32))) (by omega)
  have OA := Lib.hid oa
  have OB := Lib.hid ob
  have OC := Lib.hid oc
  have SA := Lib.hid sa
  have SB := Lib.hid sb
  have SC := Lib.hid sc
  clear oa ob oc sa sb sc hsr
  have FB : Blk (((w2.alloc (.cells #[] 32)).alloc (.cells #[.int .i64 kd, .int .i64 vl] 32)).drew) (w.heap.size + 1 + 1 + 1) 32 #[.int .i64 kd, .int .i64 vl] := by
    have := Blk.new (w2.alloc (.cells #[] 32)) 32 #[.int .i64 kd, .int .i64 vl]
    have e : (w2.alloc (.cells #[] 32)).heap.size = w.heap.size + 1 + 1 + 1 := by simp [hsz2]
    rw [e] at this
    exact this.drew
  have FC : Blk (((w2.alloc (.cells #[.int .i64 kd, .int .i64 vl] 32)).alloc (.cells #[] 32)).drew) (w.heap.size + 1 + 1) 32 #[.int .i64 kd, .int .i64 vl] := by
    have := Blk.new w2 32 #[.int .i64 kd, .int .i64 vl]
    rw [hsz2] at this
    exact (this.alloc _).drew
  have FB := Lib.hid FB
  have FC := Lib.hid FC
  go_region_held3 (fun w' => w'.cell? ⟨w.heap.size, 0, none⟩ = some (.slice An ns.length cn) ∧ w'.cell? ⟨w.heap.size, 1, none⟩ = some (.slice A n c))
    (first
      | exact ⟨k0, k1⟩
      | (go_split_ands; refine ⟨by go_keep, by go_keep⟩)
      | (go_split_ands; refine ⟨?_, ?_⟩ <;> (rw [hg1.cell_far _ (by simp [hsz2]; omega) (by simp [Value.ownBlock]; omega)]; assumption))
      | (go_split_ands; refine ⟨?_, ?_⟩ <;> (rw [hg2.cell_far _ (by have := hg1.size; simp [hsz2] at this ⊢; omega) (fun e => by have := (ho1.lt _ e.symm).1; simp at this; omega)]; assumption)))
    ((first
      | (refine step_append_rd _ (by rfl) _ _ _ (by rfl) (w.heap.size + 1 + 1) 32 i0 _ 2 16 Try.underlying23 hi0 hz0 hz1 hz2 rfl (by omega) (.slice (some ⟨w.heap.size + 1 + 1, 0, none⟩) 0 0) 0 [] (by rfl) OA.out 0 w.heap.size An ns.length cn (pvs ns) (by rfl) SA.out (pvs_one ns) (by unfold maxLen; omega) (by omega) (by simp; omega) ?_; intro v1 w3 ho1 hg1 hl1)
      | (refine step_append_rd _ (by rfl) _ _ _ (by rfl) (w.heap.size + 1 + 1) 32 i0 _ 2 16 Try.underlying23 hi0 hz0 hz1 hz2 rfl (by omega) (.slice (some ⟨w.heap.size + 1 + 1, 0, none⟩) 0 0) 0 [] (by rfl) OB.out 0 w.heap.size An ns.length cn (pvs ns) (by rfl) SB.out (pvs_one ns) (by unfold maxLen; omega) (by omega) (by simp; omega) ?_; intro v1 w3 ho1 hg1 hl1)
      | (refine step_append_rd _ (by rfl) _ _ _ (by rfl) (w.heap.size + 1 + 1) 32 i0 _ 2 16 Try.underlying23 hi0 hz0 hz1 hz2 rfl (by omega) (.slice (some ⟨w.heap.size + 1 + 1 + 1, 0, none⟩) 0 0) 0 [] (by rfl) OC.out 0 w.heap.size An ns.length cn (pvs ns) (by rfl) SC.out (pvs_one ns) (by unfold maxLen; omega) (by omega) (by simp; omega) ?_; intro v1 w3 ho1 hg1 hl1)
      | (refine step_append_rd _ (by rfl) _ _ _ (by rfl) (w.heap.size + 1 + 1) 32 i0 _ 2 16 Try.underlying23 hi0 hz0 hz1 hz2 rfl (by omega) v1 (0 + ns.length) ([] ++ pvs ns) (by rfl) (ho1.alloc _) _ _ _ 1 1 [.int .i64 kd, .int .i64 vl] (by rfl) (Rd.of_blk (Blk.new w3 32 #[.int .i64 kd, .int .i64 vl]) rfl) (by intro u hu; simp at hu; rcases hu with rfl | rfl <;> rfl) (by unfold maxLen; omega) (by omega) (by have := hg1.size; simp [hsz2] at this ⊢; omega) ?_
         intro v2 w4 ho2 hg2 hl2
         obtain ⟨A2, c2, rfl, _, _⟩ := own_cap ho2
         have hR4 : Blk w4 (w.heap.size + 1) 26 #[.slice none 0 0, .slice none 0 0] := ((((hr2.alloc _).drew).grown hg1 (by simp [Value.ownBlock])).alloc _).grown hg2 (fun e => by have := (ho1.lt _ e.symm).1; omega)
         have r0 : w4.cell? ⟨w.heap.size + 1, 0, none⟩ = some (.slice none 0 0) := hR4.cell 0
         have r1 : w4.cell? ⟨w.heap.size + 1, 1, none⟩ = some (.slice none 0 0) := hR4.cell 1
         have q0 := hR4.soft 0
         have q1 := hR4.soft 1
         have HR4 := Lib.hid hR4
         have HB4 := Lib.hid (show Below w.heap.size w w4 from ((up_alloc ((up_drew (up_alloc hb2 (.cells #[] 32))).grown hg1 (by simp; omega) (fun j hj => by simp [Value.ownBlock] at hj; omega)) (.cells #[.int .i64 kd, .int .i64 vl] 32)).grown hg2 (by have := hg1.size; simp [hsz2] at this ⊢; omega) (fun j hj => by have := (ho1.lt j hj).1; omega)))
         clear hR4)
      | (refine step_append_rd _ (by rfl) _ _ _ (by rfl) (w.heap.size + 1 + 1) 32 i0 _ 2 16 Try.underlying23 hi0 hz0 hz1 hz2 rfl (by omega) v1 (0 + ns.length) ([] ++ pvs ns) (by rfl) ho1 _ _ _ 1 1 [.int .i64 kd, .int .i64 vl] (by rfl) (Rd.of_blk (FB.out.grown hg1 (by simp [Value.ownBlock])) rfl) (by intro u hu; simp at hu; rcases hu with rfl | rfl <;> rfl) (by unfold maxLen; omega) (by omega) (by have := hg1.size; simp [hsz2] at this ⊢; omega) ?_
         intro v2 w4 ho2 hg2 hl2
         obtain ⟨A2, c2, rfl, _, _⟩ := own_cap ho2
         have hR4 : Blk w4 (w.heap.size + 1) 26 #[.slice none 0 0, .slice none 0 0] := ((((hr2.alloc _).alloc _).drew).grown hg1 (by simp [Value.ownBlock])).grown hg2 (fun e => by have := (ho1.lt _ e.symm).1; omega)
         have r0 : w4.cell? ⟨w.heap.size + 1, 0, none⟩ = some (.slice none 0 0) := hR4.cell 0
         have r1 : w4.cell? ⟨w.heap.size + 1, 1, none⟩ = some (.slice none 0 0) := hR4.cell 1
         have q0 := hR4.soft 0
         have q1 := hR4.soft 1
         have HR4 := Lib.hid hR4
         have HB4 := Lib.hid (show Below w.heap.size w w4 from (((up_drew (up_alloc (up_alloc hb2 (.cells #[] 32)) (.cells #[.int .i64 kd, .int .i64 vl] 32))).grown hg1 (by simp; omega) (fun j hj => by simp [Value.ownBlock] at hj; omega)).grown hg2 (by have := hg1.size; simp [hsz2] at this ⊢; omega) (fun j hj => by have := (ho1.lt j hj).1; omega)))
         clear hR4)
      | (refine step_append_rd _ (by rfl) _ _ _ (by rfl) (w.heap.size + 1 + 1) 32 i0 _ 2 16 Try.underlying23 hi0 hz0 hz1 hz2 rfl (by omega) v1 (0 + ns.length) ([] ++ pvs ns) (by rfl) ho1 _ _ _ 1 1 [.int .i64 kd, .int .i64 vl] (by rfl) (Rd.of_blk (FC.out.grown hg1 (by simp [Value.ownBlock])) rfl) (by intro u hu; simp at hu; rcases hu with rfl | rfl <;> rfl) (by unfold maxLen; omega) (by omega) (by have := hg1.size; simp [hsz2] at this ⊢; omega) ?_
         intro v2 w4 ho2 hg2 hl2
         obtain ⟨A2, c2, rfl, _, _⟩ := own_cap ho2
         have hR4 : Blk w4 (w.heap.size + 1) 26 #[.slice none 0 0, .slice none 0 0] := ((((hr2.alloc _).alloc _).drew).grown hg1 (by simp [Value.ownBlock])).grown hg2 (fun e => by have := (ho1.lt _ e.symm).1; omega)
         have r0 : w4.cell? ⟨w.heap.size + 1, 0, none⟩ = some (.slice none 0 0) := hR4.cell 0
         have r1 : w4.cell? ⟨w.heap.size + 1, 1, none⟩ = some (.slice none 0 0) := hR4.cell 1
         have q0 := hR4.soft 0
         have q1 := hR4.soft 1
         have HR4 := Lib.hid hR4
         have HB4 := Lib.hid (show Below w.heap.size w w4 from (((up_drew (up_alloc (up_alloc hb2 (.cells #[.int .i64 kd, .int .i64 vl] 32)) (.cells #[] 32))).grown hg1 (by simp; omega) (fun j hj => by simp [Value.ownBlock] at hj; omega)).grown hg2 (by have := hg1.size; simp [hsz2] at this ⊢; omega) (fun j hj => by have := (ho1.lt j hj).1; omega)))
         clear hR4)))
  all_goals
    have hB2 := (HR4.out.put 0 (.slice A2 (ns.length + 1) c2)).put 1 (.slice A n c)
    have b0 := hB2.cell 0
    have b1 := hB2.cell 1
    simp at b0 b1
    have hgs := (grown_set w4 ⟨w.heap.size + 1, 0, none⟩ (.slice A2 (ns.length + 1) c2)).trans (grown_set (w4.setCell ⟨w.heap.size + 1, 0, none⟩ (.slice A2 (ns.length + 1) c2)) ⟨w.heap.size + 1, 1, none⟩ (.slice A n c))
    have ho3 := own_grown ho2 hgs (fun j hj => by simp at hj; omega)
    rw [Nat.zero_add, List.nil_append] at ho3
    have HO3 := Lib.hid (own_base ho3 (show w.heap.size ≤ w.heap.size + 1 + 1 by omega))
    have HBF := Lib.hid ((HB4.out.setCell (p := ⟨w.heap.size + 1, 0, none⟩) (by simp) (.slice A2 (ns.length + 1) c2)).setCell (p := ⟨w.heap.size + 1, 1, none⟩) (by simp) (.slice A n c))
    clear hB2 hgs ho3 ho2 hg2 hl2 ho1 hg1 hl1 r0 r1 q0 q1
    go_wp2
    refine bodyPost_ret (v := .tuple #[.agg #[.slice A2 (ns.length + 1) c2, .slice A n c], .int .i64 (ns.length : Int)]) (by simp [results, Try.results88, go_sem, b0, b1]) rfl ⟨_, rfl, ?_, fun g hg => (HO3.out.lt g hg).1, HBF.out⟩
    refine HP.out.nodes HBF.out ?_ hbad
    rw [pvs_append, List.length_append]
    exact HO3.out
theorem rdr_set {w : World} {r : Nat} {A : Option Addr} {n c : Nat} {xs : List Int} {p : Int} (h : Rdr w r A n c xs p) (a : Addr) (u : Value) (ha : r < a.block) : Rdr (w.setCell a u) r A n c xs p :=
  ⟨h.1.far (by omega) u, h.2.1.setCell (.inr (by omega)) u, h.2.2⟩
end Go.Proofs.Ythlcbdjjegageaa
