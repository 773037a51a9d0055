/- spec.copyPost, spec.SendLetter, spec.WaitLetter. (Written by gen/sendspec.py.) -/
import Derived.Test.YtgnffodnimafoaaSendMath
import Derived.Test.YtgnffodnimafoaaPostS
import Derived.Test.YtgnffodnimafoaaDelRun
import Derived.Test.YtgnffodnimafoaaExSub
import Derived.Test.YtgnffodnimafoaaExLetter
import Derived.Test.YtgnffodnimafoaaDropCopy
import Derived.Deep.RegionLaw
import Derived.Deep.RegionHeld3
set_option linter.unusedSimpArgs false
set_option linter.unusedVariables false
namespace Go.Proofs.Ytgnffodnimafoaa
open Go.RowKit

/-- A post office in two rows of the call's own, apart, and what else is told. -/
def PostRes (P : List Tri × List Tri) (k : Value) (b : Bool) (w : World) (e : Ending) (w' : World) : Prop :=
  ∃ A1 n1 c1 A2 n2 c2, e = .returned (.tuple #[.agg #[.slice A1 n1 c1, .slice A2 n2 c2], k, .bool b]) ∧ CopyRows w.heap.size P.1 P.2 n1 n2 (.slice A1 n1 c1) (.slice A2 n2 c2) w' ∧ Below w.heap.size w w'
set_option maxRecDepth 100000 in
set_option maxHeartbeats 3200000 in
theorem copyPostS_any (lo hi nn cn : Nat) (An : Option Addr) (ns : List Tri) (lo' hi' n c : Nat) (A : Option Addr) (fs : List Tri) (w : World) (hrn : Rd w lo hi 3 An nn (tvs ns)) (hB : hi ≤ w.heap.size) (hnn : nn ≤ 1048576)
    (hr : Rd w lo' hi' 3 A n (tvs fs)) (hB' : hi' ≤ w.heap.size) (hn : n ≤ 1048576) :
    Calls Try.prog 42 #[.agg #[.slice An nn cn, .slice A n c]] w fun e w' => ∃ A1 c1 A2 c2, e = .returned (.agg #[.slice A1 nn c1, .slice A2 n c2]) ∧ CopyRows w.heap.size ns fs nn n (.slice A1 nn c1) (.slice A2 n c2) w' ∧ Below w.heap.size w w' := by
  obtain ⟨i0, hi0, hz0, hz1, hz2⟩ := info_parts infoLetter
  obtain ⟨j0, hj0, hy0, hy1, hy2⟩ := info_parts infoSub
  have HLN := Lib.hid hrn.len3
  have HLF := Lib.hid hr.len3
  have hb0 := up_alloc (up_alloc (Below.refl _ w) (.cells #[.slice An nn cn, .slice A n c] 26)) (.cells #[.slice none 0 0, .slice none 0 0] 26)
  have hp0 := (Blk.new w 26 #[.slice An nn cn, .slice A n c]).alloc (.cells #[.slice none 0 0, .slice none 0 0] 26)
  have hq0 : Blk ((w.alloc (.cells #[.slice An nn cn, .slice A n c] 26)).alloc (.cells #[.slice none 0 0, .slice none 0 0] 26)) (w.heap.size + 1) 26 #[.slice none 0 0, .slice none 0 0] := Blk.new2 (by simp)
  have hsz : ((w.alloc (.cells #[.slice An nn cn, .slice A n c] 26)).alloc (.cells #[.slice none 0 0, .slice none 0 0] 26)).heap.size = w.heap.size + 1 + 1 := by simp
  have HRN := Lib.hid (hrn.keep hb0 hB)
  have HR := Lib.hid (hr.keep hb0 hB')
  clear hrn hr
  go_enter Try.func42, Try.ntmps42
  go_wp2_with (fail)
  generalize hw2 : (w.alloc (.cells #[.slice An nn cn, .slice A n c] 26)).alloc (.cells #[.slice none 0 0, .slice none 0 0] 26) = w2 at *
  clear hw2
  have k0 : w2.cell? ⟨w.heap.size, 0, none⟩ = some (.slice An nn cn) := hp0.cell 0
  have k1 : w2.cell? ⟨w.heap.size, 1, none⟩ = some (.slice A n c) := hp0.cell 1
  have HB2 := Lib.hid hb0
  have HQ2 := Lib.hid hq0
  clear hb0 hq0
  go_region_held3 (fun w' => w'.cell? ⟨w.heap.size, 0, none⟩ = some (.slice An nn cn) ∧ w'.cell? ⟨w.heap.size, 1, none⟩ = some (.slice A n c))
    (first
      | exact ⟨k0, k1⟩
      | (go_split_ands; refine ⟨by go_keep, by go_keep⟩)
      | (go_split_ands; refine ⟨?_, ?_⟩ <;> (rw [hgS.cell_far _ (by simp [hsz]; omega) (by simp [Value.ownBlock]; omega)]; assumption))
      | (go_split_ands; refine ⟨?_, ?_⟩ <;> (rw [hgL.cell_far _ (by have := hgS.size; simp [hsz] at this ⊢; omega) (by have := hgS.size; simp [hsz] at this; simp [Value.ownBlock]; omega)]; assumption)))
    ((first
      | (refine step_append_rd _ (by rfl) (.tmp 3) (.tmp 5) 23 (by rfl) (w.heap.size + 1 + 1) 42 j0 _ 3 24 Try.underlying23 hj0 hy0 hy1 hy2 rfl (by omega) (.slice (some ⟨w.heap.size + 1 + 1, 0, none⟩) 0 0) 0 [] (by rfl) (own_of_blk (by repeat (first | (with_reducible exact HQ2.out) | (with_reducible refine Blk.new2 ?_; (simp [hsz]; done)) | (with_reducible refine Blk.drew ?_) | (with_reducible refine Blk.alloc ?_ _) | (with_reducible refine Blk.grown ?_ hgL ?_; rotate_left; (have hh := hgS.size; simp [hsz] at hh; simp [Value.ownBlock]; try omega)) | (with_reducible refine Blk.grown ?_ hgS ?_; rotate_left; (simp [Value.ownBlock]; try omega)))) (by omega)) lo hi An nn cn (tvs ns) (by rfl) (HRN.out.keep (show Below w2.heap.size w2 _ from by repeat (first | (with_reducible exact Below.refl _ _) | (with_reducible exact Below.refl _ _) | (with_reducible refine up_alloc ?_ _) | (with_reducible refine up_drew ?_) | (with_reducible refine Below.grown ?_ hgL ?_ ?_; rotate_left; (have := hgS.size; simp [hsz] at this ⊢; omega); (intro k hk; have := hgS.size; simp [hsz] at this; simp [Value.ownBlock] at hk; omega)) | (with_reducible refine Below.grown ?_ hgS ?_ ?_; rotate_left; (simp [hsz]; try omega); (intro k hk; simp [Value.ownBlock] at hk; omega)))) (by omega)) (tvs_one ns) (by unfold maxLen; omega) (by omega) (by simp [hsz]; try omega) ?_
         intro vS wS hoS hgS hlS
         rw [Nat.zero_add, List.nil_append] at hoS
         obtain ⟨A1, c1, rfl, _⟩ := own_form hoS
         have hoS0 := hoS)
      | (refine step_append_rd _ (by rfl) (.tmp 3) (.tmp 5) 23 (by rfl) (w.heap.size + 1 + 1) 42 j0 _ 3 24 Try.underlying23 hj0 hy0 hy1 hy2 rfl (by omega) (.slice (some ⟨w.heap.size + 1 + 1 + 1, 0, none⟩) 0 0) 0 [] (by rfl) (own_of_blk (by repeat (first | (with_reducible exact HQ2.out) | (with_reducible refine Blk.new2 ?_; (simp [hsz]; done)) | (with_reducible refine Blk.drew ?_) | (with_reducible refine Blk.alloc ?_ _) | (with_reducible refine Blk.grown ?_ hgL ?_; rotate_left; (have hh := hgS.size; simp [hsz] at hh; simp [Value.ownBlock]; try omega)) | (with_reducible refine Blk.grown ?_ hgS ?_; rotate_left; (simp [Value.ownBlock]; try omega)))) (by omega)) lo hi An nn cn (tvs ns) (by rfl) (HRN.out.keep (show Below w2.heap.size w2 _ from by repeat (first | (with_reducible exact Below.refl _ _) | (with_reducible exact Below.refl _ _) | (with_reducible refine up_alloc ?_ _) | (with_reducible refine up_drew ?_) | (with_reducible refine Below.grown ?_ hgL ?_ ?_; rotate_left; (have := hgS.size; simp [hsz] at this ⊢; omega); (intro k hk; have := hgS.size; simp [hsz] at this; simp [Value.ownBlock] at hk; omega)) | (with_reducible refine Below.grown ?_ hgS ?_ ?_; rotate_left; (simp [hsz]; try omega); (intro k hk; simp [Value.ownBlock] at hk; omega)))) (by omega)) (tvs_one ns) (by unfold maxLen; omega) (by omega) (by simp [hsz]; try omega) ?_
         intro vS wS hoS hgS hlS
         rw [Nat.zero_add, List.nil_append] at hoS
         obtain ⟨A1, c1, rfl, _⟩ := own_form hoS
         have hoS0 := hoS)
      | (refine step_append_rd _ (by rfl) (.tmp 7) (.tmp 9) 24 (by rfl) (w.heap.size + 1 + 1) 33 i0 _ 3 24 Try.underlying24 hi0 hz0 hz1 hz2 rfl (by omega) (.slice (some ⟨w.heap.size + 1 + 1 + 1, 0, none⟩) 0 0) 0 [] (by rfl) (own_of_blk (by repeat (first | (with_reducible exact HQ2.out) | (with_reducible refine Blk.new2 ?_; (simp [hsz]; done)) | (with_reducible refine Blk.drew ?_) | (with_reducible refine Blk.alloc ?_ _) | (with_reducible refine Blk.grown ?_ hgL ?_; rotate_left; (have hh := hgS.size; simp [hsz] at hh; simp [Value.ownBlock]; try omega)) | (with_reducible refine Blk.grown ?_ hgS ?_; rotate_left; (simp [Value.ownBlock]; try omega)))) (by have := hgS.size; simp [hsz] at this; omega)) lo' hi' A n c (tvs fs) (by rfl) (HR.out.keep (show Below w2.heap.size w2 _ from by repeat (first | (with_reducible exact Below.refl _ _) | (with_reducible exact Below.refl _ _) | (with_reducible refine up_alloc ?_ _) | (with_reducible refine up_drew ?_) | (with_reducible refine Below.grown ?_ hgL ?_ ?_; rotate_left; (have := hgS.size; simp [hsz] at this ⊢; omega); (intro k hk; have := hgS.size; simp [hsz] at this; simp [Value.ownBlock] at hk; omega)) | (with_reducible refine Below.grown ?_ hgS ?_ ?_; rotate_left; (simp [hsz]; try omega); (intro k hk; simp [Value.ownBlock] at hk; omega)))) (by omega)) (tvs_one fs) (by unfold maxLen; omega) (by omega) (by have := hgS.size; simp [hsz] at this ⊢; omega) ?_
         intro vL wL hoL hgL hlL
         rw [Nat.zero_add, List.nil_append] at hoL
         obtain ⟨A2, c2, rfl, _⟩ := own_form hoL
         have HQL := Lib.hid (show Blk wL (w.heap.size + 1) 26 #[.slice none 0 0, .slice none 0 0] from (by repeat (first | (with_reducible exact HQ2.out) | (with_reducible refine Blk.new2 ?_; (simp [hsz]; done)) | (with_reducible refine Blk.drew ?_) | (with_reducible refine Blk.alloc ?_ _) | (with_reducible refine Blk.grown ?_ hgL ?_; rotate_left; (have hh := hgS.size; simp [hsz] at hh; simp [Value.ownBlock]; try omega)) | (with_reducible refine Blk.grown ?_ hgS ?_; rotate_left; (simp [Value.ownBlock]; try omega)))))
         have HBL := Lib.hid (up HB2.out (show Below w2.heap.size w2 wL from by repeat (first | (with_reducible exact Below.refl _ _) | (with_reducible exact Below.refl _ _) | (with_reducible refine up_alloc ?_ _) | (with_reducible refine up_drew ?_) | (with_reducible refine Below.grown ?_ hgL ?_ ?_; rotate_left; (have := hgS.size; simp [hsz] at this ⊢; omega); (intro k hk; have := hgS.size; simp [hsz] at this; simp [Value.ownBlock] at hk; omega)) | (with_reducible refine Below.grown ?_ hgS ?_ ?_; rotate_left; (simp [hsz]; try omega); (intro k hk; simp [Value.ownBlock] at hk; omega)))))
         have hapS : ∀ k, (Value.slice A1 nn c1).ownBlock = some k → k ≠ w.heap.size + 1 + 1 + 1 := fun k hv e => by
           first
             | (have := (hoS0.lt k hv).2; omega)
             | (rcases hlS with h | h <;> rw [h] at hv <;> simp [Value.ownBlock, hsz] at hv <;> omega)
         have r0 := HQL.out.cell 0
         have r1 := HQL.out.cell 1
         have q0 := HQL.out.soft 0
         have q1 := HQL.out.soft 1)
      | (refine step_append_rd _ (by rfl) (.tmp 7) (.tmp 9) 24 (by rfl) (w.heap.size + 1 + 1) 33 i0 _ 3 24 Try.underlying24 hi0 hz0 hz1 hz2 rfl (by omega) (.slice (some ⟨w.heap.size + 1 + 1, 0, none⟩) 0 0) 0 [] (by rfl) (own_of_blk (by repeat (first | (with_reducible exact HQ2.out) | (with_reducible refine Blk.new2 ?_; (simp [hsz]; done)) | (with_reducible refine Blk.drew ?_) | (with_reducible refine Blk.alloc ?_ _) | (with_reducible refine Blk.grown ?_ hgL ?_; rotate_left; (have hh := hgS.size; simp [hsz] at hh; simp [Value.ownBlock]; try omega)) | (with_reducible refine Blk.grown ?_ hgS ?_; rotate_left; (simp [Value.ownBlock]; try omega)))) (by have := hgS.size; simp [hsz] at this; omega)) lo' hi' A n c (tvs fs) (by rfl) (HR.out.keep (show Below w2.heap.size w2 _ from by repeat (first | (with_reducible exact Below.refl _ _) | (with_reducible exact Below.refl _ _) | (with_reducible refine up_alloc ?_ _) | (with_reducible refine up_drew ?_) | (with_reducible refine Below.grown ?_ hgL ?_ ?_; rotate_left; (have := hgS.size; simp [hsz] at this ⊢; omega); (intro k hk; have := hgS.size; simp [hsz] at this; simp [Value.ownBlock] at hk; omega)) | (with_reducible refine Below.grown ?_ hgS ?_ ?_; rotate_left; (simp [hsz]; try omega); (intro k hk; simp [Value.ownBlock] at hk; omega)))) (by omega)) (tvs_one fs) (by unfold maxLen; omega) (by omega) (by have := hgS.size; simp [hsz] at this ⊢; omega) ?_
         intro vL wL hoL hgL hlL
         rw [Nat.zero_add, List.nil_append] at hoL
         obtain ⟨A2, c2, rfl, _⟩ := own_form hoL
         have HQL := Lib.hid (show Blk wL (w.heap.size + 1) 26 #[.slice none 0 0, .slice none 0 0] from (by repeat (first | (with_reducible exact HQ2.out) | (with_reducible refine Blk.new2 ?_; (simp [hsz]; done)) | (with_reducible refine Blk.drew ?_) | (with_reducible refine Blk.alloc ?_ _) | (with_reducible refine Blk.grown ?_ hgL ?_; rotate_left; (have hh := hgS.size; simp [hsz] at hh; simp [Value.ownBlock]; try omega)) | (with_reducible refine Blk.grown ?_ hgS ?_; rotate_left; (simp [Value.ownBlock]; try omega)))))
         have HBL := Lib.hid (up HB2.out (show Below w2.heap.size w2 wL from by repeat (first | (with_reducible exact Below.refl _ _) | (with_reducible exact Below.refl _ _) | (with_reducible refine up_alloc ?_ _) | (with_reducible refine up_drew ?_) | (with_reducible refine Below.grown ?_ hgL ?_ ?_; rotate_left; (have := hgS.size; simp [hsz] at this ⊢; omega); (intro k hk; have := hgS.size; simp [hsz] at this; simp [Value.ownBlock] at hk; omega)) | (with_reducible refine Below.grown ?_ hgS ?_ ?_; rotate_left; (simp [hsz]; try omega); (intro k hk; simp [Value.ownBlock] at hk; omega)))))
         have hapS : ∀ k, (Value.slice A1 nn c1).ownBlock = some k → k ≠ w.heap.size + 1 + 1 := fun k hv e => by
           first
             | (have := (hoS0.lt k hv).2; omega)
             | (rcases hlS with h | h <;> rw [h] at hv <;> simp [Value.ownBlock, hsz] at hv <;> omega)
         have r0 := HQL.out.cell 0
         have r1 := HQL.out.cell 1
         have q0 := HQL.out.soft 0
         have q1 := HQL.out.soft 1)
      | (refine step_append_rd _ (by rfl) (.tmp 7) (.tmp 9) 24 (by rfl) (w.heap.size + 1 + 1) 33 i0 _ 3 24 Try.underlying24 hi0 hz0 hz1 hz2 rfl (by omega) (.slice (some ⟨wS.heap.size, 0, none⟩) 0 0) 0 [] (by rfl) (own_of_blk (by repeat (first | (with_reducible exact HQ2.out) | (with_reducible refine Blk.new2 ?_; (simp [hsz]; done)) | (with_reducible refine Blk.drew ?_) | (with_reducible refine Blk.alloc ?_ _) | (with_reducible refine Blk.grown ?_ hgL ?_; rotate_left; (have hh := hgS.size; simp [hsz] at hh; simp [Value.ownBlock]; try omega)) | (with_reducible refine Blk.grown ?_ hgS ?_; rotate_left; (simp [Value.ownBlock]; try omega)))) (by have := hgS.size; simp [hsz] at this; omega)) lo' hi' A n c (tvs fs) (by rfl) (HR.out.keep (show Below w2.heap.size w2 _ from by repeat (first | (with_reducible exact Below.refl _ _) | (with_reducible exact Below.refl _ _) | (with_reducible refine up_alloc ?_ _) | (with_reducible refine up_drew ?_) | (with_reducible refine Below.grown ?_ hgL ?_ ?_; rotate_left; (have := hgS.size; simp [hsz] at this ⊢; omega); (intro k hk; have := hgS.size; simp [hsz] at this; simp [Value.ownBlock] at hk; omega)) | (with_reducible refine Below.grown ?_ hgS ?_ ?_; rotate_left; (simp [hsz]; try omega); (intro k hk; simp [Value.ownBlock] at hk; omega)))) (by omega)) (tvs_one fs) (by unfold maxLen; omega) (by omega) (by have := hgS.size; simp [hsz] at this ⊢; omega) ?_
         intro vL wL hoL hgL hlL
         rw [Nat.zero_add, List.nil_append] at hoL
         obtain ⟨A2, c2, rfl, _⟩ := own_form hoL
         have HQL := Lib.hid (show Blk wL (w.heap.size + 1) 26 #[.slice none 0 0, .slice none 0 0] from (by repeat (first | (with_reducible exact HQ2.out) | (with_reducible refine Blk.new2 ?_; (simp [hsz]; done)) | (with_reducible refine Blk.drew ?_) | (with_reducible refine Blk.alloc ?_ _) | (with_reducible refine Blk.grown ?_ hgL ?_; rotate_left; (have hh := hgS.size; simp [hsz] at hh; simp [Value.ownBlock]; try omega)) | (with_reducible refine Blk.grown ?_ hgS ?_; rotate_left; (simp [Value.ownBlock]; try omega)))))
         have HBL := Lib.hid (up HB2.out (show Below w2.heap.size w2 wL from by repeat (first | (with_reducible exact Below.refl _ _) | (with_reducible exact Below.refl _ _) | (with_reducible refine up_alloc ?_ _) | (with_reducible refine up_drew ?_) | (with_reducible refine Below.grown ?_ hgL ?_ ?_; rotate_left; (have := hgS.size; simp [hsz] at this ⊢; omega); (intro k hk; have := hgS.size; simp [hsz] at this; simp [Value.ownBlock] at hk; omega)) | (with_reducible refine Below.grown ?_ hgS ?_ ?_; rotate_left; (simp [hsz]; try omega); (intro k hk; simp [Value.ownBlock] at hk; omega)))))
         replace hoS := hoS.alloc (.cells #[] 33)
         have hapS : ∀ k, (Value.slice A1 nn c1).ownBlock = some k → k ≠ wS.heap.size := fun k hv e => by
           first
             | (have := (hoS0.lt k hv).2; omega)
             | (rcases hlS with h | h <;> rw [h] at hv <;> simp [Value.ownBlock, hsz] at hv <;> omega)
         have r0 := HQL.out.cell 0
         have r1 := HQL.out.cell 1
         have q0 := HQL.out.soft 0
         have q1 := HQL.out.soft 1)
))
  all_goals
    have hX1 := hoS.kept hgL (by
      cases hv : (Value.slice A1 nn c1).ownBlock with
      | none => exact .inl rfl
      | some k =>
        refine .inr fun e => ?_
        simp [Value.ownBlock] at e
        exact hapS k hv e)
    have HAP := Lib.hid (show ∀ g, (Value.slice A1 nn c1).ownBlock = some g → (Value.slice A2 n c2).ownBlock ≠ some g from fun g h1 h2 => by
      rcases hlL with h | h
      · rw [h] at h2
        simp [Value.ownBlock] at h2
        exact hapS g h1 h2.symm
      · rw [h] at h2
        have h3 := (hoS.lt g h1).2
        try simp at h2
        try simp at h3
        omega)
    have hz := (HQL.out.put 0 (.slice A1 nn c1)).put 1 (.slice A2 n c2)
    have z0 := hz.cell 0
    have z1 := hz.cell 1
    simp at z0 z1
    have HBZ := Lib.hid ((HBL.out.setCell (p := ⟨w.heap.size + 1, 0, none⟩) (by show w.heap.size ≤ w.heap.size + 1; omega) (.slice A1 nn c1)).setCell (p := ⟨w.heap.size + 1, 1, none⟩) (by show w.heap.size ≤ w.heap.size + 1; omega) (.slice A2 n c2))
    have hlt : ∀ j, some (w.heap.size + 1) = some j → j < w.heap.size + 1 + 1 := fun j hj => by cases hj; omega
    have HR1 := Lib.hid (own_base (own_grown (own_grown hX1 (grown_set wL ⟨w.heap.size + 1, 0, none⟩ (.slice A1 nn c1)) hlt) (grown_set _ ⟨w.heap.size + 1, 1, none⟩ (.slice A2 n c2)) hlt) (show w.heap.size ≤ w.heap.size + 1 + 1 by omega))
    have HR2 := Lib.hid (own_base (own_grown (own_grown hoL (grown_set wL ⟨w.heap.size + 1, 0, none⟩ (.slice A1 nn c1)) hlt) (grown_set _ ⟨w.heap.size + 1, 1, none⟩ (.slice A2 n c2)) hlt) (show w.heap.size ≤ w.heap.size + 1 + 1 by omega))
    clear hz hlt hX1 hapS hoL hoS hgS hgL hlS hlL hoS0 r0 r1 q0 q1
    go_wp2
    exact bodyPost_ret (v := .agg #[.slice A1 nn c1, .slice A2 n c2]) (by simp [results, Try.results42, go_sem, z0, z1]) rfl ⟨A1, c1, A2, c2, rfl, ⟨HR1.out, HR2.out, HAP.out⟩, HBZ.out⟩
end Go.Proofs.Ytgnffodnimafoaa
