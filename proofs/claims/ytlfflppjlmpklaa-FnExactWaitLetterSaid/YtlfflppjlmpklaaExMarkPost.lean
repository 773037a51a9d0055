/- The exact laws' marks on post offices. -/
import Derived.Test.YtlfflppjlmpklaaExPost
import Derived.Test.YtlfflppjlmpklaaDropCopy
set_option linter.unusedSimpArgs false
set_option linter.unusedVariables false
namespace Go.Proofs.Ytlfflppjlmpklaa
open Go.RowKit

/-- A row of the call's own, in bounds of its own. -/
theorem rd_own_at {w : World} {base : Nat} {e : TypeId} {size n c : Nat} {A : Option Addr} {xs : List Value} (h : w.ownsRow base e size (.slice A n c) n xs) (hb : base ≤ w.heap.size) :
    ∃ l u, base ≤ l ∧ u ≤ w.heap.size ∧ Rd w l u size A n xs ∧ Soft w size A n ∧ ((l = base ∧ u = base) ∨ ((Value.slice A n c).ownBlock = some l ∧ u = l + 1)) := by
  have hr := Rd.of_own h
  have hs := Soft.of_own h
  rcases h.2 with ⟨hv, h0⟩ | ⟨g, cap, cur, hv, hg, hh, _⟩
  · refine ⟨base, base, Nat.le_refl _, hb, ⟨hr.1, fun hp => ?_⟩, hs, .inl ⟨rfl, rfl⟩⟩
    subst h0
    simp at hp
  · cases hv
    refine ⟨g, g + 1, hg, ?_, ⟨hr.1, fun hp => ?_⟩, hs, .inr ⟨rfl, rfl⟩⟩
    · have := (h.lt g rfl).2; omega
    · obtain ⟨b, off, e1, h1, h2, h3⟩ := hr.2 hp
      have e2 : g = b := by injection e1 with e1; injection e1
      exact ⟨b, off, e1, by omega, by omega, h3⟩
/-- A copied post office: its two rows, apart. -/
theorem CopyRows.parts {w : World} {base : Nat} {ns fs : List Tri} {nn n c1 c2 : Nat} {A1 A2 : Option Addr} (h : CopyRows base ns fs nn n (.slice A1 nn c1) (.slice A2 n c2) w) (hb : base ≤ w.heap.size) :
    ∃ l1 u1 l2 u2, base ≤ l1 ∧ u1 ≤ w.heap.size ∧ base ≤ l2 ∧ u2 ≤ w.heap.size ∧ (u1 ≤ l2 ∨ u2 ≤ l1) ∧ Rd w l1 u1 3 A1 nn (tvs ns) ∧ Soft w 3 A1 nn ∧ Rd w l2 u2 3 A2 n (tvs fs) ∧ Soft w 3 A2 n := by
  obtain ⟨x1, x2, x3⟩ := h
  obtain ⟨l1, u1, a1, a2, a3, a4, a5⟩ := rd_own_at x1 hb
  obtain ⟨l2, u2, b1, b2, b3, b4, b5⟩ := rd_own_at x2 hb
  refine ⟨l1, u1, l2, u2, a1, a2, b1, b2, ?_, a3, a4, b3, b4⟩
  rcases a5 with ⟨h1, h2⟩ | ⟨h1, h2⟩
  · exact .inl (by omega)
  · rcases b5 with ⟨k1, k2⟩ | ⟨k1, k2⟩
    · exact .inr (by omega)
    · have : l1 ≠ l2 := fun e => x3 l1 h1 (by rw [e]; exact k1)
      omega
set_option maxHeartbeats 800000 in
theorem markPost_any (lo hi l1 u1 l2 u2 nn cn n c : Nat) (An A : Option Addr) (zs1 zs2 : List Value) (k0 : Int) (w : World) (hrn : Rd w l1 u1 3 An nn zs1) (hsn : Soft w 3 An nn) (hnn : nn ≤ 1048576) (hr : Rd w l2 u2 3 A n zs2) (hs : Soft w 3 A n) (hn : n ≤ 1048576)
    (h1 : lo ≤ l1) (h2 : u1 ≤ hi) (h3 : lo ≤ l2) (h4 : u2 ≤ hi) (hB : hi ≤ w.heap.size) (hd : u1 ≤ l2 ∨ u2 ≤ l1) (hk0 : 0 ≤ k0) (hk1 : k0 ≤ 1000000) :
    Calls Try.prog 33 #[.agg #[.slice An nn cn, .slice A n c], .int .i64 k0] w fun e w' => e = .returned (.int .i64 (k0 + 3 * nn + 3 * n)) ∧ Rd w' l1 u1 3 An nn (tvs (seqT k0 nn)) ∧ Rd w' l2 u2 3 A n (tvs (seqT (k0 + 3 * nn) n)) ∧ ∃ w1, Below w.heap.size w w1 ∧ Within lo hi w1 w' := by
  have hb1 := up_alloc (Below.refl _ w) (.cells #[.slice An nn cn, .slice A n c] 26)
  have hx := Blk.new w 26 #[.slice An nn cn, .slice A n c]
  have HX := Lib.hid hx
  have hlx := hx.lt
  have hrn1 := hrn.keep hb1 (by omega)
  have hsn1 := hsn.kept hrn hb1 (by omega)
  have hr1 := hr.keep hb1 (by omega)
  have hs1 := hs.kept hr hb1 (by omega)
  have hsz1 := hb1.size
  clear hx
  go_enter Try.func33, Try.ntmps33
  go_wp2_with (fail)
  (with_reducible refine (markSubS_any l1 u1 nn cn An zs1 k0 _ hrn1 hsn1 hnn hk0 (by omega)).mono ?_)
  rintro e w2 ⟨rfl, hr2, hs2, hin2⟩
  have hx2 := HX.out.grown hin2 (fun e => by have := in_row hrn1 _ e.symm; omega)
  have hd1 : w2.cell? ⟨w.heap.size, 1, none⟩ = some (.slice A n c) := hx2.cell 1
  have hwi2 := Within.grown (lo := lo) (hi := hi) hin2 (fun g e => by have := in_row hrn1 g e; omega)
  have hm2 := hr1.other (by omega) hin2 hrn1 (by omega)
  have hn2 := hs1.other hr1 (by omega) hin2 hrn1 (by omega)
  have HWI := Lib.hid hwi2
  have HR2 := Lib.hid hr2
  have HM2 := Lib.hid hm2
  have HN2 := Lib.hid hn2
  have hsz2 := hin2.size
  clear hin2 hx2 hwi2 hm2 hn2 hr2 hs2
  go_wp2_with (fail)
  (with_reducible refine (markLetterS_any l2 u2 n c A zs2 (k0 + 3 * (nn : Int)) w2 HM2.out HN2.out hn (by omega) (by omega)).mono ?_)
  rintro e w3 ⟨rfl, hr3, _, hin3⟩
  have HW3 := Lib.hid (Within.grown (lo := lo) (hi := hi) hin3 (fun g e => by have := in_row HM2.out g e; omega))
  have HR3 := Lib.hid (HR2.out.other (by omega) hin3 HM2.out (by omega))
  have HM3 := Lib.hid hr3
  clear hin3 hr3
  go_wp2
  go_ret
  exact ⟨rfl, HR3.out, HM3.out, _, hb1, HWI.out.trans HW3.out⟩
set_option maxHeartbeats 800000 in
theorem heldPost_any (l1 u1 l2 u2 nn cn n c : Nat) (An A : Option Addr) (k0 : Int) (w : World) (hrn : Rd w l1 u1 3 An nn (tvs (seqT k0 nn))) (hnn : nn ≤ 1048576) (hr : Rd w l2 u2 3 A n (tvs (seqT (k0 + 3 * nn) n))) (hn : n ≤ 1048576)
    (h2 : u1 ≤ w.heap.size) (h4 : u2 ≤ w.heap.size) (hk0 : 0 ≤ k0) (hk1 : k0 ≤ 1000000) :
    Calls Try.prog 34 #[.agg #[.slice An nn cn, .slice A n c], .int .i64 k0] w fun e w' => e = .returned (.int .i64 (k0 + 3 * nn + 3 * n)) ∧ Below w.heap.size w w' := by
  have hb1 := up_alloc (Below.refl _ w) (.cells #[.slice An nn cn, .slice A n c] 26)
  have HRN := Lib.hid (hrn.keep hb1 h2)
  have HR := Lib.hid (hr.keep hb1 h4)
  have HB := Lib.hid hb1
  have hge : ¬ (k0 + 3 * (nn : Int) < 0) := by omega
  have hge2 : ¬ (k0 + 3 * (nn : Int) + 3 * (n : Int) < 0) := by omega
  clear hb1
  go_enter Try.func34, Try.ntmps34
  go_wp2_with (fail)
  (with_reducible refine (heldSubS_any l1 u1 nn cn An k0 _ HRN.out hnn hk0 (by omega)).mono ?_)
  rintro e w2 ⟨rfl, rfl⟩
  go_wp2_with (fail)
  (with_reducible refine (heldLetterS_any l2 u2 n c A (k0 + 3 * (nn : Int)) _ HR.out hn (by omega) (by omega)).mono ?_)
  rintro e w3 ⟨rfl, rfl⟩
  go_wp2
  go_ret
  exact ⟨rfl, HB.out⟩
end Go.Proofs.Ytlfflppjlmpklaa
