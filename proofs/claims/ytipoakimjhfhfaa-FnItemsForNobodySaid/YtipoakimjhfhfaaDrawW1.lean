/- Drawing worklists: how the function stands; someRoles. -/
import Derived.Test.YtipoakimjhfhfaaDrawT0
import Derived.Test.YtipoakimjhfhfaaWorkF
import Derived.Test.YtipoakimjhfhfaaLawWorkM
import Derived.Deep.CutRange
import Derived.Deep.RegionHeld3
set_option linter.unusedSimpArgs false
set_option linter.unusedVariables false
namespace Go.Proofs.Ytipoakimjhfhfaa
open Go.RowKit

theorem offer_v (ps : List Tri) (role : Int) : vWork ((offerOf ps role).getD []) = true := by
  cases h : offerOf ps role with
  | none => rfl
  | some l => exact (offer_facts h).2.1
theorem claim_v (ps : List Tri) (z o : Int) (roles : List Int) : vWork ((claimOf ps z o roles).getD []) = true := by
  cases h : claimOf ps z o roles with
  | none => rfl
  | some l => obtain ⟨_, _, _, _, _, _, _, h⟩ := claim_facts h; exact h
theorem done_v (ps : List Tri) (z o : Int) : vWork ((doneOf ps z o).getD []) = true := by
  cases h : doneOf ps z o with
  | none => rfl
  | some l => obtain ⟨_, _, _, _, _, _, h⟩ := done_facts h; exact h
/-- All of it is small. -/
def SmallT (ps : List Tri) : Prop := ∀ q ∈ ps, (-10000 ≤ q.1 ∧ q.1 ≤ 10000) ∧ (-10000 ≤ q.2.1 ∧ q.2.1 ≤ 10000) ∧ (-10000 ≤ q.2.2 ∧ q.2.2 ≤ 10000)
theorem SmallT.valid {ps : List Tri} (h : vWork ps = true) : SmallT ps := fun q hq => by
  have := vWork_ok h hq
  omega
/-- A valid worklist in a row of the call's own, the reader below. -/
structure Wd (w0 w : World) (r : Nat) (A : Option Addr) (n c : Nat) (xs : List Int) (p : Int) (v : Value) (m : Nat) (ps : List Tri) : Prop where
  rdr : Rdr w r A n c xs p
  own : w.ownsRow w0.heap.size 33 3 v m (tvs ps)
  val : vWork ps = true
  but : But r w0 w
  hr : r < w0.heap.size
/-- Another one. -/
structure Nw (w0 w : World) (v : Value) (m : Nat) (ps : List Tri) : Prop where
  own : w.ownsRow w0.heap.size 33 3 v m (tvs ps)
  val : vWork ps = true
section
variable {w0 w w' : World} {r : Nat} {A : Option Addr} {n c : Nat} {xs : List Int} {p p' : Int} {v v2 : Value} {m m2 : Nat} {ps qs : List Tri}
theorem Wd.len (h : Wd w0 w r A n c xs p v m ps) : ps.length = m := by have := h.own.1; rw [tvs_length] at this; omega
theorem Wd.most (h : Wd w0 w r A n c xs p v m ps) : m ≤ 12 := by have := vWork_len h.val; have := h.len; omega
theorem Wd.below (h : Wd w0 w r A n c xs p v m ps) (hb : Below w.heap.size w w') : Wd w0 w' r A n c xs p v m ps := ⟨h.rdr.below hb, own_keep h.own hb, h.val, but_below h.but hb, h.hr⟩
theorem Wd.drawn (h : Wd w0 w r A n c xs p v m ps) (hR : Rdr w' r A n c xs p') (hG : But r w w') : Wd w0 w' r A n c xs p' v m ps := ⟨hR, own_but h.own hG h.hr, h.val, but_trans h.but hG, h.hr⟩
theorem Wd.take (h : Wd w0 w r A n c xs p v m ps) (k : Nw w0 w v2 m2 qs) : Wd w0 w r A n c xs p v2 m2 qs := ⟨h.rdr, k.own, k.val, h.but, h.hr⟩
theorem Nw.below (h : Nw w0 w v m ps) (hb : Below w.heap.size w w') : Nw w0 w' v m ps := ⟨own_keep h.own hb, h.val⟩
theorem Nw.drawn (h : Nw w0 w v m ps) (hG : But r w w') (hr : r < w0.heap.size) : Nw w0 w' v m ps := ⟨own_but h.own hG hr, h.val⟩
theorem Nw.form (h : Nw w0 w v m ps) : ∃ A c, v = .slice A m c ∧ m ≤ c := by obtain ⟨A, c, e, hc, _⟩ := own_cap h.own; exact ⟨A, c, e, hc⟩
theorem Nw.of {u : Option (List Tri)} (hv : vWork (u.getD []) = true) (ho : w'.ownsRow w.heap.size 33 3 v (u.getD []).length (tvs (u.getD []))) (hs : w0.heap.size ≤ w.heap.size) : Nw w0 w' v (u.getD []).length (u.getD []) := ⟨own_base ho hs, hv⟩
section
variable {A1 : Option Addr} {c1 : Nat}
theorem Wd.rd (h : Wd w0 w r A n c xs p (.slice A1 m c1) m ps) : Rd w w0.heap.size w.heap.size 3 A1 m (tvs ps) := Rd.of_own h.own
theorem Wd.cap (h : Wd w0 w r A n c xs p (.slice A1 m c1) m ps) : m ≤ c1 := by obtain ⟨_, _, e, hc, _⟩ := own_cap h.own; cases e; exact hc
theorem Wd.offer (h : Wd w0 w r A n c xs p (.slice A1 m c1) m ps) (role : Int) (hz : in64 role) :
    Calls Try.prog 20 #[.slice A1 m c1, .int .i64 role] w (OwnT 33 tvs 3 (offerOf ps role) w) :=
  OfferItemO_any _ _ m c1 A1 ps role w h.rd (Nat.le_refl _) (by have := h.most; omega) hz
theorem Wd.claim (h : Wd w0 w r A n c xs p (.slice A1 m c1) m ps) (z o : Int) (hz : in64 z) (ho : in64 o) {lo3 hi3 n3 c3 : Nat} {A3 : Option Addr} {m3 : List Int} (hr3 : Rd w lo3 hi3 1 A3 n3 (ivs m3)) (hB3 : hi3 ≤ w.heap.size) (hn3 : n3 ≤ 1048576) :
    Calls Try.prog 26 #[.slice A1 m c1, .int .i64 z, .int .i64 o, .slice A3 n3 c3] w (OwnT 33 tvs 3 (claimOf ps z o m3) w) :=
  ClaimItemO_any _ _ m c1 A1 ps z o _ _ n3 c3 A3 m3 w h.rd (Nat.le_refl _) (by have := h.most; omega) hz ho hr3 hB3 hn3
theorem Wd.finish (h : Wd w0 w r A n c xs p (.slice A1 m c1) m ps) (z o : Int) (hz : in64 z) (ho : in64 o) :
    Calls Try.prog 57 #[.slice A1 m c1, .int .i64 z, .int .i64 o] w (OwnT 33 tvs 3 (doneOf ps z o) w) :=
  FinishItemO_any _ _ m c1 A1 ps z o w h.rd (Nat.le_refl _) (by have := h.most; omega) h.cap hz ho
end
end
/-- Drawn roles. -/
def RolesPost (r : Nat) (A : Option Addr) (n c : Nat) (xs : List Int) (p : Int) (w : World) (e : Ending) (w' : World) : Prop :=
  ∃ (v : Value) (m : Nat) (ms : List Int) (p' : Int), e = .returned v ∧ w'.ownsRow w.heap.size 3 1 v m (ivs ms) ∧ m ≤ 4 ∧ Rdr w' r A n c xs p' ∧ p' ≤ p + 5 ∧ But r w w'
set_option maxRecDepth 100000 in
set_option maxHeartbeats 800000 in
theorem someRoles_any (r : Nat) (A : Option Addr) (n c : Nat) (xs : List Int) (p : Int) (w : World) (h : Rdr w r A n c xs p) (hp : p ≤ 900000) :
    Calls Try.prog 42 #[.pointer (some ⟨r, 0, none⟩)] w (RolesPost r A n c xs p w) := by
  have hrl := h.lt
  obtain ⟨i0, hi0, hz0, hz1, hz2⟩ := info_parts infoIntD
  have hown0 : (w.alloc (.cells #[] 3)).ownsRow w.heap.size 3 1 (.slice (some ⟨w.heap.size, 0, none⟩) 0 0) 0 [] := World.ownsRow_made w #[] 0 (Nat.le_refl _) (by unfold maxLen; omega) (by simp)
  have HOW := Lib.hid hown0
  have hR0 := rdr_alloc h (.cells #[] 3)
  have hG0 := but_alloc (but_refl r w) (.cells #[] 3)
  clear hown0 h
  go_enter Try.func42, Try.ntmps42
  go_wp2_with (fail)
  (with_reducible refine (pick_any r A n c xs p 4 _ hR0 (by omega) (by omega)).mono ?_)
  rintro e w1 ⟨a, rfl, a0, a1, _, hR1, hG1⟩
  have a2 := a1 (by omega)
  have HO1 := Lib.hid (own_but HOW.out hG1 hrl)
  have HR1 := Lib.hid hR1
  have HG1 := Lib.hid (but_trans hG0 hG1)
  clear hR0 hG0 hG1 a1 HOW hR1
  go_wp2
  go_loopw [3, 4] (fun v iv wr => ∃ (m : Int) (k : Nat) (ms : List Int) (p1 : Int), iv = .int .i64 m ∧ 0 ≤ m ∧ m ≤ 3 ∧ (k : Int) + m ≤ 3 ∧ p1 + m ≤ p + 4 ∧ Hid (wr.ownsRow w.heap.size 3 1 v k (ivs ms)) ∧ Hid (Rdr wr r A n c xs p1) ∧ Hid (But r w wr))
     (fun _ iv _ => (intOf iv).toNat)
  case atStart => exact ⟨a, 0, [], p + 1, rfl, by omega, by omega, by omega, by omega, HO1.out, HR1.out, HG1.out⟩
  case round =>
    clear HO1 HR1 HG1
    obtain ⟨m, k, ms, p1, rfl, hm0, hm1, hkm, hpp, hO, hR, hG⟩ := hrel
    by_cases hpos : 0 < m
    · go_wp2_with (fail)
      (with_reducible refine (pick_any r A n c xs p1 6 _ hR.out (by omega) (by omega)).mono ?_)
      rintro e w2 ⟨b, rfl, b0, b1, _, hR2, hG2⟩
      have HO2 := Lib.hid (own_but hO.out hG2 hrl)
      have HR2 := Lib.hid hR2
      have HG2 := Lib.hid (but_trans hG.out hG2)
      have hs2 := HG2.out.size
      clear hR2 hG2 hO hR hG b1
      go_wp2_with (at_builtin; refine wpList_append_own _ rfl _ _ 35 rfl w.heap.size 3 i0 _ 1 8 Try.underlying35 hi0 hz0 hz1 hz2 rfl (by decide) _ _ _ rfl (HO2.out.alloc _) _ 1 1 [.int .i64 b] rfl rfl (World.news_of_block (heap_alloc_new _ _)) ?d2 ?d3 ?d4 ?d5 ?_)
      case d2 => first | (intro v hv; simp at hv; subst hv; rfl) | rfl
      case d3 => unfold maxLen; omega
      case d4 => omega
      case d5 => first | omega | (simp; omega)
      intro v3 w3 hown3 hg3 _
      have hwm : IntKind.i64.wrap (m - 1) = m - 1 := IntWalk.i64_in _ (by omega)
      have HR3 := Lib.hid (rdr_grown (rdr_alloc HR2.out _) (HO2.out.alloc _) hg3 hrl)
      have HG3 := Lib.hid (but_grown (but_alloc HG2.out _) (HO2.out.alloc _) hg3 (Nat.le_refl _))
      have HO3 := Lib.hid (show w3.ownsRow w.heap.size 3 1 v3 (k + 1) (ivs (ms ++ [b])) by rw [ivs_append]; exact hown3)
      clear hown3 hg3 HO2 HR2 HG2
      go_wp2
      go_roundw
      case rel => exact ⟨m - 1, k + 1, ms ++ [b], p1 + 1, by first | rfl | go_num, by omega, by omega, by omega, by omega, HO3.out, HR3.out, HG3.out⟩
      case measure => simp [intOf]; omega
    · obtain rfl : m = 0 := by omega
      go_wp2
      go_ret
      exact ⟨_, k, ms, p1, rfl, hO.out, by omega, hR.out, by omega, hG.out⟩
end Go.Proofs.Ytipoakimjhfhfaa
