/- Drawing worklists: how the function stands; someRoles. -/
import Derived.Test.YtipoakimjhfhfabDrawT0
import Derived.Test.YtipoakimjhfhfabWorkF
import Derived.Test.YtipoakimjhfhfabLawWorkM
import Derived.Deep.CutRange
import Derived.Deep.RegionHeld3
set_option linter.unusedSimpArgs false
set_option linter.unusedVariables false
namespace Go.Proofs.Ytipoakimjhfhfab
open Go.RowKit

theorem offer_v (ps : List Tri) (role : Int) : vWork ((offerOf ps role).getD []) = true := by
  cases h : offerOf ps role with
  | none => rfl
  | some l => exact (offer_facts h).2.1
theorem claim_v (ps : List Tri) (z o : Int) (roles : List Int) : vWork ((claimOf ps z o roles).getD []) = true := by
  cases h : claimOf ps z o roles with
  | none => rfl
  | some l => obtain ⟨_, _, _, _, _, _, _, h⟩ := claim_facts h; exact h
theorem done_v (ps : List Tri) (z o : Int) : vWork ((doneOf ps z o).getD []) = true := by
  cases h : doneOf ps z o with
  | none => rfl
  | some l => obtain ⟨_, _, _, _, _, _, h⟩ := done_facts h; exact h
/-- All of it is small. -/
def SmallT (ps : List Tri) : Prop := ∀ q ∈ ps, (-10000 ≤ q.1 ∧ q.1 ≤ 10000) ∧ (-10000 ≤ q.2.1 ∧ q.2.1 ≤ 10000) ∧ (-10000 ≤ q.2.2 ∧ q.2.2 ≤ 10000)
theorem SmallT.valid {ps : List Tri} (h : vWork ps = true) : SmallT ps := fun q hq => by
  have := vWork_ok h hq
  omega
/-- A valid worklist in a row of the call's own, the reader below. -/
structure Wd (w0 w : World) (r : Nat) (A : Option Addr) (n c : Nat) (xs : List Int) (p : Int) (v : Value) (m : Nat) (ps : List Tri) : Prop where
  rdr : Rdr w r A n c xs p
  own : w.ownsRow w0.heap.size 30 3 v m (tvs ps)
  val : vWork ps = true
  but : But r w0 w
  hr : r < w0.heap.size
/-- Another one. -/
structure Nw (w0 w : World) (v : Value) (m : Nat) (ps : List Tri) : Prop where
  own : w.ownsRow w0.heap.size 30 3 v m (tvs ps)
  val : vWork ps = true
section
variable {w0 w w' : World} {r : Nat} {A : Option Addr} {n c : Nat} {xs : List Int} {p p' : Int} {v v2 : Value} {m m2 : Nat} {ps qs : List Tri}
theorem Wd.len (h : Wd w0 w r A n c xs p v m ps) : ps.length = m := by have := h.own.1; rw [tvs_length] at this; omega
theorem Wd.most (h : Wd w0 w r A n c xs p v m ps) : m ≤ 12 := by have := vWork_len h.val; have := h.len; omega
theorem Wd.below (h : Wd w0 w r A n c xs p v m ps) (hb : Below w.heap.size w w') : Wd w0 w' r A n c xs p v m ps := ⟨h.rdr.below hb, own_keep h.own hb, h.val, but_below h.but hb, h.hr⟩
theorem Wd.drawn (h : Wd w0 w r A n c xs p v m ps) (hR : Rdr w' r A n c xs p') (hG : But r w w') : Wd w0 w' r A n c xs p' v m ps := ⟨hR, own_but h.own hG h.hr, h.val, but_trans h.but hG, h.hr⟩
theorem Wd.take (h : Wd w0 w r A n c xs p v m ps) (k : Nw w0 w v2 m2 qs) : Wd w0 w r A n c xs p v2 m2 qs := ⟨h.rdr, k.own, k.val, h.but, h.hr⟩
theorem Nw.below (h : Nw w0 w v m ps) (hb : Below w.heap.size w w') : Nw w0 w' v m ps := ⟨own_keep h.own hb, h.val⟩
theorem Nw.drawn (h : Nw w0 w v m ps) (hG : But r w w') (hr : r < w0.heap.size) : Nw w0 w' v m ps := ⟨own_but h.own hG hr, h.val⟩
theorem Nw.form (h : Nw w0 w v m ps) : ∃ A c, v = .slice A m c ∧ m ≤ c := by obtain ⟨A, c, e, hc, _⟩ := own_cap h.own; exact ⟨A, c, e, hc⟩
theorem Nw.of {u : Option (List Tri)} (hv : vWork (u.getD []) = true) (ho : w'.ownsRow w.heap.size 30 3 v (u.getD []).length (tvs (u.getD []))) (hs : w0.heap.size ≤ w.heap.size) : Nw w0 w' v (u.getD []).length (u.getD []) := ⟨own_base ho hs, hv⟩
section
variable {A1 : Option Addr} {c1 : Nat}
theorem Wd.rd (h : Wd w0 w r A n c xs p (.slice A1 m c1) m ps) : Rd w w0.heap.size w.heap.size 3 A1 m (tvs ps) := Rd.of_own h.own
theorem Wd.cap (h : Wd w0 w r A n c xs p (.slice A1 m c1) m ps) : m ≤ c1 := by obtain ⟨_, _, e, hc, _⟩ := own_cap h.own; cases e; exact hc
theorem Wd.offer (h : Wd w0 w r A n c xs p (.slice A1 m c1) m ps) (role : Int) (hz : in64 role) :
    Calls Try.prog 81 #[.slice A1 m c1, .int .i64 role] w (OwnT 30 tvs 3 (offerOf ps role) w) :=
  OfferItemO_any _ _ m c1 A1 ps role w h.rd (Nat.le_refl _) (by have := h.most; omega) hz
theorem Wd.claim (h : Wd w0 w r A n c xs p (.slice A1 m c1) m ps) (z o : Int) (hz : in64 z) (ho : in64 o) {lo3 hi3 n3 c3 : Nat} {A3 : Option Addr} {m3 : List Int} (hr3 : Rd w lo3 hi3 1 A3 n3 (ivs m3)) (hB3 : hi3 ≤ w.heap.size) (hn3 : n3 ≤ 1048576) :
    Calls Try.prog 82 #[.slice A1 m c1, .int .i64 z, .int .i64 o, .slice A3 n3 c3] w (OwnT 30 tvs 3 (claimOf ps z o m3) w) :=
  ClaimItemO_any _ _ m c1 A1 ps z o _ _ n3 c3 A3 m3 w h.rd (Nat.le_refl _) (by have := h.most; omega) hz ho hr3 hB3 hn3
theorem Wd.finish (h : Wd w0 w r A n c xs p (.slice A1 m c1) m ps) (z o : Int) (hz : in64 z) (ho : in64 o) :
    Calls Try.prog 17 #[.slice A1 m c1, .int .i64 z, .int .i64 o] w (OwnT 30 tvs 3 (doneOf ps z o) w) :=
  FinishItemO_any _ _ m c1 A1 ps z o w h.rd (Nat.le_refl _) (by have := h.most; omega) h.cap hz ho
end
end
/-- Drawn roles. -/
def RolesPost (r : Nat) (A : Option Addr) (n c : Nat) (xs : List Int) (p : Int) (w : World) (e : Ending) (w' : World) : Prop :=
  ∃ (v : Value) (m : Nat) (ms : List Int) (p' : Int), e = .returned v ∧ w'.ownsRow w.heap.size 3 1 v m (ivs ms) ∧ m ≤ 4 ∧ Rdr w' r A n c xs p' ∧ p' ≤ p + 5 ∧ But r w w'
end Go.Proofs.Ytipoakimjhfhfab
