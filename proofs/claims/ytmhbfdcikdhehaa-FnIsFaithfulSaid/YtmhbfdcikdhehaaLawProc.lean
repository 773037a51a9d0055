/- What the laws on processes need of what Reachable answers; how a law stands that holds a process and a list. -/
import Derived.Test.YtmhbfdcikdhehaaDrawP11
set_option linter.unusedSimpArgs false
set_option linter.unusedVariables false
namespace Go.Proofs.Ytmhbfdcikdhehaa
open Go.RowKit

theorem reach_valid {ns : List (Int × Int)} {fs : List Flw} (h : (reachOf ns fs).length ≠ 0) : vProc ns fs = true := by
  cases hv : vProc ns fs with
  | true => rfl
  | false => rw [reachOf, hv] at h; exact absurd rfl h
theorem reach_mem {ns : List (Int × Int)} {fs : List Flw} (h : vProc ns fs = true) {z : Int} : inL (reachOf ns fs) z = true ↔ 0 ≤ z ∧ z < (ns.length : Int) ∧ Rch fs (startAt ns 0) z := by
  rw [reachOf_yes h, inL, List.contains_iff_mem, reachUp_mem]
theorem reach_step {ns : List (Int × Int)} {fs : List Flw} (h : vProc ns fs = true) {k : Nat} {x y : Int} {ps : List (Int × Int)} (hk : fs[k]? = some (x, y, ps)) (hx : inL (reachOf ns fs) x = true) : inL (reachOf ns fs) y = true := by
  have hm := List.mem_of_getElem? hk
  obtain ⟨_, _, h1, h2⟩ := vProc_inside h _ hm
  obtain ⟨_, _, hr⟩ := (reach_mem h).1 hx
  exact (reach_mem h).2 ⟨h1, h2, hr.step ⟨_, hm, rfl, rfl⟩⟩
theorem start_is {ns : List (Int × Int)} {fs : List Flw} (h : vProc ns fs = true) {i : Nat} {y : Int} (hi : ns[i]? = some (0, y)) : startAt ns 0 = (i : Int) := by
  have h1 := vProc_starts h
  obtain ⟨j, z, hj, hs⟩ := startAt_spec ns 0 (by omega)
  rw [starts_one h1 hi hj, hs, Nat.zero_add]
theorem reach_start {ns : List (Int × Int)} {fs : List Flw} (h : vProc ns fs = true) {i : Nat} {y : Int} (hi : ns[i]? = some (0, y)) : inL (reachOf ns fs) (i : Int) = true := by
  have hl := (List.getElem?_eq_some_iff.1 hi).1
  exact (reach_mem h).2 ⟨by omega, by omega, by rw [start_is h hi]; exact .refl⟩
/-- A flow of the list comes from a number of R and leads to z. -/
def fromR (R : List Int) (fs : List Flw) (z : Int) : Bool := fs.any fun f => f.2.1 == z && inL R f.1
theorem fromR_at {R : List Int} {fs : List Flw} {z : Int} {k : Nat} {x y : Int} {ps : List (Int × Int)} (hk : fs[k]? = some (x, y, ps)) : fromR R (fs.drop k) z = ((y == z && inL R x) || fromR R (fs.drop (k + 1)) z) := by
  rw [fromR, drop_flw hk, List.any_cons]; rfl
theorem reach_before {ns : List (Int × Int)} {fs : List Flw} (h : vProc ns fs = true) {i : Nat} {x y : Int} (hi : ns[i]? = some (x, y)) (hr : inL (reachOf ns fs) (i : Int) = true) : (x == 0 || fromR (reachOf ns fs) fs (i : Int)) = true := by
  by_cases hx : x = 0
  · simp [hx]
  · obtain ⟨_, _, hR⟩ := (reach_mem h).1 hr
    have h1 := vProc_starts h
    obtain ⟨j, z, hj, hs⟩ := startAt_spec ns 0 (by omega)
    rw [Nat.zero_add] at hs
    have hne : startAt ns 0 ≠ (i : Int) := by
      rw [hs]
      intro e
      have e' : j = i := by omega
      subst e'
      rw [hj] at hi
      injection hi with hi; injection hi with hi
      exact hx hi.symm
    have : ∃ b, Rch fs (startAt ns 0) b ∧ Stp fs b (i : Int) := by
      generalize startAt ns 0 = a at *
      generalize hz : (i : Int) = z at *
      cases hR with
      | refl => exact absurd rfl hne
      | step k s => exact ⟨_, k, s⟩
    obtain ⟨b, hb, f, hf, rfl, hfi⟩ := this
    have hin := vProc_inside h f hf
    have : fromR (reachOf ns fs) fs (i : Int) = true := List.any_eq_true.2 ⟨f, hf, by
      rw [(reach_mem h).2 ⟨hin.1, hin.2.1, hb⟩, hfi]; simp⟩
    simp [this]

/-- A law stands so: a process in its cell, and a list. -/
structure Lw (w0 w : World) (g : Nat) (An : Option Addr) (nn cn : Nat) (Af : Option Addr) (lf cf : Nat) (ns : List (Int × Int)) (fs : List Flw) (lo hi : Nat) (A2 : Option Addr) (n2 : Nat) (R : List Int) : Prop where
  pc : Pc w g An nn cn Af lf cf ns fs
  out : Rd w lo hi 1 A2 n2 (ivs R)
  hh : hi ≤ w.heap.size
  bel : Below w0.heap.size w0 w
section
variable {w0 w w' : World} {g : Nat} {An : Option Addr} {nn cn : Nat} {Af : Option Addr} {lf cf : Nat} {ns : List (Int × Int)} {fs : List Flw} {lo hi : Nat} {A2 : Option Addr} {n2 : Nat} {R : List Int}
theorem Lw.below (h : Lw w0 w g An nn cn Af lf cf ns fs lo hi A2 n2 R) (hb : Below w.heap.size w w') : Lw w0 w' g An nn cn Af lf cf ns fs lo hi A2 n2 R :=
  ⟨h.pc.below hb, h.out.keep hb h.hh, Nat.le_trans h.hh hb.size, up h.bel hb⟩
theorem Lw.drew (h : Lw w0 w g An nn cn Af lf cf ns fs lo hi A2 n2 R) : Lw w0 w.drew g An nn cn Af lf cf ns fs lo hi A2 n2 R := h.below (up_drew (Below.refl _ _))
end
end Go.Proofs.Ytmhbfdcikdhehaa
