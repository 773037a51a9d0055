/- What the laws on a drawn process and its tokens need. -/
import Derived.Test.YtonlkodenfiljaaLawTokA
import Derived.Test.YtonlkodenfiljaaDrawMarks
import Derived.Test.YtonlkodenfiljaaTokReadyS
import Derived.Test.YtonlkodenfiljaaTokSumS
set_option linter.unusedSimpArgs false
set_option linter.unusedVariables false
namespace Go.Proofs.Ytonlkodenfiljaa
open Go.RowKit

theorem count_no {ns : List (Int × Int)} {fs : List Flw} {ms : List Int} (h : (vProc ns fs && vMarks fs ms) = false) : countOf ns fs ms = -1 := by simp [countOf, h]
theorem count_yes {ns : List (Int × Int)} {fs : List Flw} {ms : List Int} (h : (vProc ns fs && vMarks fs ms) = true) : countOf ns fs ms = ms.sum := by simp [countOf, h]
theorem marks_range {fs : List Flw} {ms : List Int} (h : vMarks fs ms = true) : ∀ z ∈ ms, 0 ≤ z ∧ z ≤ 3 := fun z hz => by
  simp only [vMarks, Bool.and_eq_true] at h
  exact inR_iff.1 (List.all_eq_true.1 h.2 z hz)
theorem marks_len {fs : List Flw} {ms : List Int} (h : vMarks fs ms = true) : ms.length = fs.length := by
  simp only [vMarks, Bool.and_eq_true] at h
  simpa using h.1
theorem sum_nonneg : ∀ {ms : List Int}, (∀ z ∈ ms, 0 ≤ z) → 0 ≤ ms.sum
  | [], _ => by simp
  | z :: ms, h => by
    have h1 := h z (by simp)
    have h2 := sum_nonneg (ms := ms) fun y hy => h y (by simp [hy])
    rw [List.sum_cons]; omega
theorem sum_zero : ∀ {ms : List Int}, (∀ z ∈ ms, 0 ≤ z) → ms.sum = 0 → ∀ z ∈ ms, z = 0
  | [], _, _, z, hz => by simp at hz
  | x :: ms, h, h0, z, hz => by
    have h1 := h x (by simp)
    have h2 := sum_nonneg (ms := ms) fun y hy => h y (by simp [hy])
    rw [List.sum_cons] at h0
    rcases List.mem_cons.1 hz with rfl | hz
    · omega
    · exact sum_zero (fun y hy => h y (by simp [hy])) (by omega) z hz
theorem pos_none {ms : List Int} (h : ∀ z ∈ ms, z = 0) (i : Int) : pos ms i = false := by
  rw [pos, List.getD_eq_getElem?_getD]
  cases hg : ms[i.toNat]? with
  | none => simp
  | some v => rw [h v (List.mem_of_getElem? hg)]; simp
theorem ready_none {ns : List (Int × Int)} {fs : List Flw} {ms : List Int} (h : ∀ z ∈ ms, z = 0) : readyOf ns fs ms = [] := by
  have hb : ∀ (x : Int) (ids : List Int), readyB x ms ids = false := fun x ids => by
    unfold readyB
    split
    · match ids with
      | [] => rfl
      | a :: ids => rw [List.all_cons, pos_none h]; simp
    · exact List.any_eq_false.2 fun z _ => by rw [pos_none h]; simp
  unfold readyOf
  split
  · unfold readyUp
    rw [List.filter_eq_nil_iff.2 fun i _ => by rw [hb]; simp]; rfl
  · rfl
theorem ready_valid {ns : List (Int × Int)} {fs : List Flw} {ms : List Int} (h : (readyOf ns fs ms).length ≠ 0) : (vProc ns fs && vMarks fs ms) = true := by
  cases hv : vProc ns fs && vMarks fs ms with
  | true => rfl
  | false => rw [readyOf, hv] at h; exact absurd rfl h
theorem ready_le (ns : List (Int × Int)) (fs : List Flw) (ms : List Int) : (readyOf ns fs ms).length ≤ ns.length := by
  unfold readyOf
  split
  · exact readyUp_le ns fs ms ns.length
  · simp
/-- Who is ready. -/
theorem ready_mem {ns : List (Int × Int)} {fs : List Flw} {ms : List Int} (h : (vProc ns fs && vMarks fs ms) = true) {i : Nat} (hi : i < ns.length) : inL (readyOf ns fs ms) (i : Int) = readyB (kindAt ns i) ms (flOf fs false (i : Int)) := by
  rw [readyOf, h, inL, Bool.eq_iff_iff, List.contains_iff_mem]
  show (i : Int) ∈ readyUp ns fs ms ns.length ↔ _
  rw [readyUp, List.mem_map]
  constructor
  · rintro ⟨k, hk, he⟩
    obtain rfl : k = i := by omega
    exact (List.mem_filter.1 hk).2
  · intro hb
    exact ⟨i, List.mem_filter.2 ⟨List.mem_range.2 hi, hb⟩, rfl⟩
theorem ready_in {ns : List (Int × Int)} {fs : List Flw} {ms : List Int} {z : Int} (h : z ∈ readyOf ns fs ms) : ∃ i : Nat, z = (i : Int) ∧ i < ns.length ∧ (vProc ns fs && vMarks fs ms) = true ∧ readyB (kindAt ns i) ms (flOf fs false (i : Int)) = true := by
  unfold readyOf at h
  split at h
  case isFalse => simp at h
  case isTrue hv =>
    obtain ⟨k, hk, he⟩ := List.mem_map.1 h
    have := List.mem_filter.1 hk
    exact ⟨k, he.symm, List.mem_range.1 this.1, hv, this.2⟩

section
variable {w w' : World} {lo hi g : Nat} {An : Option Addr} {nn cn : Nat} {Af : Option Addr} {lf cf : Nat} {ns : List (Int × Int)} {fs : List Flw}
theorem Pc.readyS (h : Pc w g An nn cn Af lf cf ns fs) (lo' hi' n' c' : Nat) (A' : Option Addr) (ms : List Int) (hv : Rd w lo' hi' 1 A' n' (ivs ms)) (hB' : hi' ≤ w.heap.size) (hn' : n' ≤ 1048576) : Calls Try.prog 49 #[.agg #[.slice An nn cn, .slice Af lf cf], .slice A' n' c'] w (Fresh (ivs (readyOf ns fs ms)) 1 (readyOf ns fs ms).length w) :=
  ReadyNodesS_any 0 g nn cn An ns 0 g lf cf Af fs lo' hi' n' c' A' ms w h.prs.nodes (Nat.le_of_lt h.lt) (Nat.le_trans h.prs.n21 (by omega)) h.prs.flows (Nat.le_of_lt h.lt) (Nat.le_trans h.prs.f21 (by omega)) hv hB' hn'
end

/-- A law stands so: a process in its cell, its tokens, and a list. -/
structure Lm (w0 w : World) (g : Nat) (An : Option Addr) (nn cn : Nat) (Af : Option Addr) (lf cf : Nat) (ns : List (Int × Int)) (fs : List Flw) (h1 : Nat) (A1 : Option Addr) (n1 : Nat) (ms : List Int) (h2 : Nat) (A2 : Option Addr) (n2 : Nat) (R : List Int) : Prop where
  pc : Pc w g An nn cn Af lf cf ns fs
  tok : Rd w 0 h1 1 A1 n1 (ivs ms)
  mh : h1 ≤ w.heap.size
  out : Rd w 0 h2 1 A2 n2 (ivs R)
  hh : h2 ≤ w.heap.size
  bel : Below w0.heap.size w0 w
section
variable {w0 w w' : World} {g : Nat} {An : Option Addr} {nn cn : Nat} {Af : Option Addr} {lf cf : Nat} {ns : List (Int × Int)} {fs : List Flw} {h1 : Nat} {A1 : Option Addr} {n1 : Nat} {ms : List Int} {h2 : Nat} {A2 : Option Addr} {n2 : Nat} {R : List Int}
theorem Lm.below (h : Lm w0 w g An nn cn Af lf cf ns fs h1 A1 n1 ms h2 A2 n2 R) (hb : Below w.heap.size w w') : Lm w0 w' g An nn cn Af lf cf ns fs h1 A1 n1 ms h2 A2 n2 R :=
  ⟨h.pc.below hb, h.tok.keep hb h.mh, Nat.le_trans h.mh hb.size, h.out.keep hb h.hh, Nat.le_trans h.hh hb.size, up h.bel hb⟩
theorem Lm.drew (h : Lm w0 w g An nn cn Af lf cf ns fs h1 A1 n1 ms h2 A2 n2 R) : Lm w0 w.drew g An nn cn Af lf cf ns fs h1 A1 n1 ms h2 A2 n2 R := h.below (up_drew (Below.refl _ _))
theorem Lm.isIn (h : Lm w0 w g An nn cn Af lf cf ns fs h1 A1 n1 ms h2 A2 n2 R) (c2 : Nat) (hn : n2 ≤ 1048576) (m : Int) : Calls Try.prog 15 #[.slice A2 n2 c2, .int .i64 m] w fun e w' => e = .returned (.bool (inL R m)) ∧ w = w' :=
  isIn_any 0 h2 n2 c2 A2 R m w h.out hn
end
end Go.Proofs.Ytonlkodenfiljaa
