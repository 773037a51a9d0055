/- impl.queues.first: the first index at an address. -/
import Derived.Test.YtgnffodnimafoaaPostK
set_option linter.unusedSimpArgs false
set_option linter.unusedVariables false
namespace Go.Proofs.Ytgnffodnimafoaa
open Go.RowKit Go.Maps

set_option maxRecDepth 100000 in
set_option maxHeartbeats 800000 in
theorem firstQ_any (lo hi b : Nat) (G : Int × Int → List Int) (a : Int × Int) (w : World) (h : KRowMap mk2 Try.prog 68 w lo hi b G) (hB : hi ≤ w.heap.size) (h1 : in64 a.1) (h2 : in64 a.2) :
    Calls Try.prog 38 #[.map (some b), mk2 a] w fun e w' => e = .returned (.tuple #[.int .i64 ((G a).headD 0), .bool (!(G a).isEmpty)]) ∧ Below w.heap.size w w' := by
  obtain ⟨kl, hkl⟩ := addrKey w a h1 h2
  have hb1 := up_alloc (Below.refl _ w) (.cells #[.int .i64 a.1, .int .i64 a.2] 68)
  obtain ⟨A, c, hl, hc, hrd, _⟩ := (h.keep hb1 hB).look keyedAddr Try.underlying57 zeroIntsQ hkl
  have HB := Lib.hid hb1
  unfold mk2 at hl ⊢
  clear hkl hb1
  cases hG : G a with
  | nil =>
    rw [hG] at hl hrd
    clear hrd
    go_enter Try.func38, Try.ntmps38
    go_wp2
    exact bodyPost_ret (v := .tuple #[.int .i64 0, .bool false]) (by simp [results, Try.results38, go_sem]) rfl ⟨rfl, HB.out⟩
  | cons q qs =>
    rw [hG] at hl hrd
    obtain ⟨b2, off, x, hA, _, _, hg, hc0⟩ := hrd.one (k := 0) (by simp)
    subst hA
    obtain rfl : q = x := by simpa using hg
    have hlen : (((q :: qs).length : Int) == 0) = false := by simp <;> omega
    have hlen1 : (0 : Int) < ((q :: qs).length : Int) := by simp
    simp only [Nat.add_zero] at hc0
    clear hg hrd
    generalize (q :: qs).length = m at *
    go_enter Try.func38, Try.ntmps38
    go_wp2
    exact bodyPost_ret (v := .tuple #[.int .i64 q, .bool true]) (by simp [results, Try.results38, go_sem]) rfl ⟨rfl, HB.out⟩
end Go.Proofs.Ytgnffodnimafoaa
