/- What the laws on times of drawn processes need. -/
import Derived.Test.YtonlkodenfiljaaPlanC
import Derived.Test.YtonlkodenfiljaaPlanD
import Derived.Test.YtonlkodenfiljaaPlanE
import Derived.Test.YtonlkodenfiljaaPlanMore
import Derived.Test.YtonlkodenfiljaaDrawTm2
import Derived.Test.YtonlkodenfiljaaLawProc
import Derived.Test.YtonlkodenfiljaaLawSum
set_option linter.unusedSimpArgs false
set_option linter.unusedVariables false
namespace Go.Proofs.Ytonlkodenfiljaa
open Go.RowKit

/-- A list in memory, wherever. -/
def Rb (w : World) (A : Option Addr) (n : Nat) (R : List Int) : Prop := ∃ hi, Rd w 0 hi 1 A n (ivs R) ∧ hi ≤ w.heap.size
section
variable {w w' : World} {A : Option Addr} {n : Nat} {R : List Int}
theorem Rb.below (h : Rb w A n R) (hb : Below w.heap.size w w') : Rb w' A n R := by
  obtain ⟨hi, h1, h2⟩ := h
  exact ⟨hi, h1.keep hb h2, Nat.le_trans h2 hb.size⟩
theorem Rb.len (h : Rb w A n R) : R.length = n := by obtain ⟨hi, h1, _⟩ := h; exact h1.len1
theorem Rb.one (h : Rb w A n R) {k : Nat} (hk : k < n) : ∃ b off, A = some ⟨b, off, none⟩ ∧ b < w.heap.size ∧ w.cell? ⟨b, off + k, none⟩ = some (.int .i64 (beg R k)) := by
  obtain ⟨hi, h1, h2⟩ := h
  obtain ⟨b, off, v, hA, hb, _, hg, hc⟩ := h1.one hk
  rw [beg_at hg]
  exact ⟨b, off, hA, by omega, hc⟩
end
/-- A call that hands back a list of its own. -/
def RowPost (R : List Int) (w : World) (e : Ending) (w' : World) : Prop := ∃ A c, e = .returned (.slice A R.length c) ∧ Rb w' A R.length R ∧ Below w.heap.size w w'
theorem rowPost {R : List Int} {w : World} {e : Ending} {w' : World} (h : Fresh (ivs R) 1 R.length w e w') : RowPost R w e w' := by
  obtain ⟨A, c, he, _, hr, _, hb⟩ := h
  exact ⟨A, c, he, ⟨w'.heap.size, hr.wide (Nat.zero_le _) (Nat.le_refl _), Nat.le_refl _⟩, hb⟩
section
variable {w w' : World} {g : Nat} {An : Option Addr} {nn cn : Nat} {Af : Option Addr} {lf cf : Nat} {ns : List (Int × Int)} {fs : List Flw} {n' c' : Nat} {A' : Option Addr} {ts : List Int}
theorem Pc.earlyI (h : Pc w g An nn cn Af lf cf ns fs) (hv : Rb w A' n' ts) (hn' : n' ≤ 1048576) : Calls Try.prog 9 #[.agg #[.slice An nn cn, .slice Af lf cf], .slice A' n' c'] w (RowPost (earlyR ns fs ts) w) := by
  obtain ⟨hi, hv, hB⟩ := hv
  exact (EarliestTimesI_any 0 g nn cn An ns 0 g lf cf Af fs 0 hi n' c' A' ts w h.prs.nodes (Nat.le_of_lt h.lt) (Nat.le_trans h.prs.n21 (by omega)) h.prs.flows (Nat.le_of_lt h.lt) (Nat.le_trans h.prs.f21 (by omega)) hv hB hn').mono fun _ _ h => rowPost h
theorem Pc.earlyS (h : Pc w g An nn cn Af lf cf ns fs) (hv : Rb w A' n' ts) (hn' : n' ≤ 1048576) : Calls Try.prog 11 #[.agg #[.slice An nn cn, .slice Af lf cf], .slice A' n' c'] w (RowPost (earlyR ns fs ts) w) := by
  obtain ⟨hi, hv, hB⟩ := hv
  exact (EarliestTimesS_any 0 g nn cn An ns 0 g lf cf Af fs 0 hi n' c' A' ts w h.prs.nodes (Nat.le_of_lt h.lt) (Nat.le_trans h.prs.n21 (by omega)) h.prs.flows (Nat.le_of_lt h.lt) (Nat.le_trans h.prs.f21 (by omega)) hv hB hn').mono fun _ _ h => rowPost h
theorem Pc.slackI (h : Pc w g An nn cn Af lf cf ns fs) (hv : Rb w A' n' ts) (hn' : n' ≤ 1048576) : Calls Try.prog 37 #[.agg #[.slice An nn cn, .slice Af lf cf], .slice A' n' c'] w (RowPost (slackR ns fs ts) w) := by
  obtain ⟨hi, hv, hB⟩ := hv
  exact (SlackTimesI_any 0 g nn cn An ns 0 g lf cf Af fs 0 hi n' c' A' ts w h.prs.nodes (Nat.le_of_lt h.lt) (Nat.le_trans h.prs.n21 (by omega)) h.prs.flows (Nat.le_of_lt h.lt) (Nat.le_trans h.prs.f21 (by omega)) hv hB hn').mono fun _ _ h => rowPost h
theorem Pc.slackS (h : Pc w g An nn cn Af lf cf ns fs) (hv : Rb w A' n' ts) (hn' : n' ≤ 1048576) : Calls Try.prog 38 #[.agg #[.slice An nn cn, .slice Af lf cf], .slice A' n' c'] w (RowPost (slackR ns fs ts) w) := by
  obtain ⟨hi, hv, hB⟩ := hv
  exact (SlackTimesS_any 0 g nn cn An ns 0 g lf cf Af fs 0 hi n' c' A' ts w h.prs.nodes (Nat.le_of_lt h.lt) (Nat.le_trans h.prs.n21 (by omega)) h.prs.flows (Nat.le_of_lt h.lt) (Nat.le_trans h.prs.f21 (by omega)) hv hB hn').mono fun _ _ h => rowPost h
theorem Pc.critI (h : Pc w g An nn cn Af lf cf ns fs) (hv : Rb w A' n' ts) (hn' : n' ≤ 1048576) : Calls Try.prog 16 #[.agg #[.slice An nn cn, .slice Af lf cf], .slice A' n' c'] w (RowPost (critR ns fs ts) w) := by
  obtain ⟨hi, hv, hB⟩ := hv
  exact (CriticalNodesI_any 0 g nn cn An ns 0 g lf cf Af fs 0 hi n' c' A' ts w h.prs.nodes (Nat.le_of_lt h.lt) (Nat.le_trans h.prs.n21 (by omega)) h.prs.flows (Nat.le_of_lt h.lt) (Nat.le_trans h.prs.f21 (by omega)) hv hB hn').mono fun _ _ h => rowPost h
theorem Pc.critS (h : Pc w g An nn cn Af lf cf ns fs) (hv : Rb w A' n' ts) (hn' : n' ≤ 1048576) : Calls Try.prog 18 #[.agg #[.slice An nn cn, .slice Af lf cf], .slice A' n' c'] w (RowPost (critR ns fs ts) w) := by
  obtain ⟨hi, hv, hB⟩ := hv
  exact (CriticalNodesS_any 0 g nn cn An ns 0 g lf cf Af fs 0 hi n' c' A' ts w h.prs.nodes (Nat.le_of_lt h.lt) (Nat.le_trans h.prs.n21 (by omega)) h.prs.flows (Nat.le_of_lt h.lt) (Nat.le_trans h.prs.f21 (by omega)) hv hB hn').mono fun _ _ h => rowPost h
theorem Pc.totalI (h : Pc w g An nn cn Af lf cf ns fs) (hv : Rb w A' n' ts) (hn' : n' ≤ 1048576) : Calls Try.prog 13 #[.agg #[.slice An nn cn, .slice Af lf cf], .slice A' n' c'] w fun e w' => e = .returned (.int .i64 (totalR ns fs ts)) ∧ Below w.heap.size w w' := by
  obtain ⟨hi, hv, hB⟩ := hv
  exact TotalTimeI_any 0 g nn cn An ns 0 g lf cf Af fs 0 hi n' c' A' ts w h.prs.nodes (Nat.le_of_lt h.lt) (Nat.le_trans h.prs.n21 (by omega)) h.prs.flows (Nat.le_of_lt h.lt) (Nat.le_trans h.prs.f21 (by omega)) hv hB hn'
theorem Pc.totalS (h : Pc w g An nn cn Af lf cf ns fs) (hv : Rb w A' n' ts) (hn' : n' ≤ 1048576) : Calls Try.prog 14 #[.agg #[.slice An nn cn, .slice Af lf cf], .slice A' n' c'] w fun e w' => e = .returned (.int .i64 (totalR ns fs ts)) ∧ Below w.heap.size w w' := by
  obtain ⟨hi, hv, hB⟩ := hv
  exact TotalTimeS_any 0 g nn cn An ns 0 g lf cf Af fs 0 hi n' c' A' ts w h.prs.nodes (Nat.le_of_lt h.lt) (Nat.le_trans h.prs.n21 (by omega)) h.prs.flows (Nat.le_of_lt h.lt) (Nat.le_trans h.prs.f21 (by omega)) hv hB hn'
end
section
variable {w : World} {A A' : Option Addr} {n n' : Nat} {R R' : List Int}
theorem eqRb (hx : Rb w A n R) (hy : Rb w A' n' R') (hn : n ≤ 1048576) (hn' : n' ≤ 1048576) (c c' : Nat) : Calls Try.prog 10 #[.slice A n c, .slice A' n' c'] w fun e w' => e = .returned (.bool (R == R')) ∧ Below w.heap.size w w' := by
  obtain ⟨h1, hx, hb⟩ := hx
  obtain ⟨h2, hy, hb'⟩ := hy
  exact equalInts_any 0 h1 n c 0 h2 n' c' A A' R R' w hx hb hn hy hb' hn'
theorem inRb (hx : Rb w A n R) (hn : n ≤ 1048576) (m : Int) (c : Nat) : Calls Try.prog 15 #[.slice A n c, .int .i64 m] w fun e w' => e = .returned (.bool (inL R m)) ∧ w = w' := by
  obtain ⟨h1, hx, _⟩ := hx
  exact isIn_any 0 h1 n c A R m w hx hn
end
theorem totalR_no {ns : List (Int × Int)} {fs : List Flw} {ts : List Int} (h : planOk ns fs ts = false) : totalR ns fs ts = -1 := by unfold totalR; rw [h]; rfl
theorem totalR_yes {ns : List (Int × Int)} {fs : List Flw} {ts : List Int} (h : planOk ns fs ts = true) : totalR ns fs ts = totalOf ns fs ts := by unfold totalR; rw [h]; rfl
theorem earlyR_no {ns : List (Int × Int)} {fs : List Flw} {ts : List Int} (h : planOk ns fs ts = false) : earlyR ns fs ts = [] := by unfold earlyR; rw [h]; rfl
theorem earlyR_yes {ns : List (Int × Int)} {fs : List Flw} {ts : List Int} (h : planOk ns fs ts = true) : earlyR ns fs ts = earlyOf ns fs ts := by unfold earlyR; rw [h]; rfl
theorem slackR_no {ns : List (Int × Int)} {fs : List Flw} {ts : List Int} (h : planOk ns fs ts = false) : slackR ns fs ts = [] := by unfold slackR; rw [h]; rfl
theorem slackR_yes {ns : List (Int × Int)} {fs : List Flw} {ts : List Int} (h : planOk ns fs ts = true) : slackR ns fs ts = slackOf ns fs ts := by unfold slackR; rw [h]; rfl
theorem critR_no {ns : List (Int × Int)} {fs : List Flw} {ts : List Int} (h : planOk ns fs ts = false) : critR ns fs ts = [] := by unfold critR; rw [h]; rfl
theorem critR_yes {ns : List (Int × Int)} {fs : List Flw} {ts : List Int} (h : planOk ns fs ts = true) : critR ns fs ts = critOf ns fs ts := by unfold critR; rw [h]; rfl
end Go.Proofs.Ytonlkodenfiljaa
