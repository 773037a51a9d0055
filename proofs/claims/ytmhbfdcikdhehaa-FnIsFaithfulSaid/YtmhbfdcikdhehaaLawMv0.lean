/- How a law on two drawn processes, a map of flows and tokens stands. (Written by gen/lawmove.py.) -/
import Derived.Test.YtmhbfdcikdhehaaDrawMv2
import Derived.Test.YtmhbfdcikdhehaaLawTokA
import Derived.Test.YtmhbfdcikdhehaaLawMoveM
import Derived.Test.YtmhbfdcikdhehaaMoveK
import Derived.Test.YtmhbfdcikdhehaaMoveFI
import Derived.Deep.RegionHeld3
set_option linter.unusedSimpArgs false
set_option linter.unusedVariables false
namespace Go.Proofs.Ytmhbfdcikdhehaa
open Go.RowKit

/-- A row that lies below. -/
def Rm (w : World) (A : Option Addr) (n : Nat) (R : List Int) : Prop := ∃ hi, Rd w 0 hi 1 A n (ivs R) ∧ hi ≤ w.heap.size
theorem Rm.below {w w' : World} {A : Option Addr} {n : Nat} {R : List Int} (h : Rm w A n R) (hb : Below w.heap.size w w') : Rm w' A n R := by
  obtain ⟨hi, h1, h2⟩ := h
  exact ⟨hi, h1.keep hb h2, Nat.le_trans h2 hb.size⟩
theorem Rm.len {w : World} {A : Option Addr} {n : Nat} {R : List Int} (h : Rm w A n R) : R.length = n := by obtain ⟨hi, h1, _⟩ := h; exact h1.len1
theorem Rm.of {w : World} {lo hi n : Nat} {A : Option Addr} {R : List Int} (h : Rd w lo hi 1 A n (ivs R)) (hh : hi ≤ w.heap.size) : Rm w A n R := ⟨hi, h.wide (Nat.zero_le _) (Nat.le_refl _), hh⟩
theorem eqRm {w : World} {A A' : Option Addr} {n n' : Nat} {R R' : List Int} (hx : Rm w A n R) (hy : Rm w A' n' R') (hn : n ≤ 1048576) (hn' : n' ≤ 1048576) (c c' : Nat) : Calls Try.prog 12 #[.slice A n c, .slice A' n' c'] w fun e w' => e = .returned (.bool (R == R')) ∧ Below w.heap.size w w' := by
  obtain ⟨h1, hx, hb⟩ := hx
  obtain ⟨h2, hy, hb'⟩ := hy
  exact equalInts_any 0 h1 n c 0 h2 n' c' A A' R R' w hx hb hn hy hb' hn'
structure Mv (w : World) (g : Nat) (An : Option Addr) (nn cn : Nat) (Af : Option Addr) (lf cf : Nat) (ns : List (Int × Int)) (fs : List Flw) (g2 : Nat) (Aq : Option Addr) (nq cq : Nat) (Ag : Option Addr) (lg cg : Nat) (nsq : List (Int × Int)) (gs : List Flw) (A2 : Option Addr) (n2 : Nat) (fl : List Int) (A3 : Option Addr) (n3 : Nat) (ms : List Int) (wr : World) : Prop where
  p : Pc wr g An nn cn Af lf cf ns fs
  q : Pc wr g2 Aq nq cq Ag lg cg nsq gs
  f : Rm wr A2 n2 fl
  m : Rm wr A3 n3 ms
  b : Below w.heap.size w wr
section
variable {w wr w2 : World} {g g2 : Nat} {An : Option Addr} {nn cn : Nat} {Af : Option Addr} {lf cf : Nat} {ns : List (Int × Int)} {fs : List Flw} {Aq : Option Addr} {nq cq : Nat} {Ag : Option Addr} {lg cg : Nat} {nsq : List (Int × Int)} {gs : List Flw} {A2 A3 : Option Addr} {n2 n3 : Nat} {fl ms : List Int}
theorem Mv.below (h : Mv w g An nn cn Af lf cf ns fs g2 Aq nq cq Ag lg cg nsq gs A2 n2 fl A3 n3 ms wr) (hb : Below wr.heap.size wr w2) : Mv w g An nn cn Af lf cf ns fs g2 Aq nq cq Ag lg cg nsq gs A2 n2 fl A3 n3 ms w2 := ⟨h.p.below hb, h.q.below hb, h.f.below hb, h.m.below hb, up h.b hb⟩
/-- The cells that a walk reads. -/
def MvC (g g2 : Nat) (An : Option Addr) (nn cn : Nat) (Af : Option Addr) (lf cf : Nat) (Aq : Option Addr) (nq cq : Nat) (Ag : Option Addr) (lg cg : Nat) (wr : World) : Prop :=
  wr.cell? ⟨g, 0, none⟩ = some (.slice An nn cn) ∧ wr.cell? ⟨g, 1, none⟩ = some (.slice Af lf cf) ∧ wr.cell? ⟨g2, 0, none⟩ = some (.slice Aq nq cq) ∧ wr.cell? ⟨g2, 1, none⟩ = some (.slice Ag lg cg)
theorem Pc.moveI (hp : Pc wr g An nn cn Af lf cf ns fs) (hq : Pc wr g2 Aq nq cq Ag lg cg nsq gs) (hf : Rm wr A2 n2 fl) (hm : Rm wr A3 n3 ms) (h2 : n2 ≤ 1048576) (h3 : n3 ≤ 1048576) (c2 c3 : Nat) :
    Calls Try.prog 10 #[.agg #[.slice An nn cn, .slice Af lf cf], .agg #[.slice Aq nq cq, .slice Ag lg cg], .slice A2 n2 c2, .slice A3 n3 c3] wr (MvB ((moveOf ns fs nsq gs fl ms).getD []) (moveOf ns fs nsq gs fl ms).isSome wr) := by
  obtain ⟨u2, hf, hu2⟩ := hf
  obtain ⟨u3, hm, hu3⟩ := hm
  exact MoveMarksI_any 0 g nn cn An ns 0 g lf cf Af fs 0 g2 nq cq Aq nsq 0 g2 lg cg Ag gs 0 u2 n2 c2 A2 fl 0 u3 n3 c3 A3 ms wr hp.prs.nodes (Nat.le_of_lt hp.lt) (Nat.le_trans hp.prs.n21 (by omega)) hp.prs.flows (Nat.le_of_lt hp.lt) (Nat.le_trans hp.prs.f21 (by omega)) hq.prs.nodes (Nat.le_of_lt hq.lt) (Nat.le_trans hq.prs.n21 (by omega)) hq.prs.flows (Nat.le_of_lt hq.lt) (Nat.le_trans hq.prs.f21 (by omega)) hf hu2 h2 hm hu3 h3
theorem Pc.moveS (hp : Pc wr g An nn cn Af lf cf ns fs) (hq : Pc wr g2 Aq nq cq Ag lg cg nsq gs) (hf : Rm wr A2 n2 fl) (hm : Rm wr A3 n3 ms) (h2 : n2 ≤ 1048576) (h3 : n3 ≤ 1048576) (c2 c3 : Nat) :
    Calls Try.prog 11 #[.agg #[.slice An nn cn, .slice Af lf cf], .agg #[.slice Aq nq cq, .slice Ag lg cg], .slice A2 n2 c2, .slice A3 n3 c3] wr (MvB ((moveOf ns fs nsq gs fl ms).getD []) (moveOf ns fs nsq gs fl ms).isSome wr) := by
  obtain ⟨u2, hf, hu2⟩ := hf
  obtain ⟨u3, hm, hu3⟩ := hm
  exact MoveMarksS_any 0 g nn cn An ns 0 g lf cf Af fs 0 g2 nq cq Aq nsq 0 g2 lg cg Ag gs 0 u2 n2 c2 A2 fl 0 u3 n3 c3 A3 ms wr hp.prs.nodes (Nat.le_of_lt hp.lt) (Nat.le_trans hp.prs.n21 (by omega)) hp.prs.flows (Nat.le_of_lt hp.lt) (Nat.le_trans hp.prs.f21 (by omega)) hq.prs.nodes (Nat.le_of_lt hq.lt) (Nat.le_trans hq.prs.n21 (by omega)) hq.prs.flows (Nat.le_of_lt hq.lt) (Nat.le_trans hq.prs.f21 (by omega)) hf hu2 h2 hm hu3 h3
theorem Pc.faithI (hp : Pc wr g An nn cn Af lf cf ns fs) (hq : Pc wr g2 Aq nq cq Ag lg cg nsq gs) (hf : Rm wr A2 n2 fl) (h2 : n2 ≤ 1048576) (c2 : Nat) :
    Calls Try.prog 17 #[.agg #[.slice An nn cn, .slice Af lf cf], .agg #[.slice Aq nq cq, .slice Ag lg cg], .slice A2 n2 c2] wr fun e w' => e = .returned (.bool (faithOf ns fs nsq gs fl)) ∧ Below wr.heap.size wr w' := by
  obtain ⟨u2, hf, hu2⟩ := hf
  exact IsFaithfulI_any 0 g nn cn An ns 0 g lf cf Af fs 0 g2 nq cq Aq nsq 0 g2 lg cg Ag gs 0 u2 n2 c2 A2 fl wr hp.prs.nodes (Nat.le_of_lt hp.lt) (Nat.le_trans hp.prs.n21 (by omega)) hp.prs.flows (Nat.le_of_lt hp.lt) (Nat.le_trans hp.prs.f21 (by omega)) hq.prs.nodes (Nat.le_of_lt hq.lt) (Nat.le_trans hq.prs.n21 (by omega)) hq.prs.flows (Nat.le_of_lt hq.lt) (Nat.le_trans hq.prs.f21 (by omega)) hf hu2 h2
theorem Pc.faithS (hp : Pc wr g An nn cn Af lf cf ns fs) (hq : Pc wr g2 Aq nq cq Ag lg cg nsq gs) (hf : Rm wr A2 n2 fl) (h2 : n2 ≤ 1048576) (c2 : Nat) :
    Calls Try.prog 19 #[.agg #[.slice An nn cn, .slice Af lf cf], .agg #[.slice Aq nq cq, .slice Ag lg cg], .slice A2 n2 c2] wr fun e w' => e = .returned (.bool (faithOf ns fs nsq gs fl)) ∧ Below wr.heap.size wr w' := by
  obtain ⟨u2, hf, hu2⟩ := hf
  exact IsFaithfulS_any 0 g nn cn An ns 0 g lf cf Af fs 0 g2 nq cq Aq nsq 0 g2 lg cg Ag gs 0 u2 n2 c2 A2 fl wr hp.prs.nodes (Nat.le_of_lt hp.lt) (Nat.le_trans hp.prs.n21 (by omega)) hp.prs.flows (Nat.le_of_lt hp.lt) (Nat.le_trans hp.prs.f21 (by omega)) hq.prs.nodes (Nat.le_of_lt hq.lt) (Nat.le_trans hq.prs.n21 (by omega)) hq.prs.flows (Nat.le_of_lt hq.lt) (Nat.le_trans hq.prs.f21 (by omega)) hf hu2 h2
theorem Pc.readyMI (hp : Pc wr g An nn cn Af lf cf ns fs) (hm : Rm wr A3 n3 ms) (h3 : n3 ≤ 1048576) (c3 : Nat) : Calls Try.prog 15 #[.agg #[.slice An nn cn, .slice Af lf cf], .slice A3 n3 c3] wr (Fresh (ivs (readyOf ns fs ms)) 1 (readyOf ns fs ms).length wr) := by
  obtain ⟨u3, hm, hu3⟩ := hm
  exact hp.readyI 0 u3 n3 c3 A3 ms hm hu3 h3
theorem Pc.readyMS (hp : Pc wr g An nn cn Af lf cf ns fs) (hm : Rm wr A3 n3 ms) (h3 : n3 ≤ 1048576) (c3 : Nat) : Calls Try.prog 16 #[.agg #[.slice An nn cn, .slice Af lf cf], .slice A3 n3 c3] wr (Fresh (ivs (readyOf ns fs ms)) 1 (readyOf ns fs ms).length wr) := by
  obtain ⟨u3, hm, hu3⟩ := hm
  exact ReadyNodesS_any 0 g nn cn An ns 0 g lf cf Af fs 0 u3 n3 c3 A3 ms wr hp.prs.nodes (Nat.le_of_lt hp.lt) (Nat.le_trans hp.prs.n21 (by omega)) hp.prs.flows (Nat.le_of_lt hp.lt) (Nat.le_trans hp.prs.f21 (by omega)) hm hu3 h3
theorem Pc.countM (hp : Pc wr g An nn cn Af lf cf ns fs) (hm : Rm wr A3 n3 ms) (h3 : n3 ≤ 1048576) (c3 : Nat) : Calls Try.prog 13 #[.agg #[.slice An nn cn, .slice Af lf cf], .slice A3 n3 c3] wr fun e w' => e = .returned (.int .i64 (countOf ns fs ms)) ∧ Below wr.heap.size wr w' := by
  obtain ⟨u3, hm, hu3⟩ := hm
  exact hp.countI 0 u3 n3 c3 A3 ms hm hu3 h3
end
end Go.Proofs.Ytmhbfdcikdhehaa
