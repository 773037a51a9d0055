/- The drawing of processes: the arguments of the laws; a process that reads so, in a cell of its own; a line. -/
import Derived.Test.YtmhbfdcikdhehaaDrawPE
import Derived.Test.YtmhbfdcikdhehaaLawLists
import Derived.Test.YtmhbfdcikdhehaaProcReachA
import Derived.Test.YtmhbfdcikdhehaaProcReachB
set_option linter.unusedSimpArgs false
set_option linter.unusedVariables false
namespace Go.Proofs.Ytmhbfdcikdhehaa
open Go.RowKit

theorem Fls.far {w w' : World} {lo hi : Nat} {A : Option Addr} {n : Nat} {fs : List Flw} (h : Fls w lo hi A n fs) {row : Option Nat} (hg : w.grownBy w' row) (hw : hi ≤ w.heap.size) (hr : ∀ g, row = some g → g < lo ∨ hi ≤ g) : Fls w' lo hi A n fs := by
  obtain ⟨hl, hs, hl', hrd, hc⟩ := h
  exact ⟨hl, hs, hl', hrd.far hg hw hr, fun k f x e e' => ⟨(hc k f x e e').1.far hg hw hr, (hc k f x e e').2⟩⟩
theorem Fls.set {w : World} {lo hi : Nat} {A : Option Addr} {n : Nat} {fs : List Flw} (h : Fls w lo hi A n fs) {p : Addr} (hp : p.block < lo ∨ hi ≤ p.block) (u : Value) : Fls (w.setCell p u) lo hi A n fs := by
  obtain ⟨hl, hs, hl', hrd, hc⟩ := h
  exact ⟨hl, hs, hl', hrd.setCell hp u, fun k f x e e' => ⟨(hc k f x e e').1.setCell hp u, (hc k f x e e').2⟩⟩

/-- The process reads so, between the blocks. -/
structure Prs (w : World) (lo hi : Nat) (An : Option Addr) (nn cn : Nat) (Af : Option Addr) (lf cf : Nat) (ns : List (Int × Int)) (fs : List Flw) : Prop where
  nodes : Rd w lo hi 2 An nn (pvs ns)
  flows : Fls w lo hi Af lf fs
  n21 : nn ≤ 21
  f21 : lf ≤ 21
  cn1 : nn ≤ cn
  cn2 : cn ≤ 9223372036854775807
  cf1 : lf ≤ cf
  cf2 : cf ≤ 9223372036854775807
/-- It lies in a cell of its own, all of it older than this. -/
structure Pc (w : World) (g : Nat) (An : Option Addr) (nn cn : Nat) (Af : Option Addr) (lf cf : Nat) (ns : List (Int × Int)) (fs : List Flw) : Prop where
  here : Blk w g 26 #[.slice An nn cn, .slice Af lf cf]
  prs : Prs w 0 g An nn cn Af lf cf ns fs
section
variable {w w' : World} {lo hi g : Nat} {An : Option Addr} {nn cn : Nat} {Af : Option Addr} {lf cf : Nat} {ns : List (Int × Int)} {fs : List Flw}
theorem Prs.keep (h : Prs w lo hi An nn cn Af lf cf ns fs) {B : Nat} (hb : Below B w w') (hB : hi ≤ B) : Prs w' lo hi An nn cn Af lf cf ns fs := ⟨h.nodes.keep hb hB, h.flows.keep hb hB, h.n21, h.f21, h.cn1, h.cn2, h.cf1, h.cf2⟩
theorem Prs.wide (h : Prs w lo hi An nn cn Af lf cf ns fs) {lo' hi' : Nat} (h1 : lo' ≤ lo) (h2 : hi ≤ hi') : Prs w lo' hi' An nn cn Af lf cf ns fs := ⟨h.nodes.wide h1 h2, h.flows.wide h1 h2, h.n21, h.f21, h.cn1, h.cn2, h.cf1, h.cf2⟩
theorem Prs.far (h : Prs w lo hi An nn cn Af lf cf ns fs) {row : Option Nat} (hg : w.grownBy w' row) (hw : hi ≤ w.heap.size) (hr : ∀ g, row = some g → g < lo ∨ hi ≤ g) : Prs w' lo hi An nn cn Af lf cf ns fs := ⟨h.nodes.far hg hw hr, h.flows.far hg hw hr, h.n21, h.f21, h.cn1, h.cn2, h.cf1, h.cf2⟩
theorem Prs.set (h : Prs w lo hi An nn cn Af lf cf ns fs) {p : Addr} (hp : p.block < lo ∨ hi ≤ p.block) (u : Value) : Prs (w.setCell p u) lo hi An nn cn Af lf cf ns fs := ⟨h.nodes.setCell hp u, h.flows.set hp u, h.n21, h.f21, h.cn1, h.cn2, h.cf1, h.cf2⟩
theorem Pc.new (h : Prs w 0 w.heap.size An nn cn Af lf cf ns fs) : Pc (w.alloc (.cells #[.slice An nn cn, .slice Af lf cf] 26)) w.heap.size An nn cn Af lf cf ns fs :=
  ⟨Blk.new w _ _, h.keep (up_alloc (Below.refl _ _) _) (Nat.le_refl _)⟩
theorem Pc.lt (h : Pc w g An nn cn Af lf cf ns fs) : g < w.heap.size := h.here.lt
theorem Pc.below (h : Pc w g An nn cn Af lf cf ns fs) (hb : Below w.heap.size w w') : Pc w' g An nn cn Af lf cf ns fs := ⟨h.here.below hb h.lt, h.prs.keep hb (Nat.le_of_lt h.lt)⟩
theorem Pc.drew (h : Pc w g An nn cn Af lf cf ns fs) : Pc w.drew g An nn cn Af lf cf ns fs := h.below (up_drew (Below.refl _ _))
theorem Pc.k0 (h : Pc w g An nn cn Af lf cf ns fs) : w.cell? ⟨g, 0, none⟩ = some (.slice An nn cn) := h.here.cell 0
theorem Pc.k1 (h : Pc w g An nn cn Af lf cf ns fs) : w.cell? ⟨g, 1, none⟩ = some (.slice Af lf cf) := h.here.cell 1
theorem Pc.nlen (h : Pc w g An nn cn Af lf cf ns fs) : ns.length = nn := h.prs.nodes.len2
theorem Pc.flen (h : Pc w g An nn cn Af lf cf ns fs) : fs.length = lf := h.prs.flows.1
theorem Prs.validI (h : Prs w lo hi An nn cn Af lf cf ns fs) (hh : hi ≤ w.heap.size) : Calls Try.prog 20 #[.agg #[.slice An nn cn, .slice Af lf cf]] w (fun e w' => e = .returned (.bool (vProc ns fs)) ∧ Below w.heap.size w w') :=
  ValidProcessI_any lo hi nn cn An ns lo hi lf cf Af fs w h.nodes hh (Nat.le_trans h.n21 (by omega)) h.flows hh (Nat.le_trans h.f21 (by omega))
theorem Pc.validI (h : Pc w g An nn cn Af lf cf ns fs) : Calls Try.prog 20 #[.agg #[.slice An nn cn, .slice Af lf cf]] w (fun e w' => e = .returned (.bool (vProc ns fs)) ∧ Below w.heap.size w w') := h.prs.validI (Nat.le_of_lt h.lt)
end

/-- A drawn process. -/
def DrawPr (w : World) (e : Ending) (w' : World) : Prop :=
  ∃ An nn cn Af lf cf ns fs, e = .returned (.agg #[.slice An nn cn, .slice Af lf cf]) ∧ Prs w' 0 w'.heap.size An nn cn Af lf cf ns fs ∧ Below w.heap.size w w'
/-- A drawn process, and a number. -/
def DrawPrN (w : World) (e : Ending) (w' : World) : Prop :=
  ∃ An nn cn Af lf cf ns fs z, e = .returned (.tuple #[.agg #[.slice An nn cn, .slice Af lf cf], .int .i64 z]) ∧ -2 ≤ z ∧ z ≤ 30 ∧ Prs w' w.heap.size w'.heap.size An nn cn Af lf cf ns fs ∧ Below w.heap.size w w'
theorem DrawnP.prs {r : Nat} {A : Option Addr} {n c : Nat} {xs : List Int} {p K : Int} {w : World} {e : Ending} {w' : World} (h : DrawnP r A n c xs p K w e w') :
    ∃ An nn cn Af lf cf ns fs p', e = .returned (.agg #[.slice An nn cn, .slice Af lf cf]) ∧ Prs w' w.heap.size w'.heap.size An nn cn Af lf cf ns fs ∧ Rdr w' r A n c xs p' ∧ p' ≤ p + K ∧ But r w w' := by
  obtain ⟨An, nn, cn, Af, lf, cf, ns, fs, p', rfl, h1, h2, h3, h4, h5, h6, h7, h8, h9, h10, h11⟩ := h
  exact ⟨An, nn, cn, Af, lf, cf, ns, fs, p', rfl, ⟨h7, h8, h1, h2, h3, h4, h5, h6⟩, h9, h10, h11⟩








end Go.Proofs.Ytmhbfdcikdhehaa
