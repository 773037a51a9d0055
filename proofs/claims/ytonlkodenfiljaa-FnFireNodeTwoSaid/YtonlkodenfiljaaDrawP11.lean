/- The drawing of processes: the arguments of the laws; a process that reads so, in a cell of its own; a line. -/
import Derived.Test.YtonlkodenfiljaaDrawPE
import Derived.Test.YtonlkodenfiljaaLawLists
import Derived.Test.YtonlkodenfiljaaProcReachA
import Derived.Test.YtonlkodenfiljaaProcReachB
set_option linter.unusedSimpArgs false
set_option linter.unusedVariables false
namespace Go.Proofs.Ytonlkodenfiljaa
open Go.RowKit

theorem Fls.far {w w' : World} {lo hi : Nat} {A : Option Addr} {n : Nat} {fs : List Flw} (h : Fls w lo hi A n fs) {row : Option Nat} (hg : w.grownBy w' row) (hw : hi ≤ w.heap.size) (hr : ∀ g, row = some g → g < lo ∨ hi ≤ g) : Fls w' lo hi A n fs := by
  obtain ⟨hl, hs, hl', hrd, hc⟩ := h
  exact ⟨hl, hs, hl', hrd.far hg hw hr, fun k f x e e' => ⟨(hc k f x e e').1.far hg hw hr, (hc k f x e e').2⟩⟩
theorem Fls.set {w : World} {lo hi : Nat} {A : Option Addr} {n : Nat} {fs : List Flw} (h : Fls w lo hi A n fs) {p : Addr} (hp : p.block < lo ∨ hi ≤ p.block) (u : Value) : Fls (w.setCell p u) lo hi A n fs := by
  obtain ⟨hl, hs, hl', hrd, hc⟩ := h
  exact ⟨hl, hs, hl', hrd.setCell hp u, fun k f x e e' => ⟨(hc k f x e e').1.setCell hp u, (hc k f x e e').2⟩⟩

/-- The process reads so, between the blocks. -/
structure Prs (w : World) (lo hi : Nat) (An : Option Addr) (nn cn : Nat) (Af : Option Addr) (lf cf : Nat) (ns : List (Int × Int)) (fs : List Flw) : Prop where
  nodes : Rd w lo hi 2 An nn (pvs ns)
  flows : Fls w lo hi Af lf fs
  n21 : nn ≤ 21
  f21 : lf ≤ 21
  cn1 : nn ≤ cn
  cn2 : cn ≤ 9223372036854775807
  cf1 : lf ≤ cf
  cf2 : cf ≤ 9223372036854775807
/-- It lies in a cell of its own, all of it older than this. -/
structure Pc (w : World) (g : Nat) (An : Option Addr) (nn cn : Nat) (Af : Option Addr) (lf cf : Nat) (ns : List (Int × Int)) (fs : List Flw) : Prop where
  here : Blk w g 26 #[.slice An nn cn, .slice Af lf cf]
  prs : Prs w 0 g An nn cn Af lf cf ns fs
section
variable {w w' : World} {lo hi g : Nat} {An : Option Addr} {nn cn : Nat} {Af : Option Addr} {lf cf : Nat} {ns : List (Int × Int)} {fs : List Flw}
theorem Prs.keep (h : Prs w lo hi An nn cn Af lf cf ns fs) {B : Nat} (hb : Below B w w') (hB : hi ≤ B) : Prs w' lo hi An nn cn Af lf cf ns fs := ⟨h.nodes.keep hb hB, h.flows.keep hb hB, h.n21, h.f21, h.cn1, h.cn2, h.cf1, h.cf2⟩
theorem Prs.wide (h : Prs w lo hi An nn cn Af lf cf ns fs) {lo' hi' : Nat} (h1 : lo' ≤ lo) (h2 : hi ≤ hi') : Prs w lo' hi' An nn cn Af lf cf ns fs := ⟨h.nodes.wide h1 h2, h.flows.wide h1 h2, h.n21, h.f21, h.cn1, h.cn2, h.cf1, h.cf2⟩
theorem Prs.far (h : Prs w lo hi An nn cn Af lf cf ns fs) {row : Option Nat} (hg : w.grownBy w' row) (hw : hi ≤ w.heap.size) (hr : ∀ g, row = some g → g < lo ∨ hi ≤ g) : Prs w' lo hi An nn cn Af lf cf ns fs := ⟨h.nodes.far hg hw hr, h.flows.far hg hw hr, h.n21, h.f21, h.cn1, h.cn2, h.cf1, h.cf2⟩
theorem Prs.set (h : Prs w lo hi An nn cn Af lf cf ns fs) {p : Addr} (hp : p.block < lo ∨ hi ≤ p.block) (u : Value) : Prs (w.setCell p u) lo hi An nn cn Af lf cf ns fs := ⟨h.nodes.setCell hp u, h.flows.set hp u, h.n21, h.f21, h.cn1, h.cn2, h.cf1, h.cf2⟩
theorem Pc.new (h : Prs w 0 w.heap.size An nn cn Af lf cf ns fs) : Pc (w.alloc (.cells #[.slice An nn cn, .slice Af lf cf] 26)) w.heap.size An nn cn Af lf cf ns fs :=
  ⟨Blk.new w _ _, h.keep (up_alloc (Below.refl _ _) _) (Nat.le_refl _)⟩
theorem Pc.lt (h : Pc w g An nn cn Af lf cf ns fs) : g < w.heap.size := h.here.lt
theorem Pc.below (h : Pc w g An nn cn Af lf cf ns fs) (hb : Below w.heap.size w w') : Pc w' g An nn cn Af lf cf ns fs := ⟨h.here.below hb h.lt, h.prs.keep hb (Nat.le_of_lt h.lt)⟩
theorem Pc.drew (h : Pc w g An nn cn Af lf cf ns fs) : Pc w.drew g An nn cn Af lf cf ns fs := h.below (up_drew (Below.refl _ _))
theorem Pc.k0 (h : Pc w g An nn cn Af lf cf ns fs) : w.cell? ⟨g, 0, none⟩ = some (.slice An nn cn) := h.here.cell 0
theorem Pc.k1 (h : Pc w g An nn cn Af lf cf ns fs) : w.cell? ⟨g, 1, none⟩ = some (.slice Af lf cf) := h.here.cell 1
theorem Pc.nlen (h : Pc w g An nn cn Af lf cf ns fs) : ns.length = nn := h.prs.nodes.len2
theorem Pc.flen (h : Pc w g An nn cn Af lf cf ns fs) : fs.length = lf := h.prs.flows.1
theorem Prs.validI (h : Prs w lo hi An nn cn Af lf cf ns fs) (hh : hi ≤ w.heap.size) : Calls Try.prog 22 #[.agg #[.slice An nn cn, .slice Af lf cf]] w (fun e w' => e = .returned (.bool (vProc ns fs)) ∧ Below w.heap.size w w') :=
  ValidProcessI_any lo hi nn cn An ns lo hi lf cf Af fs w h.nodes hh (Nat.le_trans h.n21 (by omega)) h.flows hh (Nat.le_trans h.f21 (by omega))
theorem Pc.validI (h : Pc w g An nn cn Af lf cf ns fs) : Calls Try.prog 22 #[.agg #[.slice An nn cn, .slice Af lf cf]] w (fun e w' => e = .returned (.bool (vProc ns fs)) ∧ Below w.heap.size w w') := h.prs.validI (Nat.le_of_lt h.lt)
theorem Prs.circI (h : Prs w lo hi An nn cn Af lf cf ns fs) (hh : hi ≤ w.heap.size) : Calls Try.prog 20 #[.agg #[.slice An nn cn, .slice Af lf cf]] w (fun e w' => e = .returned (.bool (circOf ns fs)) ∧ Below w.heap.size w w') :=
  HasCircleI_any lo hi nn cn An ns lo hi lf cf Af fs w h.nodes hh (Nat.le_trans h.n21 (by omega)) h.flows hh (Nat.le_trans h.f21 (by omega))
theorem Pc.circI (h : Pc w g An nn cn Af lf cf ns fs) : Calls Try.prog 20 #[.agg #[.slice An nn cn, .slice Af lf cf]] w (fun e w' => e = .returned (.bool (circOf ns fs)) ∧ Below w.heap.size w w') := h.prs.circI (Nat.le_of_lt h.lt)
theorem Prs.circS (h : Prs w lo hi An nn cn Af lf cf ns fs) (hh : hi ≤ w.heap.size) : Calls Try.prog 21 #[.agg #[.slice An nn cn, .slice Af lf cf]] w (fun e w' => e = .returned (.bool (circOf ns fs)) ∧ Below w.heap.size w w') :=
  HasCircleS_any lo hi nn cn An ns lo hi lf cf Af fs w h.nodes hh (Nat.le_trans h.n21 (by omega)) h.flows hh (Nat.le_trans h.f21 (by omega))
theorem Pc.circS (h : Pc w g An nn cn Af lf cf ns fs) : Calls Try.prog 21 #[.agg #[.slice An nn cn, .slice Af lf cf]] w (fun e w' => e = .returned (.bool (circOf ns fs)) ∧ Below w.heap.size w w') := h.prs.circS (Nat.le_of_lt h.lt)
theorem Pc.outI (h : Pc w g An nn cn Af lf cf ns fs) (node : Int) (hnode : in64 node) : Calls Try.prog 27 #[.agg #[.slice An nn cn, .slice Af lf cf], .int .i64 node] w (Fresh (ivs (flowsAt ns fs true node)) 1 (flowsAt ns fs true node).length w) :=
  FlowsOutI_any 0 g nn cn An ns 0 g lf cf Af fs node w h.prs.nodes (Nat.le_of_lt h.lt) (Nat.le_trans h.prs.n21 (by omega)) h.prs.flows (Nat.le_of_lt h.lt) (Nat.le_trans h.prs.f21 (by omega)) hnode
theorem Pc.inI (h : Pc w g An nn cn Af lf cf ns fs) (node : Int) (hnode : in64 node) : Calls Try.prog 26 #[.agg #[.slice An nn cn, .slice Af lf cf], .int .i64 node] w (Fresh (ivs (flowsAt ns fs false node)) 1 (flowsAt ns fs false node).length w) :=
  FlowsInI_any 0 g nn cn An ns 0 g lf cf Af fs node w h.prs.nodes (Nat.le_of_lt h.lt) (Nat.le_trans h.prs.n21 (by omega)) h.prs.flows (Nat.le_of_lt h.lt) (Nat.le_trans h.prs.f21 (by omega)) hnode
end

/-- A drawn process. -/
def DrawPr (w : World) (e : Ending) (w' : World) : Prop :=
  ∃ An nn cn Af lf cf ns fs, e = .returned (.agg #[.slice An nn cn, .slice Af lf cf]) ∧ Prs w' 0 w'.heap.size An nn cn Af lf cf ns fs ∧ Below w.heap.size w w'
/-- A drawn process, and a number. -/
def DrawPrN (w : World) (e : Ending) (w' : World) : Prop :=
  ∃ An nn cn Af lf cf ns fs z, e = .returned (.tuple #[.agg #[.slice An nn cn, .slice Af lf cf], .int .i64 z]) ∧ -2 ≤ z ∧ z ≤ 30 ∧ Prs w' w.heap.size w'.heap.size An nn cn Af lf cf ns fs ∧ Below w.heap.size w w'
theorem DrawnP.prs {r : Nat} {A : Option Addr} {n c : Nat} {xs : List Int} {p K : Int} {w : World} {e : Ending} {w' : World} (h : DrawnP r A n c xs p K w e w') :
    ∃ An nn cn Af lf cf ns fs p', e = .returned (.agg #[.slice An nn cn, .slice Af lf cf]) ∧ Prs w' w.heap.size w'.heap.size An nn cn Af lf cf ns fs ∧ Rdr w' r A n c xs p' ∧ p' ≤ p + K ∧ But r w w' := by
  obtain ⟨An, nn, cn, Af, lf, cf, ns, fs, p', rfl, h1, h2, h3, h4, h5, h6, h7, h8, h9, h10, h11⟩ := h
  exact ⟨An, nn, cn, Af, lf, cf, ns, fs, p', rfl, ⟨h7, h8, h1, h2, h3, h4, h5, h6⟩, h9, h10, h11⟩


set_option maxRecDepth 100000 in
set_option maxHeartbeats 1600000 in
theorem drawHasCircle_any (n c : Nat) (A : Option Addr) (xs : List Int) (w : World) (hr : Rd w 0 w.heap.size 1 A n (bvs xs)) (hby : Bytes xs) (hn : n ≤ 1048576) (hc : n ≤ c) (hc2 : c ≤ 9223372036854775807) :
    Calls Try.prog 19 #[.slice A n c] w (DrawPr w) := by
  have hb0 := up_alloc (Below.refl _ w) (.cells #[.slice none 0 0, .slice none 0 0] 26)
  have hq0 := Blk.new w 26 #[.slice none 0 0, .slice none 0 0]
  have HR := Lib.hid ((hr.keep hb0 (Nat.le_refl _)).wide (Nat.le_refl _) hb0.size)
  have hs0 : (w.alloc (.cells #[.slice none 0 0, .slice none 0 0] 26)).heap.size = w.heap.size + 1 := by simp
  go_enter Try.func19, Try.ntmps19
  go_wp2_with (fail)
  (with_reducible refine (newReader_any n c A xs _ HR.out hby hn hc hc2).mono ?_)
  rintro e w1 ⟨r, n', c', xs', rfl, hrw, hR1, hb1⟩
  rw [hs0] at hrw
  have hq1 := hq0.below hb1 (by omega)
  have hb01 := up hb0 hb1
  have hs1 := hb1.size
  rw [hs0] at hs1
  have hrl := hR1.lt
  clear hq0 hb0 hb1 HR hr
  go_wp2_with (fail)
  (with_reducible refine (anyProcess_any r A n' c' xs' 0 w1 hR1 (by omega)).mono ?_)
  rintro e w2 hD
  obtain ⟨An, nn, cn, Af, lf, cf, ns, fs, p', rfl, hP, _, _, hG⟩ := hD.prs
  clear hD
  have hq2 := hq1.but hG (by omega)
  have hb2 : Below w.heap.size w w2 := hb01.grown hG hb01.size (fun k e => by injection e with e; omega)
  have hs2 := hG.size
  have r0 : w2.cell? ⟨w.heap.size, 0, none⟩ = some (.slice none 0 0) := hq2.cell 0
  have r1 : w2.cell? ⟨w.heap.size, 1, none⟩ = some (.slice none 0 0) := hq2.cell 1
  have q0 := hq2.soft 0
  have q1 := hq2.soft 1
  have hZ := (hq2.put 0 (.slice An nn cn)).put 1 (.slice Af lf cf)
  have b0 := hZ.cell 0
  have b1 := hZ.cell 1
  simp at b0 b1
  have HP := Lib.hid (((hP.set (p := ⟨w.heap.size, 0, none⟩) (.inl (by show w.heap.size < w1.heap.size; omega)) (.slice An nn cn)).set (p := ⟨w.heap.size, 1, none⟩) (.inl (by show w.heap.size < w1.heap.size; omega)) (.slice Af lf cf)).wide (Nat.zero_le _) (show w2.heap.size ≤ ((w2.setCell ⟨w.heap.size, 0, none⟩ (.slice An nn cn)).setCell ⟨w.heap.size, 1, none⟩ (.slice Af lf cf)).heap.size by simp [World.setCell]))
  have HB := Lib.hid ((hb2.setCell (p := ⟨w.heap.size, 0, none⟩) (Nat.le_refl _) (.slice An nn cn)).setCell (p := ⟨w.heap.size, 1, none⟩) (Nat.le_refl _) (.slice Af lf cf))
  clear hP hb2 hZ hq2 hq1 hb01 hG
  go_wp2
  exact bodyPost_ret (v := .agg #[.slice An nn cn, .slice Af lf cf]) (by simp [results, Try.results19, go_sem, b0, b1]) rfl ⟨An, nn, cn, Af, lf, cf, ns, fs, rfl, HP.out, HB.out⟩






end Go.Proofs.Ytonlkodenfiljaa
