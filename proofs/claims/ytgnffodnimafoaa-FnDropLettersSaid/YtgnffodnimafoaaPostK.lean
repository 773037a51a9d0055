/- Keys that are addresses. -/
import Derived.Test.YtgnffodnimafoaaPostMath
import Derived.Test.YtgnffodnimafoaaKRows
import Derived.Test.YtgnffodnimafoaaLift
import Derived.DeepKeys4
import Derived.MapViews
import Derived.Lib.SmallJoins
import Derived.Deep.RegionLaw
import Derived.Deep.RegionHeld3
set_option linter.unusedSimpArgs false
set_option linter.unusedVariables false
namespace Go.Proofs.Ytgnffodnimafoaa
open Go.RowKit Go.Maps Go.Deep

theorem addrFields : ∃ f0 f1, Try.prog.underlying 68 = some (.struct #[f0, f1]) ∧ Try.prog.underlying f0.type = some (.int .i64) ∧ Try.prog.underlying f1.type = some (.int .i64) ∧ oneCellFields Try.prog #[f0, f1] = true :=
  ⟨_, _, Try.underlying68, by kernel_rfl, by kernel_rfl, by kernel_rfl⟩
theorem addrRow : (68 : TypeId) < Try.prog.types.size := of_decide_eq_true (by kernel_rfl)
theorem addrCells : Try.prog.cellsOf 68 = 2 := by kernel_rfl
theorem addrDeep : Try.prog.keyTypeAt (Try.prog.types.size + 1) 68 = true := by kernel_rfl
theorem addrWide : (match Try.prog.underlying 68 with | some (.array _ _) | some (.struct _) => true | _ => false) = true := by rw [Try.underlying68]
set_option maxRecDepth 100000 in
theorem keyedAddr : Keyed Try.prog 68 := Keyed.of_law (deep_law_laid Try.laidOut (m := 2) (by omega) addrRow (by kernel_rfl) addrWide)
set_option maxRecDepth 100000 in
theorem addrFormed (a : Int × Int) : (mk2 a).formed Try.prog 68 = true := by simp [mk2, Value.formed, Try.underlying68, addrCells]
set_option maxRecDepth 100000 in
/-- An address is a key. -/
theorem addrKey (w : World) (a : Int × Int) (h1 : in64 a.1) (h2 : in64 a.2) : ∃ l, keyOf Try.prog 68 (mk2 a) = some l := by
  obtain ⟨f0, f1, hu, e0, e1, hone⟩ := addrFields
  have t0 : ∃ n, DataW.trod (fun _ : TypeId × Value => ()) Try.prog w 0 (fun _ => true) true n f0.type [Value.int .i64 a.1] = some (.lit (.int .i64 a.1), []) := ⟨1, by simp [DataW.trod, e0, Lit.wf, in64] at *; exact h1⟩
  have t1 : ∃ n, DataW.trod (fun _ : TypeId × Value => ()) Try.prog w 0 (fun _ => true) true n f1.type [Value.int .i64 a.2] = some (.lit (.int .i64 a.2), []) := ⟨1, by simp [DataW.trod, e1, Lit.wf, in64] at *; exact h2⟩
  exact ⟨_, (keyOf_asKey addrDeep addrWide (addrFormed a) (Go.Joins.shut_agg2 hu hone addrCells t0 t1)).1⟩

theorem keyLits_int {P : Program} {t : TypeId} {d : Nat} {cs : List Value} {L : List Lit} (ht : P.underlying t = some (.int .i64)) (h : P.keyLits d t cs = some L) : ∃ n, cs = [.int .i64 n] ∧ (Lit.int .i64 n).wf = true := by
  cases d with
  | zero => unfold Program.keyLits at h; cases h
  | succ d =>
    unfold Program.keyLits at h
    rw [ht] at h
    split at h
    case h_2 q q' n e =>
      injection e with e
      injection e with e
      subst e
      split at h
      case isTrue hc =>
        obtain ⟨rfl, hw⟩ := hc
        exact ⟨n, rfl, hw⟩
      case isFalse => cases h
    all_goals first
      | (cases h; done)
      | (rename_i e; cases e; done)
      | simp_all
theorem keyLits_two {P : Program} {t : TypeId} {f0 f1 : Field} {d : Nat} {cs : List Value} {L : List Lit} (hu : P.underlying t = some (.struct #[f0, f1])) (h : P.keyLits (d + 1) t cs = some L) :
    cs.length = P.cellsOf t ∧ ∃ L0 L1, P.keyLits d f0.type ((cs.drop f0.offset).take (P.cellsOf f0.type)) = some L0 ∧ P.keyLits d f1.type ((cs.drop f1.offset).take (P.cellsOf f1.type)) = some L1 := by
  unfold Program.keyLits at h
  rw [hu] at h
  split at h
  case h_5 fs e =>
    injection e with e
    injection e with e
    subst e
    split at h
    case isTrue hc =>
      refine ⟨hc.1, ?_⟩
      simp only [Option.map_eq_some_iff] at h
      obtain ⟨a, ha, _⟩ := h
      simp only [List.mapM_cons, Option.bind_eq_bind, Option.bind_eq_some_iff] at ha
      obtain ⟨L0, h0, r, hr, _⟩ := ha
      obtain ⟨L1, h1, _⟩ := hr
      exact ⟨L0, L1, h0, h1⟩
    case isFalse => cases h
  all_goals first
    | (cases h; done)
    | (rename_i e; cases e; done)
    | simp_all
set_option maxRecDepth 100000 in
/-- A key is an address. -/
theorem addrInv {key : Value} {kl : Lit} (h : keyOf Try.prog 68 key = some kl) : ∃ a : Int × Int, in64 a.1 ∧ in64 a.2 ∧ key = mk2 a := by
  obtain ⟨xs, L, rfl, hl, _⟩ := keyOf_top addrWide h
  obtain ⟨f0, f1, hu, e0, e1, hone⟩ := addrFields
  obtain ⟨hlen, L0, L1, h0, h1⟩ := keyLits_two hu hl
  obtain ⟨o0, c0⟩ := hone_of hone 0 f0 rfl
  obtain ⟨o1, c1⟩ := hone_of hone 1 f1 rfl
  rw [addrCells] at hlen
  rw [o0, c0] at h0
  rw [o1, c1] at h1
  obtain ⟨n0, k0, w0⟩ := keyLits_int e0 h0
  obtain ⟨n1, k1, w1⟩ := keyLits_int e1 h1
  obtain ⟨l⟩ := xs
  match l, hlen with
  | [v0, v1], _ =>
    simp at k0 k1
    subst k0; subst k1
    refine ⟨(n0, n1), ?_, ?_, rfl⟩
    · simpa [in64, Lit.wf, IntKind.min, IntKind.max, IntKind.signed, IntKind.bits] using w0
    · simpa [in64, Lit.wf, IntKind.min, IntKind.max, IntKind.signed, IntKind.bits] using w1
/-- What queuesOf answers. -/
def QPost (f : Tri → Int × Int) (ok : Bool) (ss : List Tri) (w : World) (e : Ending) (w' : World) : Prop :=
  (ok = false ∧ e = .returned (.tuple #[.map none, .bool false]) ∧ Below w.heap.size w w') ∨
  (ok = true ∧ ∃ b, e = .returned (.tuple #[.map (some b), .bool true]) ∧ KRowMap mk2 Try.prog 68 w' w.heap.size w'.heap.size b (idxOf f ss) ∧ Below w.heap.size w w')
theorem infoIntQ : (Try.prog.info? 3).map (fun i => (i.zero, i.size, i.bytes)) = some (some (.int .i64 0), 1, 8) := by kernel_rfl
theorem zeroIntsQ (w : World) : (zeroValue 52).run Try.prog w = .ok (.slice none 0 0) w := by kernel_rfl
/-- How queuesOf stands: the map, its rows, the element in its block. -/
structure Qs (w0 w : World) (F : Nat) (t : TypeId) (cs : Array Value) (n : Nat) (sel : Int × Int → Option Value) (G : Int × Int → List Int) : Prop where
  el : Blk w F t cs
  mp : KMap mk2 Try.prog 68 w w0.heap.size n sel
  rows : KRows w (w0.heap.size + 1) 3 sel G
  far : ∀ z g, (rowAt (sel z)).ownBlock = some g → g ≠ F
  lt : w0.heap.size < F
  bel : Below w0.heap.size w0 w
section
variable {w0 w w' : World} {F : Nat} {t : TypeId} {cs : Array Value} {n : Nat} {sel : Int × Int → Option Value} {G : Int × Int → List Int}
theorem Qs.below (h : Qs w0 w F t cs n sel G) (hb : Below w.heap.size w w') : Qs w0 w' F t cs n sel G :=
  ⟨h.el.below hb h.el.lt, h.mp.keep hb h.mp.lt, h.rows.below hb, h.far, h.lt, up h.bel hb⟩
theorem Qs.look (h : Qs w0 w F t cs n sel G) {z : Int × Int} (h1 : in64 z.1) (h2 : in64 z.2) : (Instr.lookup 57 (.map (some w0.heap.size)) (mk2 z) false).run Try.prog w = .ok (rowAt (sel z)) w := by
  obtain ⟨l, hl⟩ := addrKey w z h1 h2
  exact h.mp.look keyedAddr Try.underlying57 (zeroIntsQ _) hl rfl
end

theorem all_missQ {α : Type} {f : α → Bool} {l : List α} {k : Nat} {t : α} (hg : l[k]? = some t) (h : f t = false) : (l.drop k).all f = false := by
  rw [drop_cons2 hg, List.all_cons, h, Bool.false_and]
theorem all_hitQ {α : Type} {f : α → Bool} {l : List α} {k : Nat} {t : α} (hg : l[k]? = some t) (h : f t = true) : (l.drop k).all f = (l.drop (k + 1)).all f := by
  rw [drop_cons2 hg, List.all_cons, h, Bool.true_and]
end Go.Proofs.Ytgnffodnimafoaa
