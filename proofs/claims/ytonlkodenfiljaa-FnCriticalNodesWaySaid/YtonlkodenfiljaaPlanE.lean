/- Merged: PlanN, PlanO, PlanQ. -/
import Derived.Test.YtonlkodenfiljaaRoundLast
import Derived.Test.YtonlkodenfiljaaPlanD
import Derived.Test.YtonlkodenfiljaaPlanC
import Derived.RangeFuncNested
import Derived.RangeFuncBound
import Derived.RangeFuncCalls
import Derived.RangeFuncLeaves
import Derived.Shelf.Abstract
import Derived.Shelf.RegionOpen
import Derived.WalkKit
import Derived.OwnWalkIn
import Derived.TacticsInMore
import Derived.LoopNIn
import Derived.LoopIn
import Derived.Deep.RegionHeld3
/- The program's latest begins: a range over slices.Backward. -/
set_option linter.unusedSimpArgs false
set_option linter.unusedVariables false
namespace Go.Proofs.Ytonlkodenfiljaa
open Go.RowKit Go.Shelf
attribute [local go_sem] Oper.semAt_some

/-- A place of the order and the node there. -/
abbrev Bk (N : Nat) := { x : Nat × Nat // x.2 < N }
def encB {N : Nat} (x : Bk N) : Array Value := #[.int .i64 (x.1.1 : Int), .int .i64 (x.1.2 : Int)]
/-- From the end on. -/
structure Backs (N : Nat) (os : List Nat) (qs : List (Bk N)) : Prop where
  len : qs.length = os.length
  at_ : ∀ k d, k + (d + 1) = os.length → ∃ z : Bk N, qs[k]? = some z ∧ z.1.1 = d ∧ os[d]? = some z.1.2
theorem backs_of {N : Nat} {os : List Nat} (h : ∀ v ∈ os, v < N) : ∃ qs : List (Bk N), Backs N os qs ∧ qs.map (fun z => z.1.2) = os.reverse := by
  have key : ∀ m, m ≤ os.length → ∃ qs : List (Bk N), qs.length = m ∧ ∀ k d, k < m → k + (d + 1) = os.length → ∃ z : Bk N, qs[k]? = some z ∧ z.1.1 = d ∧ os[d]? = some z.1.2 := by
    intro m
    induction m with
    | zero => exact fun _ => ⟨[], rfl, fun k d hk => by omega⟩
    | succ m ih =>
      intro hm
      obtain ⟨qs, hl, hq⟩ := ih (by omega)
      have hd : os.length - 1 - m < os.length := by omega
      refine ⟨qs ++ [⟨(os.length - 1 - m, os[os.length - 1 - m]), h _ (List.getElem_mem hd)⟩], by rw [List.length_append, hl]; rfl, fun k d hk hkd => ?_⟩
      by_cases hkm : k < m
      · obtain ⟨z, h1, h2⟩ := hq k d hkm hkd
        exact ⟨z, by rw [List.getElem?_append_left (by omega)]; exact h1, h2⟩
      · obtain rfl : k = m := by omega
        have hdd : os.length - 1 - k = d := by omega
        refine ⟨_, by rw [List.getElem?_append_right (by omega), hl, Nat.sub_self]; rfl, hdd, ?_⟩
        rw [← hdd]
        exact List.getElem?_eq_getElem hd
  obtain ⟨qs, hl, hq⟩ := key os.length (Nat.le_refl _)
  refine ⟨qs, ⟨hl, fun k d hkd => hq k d (by omega) hkd⟩, List.ext_getElem? fun k => ?_⟩
  rw [List.getElem?_map]
  by_cases hk : k < os.length
  · obtain ⟨z, h1, _, h3⟩ := hq k (os.length - 1 - k) hk (by omega)
    rw [h1, List.getElem?_reverse hk, h3]; rfl
  · rw [List.getElem?_eq_none (by omega), List.getElem?_eq_none (by rw [List.length_reverse]; omega)]; rfl
set_option maxHeartbeats 1000000 in
theorem BackwardI_any (a : Option Addr) (len cap : Nat) (w : World) :
    Calls Try.prog 90 #[.slice a len cap] w fun e w' => e = .returned (.func (.func 103) #[] #[.pointer (some ⟨w.heap.size, 0, none⟩)]) ∧ w' = w.alloc (.cells #[.slice a len cap] 27) := by
  go_enter Try.func90, Try.ntmps90
  go_wp2
  go_ret
  exact ⟨rfl, rfl⟩
/-- What a round keeps: whatever lay below n₀, and the slice's box. -/
def KpB (n₀ Bs : Nat) (A B : World) : Prop := Below n₀ A B ∧ B.heap[Bs]? = A.heap[Bs]?
theorem KpB.refl (n₀ Bs : Nat) (A : World) : KpB n₀ Bs A A := ⟨Below.refl _ _, rfl⟩
theorem KpB.trans {n₀ Bs : Nat} {A B C : World} (h : KpB n₀ Bs A B) (k : KpB n₀ Bs B C) : KpB n₀ Bs A C := ⟨h.1.trans k.1, k.2.trans h.2⟩
set_option maxRecDepth 100000 in
set_option maxHeartbeats 2000000 in
theorem backI1 (n : Nat) (hn : 1 ≤ n) (l Bs n₀ N len cap : Nat) (A : Option Addr) (os : List Nat) (qs : List (Bk N)) (hol : os.length = len) (hlen : len ≤ 1048576) (hqs : Backs N os qs) (J Jx : List (Bk N) → World → Prop)
    (hY : ∀ pre x W, J pre W → pre.length < len → YieldAt Fence.wide (n - 1) Try.prog l (encB x) W fun e W' =>
      (e = .returned (.bool true) ∧ J (pre ++ [x]) W' ∧ KpB n₀ Bs W W') ∨ (e = .returned (.bool false) ∧ Jx (pre ++ [x]) W'))
    (W : World) (hBs : Blk W Bs 27 #[.slice A len cap]) (hr : Rd W 0 n₀ 1 A len (ivs (ois os))) (h0 : J [] W) :
    CallsIn Fence.wide n Try.prog 103 #[.func (.yield l) #[] #[], .pointer (some ⟨Bs, 0, none⟩)] W fun e W' => (∃ v, e = .returned v) ∧
      ((∃ ys, ys = qs ∧ J ys W') ∨ (∃ pre, pre <+: qs ∧ Jx pre W')) := by
  have HR := Lib.hid hr
  have HJ0 := Lib.hid h0
  have HQ := Lib.hid hqs
  have hb0 := hBs.cell 0
  have HBS := Lib.hid hBs
  simp only [List.getElem?_toArray, List.getElem?_cons_zero] at hb0
  have hwl : IntKind.i64.wrap ((len : Int) - 1) = (len : Int) - 1 := IntWalk.i64_in _ (by omega)
  clear hr h0 hqs hBs
  refine callsIn_of_wp Try.func103 rfl trivial ?_ rfl
  simp only [Try.ntmps103, List.size_toArray, List.length_cons, List.length_nil, Nat.reduceAdd, Nat.reduceSub, Array.replicate_succ, Array.replicate_zero, List.push_toArray, List.append_toArray, List.nil_append, List.cons_append]
  gi_wp2
  clear hb0
  gi_loopw [3] (fun i wr => ∃ k d : Nat, k + d = len ∧ i = .int .i64 ((d : Int) - 1) ∧ Hid (J (qs.take k) wr) ∧ Hid (KpB n₀ Bs W wr))
    (fun i _ => (intOf i + 1).toNat)
  case atStart => exact ⟨0, len, by omega, rfl, HJ0.out, KpB.refl _ _ _⟩
  case round =>
    obtain ⟨k, d, hkd, rfl, hJs, hnx⟩ := hrel
    cases d with
    | succ d =>
      rw [show ((d + 1 : Nat) : Int) - 1 = (d : Int) by omega]
      have hdl : d < len := by omega
      obtain ⟨z, hz, hz1, hz2⟩ := HQ.out.at_ k d (by omega)
      obtain ⟨b, off, x, hA, hbl, _, hg, hc0⟩ := (HR.out.keep hnx.out.1 (Nat.le_refl _)).one hdl
      rw [ois_at hz2] at hg
      injection hg with hg
      subst hg
      subst hA
      have HT := Lib.hid (take_snoc hz)
      have hkl : (qs.take k).length < len := by rw [List.length_take]; omega
      obtain ⟨fn, tmps, assign, body, hy, hR⟩ := hY (qs.take k) z _ hJs.out hkl
      have hb1 : wr.cell? ⟨Bs, 0, none⟩ = some (.slice (some ⟨b, off, none⟩) len cap) := by
        have : Blk wr Bs 27 #[.slice (some ⟨b, off, none⟩) len cap] := hnx.out.2.trans HBS.out
        exact this.cell 0
      simp only [encB, hz1] at hy
      have hd1 : (d : Int) < (len : Int) := by omega
      have hd0 : (0 : Int) ≤ (d : Int) := by omega
      have HB := Lib.hid hnx.out
      clear hz hz1 hz2 hkl
      gi_wp2
      refine hR.mono ?_
      rintro e W3 (⟨rfl, hJ3, hk3⟩ | ⟨rfl, hJx3⟩)
      · have HJ3 := Lib.hid hJ3
        have HB3 := Lib.hid (HB.out.trans hk3)
        clear hJ3 hk3
        gi_wp2
        go_roundw
        case rel => exact ⟨k + 1, d, by omega, by go_num, by rw [HT.out]; exact HJ3.out, HB3.out⟩
        case measure => simp [intOf] <;> omega
      · have HJ3 := Lib.hid hJx3
        clear hJx3
        gi_wp2
        refine bodyPost_ret (results_none rfl _ _ _) rfl ?_
        exact ⟨⟨_, rfl⟩, .inr ⟨_, List.take_prefix (k + 1) qs, by rw [HT.out]; exact HJ3.out⟩⟩
    | zero =>
      have HT := Lib.hid (show qs.take k = qs from List.take_of_length_le (by rw [HQ.out.len]; omega))
      gi_wp2
      go_end0
      exact ⟨⟨_, rfl⟩, .inl ⟨_, rfl, by rw [← HT.out]; exact hJs.out⟩⟩
end Go.Proofs.Ytonlkodenfiljaa


/- The program's latest begins. -/
namespace Go.Proofs.Ytonlkodenfiljaa
open Go.RowKit Go.Shelf
attribute [local go_sem] Oper.semAt_some

/-- How large the begins become while they are pulled. -/
theorem foldL_in {t : List Int} (ht : ∀ v, 0 ≤ beg t v ∧ beg t v ≤ 500) : ∀ (qs : List (Nat × Nat)) (b : List Int) (B : Int), 0 ≤ B → (∀ v, -B ≤ beg b v ∧ beg b v ≤ 5500) → ∀ v, -(B + 500 * (qs.length : Int)) ≤ beg (qs.foldl (plxL t) b) v ∧ beg (qs.foldl (plxL t) b) v ≤ 5500
  | [], b, B, _, h, v => by have := h v; simp only [List.foldl_nil, List.length_nil]; omega
  | e :: qs, b, B, hB, h, v => by
    rw [List.foldl_cons]
    have hs : ∀ v, -(B + 500) ≤ beg (plxL t b e) v ∧ beg (plxL t b e) v ≤ 5500 := fun v => by
      unfold plxL
      by_cases hl : e.1 < b.length
      · rw [beg_set b e.1 v _ hl]
        have h1 := h v; have h2 := h e.1; have h3 := h e.2; have h4 := ht e.1
        by_cases hv : v = e.1
        · rw [if_pos hv]; omega
        · rw [if_neg hv]; omega
      · rw [List.set_eq_of_length_le (by omega)]; have := h v; omega
    have := foldL_in ht qs (plxL t b e) (B + 500) (by omega) hs v
    simp only [List.length_cons]
    omega
/-- The begins behind some nodes, in whatever order they came. -/
def pulls (ts : List Int) (es : List (Nat × Nat)) (M : Int) (N : Nat) (us : List Nat) : List Int := us.foldl (pullNode ts es M) (List.replicate N 0)
theorem pulls_len (ts : List Int) (es : List (Nat × Nat)) (M : Int) (N : Nat) (us : List Nat) : (pulls ts es M N us).length = N := by
  unfold pulls
  have : ∀ (us : List Nat) (b : List Int), (us.foldl (pullNode ts es M) b).length = b.length := by
    intro us
    induction us with
    | nil => exact fun _ => rfl
    | cons u us ih => intro b; rw [List.foldl_cons, ih]; unfold pullNode; rw [foldL_len, List.length_set]
  rw [this, List.length_replicate]
theorem pulls_in {ts : List Int} {es : List (Nat × Nat)} {M : Int} {N : Nat} (ht : ∀ v, 0 ≤ beg ts v ∧ beg ts v ≤ 500) (hM : 0 ≤ M ∧ M ≤ 5500) (hes : es.length ≤ 14) (us : List Nat) (hN : us.length ≤ 10) :
    ∀ v, -(500 + 7000 * (us.length : Int)) ≤ beg (pulls ts es M N us) v ∧ beg (pulls ts es M N us) v ≤ 5500 := by
  have key : ∀ (us : List Nat) (b : List Int) (B : Int), 500 ≤ B → (∀ v, -B ≤ beg b v ∧ beg b v ≤ 5500) → ∀ v, -(B + 7000 * (us.length : Int)) ≤ beg (us.foldl (pullNode ts es M) b) v ∧ beg (us.foldl (pullNode ts es M) b) v ≤ 5500 := by
    intro us
    induction us with
    | nil => intro b B _ h v; have := h v; simp only [List.foldl_nil, List.length_nil]; omega
    | cons u us ih =>
      intro b B hB h v
      rw [List.foldl_cons]
      have hset : ∀ v, -B ≤ beg (b.set u (M - beg ts u)) v ∧ beg (b.set u (M - beg ts u)) v ≤ 5500 := fun v => by
        by_cases hl : u < b.length
        · rw [beg_set b u v _ hl]
          have h1 := h v; have h4 := ht u
          by_cases hv : v = u
          · rw [if_pos hv]; omega
          · rw [if_neg hv]; exact h1
        · rw [List.set_eq_of_length_le (by omega)]; exact h v
      have hol : (outs es u).length ≤ 14 := Nat.le_trans (List.length_filter_le _ _) hes
      have h1 := foldL_in ht (outs es u) _ B (by omega) hset
      have := ih (pullNode ts es M b u) (B + 7000) (by omega) (fun v => by have := h1 v; unfold pullNode; omega) v
      simp only [List.length_cons]
      omega
  exact key us _ 500 (Int.le_refl _) (fun v => by rw [beg_zeros]; omega)
theorem pulls_snoc (ts : List Int) (es : List (Nat × Nat)) (M : Int) (N : Nat) (us : List Nat) (u : Nat) : pulls ts es M N (us ++ [u]) = pullNode ts es M (pulls ts es M N us) u := by unfold pulls; rw [List.foldl_append]; rfl
theorem pulls_all {ts : List Int} {es : List (Nat × Nat)} {M : Int} {N : Nat} {os : List Nat} (ho : Order es N os) (hn : os.Nodup) (hN : ∀ v ∈ os, v < N) : pulls ts es M N os.reverse = roundsL ts es M N N := (ho.latest hn hN ts M (List.length_replicate (n := N) (a := (0 : Int)))).symm
theorem blkOwn {β : Type} (B : Nat) (t : TypeId) (cs : Array Value) : Own (fun (_ : β) W => Blk W B t cs) := fun s X Y row h hg hr => h.grown hg (fun e => by
  obtain ⟨o, ho, hc⟩ := hr B e.symm
  rw [show X.heap[B]? = _ from h] at ho; cases ho; cases hc)
theorem own_row {β : Type} (base : Nat) (e : TypeId) (size : Nat) (v : Value) (n : Nat) (f : β → List Value) : Own (fun s W => World.ownsRow W base e size v n (f s)) := fun s X Y row h hg hr => h.kept hg (by
  rcases h.2 with ⟨hv, _⟩ | ⟨g, cap, cur, hv, _, hh, _⟩
  · exact .inl (by rw [hv]; rfl)
  · refine .inr fun e => ?_
    rw [hv] at e
    obtain ⟨o, ho, hc⟩ := hr g e.symm
    rw [hh] at ho; cases ho; cases hc)

set_option maxRecDepth 100000 in
set_option maxHeartbeats 4000000 in
theorem latestI_any (hi nn cn : Nat) (An : Option Addr) (lf cf : Nat) (Af : Option Addr) (bo bi n' c' : Nat) (A' Ao : Option Addr) (co : Nat) (os : List Nat) (ns : List (Int × Int)) (fs : List Flw) (ts : List Int) (M : Int) (w : World) (hp : PlanAt w hi nn Af lf bo bi A' n' Ao os ns fs ts) (hB : hi ≤ w.heap.size) (hM : 0 ≤ M ∧ M ≤ 5500) :
    Calls Try.prog 67 #[.agg #[.slice An nn cn, .slice Af lf cf, .map (some bo), .map (some bi), .slice A' n' c', .slice Ao os.length co], .int .i64 M] w (OwnI w nn (roundsL ts (esOf fs) M nn nn)) := by
  have hnn := hp.n10
  have h2 := hp.nt
  subst h2
  have h14 := hp.l14
  have hol := hp.len
  have HP := Lib.hid hp
  obtain ⟨qs, hqs, hrev⟩ := backs_of hp.lt
  have HQS := Lib.hid hqs
  have HREV := Lib.hid hrev
  have hbp : Below w.heap.size w (((w.alloc (.cells #[.slice An n' cn, .slice Af lf cf, .map (some bo), .map (some bi), .slice A' n' c', .slice Ao os.length co] 54)).alloc (.cells #[.int .i64 M] 3))) := up_alloc (up_alloc (Below.refl _ w) _) _
  have e1 : ((w.alloc (.cells #[.slice An n' cn, .slice Af lf cf, .map (some bo), .map (some bi), .slice A' n' c', .slice Ao os.length co] 54)).alloc (.cells #[.int .i64 M] 3)).heap.size = w.heap.size + 2 := by simp
  have hP0 := (Blk.new w 54 #[.slice An n' cn, .slice Af lf cf, .map (some bo), .map (some bi), .slice A' n' c', .slice Ao os.length co]).alloc (.cells #[.int .i64 M] 3)
  have hE0 := Blk.new (w.alloc (.cells #[.slice An n' cn, .slice Af lf cf, .map (some bo), .map (some bi), .slice A' n' c', .slice Ao os.length co] 54)) 3 #[.int .i64 M]
  rw [show (w.alloc (.cells #[.slice An n' cn, .slice Af lf cf, .map (some bo), .map (some bi), .slice A' n' c', .slice Ao os.length co] 54)).heap.size = w.heap.size + 1 by simp] at hE0
  have k0 := hP0.cell 0
  simp only [List.getElem?_toArray, List.getElem?_cons_zero] at k0
  generalize hW0 : ((w.alloc (.cells #[.slice An n' cn, .slice Af lf cf, .map (some bo), .map (some bi), .slice A' n' c', .slice Ao os.length co] 54)).alloc (.cells #[.int .i64 M] 3)) = w0 at *
  obtain ⟨i0, hi0, hz0, hz1, hz2⟩ := info_parts infoInt
  obtain ⟨wm, hmk, hown, hgr⟩ := run_make_full (P := Try.prog) w0 (w.heap.size + 2) 27 3 i0 _ 1 Try.underlying27 hi0 hz0 hz1 .i64 .i64 n' (by rw [hz2]; omega) (by unfold maxLen; omega) (by rw [e1]; exact Nat.le_refl _)
  have hbm := hbp.grown hgr (by rw [e1]; omega) (by simp)
  have hP1 := hP0.grown hgr (by simp)
  have hE1 := hE0.grown hgr (by simp)
  rw [e1] at hown hmk
  have hcell0 : (madeCells (Value.int .i64 0).cells (n' * 1)).toList = ivs (List.replicate n' 0) := by
    show (madeCells #[.int .i64 0] (n' * 1)).toList = _
    rw [toList_madeCells_one, Nat.mul_one]; simp [ivs]
  rw [hcell0] at hown
  have hsm : w.heap.size + 3 ≤ wm.heap.size := by
    rcases hown.2 with ⟨hv, _⟩ | ⟨g, cap, cur, hv, _, hh, _⟩
    · cases hv
    · injection hv with hv; injection hv with hv; injection hv with hv
      subst hv
      have := (Array.getElem?_eq_some_iff.1 hh).1
      omega
  have hP2 := hP1.alloc (.cells #[.slice (some ⟨w.heap.size + 2, 0, none⟩) n' n'] 27)
  have hE2 := hE1.alloc (.cells #[.slice (some ⟨w.heap.size + 2, 0, none⟩) n' n'] 27)
  have hB2 := Blk.new wm 27 #[.slice (some ⟨w.heap.size + 2, 0, none⟩) n' n']
  have hO2 := hown.alloc (.cells #[.slice (some ⟨w.heap.size + 2, 0, none⟩) n' n'] 27)
  have hb2 := up_alloc hbm (.cells #[.slice (some ⟨w.heap.size + 2, 0, none⟩) n' n'] 27)
  have k5 := hP2.cell 5
  simp only [List.getElem?_toArray, List.getElem?_cons_zero, List.getElem?_cons_succ] at k5
  clear hcell0 hgr hi0 hz0 hz1 hz2 hP0 hE0 hqs hrev hp
  refine (callsIn_wide (n := 3)).1 ?_
  refine callsIn_of_wp_marks Try.func67 rfl trivial ?_ rfl
  simp only [Try.ntmps67, List.size_toArray, List.length_cons, List.length_nil, Nat.reduceAdd, Nat.reduceSub, Array.replicate_succ, Array.replicate_zero, List.push_toArray, List.append_toArray, List.nil_append, List.cons_append]
  gi_wp2_with (refine ⟨trivial, ?_⟩; gi_at_call 90; refine (callsIn_wide.2 (BackwardI_any _ _ _ _)).mono ?_; rintro e w' ⟨rfl, rfl⟩)
  have hP3 := hP2.alloc (.cells #[.slice Ao os.length co] 27)
  have hE3 := hE2.alloc (.cells #[.slice Ao os.length co] 27)
  have hB3 := hB2.alloc (.cells #[.slice Ao os.length co] 27)
  have hS3 := Blk.new (wm.alloc (.cells #[.slice (some ⟨w.heap.size + 2, 0, none⟩) n' n'] 27)) 27 #[.slice Ao os.length co]
  have hO3 := hO2.alloc (.cells #[.slice Ao os.length co] 27)
  have hb3 := up_alloc hb2 (.cells #[.slice Ao os.length co] 27)
  have hsz : ((wm.alloc (.cells #[.slice (some ⟨w.heap.size + 2, 0, none⟩) n' n'] 27)).alloc (.cells #[.slice Ao os.length co] 27)).heap.size = wm.heap.size + 2 := by simp
  rw [show (wm.alloc (.cells #[.slice (some ⟨w.heap.size + 2, 0, none⟩) n' n'] 27)).heap.size = wm.heap.size + 1 by simp] at hS3
  obtain ⟨W0, hW⟩ : ∃ W0, (wm.alloc (.cells #[.slice (some ⟨w.heap.size + 2, 0, none⟩) n' n'] 27)).alloc (.cells #[.slice Ao os.length co] 27) = W0 := ⟨_, rfl⟩
  rw [hW] at hP3 hE3 hB3 hS3 hO3 hb3 hsz ⊢
  clear hW hP2 hE2 hB2 hO2 hb2 hP1 hE1 hown hbm k5 k0 hmk hbp hW0
  have hr3 := (HP.out.keep hb3 hB).ord
  refine wpIn_rangeFunc_ownH rfl (by omega) (gf := 103) (lb := #[.pointer (some ⟨wm.heap.size + 1, 0, none⟩)]) rfl trivial (enters_of Try.func103 (by kernel_rfl) rfl)
    (encs := encB) (Kp := KpB w.heap.size (wm.heap.size + 1)) (S := fun ys => ys = qs) (Sp := fun pre => pre <+: qs) (N := os.length) (w0 := W0)
    (fun l J Jx W hW hJ _ hY h0 => backI1 (3 - 1) (by omega) l (wm.heap.size + 1) w.heap.size n' os.length co Ao os qs rfl (by omega) HQS.out J Jx hY W (hS3.below hW (by omega)) (hr3.keep (hW.mono (Nat.le_refl _)) (by omega) |>.wide (Nat.le_refl _) hB) h0)
    KpB.trans (fun W l o o' hl ho hc hw => ⟨belowK_b (by omega) W l o o' hl ho hc hw, (grownBy_putObj' W l o').block _ (by have := (Array.getElem?_eq_some_iff.1 ho).1; omega) (fun e => by injection e with e; omega)⟩) (Below.refl _ _) (fun _ => rfl)
    (fun pre W => (Blk W w.heap.size 54 #[.slice An n' cn, .slice Af lf cf, .map (some bo), .map (some bi), .slice A' n' c', .slice Ao os.length co] ∧ Blk W (w.heap.size + 1) 3 #[.int .i64 M] ∧ Blk W wm.heap.size 27 #[.slice (some ⟨w.heap.size + 2, 0, none⟩) n' n'] ∧ W.ownsRow (w.heap.size + 2) 3 1 (.slice (some ⟨w.heap.size + 2, 0, none⟩) n' n') n' (ivs (pulls ts (esOf fs) M n' (pre.map fun z => z.1.2)))) ∧ Below w.heap.size w W)
    (fun _ _ _ => False)
    (OwnFrom.and (OwnFrom.and (Own.from (blkOwn _ _ _) _) (OwnFrom.and (Own.from (blkOwn _ _ _) _) (OwnFrom.and (Own.from (blkOwn _ _ _) _) (Own.from (own_row _ _ _ _ _ _) _)))) (ownFrom_below (Nat.le_refl _) (by omega)))
    (fun _ _ _ _ _ hs _ _ => hs)
    ⟨⟨hP3, hE3, hB3, hO3⟩, hb3⟩
    (fun x a' W => a' = { tmps := #[.agg #[.slice An n' cn, .slice Af lf cf, .map (some bo), .map (some bi), .slice A' n' c', .slice Ao os.length co], .int .i64 M, .pointer (some ⟨w.heap.size, 0, none⟩), .pointer (some ⟨w.heap.size + 1, 0, none⟩), .slice none 0 0, .pointer (some ⟨wm.heap.size, 0, none⟩), undef, .int .i64 (x.1.2 : Int), undef, undef, .pointer (some ⟨w.heap.size, 0, none⟩), .pointer (some ⟨w.heap.size, 0, none⟩), .pointer (some ⟨w.heap.size, 0, none⟩), .slice An n' cn, .int .i64 (n' : Int), .slice (some ⟨w.heap.size + 2, 0, none⟩) n' n', .pointer (some ⟨w.heap.size, 5, none⟩), .slice Ao os.length co, (.func (.func 103) #[] #[.pointer (some ⟨wm.heap.size + 1, 0, none⟩)]), .int .i64 (x.1.1 : Int), .int .i64 (x.1.2 : Int), undef, undef, undef, undef, undef, undef, undef, undef, undef, undef, undef, undef, undef, undef, undef, undef, undef, undef, undef, undef, undef, undef, undef, undef, undef, undef, undef, undef, undef, undef, undef, undef, undef, undef, undef, undef, undef, undef, undef], defers := [] })
    (fun x a' _ X Y row hs hg hr => hs)
    ?assign ?body ?done ?stop
  case assign =>
    rintro l pre x W K hI hK
    unfold encB
    gi_wp2
    exact hK _ _ (KeepsFrom.refl _ _) (KpB.refl _ _ _) hI rfl
  case body =>
    rintro l pre x a' W hl ⟨r, hr⟩ ⟨⟨bP, bE, bB, ro⟩, hbl⟩ rfl hlt
    obtain ⟨⟨d, u⟩, hu⟩ := x
    dsimp only at hu ⊢
    have hpl : pre.length < 10 := by omega
    have ht := vTimes_at HP.out.pl.t u
    have hpi := pulls_in (M := M) (N := n') (fun v => vTimes_at HP.out.pl.t v) hM (es := esOf fs) (by rw [esOf_len]; have := HP.out.net.fls.1; omega) (pre.map fun z : Bk n' => z.1.2) (by rw [List.length_map]; omega)
    have hplen := pulls_len ts (esOf fs) M n' (pre.map fun z : Bk n' => z.1.2)
    have HSN := Lib.hid (show pulls ts (esOf fs) M n' ((pre ++ [(⟨(d, u), hu⟩ : Bk n')]).map fun z => z.1.2) = pullNode ts (esOf fs) M (pulls ts (esOf fs) M n' (pre.map fun z : Bk n' => z.1.2)) u by
      rw [List.map_append]; exact pulls_snoc _ _ _ _ _ _)
    rw [List.length_map] at hpi
    generalize pulls ts (esOf fs) M n' (pre.map fun z : Bk n' => z.1.2) = b at *
    obtain ⟨b2, off2, v2, hA2, hb2, _, hg2, hc2⟩ := (HP.out.keep hbl hB).tim.one hu
    have hv2 := beg_at hg2
    rw [hv2] at ht
    subst hA2
    obtain ⟨ht0, ht1⟩ := ht
    obtain ⟨hM0, hM1⟩ := hM
    have k4 := bP.cell 4
    have ke := bE.cell 0
    have kb := bB.cell 0
    simp only [List.getElem?_toArray, List.getElem?_cons_zero, List.getElem?_cons_succ] at k4 ke kb
    have hcu := ro.cellAt u (by omega)
    rw [beg_ivs (by omega)] at hcu
    have hfu := ro.frozenAt u
    have hwr : IntKind.i64.wrap (M - v2) = M - v2 := IntWalk.i64_in _ (by omega)
    have hu0 : (0 : Int) ≤ (u : Int) := by omega
    have hu1 : (u : Int) < (n' : Int) := by omega
    gi_wp2_with (fail)
    refine wpIn_region_last (by kernel_rfl) (by kernel_rfl) (by kernel_rfl) rfl rfl rfl ?_
    simp only [lastOff, idle]
    repeat (go_big_quiet_step (fail))
    refine wpQuiet_nil ?_
    rintro w' ⟨kd, rfl⟩
    have hst := (ro.stored u (.int .i64 (M - v2))).1
    rw [ivs_put] at hst
    refine ⟨fun _ _ => trivial, ?_⟩
    go_simp
    have hP1 := bP.drewN kd |>.far (p := ⟨w.heap.size + 2, u, none⟩) (by simp) (.int .i64 (M - v2))
    have hE1 := bE.drewN kd |>.far (p := ⟨w.heap.size + 2, u, none⟩) (by simp) (.int .i64 (M - v2))
    have hB1 := bB.drewN kd |>.far (p := ⟨w.heap.size + 2, u, none⟩) (by show wm.heap.size ≠ w.heap.size + 2; omega) (.int .i64 (M - v2))
    have hR1 := (show World.ownsRow ((W.drewN kd).setCell ⟨w.heap.size + 2, u, none⟩ (.int .i64 (M - v2))) (w.heap.size + 2) 3 1 (.slice (some ⟨w.heap.size + 2, 0, none⟩) n' n') n' (ivs (b.set u (M - v2))) from hst)
    have hL1 := (up_drewN hbl kd).setCell (p := ⟨w.heap.size + 2, u, none⟩) (by show w.heap.size ≤ w.heap.size + 2; omega) (.int .i64 (M - v2))
    have hF1 : KeepsFrom W0.heap.size W ((W.drewN kd).setCell ⟨w.heap.size + 2, u, none⟩ (.int .i64 (M - v2))) := ((show KeepsOthers W (W.drewN kd) from ⟨Nat.le_refl _, fun _ _ h _ => h⟩).trans (KeepsOthers.setCell _ _ _)).from _
    have hZ1 : KpB w.heap.size (wm.heap.size + 1) W ((W.drewN kd).setCell ⟨w.heap.size + 2, u, none⟩ (.int .i64 (M - v2))) :=
      ⟨(show Below w.heap.size W (W.drewN kd) from ⟨rfl, rfl, rfl, Nat.le_refl _, fun _ _ => rfl⟩).setCell (p := ⟨w.heap.size + 2, u, none⟩) (by show w.heap.size ≤ w.heap.size + 2; omega) _, Below.heap_setCell (W.drewN kd) _ _ _ (by show wm.heap.size + 1 ≠ w.heap.size + 2; omega)⟩
    have hsW : wm.heap.size + 2 ≤ ((W.drewN kd).setCell ⟨w.heap.size + 2, u, none⟩ (.int .i64 (M - v2))).heap.size := by
      have := (Array.getElem?_eq_some_iff.1 hr).1
      have h2 := hF1.size
      omega
    obtain ⟨W1, hW1⟩ : ∃ W1, (W.drewN kd).setCell ⟨w.heap.size + 2, u, none⟩ (.int .i64 (M - v2)) = W1 := ⟨_, rfl⟩
    rw [hW1] at hP1 hE1 hB1 hR1 hL1 hF1 hZ1 hsW ⊢
    clear hW1 hst ro bP bE bB k4 ke kb hcu hfu hbl hc2
    have HIN := Lib.hid HP.out.ins
    have HSN2 := Lib.hid (show pulls ts (esOf fs) M n' ((pre ++ [(⟨(d, u), hu⟩ : Bk n')]).map fun z => z.1.2) = (outs (esOf fs) u).foldl (plxL ts) (b.set u (M - v2)) by
      rw [HSN.out]; unfold pullNode; rw [hv2])
    have HB0 := Lib.hid (show ∀ v, -(70000 : Int) ≤ beg (b.set u (M - v2)) v ∧ beg (b.set u (M - v2)) v ≤ 5500 from fun v => by
      rw [beg_set b u v _ (by omega)]
      have := hpi v
      split <;> omega)
    have hbl0 : (b.set u (M - v2)).length = n' := by rw [List.length_set]; exact hplen
    generalize b.set u (M - v2) = b0 at *
    have HHV := Lib.hid hv2
    clear HSN hpi hplen hg2 hwr hv2
    have k0 := hP1.cell 0
    have k1 := hP1.cell 1
    have k2 := hP1.cell 2
    have k3 := hP1.cell 3
    simp only [List.getElem?_toArray, List.getElem?_cons_zero, List.getElem?_cons_succ] at k0 k1 k2 k3
    have HC := Lib.hid (nextNodes_any n' cn An hi lf cf Af bo bi fs u n' W1 (HP.out.net.keep hL1 hB) (Nat.le_trans hB hL1.size) h14 HIN.out (by omega) hu)
    have HR1 := Lib.hid hR1
    have HE1 := Lib.hid hE1
    have HB1 := Lib.hid hB1
    have HP1 := Lib.hid hP1
    have HL1 := Lib.hid hL1
    have HF1 := Lib.hid hF1
    have HZ1 := Lib.hid hZ1
    clear hR1 hE1 hB1 hP1 hL1 hF1 hZ1
    have h1n : 1 ≤ 3 - 1 - 1 := by omega
    gi_wp2_with (refine ⟨trivial, ?_⟩; gi_at_call 65; refine (CallsIn.inRound l (callsIn_wide.2 HC.out)).mono ?_; rintro e w3 ⟨Ab, cb, rfl, hcb, hrb, _, hb4⟩)
    have hs3 : W1.heap.size ≤ w3.heap.size := hb4.size
    have hnl : (nextOf fs u).length ≤ 14 := by
      rw [nextOf_len]
      have := flUp_le fs true (u : Int) fs.length
      have := HP.out.net.fls.1
      unfold flOf
      omega
    have HREL : Hid (Rd w3 W1.heap.size w3.heap.size 1 Ab (nextOf fs u).length (ivs (nextOf fs u)) ∧ (Blk w3 w.heap.size 54 #[.slice An n' cn, .slice Af lf cf, .map (some bo), .map (some bi), .slice (some ⟨b2, off2, none⟩) n' c', .slice Ao os.length co] ∧ Blk w3 (w.heap.size + 1) 3 #[.int .i64 M] ∧ Blk w3 wm.heap.size 27 #[.slice (some ⟨w.heap.size + 2, 0, none⟩) n' n']) ∧ w3.ownsRow (w.heap.size + 2) 3 1 (.slice (some ⟨w.heap.size + 2, 0, none⟩) n' n') n' (ivs (((outs (esOf fs) u).take 0).foldl (plxL ts) b0)) ∧ Below w.heap.size w w3 ∧ KeepsFrom W0.heap.size W w3 ∧ KpB w.heap.size (wm.heap.size + 1) W w3) :=
      ⟨hrb, ⟨HP1.out.below hb4 (by omega), HE1.out.below hb4 (by omega), HB1.out.below hb4 (by omega)⟩, own_keep HR1.out hb4, up HL1.out (hb4.mono (Nat.le_refl _)), HF1.out.trans ((KeepsOthers.of_grownBy (row := none) ⟨hb4.os, hb4.tape, hb4.output, hb4.size, fun k hk _ => hb4.block k hk⟩ (fun j o e => by cases e)).from _), HZ1.out.trans ⟨hb4.mono HL1.out.size, hb4.block _ (by omega)⟩⟩
    clear hrb hb4 HP1 HE1 HB1 HR1 HL1 HF1 HZ1 k0 k1 k2 k3 HC
    gi_loopw [36] (fun jv wq => ∃ (j : Nat), j ≤ (nextOf fs u).length ∧ jv = .int .i64 j ∧ Hid (Rd wq W1.heap.size w3.heap.size 1 Ab (nextOf fs u).length (ivs (nextOf fs u)) ∧ (Blk wq w.heap.size 54 #[.slice An n' cn, .slice Af lf cf, .map (some bo), .map (some bi), .slice (some ⟨b2, off2, none⟩) n' c', .slice Ao os.length co] ∧ Blk wq (w.heap.size + 1) 3 #[.int .i64 M] ∧ Blk wq wm.heap.size 27 #[.slice (some ⟨w.heap.size + 2, 0, none⟩) n' n']) ∧ wq.ownsRow (w.heap.size + 2) 3 1 (.slice (some ⟨w.heap.size + 2, 0, none⟩) n' n') n' (ivs (((outs (esOf fs) u).take j).foldl (plxL ts) b0)) ∧ Below w.heap.size w wq ∧ KeepsFrom W0.heap.size W wq ∧ KpB w.heap.size (wm.heap.size + 1) W wq) ∧ w3.heap.size ≤ wq.heap.size)
       (fun jv _ => (nextOf fs u).length - (intOf jv).toNat)
    case atStart => exact ⟨0, by omega, rfl, HREL, Nat.le_refl _⟩
    case round =>
      clear HREL
      obtain ⟨j, hj, rfl, HR, hs4⟩ := hrel
      by_cases hjn : j < (nextOf fs u).length
      · obtain ⟨bb, off, z, hAe, _, _, hgz, hc0⟩ := HR.out.1.one hjn
        subst hAe
        obtain ⟨v, rfl, hvn, hov⟩ := nextOf_outs HIN.out hgz
        have HST := Lib.hid (show ((outs (esOf fs) u).take (j + 1)).foldl (plxL ts) b0 = (((outs (esOf fs) u).take j).foldl (plxL ts) b0).set u (min (beg (((outs (esOf fs) u).take j).foldl (plxL ts) b0) u) (beg (((outs (esOf fs) u).take j).foldl (plxL ts) b0) v - v2)) by
          rw [take_snoc hov, List.foldl_append, ← HHV.out]; rfl)
        have hbd := foldL_in (fun v => vTimes_at HP.out.pl.t v) ((outs (esOf fs) u).take j) b0 70000 (by omega) HB0.out
        have htl : ((outs (esOf fs) u).take j).length ≤ 14 := by rw [List.length_take]; have := outs_len HIN.out u; omega
        have hfl : (((outs (esOf fs) u).take j).foldl (plxL ts) b0).length = n' := by rw [foldL_len]; exact hbl0
        have ro := HR.out.2.2.1
        have hbu := hbd u
        have hbv := hbd v
        generalize ((outs (esOf fs) u).take j).foldl (plxL ts) b0 = bj at *
        have hcu := ro.cellAt u (by omega)
        rw [beg_ivs (by omega)] at hcu
        have hcv := ro.cellAt v (by omega)
        rw [beg_ivs (by omega)] at hcv
        have hfu := ro.frozenAt u
        generalize beg bj u = vu at *
        generalize beg bj v = vv at *
        have hst := (ro.stored u (.int .i64 (min vu (vv - v2)))).1
        rw [ivs_put, ← HST.out] at hst
        obtain ⟨bP, bE, bB⟩ := HR.out.2.1
        have k4 := bP.cell 4
        have kb := bB.cell 0
        simp only [List.getElem?_toArray, List.getElem?_cons_zero, List.getElem?_cons_succ] at k4 kb
        have hbl := HR.out.2.2.2.1
        obtain ⟨b5, off5, v5, hA5, hb5, _, hg5, hc5⟩ := (HP.out.keep hbl hB).tim.one hu
        injection hA5 with hA5; injection hA5 with e1 e2 _
        subst e1; subst e2
        have hv5 : v5 = v2 := by rw [← HHV.out]; exact (beg_at hg5).symm
        subst hv5
        have hwr : IntKind.i64.wrap (vv - v5) = vv - v5 := IntWalk.i64_in _ (by omega)
        have hv0 : (0 : Int) ≤ (v : Int) := by omega
        have hv1 : (v : Int) < (n' : Int) := by omega
        have hj1 : (j : Int) < ((nextOf fs u).length : Int) := by omega
        have hj0 : (0 : Int) ≤ (j : Int) := by omega
        have HX : Hid (∀ kd, (Rd ((wr.drewN kd).setCell ⟨w.heap.size + 2, u, none⟩ (.int .i64 (min vu (vv - v5)))) W1.heap.size w3.heap.size 1 (some ⟨bb, off, none⟩) (nextOf fs u).length (ivs (nextOf fs u)) ∧ (Blk ((wr.drewN kd).setCell ⟨w.heap.size + 2, u, none⟩ (.int .i64 (min vu (vv - v5)))) w.heap.size 54 #[.slice An n' cn, .slice Af lf cf, .map (some bo), .map (some bi), .slice (some ⟨b2, off2, none⟩) n' c', .slice Ao os.length co] ∧ Blk ((wr.drewN kd).setCell ⟨w.heap.size + 2, u, none⟩ (.int .i64 (min vu (vv - v5)))) (w.heap.size + 1) 3 #[.int .i64 M] ∧ Blk ((wr.drewN kd).setCell ⟨w.heap.size + 2, u, none⟩ (.int .i64 (min vu (vv - v5)))) wm.heap.size 27 #[.slice (some ⟨w.heap.size + 2, 0, none⟩) n' n']) ∧ World.ownsRow ((wr.drewN kd).setCell ⟨w.heap.size + 2, u, none⟩ (.int .i64 (min vu (vv - v5)))) (w.heap.size + 2) 3 1 (.slice (some ⟨w.heap.size + 2, 0, none⟩) n' n') n' (ivs (((outs (esOf fs) u).take (j + 1)).foldl (plxL ts) b0)) ∧ Below w.heap.size w ((wr.drewN kd).setCell ⟨w.heap.size + 2, u, none⟩ (.int .i64 (min vu (vv - v5)))) ∧ KeepsFrom W0.heap.size W ((wr.drewN kd).setCell ⟨w.heap.size + 2, u, none⟩ (.int .i64 (min vu (vv - v5)))) ∧ KpB w.heap.size (wm.heap.size + 1) W ((wr.drewN kd).setCell ⟨w.heap.size + 2, u, none⟩ (.int .i64 (min vu (vv - v5))))) ∧ w3.heap.size ≤ ((wr.drewN kd).setCell ⟨w.heap.size + 2, u, none⟩ (.int .i64 (min vu (vv - v5)))).heap.size) := fun kd => by
          have hdw : Below w.heap.size wr (wr.drewN kd) := ⟨rfl, rfl, rfl, Nat.le_refl _, fun _ _ => rfl⟩
          refine ⟨⟨(HR.out.1.keep (B := w3.heap.size) ⟨rfl, rfl, rfl, Nat.le_refl _, fun _ _ => rfl⟩ (Nat.le_refl _)).setCell (p := ⟨w.heap.size + 2, u, none⟩) (.inl (by show w.heap.size + 2 < W1.heap.size; omega)) _,
            ⟨bP.drewN kd |>.far (p := ⟨w.heap.size + 2, u, none⟩) (by simp) _, bE.drewN kd |>.far (p := ⟨w.heap.size + 2, u, none⟩) (by simp) _, bB.drewN kd |>.far (p := ⟨w.heap.size + 2, u, none⟩) (by show wm.heap.size ≠ w.heap.size + 2; omega) _⟩, hst, (up_drewN hbl kd).setCell (p := ⟨w.heap.size + 2, u, none⟩) (by show w.heap.size ≤ w.heap.size + 2; omega) _,
            HR.out.2.2.2.2.1.trans (((show KeepsOthers wr (wr.drewN kd) from ⟨Nat.le_refl _, fun _ _ h _ => h⟩).trans (KeepsOthers.setCell _ _ _)).from _),
            HR.out.2.2.2.2.2.trans ⟨hdw.setCell (p := ⟨w.heap.size + 2, u, none⟩) (by show w.heap.size ≤ w.heap.size + 2; omega) _, Below.heap_setCell (wr.drewN kd) _ _ _ (by show wm.heap.size + 1 ≠ w.heap.size + 2; omega)⟩⟩, ?_⟩
          simp [World.setCell, World.drewN]; omega
        clear hst HST hov hgz hbd HR ro bP bE bB hbl hg5 hfl hbl0
        gi_wp2_with (fail)
        refine wpIn_region_last (by kernel_rfl) (by kernel_rfl) (by kernel_rfl) rfl rfl rfl ?_
        simp only [lastOff, idle]
        repeat (go_big_quiet_step (fail))
        refine wpQuiet_nil ?_
        rintro w' ⟨kd, rfl⟩
        refine ⟨fun _ _ => trivial, ?_⟩
        go_simp
        have HX2 := Lib.hid (HX.out kd)
        clear HX
        gi_wp2
        go_roundw
        case rel => exact ⟨j + 1, by omega, by go_num, HX2.out.1, HX2.out.2⟩
        case measure => simp [intOf]; omega
      · obtain rfl : j = (nextOf fs u).length := by omega
        have HX := Lib.hid (show ((Blk wr w.heap.size 54 #[.slice An n' cn, .slice Af lf cf, .map (some bo), .map (some bi), .slice (some ⟨b2, off2, none⟩) n' c', .slice Ao os.length co] ∧ Blk wr (w.heap.size + 1) 3 #[.int .i64 M] ∧ Blk wr wm.heap.size 27 #[.slice (some ⟨w.heap.size + 2, 0, none⟩) n' n'] ∧ wr.ownsRow (w.heap.size + 2) 3 1 (.slice (some ⟨w.heap.size + 2, 0, none⟩) n' n') n' (ivs (pulls ts (esOf fs) M n' ((pre ++ [(⟨(d, u), hu⟩ : Bk n')]).map fun z => z.1.2)))) ∧ Below w.heap.size w wr) by
          have h1 := HR.out.2.2.1
          rw [show (nextOf fs u).length = (outs (esOf fs) u).length from (outs_len HIN.out u).symm, List.take_length] at h1
          refine ⟨⟨HR.out.2.1.1, HR.out.2.1.2.1, HR.out.2.1.2.2, ?_⟩, HR.out.2.2.2.1⟩
          rw [HSN2.out]; exact h1)
        have HF := Lib.hid HR.out.2.2.2.2
        clear HR
        gi_wp2
        exact ⟨HF.out.1, HF.out.2, HX.out⟩
  case done =>
    rintro D xs W hD rfl ⟨⟨bP, bE, bB, ro⟩, hbl⟩ hK
    have kb := bB.cell 0
    simp only [List.getElem?_toArray, List.getElem?_cons_zero] at kb
    have ro' : W.ownsRow (w.heap.size + 2) 3 1 (.slice (some ⟨w.heap.size + 2, 0, none⟩) n' n') n' (ivs (roundsL ts (esOf fs) M n' n')) := by
      have := ro
      rw [HREV.out, pulls_all HP.out.o HP.out.nd HP.out.lt] at this
      exact this
    have HRO := Lib.hid ro'
    clear ro ro' bP bE bB
    gi_wp2
    refine ⟨by simp, .inl ⟨_, _, rfl, run_takeDeferred hK, ?_⟩⟩
    exact ⟨_, results_tmp rfl _ _ _, _, _, rfl, ownsRow_putObj (own_base HRO.out (by omega)) _ hK rfl, hbl.trans (belowK_b (w := w) (Nat.le_refl _) W D _ _ (by omega) hK rfl rfl)⟩
  case stop =>
    rintro D c pre W _ _ h _
    exact h.elim
end Go.Proofs.Ytonlkodenfiljaa


/- The program's SlackTimes, CriticalNodes. -/
namespace Go.Proofs.Ytonlkodenfiljaa
open Go.RowKit

set_option maxRecDepth 100000 in
set_option maxHeartbeats 1600000 in
theorem SlackTimesI_any (lo hi nn cn : Nat) (An : Option Addr) (ns : List (Int × Int)) (lo1 hi1 lf cf : Nat) (Af : Option Addr) (fs : List Flw) (lo' hi' n' c' : Nat) (A' : Option Addr) (ts : List Int) (w : World) (hrn : Rd w lo hi 2 An nn (pvs ns)) (hB : hi ≤ w.heap.size) (hnn : nn ≤ 1048576)
    (hr : Fls w lo1 hi1 Af lf fs) (hB1 : hi1 ≤ w.heap.size) (hn : lf ≤ 1048576) (hv : Rd w lo' hi' 1 A' n' (ivs ts)) (hB' : hi' ≤ w.heap.size) (hn' : n' ≤ 1048576) :
    Calls Try.prog 37 #[.agg #[.slice An nn cn, .slice Af lf cf], .slice A' n' c'] w (Fresh (ivs (slackR ns fs ts)) 1 (slackR ns fs ts).length w) := by
  have HL := Lib.hid hrn.len2
  have hb1 := up_alloc (Below.refl _ w) (.cells #[.slice An nn cn, .slice Af lf cf] 26)
  have hblk1 := Blk.new w 26 #[.slice An nn cn, .slice Af lf cf]
  have hlt1 := hblk1.lt
  have HC1 := Lib.hid (planOf_any lo hi nn cn An ns lo1 hi1 lf cf Af fs lo' hi' n' c' A' ts _ (hrn.keep hb1 hB) (Nat.le_trans hB hb1.size) hnn (hr.keep hb1 hB1) (Nat.le_trans hB1 hb1.size) hn (hv.keep hb1 hB') (Nat.le_trans hB' hb1.size) hn')
  have HV := Lib.hid (hv.keep hb1 hB')
  have HB1 := Lib.hid hb1
  have hsb : hi' ≤ (w.alloc (.cells #[.slice An nn cn, .slice Af lf cf] 26)).heap.size := Nat.le_trans hB' hb1.size
  clear hrn hr hv hb1 hblk1
  go_enter Try.func37, Try.ntmps37
  go_wp2_with (fail)
  (with_reducible refine HC1.out.mono ?_)
  clear HC1
  rintro e w1 (⟨hU, rfl, hb2⟩ | ⟨hU, bo, bi, Ao, co, os, rfl, hna, hro, hord, hnd, hlt, hb2⟩)
  · have HB2 := Lib.hid (up_alloc (up HB1.out hb2) (.cells #[.slice none 0 0, .slice none 0 0, .map none, .map none, .slice none 0 0, .slice none 0 0] 54))
    have HX := Lib.hid (show slackR ns fs ts = [] by unfold slackR; rw [hU]; rfl)
    clear hb2 hU
    go_wp2
    go_ret
    rw [HX.out]; exact Fresh.nil 1 HB2.out
  have hba := up_alloc (Below.refl _ w1) (.cells #[.slice An nn cn, .slice Af lf cf, .map (some bo), .map (some bi), .slice A' n' c', .slice Ao os.length co] 54)
  have HK := Lib.hid (Blk.new w1 54 #[.slice An nn cn, .slice Af lf cf, .map (some bo), .map (some bi), .slice A' n' c', .slice Ao os.length co])
  have HP := Lib.hid (show PlanAt (w1.alloc (.cells #[.slice An nn cn, .slice Af lf cf, .map (some bo), .map (some bi), .slice A' n' c', .slice Ao os.length co] 54)) w1.heap.size nn Af lf bo bi A' n' Ao os ns fs ts from
    ⟨hna.keep hba (Nat.le_refl _), ((HV.out.keep hb2 hsb).wide (Nat.zero_le _) (Nat.le_trans hsb hb2.size)).keep hba (Nat.le_refl _), hro.keep hba (Nat.le_refl _), HL.out, plan_of hU, hord, hnd, hlt⟩)
  have HB2 := Lib.hid (up_alloc (up HB1.out hb2) (.cells #[.slice An nn cn, .slice Af lf cf, .map (some bo), .map (some bi), .slice A' n' c', .slice Ao os.length co] 54))
  have hsa : (w1.alloc (.cells #[.slice An nn cn, .slice Af lf cf, .map (some bo), .map (some bi), .slice A' n' c', .slice Ao os.length co] 54)).heap.size = w1.heap.size + 1 := by simp
  have k0 := HK.out.cell 0
  have k1 := HK.out.cell 1
  have k2 := HK.out.cell 2
  have k3 := HK.out.cell 3
  have k4 := HK.out.cell 4
  have k5 := HK.out.cell 5
  simp only [List.getElem?_toArray, List.getElem?_cons_zero, List.getElem?_cons_succ] at k0 k1 k2 k3 k4 k5
  clear hb2 hna hro hord hnd hlt HV HB1
  have HX := Lib.hid (show slackR ns fs ts = slackOf ns fs ts by unfold slackR; rw [hU]; rfl)
  have HPL := Lib.hid HP.out.pl
  have hw1 := HK.out.lt
  have HLT := Lib.hid (show lateOf ns fs ts = roundsL ts (esOf fs) (totalOf ns fs ts) nn nn by unfold lateOf; rw [HL.out])
  have hM := HPL.out.totalOf
  have hn2 := HP.out.n2
  have hn10 := HP.out.n10
  go_wp2_with (fail)
  generalize hWA : w1.alloc (.cells #[.slice An nn cn, .slice Af lf cf, .map (some bo), .map (some bi), .slice A' n' c', .slice Ao os.length co] 54) = wa at *
  have HSW := Lib.hid (show ∀ wx, Below wa.heap.size wa wx → wx.cell? ⟨w1.heap.size, 0, none⟩ = some (.slice An nn cn) ∧ wx.cell? ⟨w1.heap.size, 1, none⟩ = some (.slice Af lf cf) ∧ wx.cell? ⟨w1.heap.size, 2, none⟩ = some (.map (some bo)) ∧ wx.cell? ⟨w1.heap.size, 3, none⟩ = some (.map (some bi)) ∧ wx.cell? ⟨w1.heap.size, 4, none⟩ = some (.slice A' n' c') ∧ wx.cell? ⟨w1.heap.size, 5, none⟩ = some (.slice Ao os.length co) from fun wx hb => ⟨(hb.cell hw1).trans k0, (hb.cell hw1).trans k1, (hb.cell hw1).trans k2, (hb.cell hw1).trans k3, (hb.cell hw1).trans k4, (hb.cell hw1).trans k5⟩)
  have HCT := Lib.hid (fun wx (hb : Below wa.heap.size wa wx) => totalI_any w1.heap.size nn cn An lf cf Af bo bi n' c' A' Ao co os ns fs ts wx (HP.out.keep hb (by omega)) (by have := hb.size; omega))
  generalize totalOf ns fs ts = M at *
  have HCL := Lib.hid (fun wx (hb : Below wa.heap.size wa wx) => latestI_any w1.heap.size nn cn An lf cf Af bo bi n' c' A' Ao co os ns fs ts M wx (HP.out.keep hb (by omega)) (by have := hb.size; omega) hM)
  have HCE := Lib.hid (fun wx (hb : Below wa.heap.size wa wx) => earliestI_any w1.heap.size nn cn An lf cf Af bo bi n' c' A' Ao co os ns fs ts wx (HP.out.keep hb (by omega)) (by have := hb.size; omega))
  have hbz := Below.refl wa.heap.size wa
  clear hU hWA
  go_region_held3 (fun w' => w'.cell? ⟨w1.heap.size, 0, none⟩ = some (.slice An nn cn) ∧ w'.cell? ⟨w1.heap.size, 1, none⟩ = some (.slice Af lf cf) ∧ w'.cell? ⟨w1.heap.size, 2, none⟩ = some (.map (some bo)) ∧ w'.cell? ⟨w1.heap.size, 3, none⟩ = some (.map (some bi)) ∧ w'.cell? ⟨w1.heap.size, 4, none⟩ = some (.slice A' n' c') ∧ w'.cell? ⟨w1.heap.size, 5, none⟩ = some (.slice Ao os.length co))
    (first | exact HSW.out _ hbz | exact HSW.out _ (up_drew hbz) | exact HSW.out _ hb3 | exact HSW.out _ hb4)
    ((first
      | (go_at_call 35; (with_reducible refine (HCT.out _ (up_drew hbz)).mono ?_); rintro e w3 ⟨rfl, hb3'⟩; have hb3 := up (up_drew hbz) hb3'; clear hb3')
      | (go_at_call 67; (with_reducible refine (HCL.out _ hb3).mono ?_); rintro e w4 ⟨g2, cg2, rfl, ho, hb4'⟩; have hb4 := up hb3 hb4')))
  all_goals
    have hs3 : wa.heap.size ≤ w3.heap.size := hb3.size
    clear k0 k1 k2 k3 k4 k5 hbz hb3 hb4'
    have HO := Lib.hid (show w4.ownsRow w3.heap.size 3 1 (.slice (some ⟨g2, 0, none⟩) nn cg2) nn (ivs (mixL (slackOf ns fs ts) (lateOf ns fs ts) 0)) by rw [HLT.out]; exact ho)
    have hg1 : w3.heap.size ≤ g2 := by
      obtain ⟨g3, c3, hge, hq1, _⟩ := own_first ho (by omega)
      injection hge with h1 _ _; injection h1 with h1; injection h1 with h1 _ _
      omega
    have hg2 : g2 < w4.heap.size := by
      obtain ⟨g3, c3, hge, _, hq1, _⟩ := own_first ho (by omega)
      injection hge with h1 _ _; injection h1 with h1; injection h1 with h1 _ _
      omega
    obtain ⟨k0, k1, k2, k3, k4, k5⟩ := HSW.out _ hb4
    have HC := Lib.hid (HCE.out _ hb4)
    have HB4 := Lib.hid (up HB2.out hb4)
    clear ho hb4 HSW HCT HCL HCE HK HP
    go_wp2_with (fail)
    (with_reducible refine HC.out.mono ?_)
    clear HC
    rintro e w5 ⟨g, cg, rfl, hoe, hb5⟩
    have HRE := Lib.hid (Rd.of_own hoe)
    have HO5 := Lib.hid (own_keep HO.out hb5)
    have HB5 := Lib.hid (up HB4.out hb5)
    have hs5 := hb5.size
    clear hoe hb5 HO HB4 k0 k1 k2 k3 k4 k5
    go_wp2
    go_loopw [25] (fun iv wr => ∃ (k : Nat), k ≤ nn ∧ iv = .int .i64 k ∧ Hid (wr.ownsRow w3.heap.size 3 1 (.slice (some ⟨g2, 0, none⟩) nn cg2) nn (ivs (mixL (slackOf ns fs ts) (lateOf ns fs ts) k))) ∧ Hid (Rd wr w4.heap.size w5.heap.size 1 (some ⟨g, 0, none⟩) nn (ivs (earlyOf ns fs ts))) ∧ Below w.heap.size w wr ∧ w5.heap.size ≤ wr.heap.size)
       (fun iv _ => nn - (intOf iv).toNat)
    case atStart => exact ⟨0, by omega, rfl, HO5.out, HRE.out, HB5.out, Nat.le_refl _⟩
    case round =>
      clear HO5 HRE HB5
      obtain ⟨k, hk, rfl, HO, HRE, hbl, hszr⟩ := hrel
      by_cases hkn : k < nn
      · obtain ⟨b1, off1, v1, hAe, hb1, hb1', hg1', hc1⟩ := HRE.out.one hkn
        injection hAe with hAe; injection hAe with e1 e2 _
        subst e1; subst e2
        rw [Nat.zero_add] at hc1
        have hv1 := beg_at hg1'
        have hkl : k < ns.length := by have := HL.out; omega
        have hle : (slackOf ns fs ts).length = (lateOf ns fs ts).length := by rw [slackOf_len, lateOf_len]
        have hkl2 : k < (lateOf ns fs ts).length := by rw [lateOf_len]; exact hkl
        have hlt := HPL.out.late k hkl
        have hea := HPL.out.early k
        rw [hv1] at hea
        have hmx := mixL_at hle hkl2
        have HST := Lib.hid (mixL_step hle hkl2)
        have hsk := slackOf_at (fs := fs) (ts := ts) hkl
        have hox := HO.out.cellAt k (by omega)
        rw [beg_ivs (by rw [mixL_len hle]; exact hkl2), hmx] at hox
        have hfx := HO.out.frozenAt k
        rw [hv1] at hsk
        rw [hsk] at HST
        generalize beg (lateOf ns fs ts) k = vl at *
        obtain ⟨l1, l2⟩ := hlt
        obtain ⟨a1, a2⟩ := hea
        have hwr : IntKind.i64.wrap (vl - v1) = vl - v1 := IntWalk.i64_in _ (by omega)
        have hk0 : (0 : Int) ≤ (k : Int) := by omega
        have hk1 : (k : Int) < (nn : Int) := by omega
        have hst := (HO.out.stored k (.int .i64 (vl - v1))).1
        rw [ivs_put, HST.out] at hst
        have HX1 := Lib.hid hst
        have HR1 := Lib.hid (HRE.out.setCell (p := ⟨g2, k, none⟩) (.inl hg2) (.int .i64 (vl - v1)))
        have HB := Lib.hid (hbl.setCell (p := ⟨g2, k, none⟩) (by show _ ≤ g2; have := HB2.out.size; omega) (.int .i64 (vl - v1)))
        clear hst hle hkl2 hmx hsk HST hg1' hv1 HO HRE hbl
        go_wp2
        go_roundw
        case rel => exact ⟨k + 1, by omega, by go_num, HX1.out, HR1.out, HB.out, by simp [World.setCell]; omega⟩
        case measure => simp [intOf]; omega
      · obtain rfl : k = nn := by omega
        have HF := Lib.hid (show wr.ownsRow w3.heap.size 3 1 (.slice (some ⟨g2, 0, none⟩) k cg2) k (ivs (slackOf ns fs ts)) by
          have := HO.out
          have h1 : mixL (slackOf ns fs ts) (lateOf ns fs ts) k = slackOf ns fs ts := by
            unfold mixL
            rw [List.take_of_length_le (by rw [slackOf_len, HL.out]; exact Nat.le_refl _), List.drop_of_length_le (by rw [lateOf_len, HL.out]; exact Nat.le_refl _), List.append_nil]
          rw [h1] at this
          exact this)
        have hw2 : w.heap.size ≤ w3.heap.size := by have := HB2.out.size; omega
        have HCAP := Lib.hid (show k ≤ cg2 by obtain ⟨_, _, hge, hc, _⟩ := own_form HF.out; injection hge with _ _ e; subst e; exact hc)
        clear HO HRE
        go_wp2
        go_ret
        rw [HX.out, slackOf_len, HL.out]
        exact ⟨some ⟨g2, 0, none⟩, cg2, rfl, HCAP.out, (Rd.of_own HF.out).wide hw2 (Nat.le_refl _), Soft.of_own HF.out, hbl⟩

set_option maxRecDepth 100000 in
set_option maxHeartbeats 1600000 in
theorem CriticalNodesI_any (lo hi nn cn : Nat) (An : Option Addr) (ns : List (Int × Int)) (lo1 hi1 lf cf : Nat) (Af : Option Addr) (fs : List Flw) (lo' hi' n' c' : Nat) (A' : Option Addr) (ts : List Int) (w : World) (hrn : Rd w lo hi 2 An nn (pvs ns)) (hB : hi ≤ w.heap.size) (hnn : nn ≤ 1048576)
    (hr : Fls w lo1 hi1 Af lf fs) (hB1 : hi1 ≤ w.heap.size) (hn : lf ≤ 1048576) (hv : Rd w lo' hi' 1 A' n' (ivs ts)) (hB' : hi' ≤ w.heap.size) (hn' : n' ≤ 1048576) :
    Calls Try.prog 16 #[.agg #[.slice An nn cn, .slice Af lf cf], .slice A' n' c'] w (Fresh (ivs (critR ns fs ts)) 1 (critR ns fs ts).length w) := by
  have hb1 := up_alloc (Below.refl _ w) (.cells #[.slice An nn cn, .slice Af lf cf] 26)
  have hbp := Blk.new w 26 #[.slice An nn cn, .slice Af lf cf]
  have k0 := hbp.cell 0
  have k1 := hbp.cell 1
  simp only [List.getElem?_toArray, List.getElem?_cons_zero, List.getElem?_cons_succ] at k0 k1
  obtain ⟨i0, hi0, hz0, hz1, hz2⟩ := info_parts infoInt
  have HC1 := Lib.hid (SlackTimesI_any lo hi nn cn An ns lo1 hi1 lf cf Af fs lo' hi' n' c' A' ts _ (hrn.keep hb1 hB) (Nat.le_trans hB hb1.size) hnn (hr.keep hb1 hB1) (Nat.le_trans hB1 hb1.size) hn (hv.keep hb1 hB') (Nat.le_trans hB' hb1.size) hn')
  have HB1 := Lib.hid hb1
  clear hrn hr hv hb1 hbp
  go_enter Try.func16, Try.ntmps16
  go_wp2_with (fail)
  (with_reducible refine HC1.out.mono ?_)
  clear HC1
  have HX := Lib.hid (show critR ns fs ts = critUp (slackR ns fs ts) (slackR ns fs ts).length by
    unfold critR slackR
    split
    · rw [slackOf_len]; rfl
    · rfl)
  have hnn10 : (slackR ns fs ts).length ≤ 10 := by
    unfold slackR
    split
    · rename_i hU
      rw [slackOf_len]; exact (vProc_len (plan_of hU).v).2.1
    · exact Nat.zero_le _
  obtain ⟨sl, hsl'⟩ : ∃ sl, slackR ns fs ts = sl := ⟨_, rfl⟩
  rw [hsl'] at HX hnn10 ⊢
  clear hsl'
  generalize hm : sl.length = m at *
  have HM := Lib.hid hm
  clear hm
  rintro e w1 ⟨A1, c1, rfl, _, hrs, _, hb2⟩
  have HB2 := Lib.hid (up HB1.out hb2)
  have HRS := Lib.hid hrs
  have hw1 := HB2.out.size
  clear hb2 k0 k1 hrs HB1
  go_wp2
  go_loopw [5, 12] (fun ov iv wr => ∃ (k : Nat), k ≤ m ∧ iv = .int .i64 k ∧ Hid (wr.ownsRow w1.heap.size 3 1 ov (critUp sl k).length (ivs (critUp sl k))) ∧ Below w1.heap.size w1 wr)
     (fun _ iv _ => m - (intOf iv).toNat)
  case atStart => exact ⟨0, by omega, rfl, by simpa [critUp, ivs, Hid] using World.ownsRow_nil _ _ _ _, Below.refl _ _⟩
  case round =>
    obtain ⟨k, hk, rfl, HO, hbl⟩ := hrel
    have hul := critUp_le sl k
    have hszr := hbl.size
    by_cases hkn : k < m
    · obtain ⟨b, off, v1, rfl, hbB, _, hgs, hc0⟩ := (HRS.out.keep hbl (Nat.le_refl _)).one hkn
      have hv1 := beg_at hgs
      have hk1 : (k : Int) < (m : Int) := by omega
      have hk0 : (0 : Int) ≤ (k : Int) := by omega
      have HB := Lib.hid hbl
      by_cases hz : v1 = 0
      · have HU2 := Lib.hid (critUp_yes (sl := sl) (k := k) (by rw [hv1]; exact hz))
        have hz' : (v1 == 0) = true := by simpa using hz
        clear hz hgs hv1 hbl
        go_wp2_with (at_builtin; refine wpList_append_own_at _ rfl _ _ 27 rfl w1.heap.size 3 i0 (.int .i64 0) 1 8 Try.underlying27 hi0 hz0 hz1 hz2 rfl (by decide) _ _ _ rfl (HO.out.alloc _) ⟨wr.heap.size, 0, none⟩ 1 1 [.int .i64 (k : Int)] rfl rfl (cell_one_new _ _ _) ?c2 ?c3 ?c4 ?c5 ?_)
        case c2 => first | rfl | (intro u hu; simp at hu; subst hu; rfl)
        case c3 => unfold maxLen; omega
        case c4 => omega
        case c5 => first | omega | (simp; omega)
        intro v' w4 hown4 hg4 _ hloc
        have hbl4 := (up_alloc HB.out (.cells #[.int .i64 (k : Int)] 3)).grown hg4 (up_alloc HB.out (.cells #[.int .i64 (k : Int)] 3)).size (fun j hj => by have := ((HO.out).lt j hj).1; omega)
        have HX4 : Hid (w4.ownsRow w1.heap.size 3 1 v' (critUp sl (k + 1)).length (ivs (critUp sl (k + 1)))) := by
          rw [HU2.out, ivs_append, List.length_append]
          exact hown4
        have HB4 := Lib.hid hbl4
        clear hown4 hg4 hbl4 HO hloc hc0
        go_wp2
        go_roundw
        case rel => exact ⟨k + 1, by omega, by go_num, HX4, HB4.out⟩
        case measure => simp [intOf]; omega
      · have HU2 := Lib.hid (critUp_no (sl := sl) (k := k) (by rw [hv1]; exact hz))
        have hz' : (v1 == 0) = false := by simpa using hz
        clear hz hgs hv1 hbl
        go_wp2
        go_roundw
        case rel => exact ⟨k + 1, by omega, by go_num, by rw [HU2.out]; exact HO, HB.out⟩
        case measure => simp [intOf]; omega
    · obtain rfl : k = m := by omega
      have HB := Lib.hid (up HB2.out hbl)
      clear hbl
      go_wp2
      go_ret
      rw [HX.out]
      exact Fresh.of_base HO.out HB.out hw1
end Go.Proofs.Ytonlkodenfiljaa

