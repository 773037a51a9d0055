/- Merged: CondImpl, CondPart, CondParts. -/
import Derived.Test.YtknphikoikdcjaaGreatRows
import Derived.Test.YtknphikoikdcjaaGreatBase
import Derived.BigQuiet
import Derived.Deep.QuietTactic
import Derived.WalkLawsBesides
/- The program's functions on the parts of conditions: what each part does on the stack. -/
set_option linter.unusedSimpArgs false
set_option linter.unusedVariables false
namespace Go.Proofs.YtknphikoikdcjaaGreat
open Go.RowKit

/-- The dynamic type of the part at work. -/
def opT (k : Int) : TypeId :=
  if k = 0 then 274 else if k = 1 then 276 else if k = 2 then 279 else if k = 3 then 282 else if k = 4 then 283
  else if k = 5 then 284 else if k = 6 then 285 else if k = 7 then 286 else 287
/-- What it holds. -/
def pay (k v : Int) : Value := if k = 0 ∨ k = 1 then .agg #[.int .i64 v] else .agg #[]
def sv (p : Int × Int) : Value := .iface (opT p.1) (pay p.1 p.2)
def ftk (k : Int) : FuncId := if k = 0 ∨ k = 1 then 239 else if k = 2 then 243 else 245

theorem kinds {k : Int} (h : inR k 2 8 = true) : k = 2 ∨ k = 3 ∨ k = 4 ∨ k = 5 ∨ k = 6 ∨ k = 7 ∨ k = 8 := by
  have := inR_iff.1 h; omega
theorem vPart_kinds {k v : Int} (h : vPart k v = true) : k = 0 ∨ k = 1 ∨ k = 2 ∨ k = 3 ∨ k = 4 ∨ k = 5 ∨ k = 6 ∨ k = 7 ∨ k = 8 := by
  unfold vPart at h
  by_cases h0 : k = 0
  · exact .inl h0
  by_cases h1 : k = 1
  · exact .inr (.inl h1)
  rw [if_neg h0, if_neg h1] at h
  simp at h
  exact .inr (.inr (kinds h.1))

theorem method_takes {k v : Int} (h : vPart k v = true) (fuel : Nat) (w : World) :
    (method (fuel + 1) (opT k) (pay k v) "loop.example/processengine/impl.takes").run Tryz.prog w = .ok (ftk k, .agg #[]) w := by
  rcases vPart_kinds h with rfl | rfl | rfl | rfl | rfl | rfl | rfl | rfl | rfl <;> kernel_rfl

theorem call_takes (k : Int) (v : Value) (w : World) : (callFunc (ftk k) #[v]).run Tryz.prog w = .ok (.enter (ftk k) #[v]) w := by
  unfold ftk
  split
  · kernel_rfl
  · split <;> kernel_rfl

theorem takes_any (k : Int) (w : World) :
    Calls Tryz.prog (ftk k) #[.agg #[]] w fun e w' => e = .returned (.int .i64 (needs1 k)) ∧ Below w.heap.size w w' := by
  unfold ftk needs1
  by_cases h0 : k = 0 ∨ k = 1
  · rw [if_pos h0, if_pos h0]
    go_enter Tryz.func239, Tryz.ntmps239
    go_wp2
    go_ret
    exact ⟨rfl, by first | exact Below.refl _ _ | exact up_alloc (Below.refl _ _) _⟩
  by_cases h2 : k = 2
  · rw [if_neg h0, if_neg h0, if_pos h2, if_pos h2]
    go_enter Tryz.func243, Tryz.ntmps243
    go_wp2
    go_ret
    exact ⟨rfl, by first | exact Below.refl _ _ | exact up_alloc (Below.refl _ _) _⟩
  rw [if_neg h0, if_neg h0, if_neg h2, if_neg h2]
  go_enter Tryz.func245, Tryz.ntmps245
  go_wp2
  go_ret
  exact ⟨rfl, by first | exact Below.refl _ _ | exact up_alloc (Below.refl _ _) _⟩

theorem validValue_any (n : Int) (w : World) :
    Calls Tryz.prog 150 #[.int .i64 n] w fun e w' => e = .returned (.bool (inR n (-9999) 9999)) ∧ w = w' := by
  unfold inR
  by_cases h : -9999 ≤ n
  · have h' : decide (-9999 ≤ n) = true := by simpa using h
    go_enter Tryz.func150, Tryz.ntmps150
    go_wp2
    go_ret
    simp [h]
  · have h' : decide (-9999 ≤ n) = false := by simpa using h
    go_enter Tryz.func150, Tryz.ntmps150
    go_wp2
    go_ret
    simp

theorem validVariable_any (n : Int) (w : World) :
    Calls Tryz.prog 155 #[.int .i64 n] w fun e w' => e = .returned (.bool (inR n 0 3)) ∧ w = w' := by
  have e : inR n 0 3 = (decide (0 ≤ n) && decide (n < 4)) := by unfold inR; congr 1; simp; omega
  rw [e]
  by_cases h : 0 ≤ n
  · have h' : decide (0 ≤ n) = true := by simpa using h
    go_enter Tryz.func155, Tryz.ntmps155
    go_wp2
    go_ret
    simp [h]
  · have h' : decide (0 ≤ n) = false := by simpa using h
    go_enter Tryz.func155, Tryz.ntmps155
    go_wp2
    go_ret
    simp

theorem operator_yes {k : Int} (h : inR k 2 8 = true) (w : World) :
    Calls Tryz.prog 217 #[.int .i64 k] w fun e w' => e = .returned (.tuple #[.iface (opT k) (.agg #[]), .bool true]) ∧ w = w' := by
  rcases kinds h with rfl | rfl | rfl | rfl | rfl | rfl | rfl
  all_goals
    clear h
    simp only [opT]
    go_enter Tryz.func217, Tryz.ntmps217
    go_wp2
    go_ret2
    exact ⟨by simp, rfl⟩

theorem operator_no {k : Int} (h : inR k 2 8 = false) (w : World) :
    Calls Tryz.prog 217 #[.int .i64 k] w fun e w' => e = .returned (.tuple #[.nilIface, .bool false]) ∧ w = w' := by
  have hk : ¬ (2 ≤ k ∧ k ≤ 8) := fun g => by rw [inR_iff.2 g] at h; cases h
  have g2 : (k == 2) = false := by simp; omega
  have g3 : (k == 3) = false := by simp; omega
  have g4 : (k == 4) = false := by simp; omega
  have g5 : (k == 5) = false := by simp; omega
  have g6 : (k == 6) = false := by simp; omega
  have g7 : (k == 7) = false := by simp; omega
  have g8 : (k == 8) = false := by simp; omega
  clear h hk
  go_enter Tryz.func217, Tryz.ntmps217
  go_wp2
  go_ret2
  exact ⟨rfl, rfl⟩
end Go.Proofs.YtknphikoikdcjaaGreat


/- impl.partAtWork: what a part does on the stack; false if it is not valid. -/
namespace Go.Proofs.YtknphikoikdcjaaGreat
open Go.RowKit

theorem validValue_same (n : Int) (w : World) : Calls Tryz.prog 150 #[.int .i64 n] w fun e w' => e = .returned (.bool (inR n (-9999) 9999)) ∧ w' = w :=
  (validValue_any n w).mono fun _ _ h => ⟨h.1, h.2.symm⟩
theorem validVariable_same (n : Int) (w : World) : Calls Tryz.prog 155 #[.int .i64 n] w fun e w' => e = .returned (.bool (inR n 0 3)) ∧ w' = w :=
  (validVariable_any n w).mono fun _ _ h => ⟨h.1, h.2.symm⟩

/-- The call ends with false beside something. -/
def FalseBeside (w : World) (e : Ending) (w' : World) : Prop := ∃ x, e = .returned (.tuple #[x, .bool false]) ∧ Below w.heap.size w w'

theorem partAtWork_0 (v : Int) (w : World) :
    Calls Tryz.prog 214 #[.agg #[.int .i64 0, .int .i64 v]] w fun e w' => e = .returned (.tuple #[sv (0, v), .bool (inR v (-9999) 9999)]) ∧ Below w.heap.size w w' := by
  simp only [sv, opT, pay]
  go_enter Tryz.func214, Tryz.ntmps214
  go_wp2
  go_quiet ((go_at_call 150; exact Calls.quiet_of_same (validValue_same _ _)))
  go_wp2
  go_ret2
  exact ⟨by simp, up_drewN (up_alloc (Below.refl _ _) _) _⟩

theorem partAtWork_1 (v : Int) (w : World) :
    Calls Tryz.prog 214 #[.agg #[.int .i64 1, .int .i64 v]] w fun e w' => e = .returned (.tuple #[sv (1, v), .bool (inR v 0 3)]) ∧ Below w.heap.size w w' := by
  simp only [sv, opT, pay]
  go_enter Tryz.func214, Tryz.ntmps214
  go_wp2
  go_quiet ((go_at_call 155; exact Calls.quiet_of_same (validVariable_same _ _)))
  go_wp2
  go_ret2
  exact ⟨by simp, up_drewN (up_alloc (Below.refl _ _) _) _⟩

theorem partAtWork_op {k v : Int} (h : inR k 2 8 = true) (w : World) :
    Calls Tryz.prog 214 #[.agg #[.int .i64 k, .int .i64 v]] w fun e w' => e = .returned (.tuple #[sv (k, v), .bool (v == 0)]) ∧ Below w.heap.size w w' := by
  have hk := inR_iff.1 h
  have g0 : (k == 0) = false := by simp; omega
  have g1 : (k == 1) = false := by simp; omega
  have hp : pay k v = .agg #[] := by unfold pay; rw [if_neg (by omega)]
  have H := Lib.hid h; clear h hk
  simp only [sv, hp]
  clear hp
  go_enter Tryz.func214, Tryz.ntmps214
  go_wp2_with (go_at_call 217; refine (operator_yes H.out _).mono ?_; rintro e w' ⟨rfl, rfl⟩)
  go_quiet (fail)
  go_wp2
  go_ret2
  exact ⟨by simp, up_drewN (up_alloc (Below.refl _ _) _) _⟩

theorem partAtWork_bad {k v : Int} (g0 : (k == 0) = false) (g1 : (k == 1) = false) (h : inR k 2 8 = false) (w : World) :
    Calls Tryz.prog 214 #[.agg #[.int .i64 k, .int .i64 v]] w (FalseBeside w) := by
  have H := Lib.hid h; clear h
  go_enter Tryz.func214, Tryz.ntmps214
  go_wp2_with (go_at_call 217; refine (operator_no H.out _).mono ?_; rintro e w' ⟨rfl, rfl⟩)
  go_quiet (fail)
  go_wp2
  go_ret2
  exact ⟨_, rfl, up_drewN (up_alloc (Below.refl _ _) _) _⟩

theorem partAtWork_yes {k v : Int} (h : vPart k v = true) (w : World) :
    Calls Tryz.prog 214 #[.agg #[.int .i64 k, .int .i64 v]] w fun e w' => e = .returned (.tuple #[sv (k, v), .bool true]) ∧ Below w.heap.size w w' := by
  unfold vPart at h
  by_cases h0 : k = 0
  · subst h0
    rw [if_pos rfl] at h
    have := partAtWork_0 v w
    rwa [h] at this
  by_cases h1 : k = 1
  · subst h1
    rw [if_neg h0, if_pos rfl] at h
    have := partAtWork_1 v w
    rwa [h] at this
  rw [if_neg h0, if_neg h1] at h
  simp at h
  have := partAtWork_op (v := v) h.1 w
  rwa [show (v == 0) = true by simp [h.2]] at this

theorem partAtWork_no {k v : Int} (h : vPart k v = false) (w : World) :
    Calls Tryz.prog 214 #[.agg #[.int .i64 k, .int .i64 v]] w (FalseBeside w) := by
  unfold vPart at h
  by_cases h0 : k = 0
  · subst h0
    rw [if_pos rfl] at h
    have := partAtWork_0 v w
    rw [h] at this
    exact this.mono fun _ _ ⟨a, b⟩ => ⟨_, a, b⟩
  by_cases h1 : k = 1
  · subst h1
    rw [if_neg h0, if_pos rfl] at h
    have := partAtWork_1 v w
    rw [h] at this
    exact this.mono fun _ _ ⟨a, b⟩ => ⟨_, a, b⟩
  rw [if_neg h0, if_neg h1] at h
  by_cases hr : inR k 2 8 = true
  · have hv : (v == 0) = false := by simp [hr] at h; simpa using h
    have := partAtWork_op (v := v) hr w
    rw [hv] at this
    exact this.mono fun _ _ ⟨a, b⟩ => ⟨_, a, b⟩
  · exact partAtWork_bad (by simpa using h0) (by simpa using h1) (by simpa using hr) w
end Go.Proofs.YtknphikoikdcjaaGreat


/- impl.partsAtWork and impl.ValidCondition: the parts of a valid condition at work. -/
namespace Go.Proofs.YtknphikoikdcjaaGreat
open Go.RowKit

theorem infoStackPart : (Tryz.prog.info? 267).map (fun i => (i.zero, i.size, i.bytes)) = some (some .nilIface, 1, 16) := by kernel_rfl

/-- nil and false. -/
def NilFalse (w : World) (e : Ending) (w' : World) : Prop := e = .returned (.tuple #[.slice none 0 0, .bool false]) ∧ Below w.heap.size w w'
/-- The parts at work, in memory of the call's own, and true. -/
def PartsTrue (ps : List (Int × Int)) (w : World) (e : Ending) (w' : World) : Prop :=
  ∃ A c, e = .returned (.tuple #[.slice A ps.length c, .bool true]) ∧ Rd w' w.heap.size w'.heap.size 1 A ps.length (ps.map sv) ∧ Below w.heap.size w w'
def PartsPost (ps : List (Int × Int)) (w : World) (e : Ending) (w' : World) : Prop :=
  (vCond ps = true ∧ PartsTrue ps w e w') ∨ (vCond ps = false ∧ NilFalse w e w')

set_option maxHeartbeats 400000 in
set_option maxRecDepth 100000 in
theorem partsAtWork_any (lo hi n c : Nat) (A : Option Addr) (ps : List (Int × Int)) (w : World) (hr : Rd w lo hi 2 A n (pvs ps)) (hB : hi ≤ w.heap.size) (hn : n ≤ 1048576) :
    Calls Tryz.prog 209 #[.slice A n c] w (PartsPost ps w) := by
  have HL := Lib.hid hr.len2
  by_cases h12 : n ≤ 12
  · obtain ⟨i0, hi0, hz0, hz1, hz2⟩ := info_parts infoStackPart
    go_enter Tryz.func209, Tryz.ntmps209
    go_wp2
    go_loopw [4, 5, 15] (fun lv dv iv wr => ∃ (k : Nat) (d : Int), k ≤ n ∧ iv = .int .i64 k ∧ dv = .int .i64 d ∧ Hid (scanD ps 0 = scanD (ps.drop k) d) ∧ 0 ≤ d ∧ d ≤ k ∧ Below w.heap.size w wr ∧
         wr.ownsRow w.heap.size 267 1 lv k ((ps.map sv).take k))
       (fun _ _ iv _ => n - (intOf iv).toNat)
    case atStart => exact ⟨0, 0, by omega, rfl, rfl, rfl, by omega, by omega, Below.refl _ _, World.ownsRow_nil _ _ _ _⟩
    case round =>
      obtain ⟨k, d, hk, rfl, rfl, hS, hd0, hdk, hbl, hown⟩ := hrel
      by_cases hlt : k < n
      · obtain ⟨b, off, x, y, rfl, hbB, _, hg, hc0, hc1⟩ := (hr.keep hbl hB).pair hlt
        have Hg := Lib.hid hg; clear hg
        have hnd := needs1_bd x
        have hsz := hbl.size
        go_wp2_with (fail)
        by_cases hv : vPart x y = true
        · refine (partAtWork_yes hv _).mono ?_
          rintro e w1 ⟨rfl, hb1⟩
          have hm := method_takes hv
          have hcf := call_takes x
          have Hv := Lib.hid hv; clear hv
          simp only [sv]
          go_wp2_with (fail)
          refine (takes_any x _).mono ?_
          rintro e w2 ⟨rfl, hb2⟩
          by_cases hd : needs1 x ≤ d
          · go_wp2_with (fail)
            refine (takes_any x _).mono ?_
            rintro e w3 ⟨rfl, hb3⟩
            have hs1 := hb1.size
            have hs2 := hb2.size
            have hs3 := hb3.size
            simp at hs1
            have hown3 := own_keep (own_keep (own_keep (hown.alloc _) hb1) hb2) hb3
            have hbl3 := up (up (up (up_alloc hbl _) hb1) hb2) hb3
            clear hown hb1 hb2 hb3 hc0 hc1 hm hcf
            go_wp2_with (at_builtin; refine wpList_append_own _ rfl _ _ 259 rfl w.heap.size 267 i0 .nilIface 1 16 Tryz.underlying259 hi0 hz0 hz1 hz2 rfl (by decide) _ _ _ rfl (hown3.alloc _) ⟨w3.heap.size, 0, none⟩ 1 1 [.iface (opT x) (pay x y)] rfl rfl (cell_one_new _ _ _) ?c2 ?c3 ?c4 ?c5 ?_)
            case c2 => intro u hu; simp at hu; subst hu; rfl
            case c3 => unfold maxLen; omega
            case c4 => omega
            case c5 => simp; omega
            intro v' w4 hown4 hg4 _
            have hbl4 := up_grown (up_alloc hbl3 _) (hown3.alloc _) hg4 (Nat.le_refl _)
            clear hown3 hg4 hbl3
            go_wp2
            go_roundw
            case rel =>
              refine ⟨k + 1, d - needs1 x + 1, by omega, by go_num, by go_num, hS.out.trans (scanD_step Hg.out Hv.out hd), by omega, by omega, hbl4, ?_⟩
              rw [take_snoc (l := ps.map sv) (x := sv (x, y)) (by rw [List.getElem?_map, Hg.out]; rfl)]
              exact hown4
            case measure => simp [intOf]; omega
          · go_wp2
            go_ret2
            exact .inr ⟨vCond_none (hS.out.trans (scanD_bad Hg.out (fun h => by have := h.2; omega))), rfl, up (up (up_alloc hbl _) hb1) hb2⟩
        · have hv' : vPart x y = false := by simpa using hv
          refine (partAtWork_no hv' _).mono ?_
          rintro e w1 ⟨s, rfl, hb1⟩
          go_wp2
          go_ret2
          exact .inr ⟨vCond_none (hS.out.trans (scanD_bad Hg.out (fun h => hv h.1))), rfl, up (up_alloc hbl _) hb1⟩
      · obtain rfl : k = n := by omega
        have HS : Hid (scanD ps 0 = some d) := by
          rw [Hid, hS.out, List.drop_of_length_le (by rw [HL.out]; omega)]; rfl
        have HT : Hid ((ps.map sv).take k = ps.map sv) := by rw [Hid, List.take_of_length_le (by rw [List.length_map, HL.out]; omega)]
        have Ho := Lib.hid hown; clear hown
        by_cases hd : d = 1
        · subst hd
          have hV : vCond ps = true := by rw [vCond_some HS.out, HL.out, inR_iff.2 ⟨by omega, by omega⟩]; rfl
          have HV := Lib.hid hV; clear hV
          go_wp2
          go_ret2
          have ho := Ho.out
          rw [HT.out] at ho
          obtain ⟨A', c', hv, hcc, hrd, hsf⟩ := own_form ho
          refine .inl ⟨HV.out, A', c', ?_, ?_, hbl⟩
          · rw [HL.out, ← hv]; rfl
          · rw [HL.out]; exact hrd
        · have hd' : (d == 1) = false := by simpa using hd
          have hV : vCond ps = false := by rw [vCond_some HS.out, HL.out, hd']; simp
          have HV := Lib.hid hV; clear hV
          go_wp2
          go_ret2
          exact .inr ⟨HV.out, rfl, hbl⟩
  · have hV : vCond ps = false := by
      have : inR (n : Int) 1 12 = false := by
        rw [Bool.eq_false_iff]; intro h; have := (inR_iff.1 h).2; omega
      rw [vCond, HL.out, this]; rfl
    have HV := Lib.hid hV; clear hV
    go_enter Tryz.func209, Tryz.ntmps209
    go_wp2
    go_ret2
    exact .inr ⟨HV.out, rfl, Below.refl _ _⟩

theorem ValidConditionI_any (lo hi n c : Nat) (A : Option Addr) (ps : List (Int × Int)) (w : World) (hr : Rd w lo hi 2 A n (pvs ps)) (hB : hi ≤ w.heap.size) (hn : n ≤ 1048576) :
    Calls Tryz.prog 198 #[.slice A n c] w fun e w' => e = .returned (.bool (vCond ps)) ∧ Below w.heap.size w w' := by
  go_enter Tryz.func198, Tryz.ntmps198
  go_wp2_with (fail)
  refine (partsAtWork_any lo hi n c A ps w hr hB hn).mono ?_
  rintro e w1 (⟨hV, A', c', rfl, _, hb⟩ | ⟨hV, rfl, hb⟩)
  · have HV := Lib.hid hV; clear hV
    go_wp2
    go_ret
    exact ⟨ret_bool HV.out.symm, hb⟩
  · have HV := Lib.hid hV; clear hV
    go_wp2
    go_ret
    exact ⟨ret_bool HV.out.symm, hb⟩
end Go.Proofs.YtknphikoikdcjaaGreat

