/- impl.partsAtWork and impl.ValidCondition: the parts of a valid condition at work. -/
import Derived.Test.YthlcbdjjegageaaCondPart
namespace Go.Proofs.Ythlcbdjjegageaa
open Go.RowKit

theorem infoStackPart : (Try.prog.info? 138).map (fun i => (i.zero, i.size, i.bytes)) = some (some .nilIface, 1, 16) := by kernel_rfl

/-- nil and false. -/
def NilFalse (w : World) (e : Ending) (w' : World) : Prop := e = .returned (.tuple #[.slice none 0 0, .bool false]) ∧ Below w.heap.size w w'
/-- The parts at work, in memory of the call's own, and true. -/
def PartsTrue (ps : List (Int × Int)) (w : World) (e : Ending) (w' : World) : Prop :=
  ∃ A c, e = .returned (.tuple #[.slice A ps.length c, .bool true]) ∧ Rd w' w.heap.size w'.heap.size 1 A ps.length (ps.map sv) ∧ Below w.heap.size w w'
def PartsPost (ps : List (Int × Int)) (w : World) (e : Ending) (w' : World) : Prop :=
  (vCond ps = true ∧ PartsTrue ps w e w') ∨ (vCond ps = false ∧ NilFalse w e w')

set_option maxHeartbeats 400000 in
set_option maxRecDepth 100000 in
theorem partsAtWork_any (lo hi n c : Nat) (A : Option Addr) (ps : List (Int × Int)) (w : World) (hr : Rd w lo hi 2 A n (pvs ps)) (hB : hi ≤ w.heap.size) (hn : n ≤ 1048576) :
    Calls Try.prog 111 #[.slice A n c] w (PartsPost ps w) := by
  have HL := Lib.hid hr.len2
  by_cases h12 : n ≤ 12
  · obtain ⟨i0, hi0, hz0, hz1, hz2⟩ := info_parts infoStackPart
    go_enter Try.func111, Try.ntmps111
    go_wp2
    go_loopw [4, 5, 15] (fun lv dv iv wr => ∃ (k : Nat) (d : Int), k ≤ n ∧ iv = .int .i64 k ∧ dv = .int .i64 d ∧ Hid (scanD ps 0 = scanD (ps.drop k) d) ∧ 0 ≤ d ∧ d ≤ k ∧ Below w.heap.size w wr ∧
         wr.ownsRow w.heap.size 138 1 lv k ((ps.map sv).take k))
       (fun _ _ iv _ => n - (intOf iv).toNat)
    case atStart => exact ⟨0, 0, by omega, rfl, rfl, rfl, by omega, by omega, Below.refl _ _, World.ownsRow_nil _ _ _ _⟩
    case round =>
      obtain ⟨k, d, hk, rfl, rfl, hS, hd0, hdk, hbl, hown⟩ := hrel
      by_cases hlt : k < n
      · obtain ⟨b, off, x, y, rfl, hbB, _, hg, hc0, hc1⟩ := (hr.keep hbl hB).pair hlt
        have Hg := Lib.hid hg; clear hg
        have hnd := needs1_bd x
        have hsz := hbl.size
        go_wp2_with (fail)
        by_cases hv : vPart x y = true
        · refine (partAtWork_yes hv _).mono ?_
          rintro e w1 ⟨rfl, hb1⟩
          have hm := method_takes hv
          have hcf := call_takes x
          have Hv := Lib.hid hv; clear hv
          simp only [sv]
          go_wp2_with (fail)
          refine (takes_any x _).mono ?_
          rintro e w2 ⟨rfl, hb2⟩
          by_cases hd : needs1 x ≤ d
          · go_wp2_with (fail)
            refine (takes_any x _).mono ?_
            rintro e w3 ⟨rfl, hb3⟩
            have hs1 := hb1.size
            have hs2 := hb2.size
            have hs3 := hb3.size
            simp at hs1
            have hown3 := own_keep (own_keep (own_keep (hown.alloc _) hb1) hb2) hb3
            have hbl3 := up (up (up (up_alloc hbl _) hb1) hb2) hb3
            clear hown hb1 hb2 hb3 hc0 hc1 hm hcf
            go_wp2_with (at_builtin; refine wpList_append_own _ rfl _ _ 129 rfl w.heap.size 138 i0 .nilIface 1 16 Try.underlying129 hi0 hz0 hz1 hz2 rfl (by decide) _ _ _ rfl (hown3.alloc _) ⟨w3.heap.size, 0, none⟩ 1 1 [.iface (opT x) (pay x y)] rfl rfl (cell_one_new _ _ _) ?c2 ?c3 ?c4 ?c5 ?_)
            case c2 => intro u hu; simp at hu; subst hu; rfl
            case c3 => unfold maxLen; omega
            case c4 => omega
            case c5 => simp; omega
            intro v' w4 hown4 hg4 _
            have hbl4 := up_grown (up_alloc hbl3 _) (hown3.alloc _) hg4 (Nat.le_refl _)
            clear hown3 hg4 hbl3
            go_wp2
            go_roundw
            case rel =>
              refine ⟨k + 1, d - needs1 x + 1, by omega, by go_num, by go_num, hS.out.trans (scanD_step Hg.out Hv.out hd), by omega, by omega, hbl4, ?_⟩
              rw [take_snoc (l := ps.map sv) (x := sv (x, y)) (by rw [List.getElem?_map, Hg.out]; rfl)]
              exact hown4
            case measure => simp [intOf]; omega
          · go_wp2
            go_ret2
            exact .inr ⟨vCond_none (hS.out.trans (scanD_bad Hg.out (fun h => by have := h.2; omega))), rfl, up (up (up_alloc hbl _) hb1) hb2⟩
        · have hv' : vPart x y = false := by simpa using hv
          refine (partAtWork_no hv' _).mono ?_
          rintro e w1 ⟨s, rfl, hb1⟩
          go_wp2
          go_ret2
          exact .inr ⟨vCond_none (hS.out.trans (scanD_bad Hg.out (fun h => hv h.1))), rfl, up (up_alloc hbl _) hb1⟩
      · obtain rfl : k = n := by omega
        have HS : Hid (scanD ps 0 = some d) := by
          rw [Hid, hS.out, List.drop_of_length_le (by rw [HL.out]; omega)]; rfl
        have HT : Hid ((ps.map sv).take k = ps.map sv) := by rw [Hid, List.take_of_length_le (by rw [List.length_map, HL.out]; omega)]
        have Ho := Lib.hid hown; clear hown
        by_cases hd : d = 1
        · subst hd
          have hV : vCond ps = true := by rw [vCond_some HS.out, HL.out, inR_iff.2 ⟨by omega, by omega⟩]; rfl
          have HV := Lib.hid hV; clear hV
          go_wp2
          go_ret2
          have ho := Ho.out
          rw [HT.out] at ho
          obtain ⟨A', c', hv, hcc, hrd, hsf⟩ := own_form ho
          refine .inl ⟨HV.out, A', c', ?_, ?_, hbl⟩
          · rw [HL.out, ← hv]; rfl
          · rw [HL.out]; exact hrd
        · have hd' : (d == 1) = false := by simpa using hd
          have hV : vCond ps = false := by rw [vCond_some HS.out, HL.out, hd']; simp
          have HV := Lib.hid hV; clear hV
          go_wp2
          go_ret2
          exact .inr ⟨HV.out, rfl, hbl⟩
  · have hV : vCond ps = false := by
      have : inR (n : Int) 1 12 = false := by
        rw [Bool.eq_false_iff]; intro h; have := (inR_iff.1 h).2; omega
      rw [vCond, HL.out, this]; rfl
    have HV := Lib.hid hV; clear hV
    go_enter Try.func111, Try.ntmps111
    go_wp2
    go_ret2
    exact .inr ⟨HV.out, rfl, Below.refl _ _⟩

theorem ValidConditionI_any (lo hi n c : Nat) (A : Option Addr) (ps : List (Int × Int)) (w : World) (hr : Rd w lo hi 2 A n (pvs ps)) (hB : hi ≤ w.heap.size) (hn : n ≤ 1048576) :
    Calls Try.prog 91 #[.slice A n c] w fun e w' => e = .returned (.bool (vCond ps)) ∧ Below w.heap.size w w' := by
  go_enter Try.func91, Try.ntmps91
  go_wp2_with (fail)
  refine (partsAtWork_any lo hi n c A ps w hr hB hn).mono ?_
  rintro e w1 (⟨hV, A', c', rfl, _, hb⟩ | ⟨hV, rfl, hb⟩)
  · have HV := Lib.hid hV; clear hV
    go_wp2
    go_ret
    exact ⟨ret_bool HV.out.symm, hb⟩
  · have HV := Lib.hid hV; clear hV
    go_wp2
    go_ret
    exact ⟨ret_bool HV.out.symm, hb⟩
end Go.Proofs.Ythlcbdjjegageaa
