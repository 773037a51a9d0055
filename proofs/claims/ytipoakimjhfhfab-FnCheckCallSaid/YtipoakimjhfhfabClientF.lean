/- impl.ForgetClients: maps.DeleteFunc on the map of clients, and what is left in order. -/
import Derived.Test.YtipoakimjhfhfabClientI
import Derived.Test.YtipoakimjhfhfabNumDel
import Derived.Test.YtipoakimjhfhfabDelRun
import Derived.Laws.IdiomRangeMap
import Derived.Deep.LoopGhost
set_option linter.unusedSimpArgs false
set_option linter.unusedVariables false
namespace Go.Proofs.Ytipoakimjhfhfab
open Go.RowKit Go.Maps

/-- An entry that is old. -/
def oldV (b : Int) : Value → Bool
  | .agg cs => match cs.getD 3 (Value.bool false) with | .int _ t => decide (t < b) | _ => false
  | _ => false
theorem oldV_cl (b x y z t : Int) : oldV b (.agg #[.int .i64 x, .int .i64 y, .int .i64 z, .int .i64 t]) = decide (t < b) := rfl
set_option maxHeartbeats 400000 in
theorem oldCl_any (key x y z t b : Int) (p : Nat) (w : World) (hp : w.cell? ⟨p, 0, none⟩ = some (.int .i64 b)) (hlt : p < w.heap.size) :
    Calls Try.prog 68 #[.int .i64 key, .agg #[.int .i64 x, .int .i64 y, .int .i64 z, .int .i64 t], .pointer (some ⟨p, 0, none⟩)] w fun e w' => e = .returned (.bool (decide (t < b))) ∧ Below w.heap.size w w' := by
  have hb := up_alloc (Below.refl _ w) (.cells #[.int .i64 x, .int .i64 y, .int .i64 z, .int .i64 t] 45)
  have hk : (w.alloc (.cells #[.int .i64 x, .int .i64 y, .int .i64 z, .int .i64 t] 45)).cell? ⟨p, 0, none⟩ = some (.int .i64 b) := (hb.cell (p := ⟨p, 0, none⟩) hlt).trans hp
  go_enter Try.func68, Try.ntmps68
  go_wp2
  go_ret
  exact ⟨rfl, hb⟩
theorem call_oldCl (args : Array Value) (w : World) : (callFunc 68 args).run Try.prog w = .ok (.enter 68 args) w := by kernel_rfl
set_option maxRecDepth 100000 in
set_option maxHeartbeats 1600000 in
theorem delClients_any (mb m hb : Nat) (ps : List Qd) (b : Int) (w : World) (hm : NMap Try.prog 3 w mb m Prod.fst svQ ps) (hbox : w.cell? ⟨hb, 0, none⟩ = some (.int .i64 b)) (hlt : hb < w.heap.size) (hne : hb ≠ mb) :
    Calls Try.prog 67 #[.map (some mb), .func (.func 68) #[] #[.pointer (some ⟨hb, 0, none⟩)]] w fun e w' => e = .returned (.tuple #[]) ∧ NMap Try.prog 3 w' mb m Prod.fst svQ (keptCls ps b) ∧ w.grownBy w' (some mb) := by
  obtain ⟨⟨D, hown, hD⟩, ha⟩ := hm
  obtain ⟨es0, rfl, hap, hkeys⟩ := hown.entries keyedIntN
  have HD := Lib.hid hD
  have HA := Lib.hid ha
  have HOWN := Lib.hid hown
  have HBOX := Lib.hid hbox
  have eg := call_oldCl
  clear hD ha hbox
  go_enter Try.func67, Try.ntmps67
  go_wp2_with (first
    | (at_range; refine wpList_range_own _ rfl _ 76 rfl 3 45 keyedIntN Try.underlying76 heldR mb m _ rfl hown ?_; intro w0 hrg0 hg0 hs0)
    | go_in)
  try go_frame
  clear hown
  go_loopw [8] (fun _ wr => ∃ (left : Lit → Bool) (cnt : Nat), wr.ranges Try.prog 3 heldR mb w.heap.size m (Fk (pdAt (oldV b)) es0 left) left cnt ∧ w.grownBy wr (some mb) ∧ w.heap.size < wr.heap.size)
    (fun _ wr => wr.rangeLeft mb w.heap.size)
  case atStart => exact ⟨_, _, by rw [Fk_start hkeys]; exact hrg0, hg0.but _, by omega⟩
  case round =>
    clear hrg0 hg0 hs0
    obtain ⟨left, cnt, hrg, hgw, hsw⟩ := hrel
    have HGW := Lib.hid hgw
    go_wp2_with (first
      | (at_next; refine wpList_next_ranges _ rfl _ rfl 3 keyedIntN heldR (Value.int .i64) id (fun key kl hkey => by obtain ⟨x, rfl, _⟩ := Maps.keyOf_int_inv Try.underlying3 hkey; exact ⟨x, rfl⟩) (fun v y hv => ⟨v, rfl⟩) mb w.heap.size m _ left cnt rfl hrg ?_ ?_)
      | go_in)
    · intro _ hl0
      have HX := Lib.hid (NMap.struck HOWN.out keyedIntN Try.underlying3 Try.underlying76 (zeroClientN w) HD.out HA.out (oldV b) (fun q => decide (b ≤ q.2.2.2)) (fun q _ => by
        obtain ⟨q1, q2, q3, q4⟩ := q
        show decide (q4 < b) = !decide (b ≤ q4)
        by_cases h : q4 < b
        · rw [decide_eq_true h, decide_eq_false (by omega)]; rfl
        · rw [decide_eq_false h, decide_eq_true (by omega)]; rfl) (by rw [← Fk_end hl0]; exact hrg.owns))
      clear hrg hgw
      go_wp2
      go_end0
      exact ⟨rfl, HX.out, HGW.out⟩
    · intro x c kl y pl w1 cnt1 hkey hlx hR hat hrg1 hltr hg1 hs1 hen
      have HK := Lib.hid hkey
      obtain ⟨x', ex, rfl, hwx⟩ := Maps.keyOf_int_inv Try.underlying3 hkey
      cases ex
      have hc : y = .held c := by simp [heldR] at hR; rw [← hR.1]
      have h1 := hat .nil
      rw [hc] at h1
      obtain ⟨⟨q1, q2, q3, q4⟩, hq, hqx, hqs⟩ := held_shape HOWN.out keyedIntN Try.underlying3 Try.underlying76 (zeroClientN w) hap HD.out HA.out (by trivial) h1
      obtain rfl : q1 = x := hqx
      obtain rfl : c = .agg #[.int .i64 q1, .int .i64 q2, .int .i64 q3, .int .i64 q4] := hqs.symm
      subst hc
      have HAT := Lib.hid hat
      have HLX := Lib.hid hlx
      have hgw1 := hgw.andThen hg1 (fun j hj => by cases hj; exact Or.inl (Nat.le_refl _))
      have hs1' := hg1.size
      have HC := Lib.hid (oldCl_any q1 q1 q2 q3 q4 b hb (w1.alloc (.cells #[.int .i64 q1, .int .i64 q2, .int .i64 q3, .int .i64 q4] 45)) (((up_alloc (Below.refl _ w1) _).cell (p := ⟨hb, 0, none⟩) (by show hb < w1.heap.size; omega)).trans (hgw1.cell HBOX.out (by simpa using hne))) (by simp; omega))
      have hga := grown_below (up_alloc (Below.refl _ w1) (.cells #[.int .i64 q1, .int .i64 q2, .int .i64 q3, .int .i64 q4] 45)) none
      have HRG := Lib.hid (hrg1.kept hga (by simp) (by simp))
      have HGA := Lib.hid (hgw1.andThen hga (fun j hj => by cases hj))
      have HRG0 := Lib.hid hrg
      clear hR h1 hat hlx hrg1 hrg hgw hgw1 hg1 hga hkey hq hwx hqs
      go_wp2_with (fail)
      (with_reducible refine HC.out.mono ?_)
      clear HC
      rintro e w2 ⟨rfl, hb2⟩
      have hg2 := grown_below hb2 none
      have HRG2 := Lib.hid (HRG.out.kept hg2 (by simp) (by simp))
      have HGW2 := Lib.hid (HGA.out.andThen hg2 (fun j hj => by cases hj))
      have hs2 := hb2.size
      simp only [World.size_alloc] at hs2
      clear hb2 hg2 HRG HGA
      by_cases hu : q4 < b
      · have hd : decide (q4 < b) = true := by simpa using hu
        rw [hd]
        have HS := Lib.hid (show pdAt (oldV b) (.int .i64 q1) (.held (.agg #[.int .i64 q1, .int .i64 q2, .int .i64 q3, .int .i64 q4])) = true from hd)
        clear hu hd
        go_wp2_with (first
          | (at_delete; refine wpList_delete_ranges _ rfl _ _ 76 3 rfl 45 keyedIntN Try.underlying76 heldR mb w.heap.size m _ _ _ rfl HRG2.out _ _ rfl HK.out ?_; intro w3 cnt3 hrg3 hle hturn; go_frame)
          | go_in)
        rw [strike_twice] at hrg3
        have HRG3 := Lib.hid hrg3
        have HGW3 := Lib.hid (HGW2.out.andThen hturn.grown (fun j hj => by cases hj; exact Or.inr rfl))
        have hs3 := hturn.grown.size
        clear hrg3 hturn
        go_roundw
        case rel => exact ⟨_, cnt3, by rw [← Fk_struck hap (keyedIntN.key HK.out) HLX.out HS.out HAT.out]; exact HRG3.out, HGW3.out, by omega⟩
        case measure => rw [HRG3.out.left_eq, HRG0.out.left_eq]; omega
      · have hd : decide (q4 < b) = false := by simpa using hu
        rw [hd]
        have HS := Lib.hid (show pdAt (oldV b) (.int .i64 q1) (.held (.agg #[.int .i64 q1, .int .i64 q2, .int .i64 q3, .int .i64 q4])) = false from hd)
        clear hu hd
        go_wp2
        go_roundw
        case rel => exact ⟨_, cnt1, by rw [← Fk_stays hap (keyedIntN.key HK.out) HLX.out HS.out HAT.out]; exact HRG2.out, HGW2.out, by omega⟩
        case measure => rw [HRG2.out.left_eq, HRG0.out.left_eq]; exact hltr
set_option maxRecDepth 100000 in
set_option maxHeartbeats 800000 in
theorem ForgetClientsI_any (lo hi n c : Nat) (A : Option Addr) (ps : List Qd) (b : Int) (w : World) (hr : Rd w lo hi 4 A n (qvs ps)) (hB : hi ≤ w.heap.size) (hn : n ≤ 1048576) (hb : in64 b) :
    Calls Try.prog 41 #[.slice A n c, .int .i64 b] w (Fresh (qvs (forgetOf ps b)) 4 (forgetOf ps b).length w) := by
  have hb0 := up_alloc (Below.refl _ w) (.cells #[.int .i64 b] 3)
  have hs0 : (w.alloc (.cells #[.int .i64 b] 3)).heap.size = w.heap.size + 1 := by simp
  have HC := Lib.hid (clientsOf_any lo hi n c A ps _ (hr.keep hb0 hB) (by omega) hn)
  have HE := Lib.hid (Blk.new w 3 #[.int .i64 b])
  have HB0 := Lib.hid hb0
  clear hr hb0
  go_enter Try.func41, Try.ntmps41
  go_wp2_with (fail)
  (with_reducible refine HC.out.mono ?_)
  clear HC
  rintro e w1 h
  rcases h with ⟨hg, rfl, hb1⟩ | ⟨hg, mb, rfl, hm, hlo, hb1⟩
  · have HX := Lib.hid (show forgetOf ps b = [] by simp [forgetOf, hg])
    have HB := Lib.hid (up HB0.out hb1)
    clear hb1 hg
    go_wp2
    go_ret
    rw [HX.out]
    exact Fresh.nil 4 HB.out
  have HX := Lib.hid (show forgetOf ps b = keptCls ps b by simp [forgetOf, hg])
  have hpl := vCls_len hg
  have HZ := Lib.hid (show ∀ q ∈ keptCls ps b, -1000000 ≤ q.1 ∧ q.1 ≤ 1000000 from fun q hq => by
    have := (vCls_ok hg (List.mem_filter.1 hq).1).1; omega)
  have hkl := keptCls_le ps b
  have hbx : w1.cell? ⟨w.heap.size, 0, none⟩ = some (.int .i64 b) := (HE.out.below hb1 (by omega)).cell 0
  have hs1 := hb1.size
  have HB1 := Lib.hid (up HB0.out hb1)
  have HD := Lib.hid (delClients_any mb _ w.heap.size ps b w1 hm hbx (by omega) (by omega))
  have hmlt := hm.lt
  clear hb1 hm hg hbx
  go_wp2_with (fail)
  (with_reducible refine HD.out.mono ?_)
  clear HD
  rintro e w2 ⟨rfl, hm2, hg2⟩
  have HM2 := Lib.hid hm2
  have HB2 := Lib.hid (HB1.out.grown hg2 (by omega) (fun j hj => by injection hj with hj; omega))
  have hs2 := hg2.size
  clear hm2 hg2
  go_wp2_with (fail)
  (with_reducible refine (inOrderClient_any mb _ (keptCls ps b) _ HM2.out (by omega) HZ.out (by omega)).mono ?_)
  rintro e w3 ⟨A3, c3, rfl, hc3, hr3, hs3, hb3⟩
  have HB3 := Lib.hid (up HB2.out hb3)
  have HR3 := Lib.hid (hr3.wide (lo' := w.heap.size) (hi' := w3.heap.size) HB2.out.size (Nat.le_refl _))
  have HS3 := Lib.hid hs3
  clear hb3 hr3 hs3
  go_wp2
  go_ret
  rw [HX.out]
  exact ⟨A3, c3, rfl, hc3, HR3.out, HS3.out, HB3.out⟩
end Go.Proofs.Ytipoakimjhfhfab
