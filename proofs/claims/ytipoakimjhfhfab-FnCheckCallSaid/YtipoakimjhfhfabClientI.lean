/- Clients of the program: ValidClients, CheckCall, RecordCall, ReplyOf. -/
import Derived.Test.YtipoakimjhfhfabClientB
import Derived.Test.YtipoakimjhfhfabClientO
set_option linter.unusedSimpArgs false
set_option linter.unusedVariables false
namespace Go.Proofs.Ytipoakimjhfhfab
open Go.RowKit Go.Maps

/-- The entries of clients by their numbers, or nothing. -/
def CPost (ps : List Qd) (w : World) (e : Ending) (w' : World) : Prop :=
  (vCls ps = false ∧ e = .returned (.tuple #[.map none, .bool false]) ∧ Below w.heap.size w w') ∨
  (vCls ps = true ∧ ∃ b, e = .returned (.tuple #[.map (some b), .bool true]) ∧ NMap Try.prog 3 w' b ps.length Prod.fst svQ ps ∧ w.heap.size ≤ b ∧ Below w.heap.size w w')
theorem look_cl (ps : List Qd) (z : Int) : ∃ a d, ((atNum Prod.fst ps z).map svQ).getD (.agg #[.int .i64 0, .int .i64 0, .int .i64 0, .int .i64 0]) = .agg #[.int .i64 a, .int .i64 (lastOf ps z), .int .i64 (repOf ps z), .int .i64 d] := by
  unfold lastOf repOf
  cases atNum Prod.fst ps z with
  | none => exact ⟨0, 0, rfl⟩
  | some q => exact ⟨q.1, q.2.2.2, rfl⟩
theorem checkOf_bd (ps : List Qd) (z call : Int) : 1 ≤ checkOf ps z call ∧ checkOf ps z call ≤ 4 := by
  unfold checkOf sortOf
  split
  · split
    · omega
    · split
      · omega
      · split <;> omega
  · omega
set_option maxHeartbeats 800000 in
theorem clientsOf_any (lo hi n c : Nat) (A : Option Addr) (ps : List Qd) (w : World) (hr : Rd w lo hi 4 A n (qvs ps)) (hB : hi ≤ w.heap.size) (hn : n ≤ 1048576) :
    Calls Try.prog 59 #[.slice A n c] w (CPost ps w) := by
  have HC := Lib.hid (byNumClient_any lo hi n c A ps w hr hB hn)
  clear hr
  go_enter Try.func59, Try.ntmps59
  go_wp2_with (fail)
  (with_reducible refine HC.out.mono ?_)
  rintro e w1 h
  rcases h with ⟨hg, rfl, hb⟩ | ⟨hg, mb, rfl, hm, hlo, hb⟩
  · have HX := Lib.hid (show vCls ps = false from hg)
    have HB := Lib.hid hb
    clear hb hg
    go_wp2
    exact bodyPost_ret (v := .tuple #[.map none, .bool false]) (by simp [results, Try.results59, go_sem]) rfl (.inl ⟨HX.out, rfl, HB.out⟩)
  · have HX := Lib.hid (show vCls ps = true from hg)
    have HB := Lib.hid hb
    have HM := Lib.hid hm
    clear hb hg hm
    go_wp2
    exact bodyPost_ret (v := .tuple #[.map (some mb), .bool true]) (by simp [results, Try.results59, go_sem]) rfl (.inr ⟨HX.out, _, rfl, HM.out, hlo, HB.out⟩)
theorem ValidClientsI_any (lo hi n c : Nat) (A : Option Addr) (ps : List Qd) (w : World) (hr : Rd w lo hi 4 A n (qvs ps)) (hB : hi ≤ w.heap.size) (hn : n ≤ 1048576) :
    Calls Try.prog 28 #[.slice A n c] w fun e w' => e = .returned (.bool (vCls ps)) ∧ Below w.heap.size w w' := by
  have HC := Lib.hid (clientsOf_any lo hi n c A ps w hr hB hn)
  clear hr
  go_enter Try.func28, Try.ntmps28
  go_wp2_with (fail)
  (with_reducible refine HC.out.mono ?_)
  rintro e w1 h
  rcases h with ⟨hg, rfl, hb⟩ | ⟨hg, mb, rfl, _, _, hb⟩
  · have HB := Lib.hid hb
    have HG := Lib.hid hg
    clear hb hg HC
    go_wp2
    go_ret
    exact ⟨ret_bool HG.out.symm, HB.out⟩
  · have HB := Lib.hid hb
    have HG := Lib.hid hg
    clear hb hg HC
    go_wp2
    go_ret
    exact ⟨ret_bool HG.out.symm, HB.out⟩
theorem fieldCl1 (a b c d : Int) (w : World) : (Instr.field 45 (.agg #[.int .i64 a, .int .i64 b, .int .i64 c, .int .i64 d]) 1).run Try.prog w = .ok (.int .i64 b) w := by kernel_rfl
theorem fieldCl2 (a b c d : Int) (w : World) : (Instr.field 45 (.agg #[.int .i64 a, .int .i64 b, .int .i64 c, .int .i64 d]) 2).run Try.prog w = .ok (.int .i64 c) w := by kernel_rfl
set_option maxRecDepth 100000 in
set_option maxHeartbeats 1600000 in
theorem checkI_any (mb m : Nat) (ps : List Qd) (z call : Int) (w : World) (hm : NMap Try.prog 3 w mb m Prod.fst svQ ps) (hv : vCls ps = true) (hz : in64 z) (hc : in64 call) :
    Calls Try.prog 63 #[.map (some mb), .int .i64 z, .int .i64 call] w fun e w' => e = .returned (.int .i64 (checkOf ps z call)) ∧ Below w.heap.size w w' := by
  have HV := Lib.hid hv
  have HM := Lib.hid hm
  have hmlt := hm.lt
  clear hv hm
  go_enter Try.func63, Try.ntmps63
  go_wp2_with (fail)
  (with_reducible refine (isClient_any z _).mono ?_)
  rintro e w1 ⟨rfl, hb1⟩
  have HB1 := Lib.hid hb1
  have HM1 := Lib.hid (HM.out.keep hb1 hmlt)
  clear hb1 HM
  cases hri : inR z 0 9 with
  | false =>
    have HX := Lib.hid (show checkOf ps z call = 4 by simp [checkOf, hri])
    clear hri
    go_wp2
    go_ret
    exact ⟨by rw [HX.out]; rfl, HB1.out⟩
  | true =>
  have HI := Lib.hid hri
  clear hri
  by_cases h1 : call < 1
  · have HX := Lib.hid (show checkOf ps z call = 4 by
      have : inR call 1 999 = false := by simp [inR]; omega
      simp [checkOf, this])
    go_wp2
    go_ret
    exact ⟨by rw [HX.out]; rfl, HB1.out⟩
  by_cases h2 : 999 < call
  · have HX := Lib.hid (show checkOf ps z call = 4 by
      have : inR call 1 999 = false := by simp [inR]; omega
      simp [checkOf, this])
    go_wp2
    go_ret
    exact ⟨by rw [HX.out]; rfl, HB1.out⟩
  have HS := Lib.hid (show checkOf ps z call = sortOf ps z call by
    have : inR call 1 999 = true := inR_iff.2 ⟨by omega, by omega⟩
    simp [checkOf, HV.out, HI.out, this])
  have hl := HM1.out.look keyedIntN Try.underlying3 Try.underlying76 (zeroClientN w1) hz rfl
  obtain ⟨a, d, he⟩ := look_cl ps z
  rw [he] at hl
  obtain ⟨hL0, hL1⟩ := lastOf_bd HV.out z
  have HT := Lib.hid (show sortOf ps z call = if call = lastOf ps z + 1 then 1 else if call = lastOf ps z then 2 else if call < lastOf ps z then 3 else 4 from rfl)
  generalize lastOf ps z = L at *
  generalize repOf ps z = r at *
  have hfl := fieldCl1 a L r d w1
  clear he
  have hw1 : IntKind.i64.wrap (L + 1) = L + 1 := IntWalk.i64_in _ (by omega)
  by_cases e1 : call = L + 1
  · have f1 : (call == L + 1) = true := by simpa using e1
    have HX := Lib.hid (show checkOf ps z call = 1 by rw [HS.out, HT.out, if_pos e1])
    clear e1
    go_wp2
    go_ret
    exact ⟨by rw [HX.out]; rfl, HB1.out⟩
  have f1 : (call == L + 1) = false := by simpa using e1
  by_cases e2 : call = L
  · have f2 : (call == L) = true := by simpa using e2
    have HX := Lib.hid (show checkOf ps z call = 2 by rw [HS.out, HT.out, if_neg e1, if_pos e2])
    clear e1 e2
    go_wp2
    go_ret
    exact ⟨by rw [HX.out]; rfl, HB1.out⟩
  have f2 : (call == L) = false := by simpa using e2
  by_cases e3 : call < L
  · have HX := Lib.hid (show checkOf ps z call = 3 by rw [HS.out, HT.out, if_neg e1, if_neg e2, if_pos e3])
    clear e1 e2
    go_wp2
    go_ret
    exact ⟨by rw [HX.out]; rfl, HB1.out⟩
  · have HX := Lib.hid (show checkOf ps z call = 4 by rw [HS.out, HT.out, if_neg e1, if_neg e2, if_neg e3])
    clear e1 e2
    go_wp2
    go_ret
    exact ⟨by rw [HX.out]; rfl, HB1.out⟩
set_option maxHeartbeats 800000 in
theorem CheckCallI_any (lo hi n c : Nat) (A : Option Addr) (ps : List Qd) (z call : Int) (w : World) (hr : Rd w lo hi 4 A n (qvs ps)) (hB : hi ≤ w.heap.size) (hn : n ≤ 1048576) (hz : in64 z) (hc : in64 call) :
    Calls Try.prog 31 #[.slice A n c, .int .i64 z, .int .i64 call] w fun e w' => e = .returned (.int .i64 (checkOf ps z call)) ∧ Below w.heap.size w w' := by
  have HC := Lib.hid (clientsOf_any lo hi n c A ps w hr hB hn)
  clear hr
  go_enter Try.func31, Try.ntmps31
  go_wp2_with (fail)
  (with_reducible refine HC.out.mono ?_)
  clear HC
  rintro e w1 h
  rcases h with ⟨hg, rfl, hb⟩ | ⟨hg, mb, rfl, hm, hlo, hb⟩
  · have HX := Lib.hid (show checkOf ps z call = 4 by simp [checkOf, hg])
    have HB := Lib.hid hb
    clear hb hg
    go_wp2
    go_ret
    exact ⟨by rw [HX.out]; rfl, HB.out⟩
  have HB1 := Lib.hid hb
  have HG := Lib.hid hg
  have HM := Lib.hid hm
  clear hb hm hg
  go_wp2_with (fail)
  (with_reducible refine (checkI_any mb _ ps z call _ HM.out HG.out hz hc).mono ?_)
  rintro e w2 ⟨rfl, hb2⟩
  have HB2 := Lib.hid (up HB1.out hb2)
  clear hb2
  generalize hgv : checkOf ps z call = v
  have HGV := Lib.hid hgv
  clear hgv
  go_wp2
  go_ret
  exact ⟨by rw [HGV.out]; rfl, HB2.out⟩
set_option maxHeartbeats 800000 in
theorem ReplyOfI_any (lo hi n c : Nat) (A : Option Addr) (ps : List Qd) (z call : Int) (w : World) (hr : Rd w lo hi 4 A n (qvs ps)) (hB : hi ≤ w.heap.size) (hn : n ≤ 1048576) (hz : in64 z) (hc : in64 call) :
    Calls Try.prog 37 #[.slice A n c, .int .i64 z, .int .i64 call] w fun e w' => e = .returned (.tuple #[.int .i64 ((replyOf ps z call).getD 0), .bool (replyOf ps z call).isSome]) ∧ Below w.heap.size w w' := by
  have HC := Lib.hid (clientsOf_any lo hi n c A ps w hr hB hn)
  clear hr
  go_enter Try.func37, Try.ntmps37
  go_wp2_with (fail)
  (with_reducible refine HC.out.mono ?_)
  clear HC
  rintro e w1 h
  rcases h with ⟨hg, rfl, hb⟩ | ⟨hg, mb, rfl, hm, hlo, hb⟩
  · have HX := Lib.hid (show replyOf ps z call = none by simp [replyOf, checkOf, hg])
    have HB := Lib.hid hb
    clear hb hg
    go_wp2
    exact bodyPost_ret (v := .tuple #[.int .i64 0, .bool false]) (by simp [results, Try.results37, go_sem]) rfl ⟨by rw [HX.out]; rfl, HB.out⟩
  have HB1 := Lib.hid hb
  have HG := Lib.hid hg
  have HM := Lib.hid hm
  have hmlt := hm.lt
  clear hb hm hg
  go_wp2_with (fail)
  (with_reducible refine (checkI_any mb _ ps z call _ HM.out HG.out hz hc).mono ?_)
  rintro e w2 ⟨rfl, hb2⟩
  have HB2 := Lib.hid (up HB1.out hb2)
  have HM2 := Lib.hid (HM.out.keep hb2 hmlt)
  clear hb2
  by_cases hv : checkOf ps z call = 2
  · have HX := Lib.hid (show replyOf ps z call = some (repOf ps z) by simp [replyOf, hv])
    rw [hv]
    have hl := HM2.out.look keyedIntN Try.underlying3 Try.underlying76 (zeroClientN w2) hz rfl
    obtain ⟨a, d, he⟩ := look_cl ps z
    rw [he] at hl
    have hfl := fieldCl2 a (lastOf ps z) (repOf ps z) d w2
    clear he hv
    go_wp2
    exact bodyPost_ret (v := .tuple #[.int .i64 (repOf ps z), .bool true]) (by simp [results, Try.results37, go_sem]) rfl ⟨by rw [HX.out]; rfl, HB2.out⟩
  · have hv2 : (checkOf ps z call == 2) = false := by simpa using hv
    have hv3 : (checkOf ps z call != 2) = true := by simpa using hv
    have HX := Lib.hid (show replyOf ps z call = none by rw [replyOf, hv2]; rfl)
    generalize checkOf ps z call = v at hv2 hv3 ⊢
    clear hv
    go_wp2
    exact bodyPost_ret (v := .tuple #[.int .i64 0, .bool false]) (by simp [results, Try.results37, go_sem]) rfl ⟨by rw [HX.out]; rfl, HB2.out⟩
set_option maxRecDepth 100000 in
set_option maxHeartbeats 1600000 in
theorem RecordCallI_any (lo hi n c : Nat) (A : Option Addr) (ps : List Qd) (z call reply now : Int) (w : World) (hr : Rd w lo hi 4 A n (qvs ps)) (hB : hi ≤ w.heap.size) (hn : n ≤ 1048576) (hz : in64 z) (hc : in64 call) (hrep : in64 reply) (hnow : in64 now) :
    Calls Try.prog 34 #[.slice A n c, .int .i64 z, .int .i64 call, .int .i64 reply, .int .i64 now] w (MayT qvs 4 (recordOf ps z call reply now) w) := by
  have HC := Lib.hid (clientsOf_any lo hi n c A ps w hr hB hn)
  clear hr
  go_enter Try.func34, Try.ntmps34
  go_wp2_with (fail)
  (with_reducible refine HC.out.mono ?_)
  clear HC
  rintro e w1 h
  rcases h with ⟨hg, rfl, hb⟩ | ⟨hg, mb, rfl, hm, hlo, hb⟩
  · have HX := Lib.hid (show recordOf ps z call reply now = none by simp [recordOf, checkOf, hg])
    have HB := Lib.hid hb
    clear hb hg
    go_wp2
    exact bodyPost_ret (v := .tuple #[.slice none 0 0, .bool false]) (by simp [results, Try.results34, go_sem]) rfl (MayT.no rfl HX.out HB.out)
  have HB1 := Lib.hid hb
  have HG := Lib.hid hg
  have HM := Lib.hid hm
  have hmlt := hm.lt
  clear hb hm hg
  go_wp2_with (fail)
  (with_reducible refine (checkI_any mb _ ps z call _ HM.out HG.out hz hc).mono ?_)
  rintro e w2 ⟨rfl, hb2⟩
  have HB2 := Lib.hid (up HB1.out hb2)
  have HM2 := Lib.hid (HM.out.keep hb2 hmlt)
  have hs2 := hb2.size
  clear hb2 HM HB1
  by_cases hv : checkOf ps z call = 1
  case neg =>
    have hv2 : (checkOf ps z call == 1) = false := by simpa using hv
    have hv3 : (checkOf ps z call != 1) = true := by simpa using hv
    have HX := Lib.hid (show recordOf ps z call reply now = none by rw [recordOf, hv2]; rfl)
    generalize checkOf ps z call = v at hv2 hv3 ⊢
    clear hv
    go_wp2
    exact bodyPost_ret (v := .tuple #[.slice none 0 0, .bool false]) (by simp [results, Try.results34, go_sem]) rfl (MayT.no rfl HX.out HB2.out)
  have HV := Lib.hid hv
  rw [hv]
  have hck := checkOf_v (ps := ps) (z := z) (call := call) (by rw [hv]; omega)
  obtain ⟨_, ⟨hz0, hz9⟩, _, _⟩ := hck
  clear hv
  go_wp2_with (fail)
  (with_reducible refine (isTime_any now _).mono ?_)
  rintro e w3 ⟨rfl, hb3⟩
  have HB3 := Lib.hid (up HB2.out hb3)
  have HM3 := Lib.hid (HM2.out.keep hb3 (by omega))
  have hs3 := hb3.size
  clear hb3 HM2 HB2
  cases hti : inR now 0 9999 with
  | false =>
    have HX := Lib.hid (show recordOf ps z call reply now = none by simp [recordOf, hti])
    clear hti
    go_wp2
    exact bodyPost_ret (v := .tuple #[.slice none 0 0, .bool false]) (by simp [results, Try.results34, go_sem]) rfl (MayT.no rfl HX.out HB3.out)
  | true =>
  have HX := Lib.hid (show recordOf ps z call reply now = some (insNum Prod.fst ps (z, call, reply, now)) by simp [recordOf, hti, HV.out])
  clear hti
  have hpl := vCls_len HG.out
  have hil := insNum_len (vCls_asc HG.out) (z, call, reply, now)
  have HZ := Lib.hid (show ∀ q ∈ insNum Prod.fst ps (z, call, reply, now), -1000000 ≤ q.1 ∧ q.1 ≤ 1000000 from fun q hq => by
    rcases mem_insNum.1 hq with rfl | ⟨h, _⟩
    · show -1000000 ≤ z ∧ z ≤ 1000000; omega
    · have := (vCls_ok HG.out h).1; omega)
  obtain ⟨w4, hrun0, hm4, hg4⟩ := HM3.out.put keyedIntN Try.underlying3 Try.underlying76 (by unfold maxLen; omega) (z, call, reply, now) hz
  have hrun4 : (Instr.mapUpdate 76 (.map (some mb)) (.int .i64 z) (.agg #[.int .i64 z, .int .i64 call, .int .i64 reply, .int .i64 now])).run Try.prog w3 = .ok () w4 := hrun0
  have hs4 := hg4.size
  have HB4 := Lib.hid (HB3.out.grown hg4 (by have := HB3.out.size; omega) (fun j hj => by injection hj with hj; omega))
  have HM4 := Lib.hid hm4
  clear hrun0 hm4 hg4 HM3 HB3
  go_wp2_with (fail)
  (with_reducible refine (inOrderClient_any mb _ (insNum Prod.fst ps (z, call, reply, now)) _ HM4.out (by omega) HZ.out (by omega)).mono ?_)
  generalize insNum Prod.fst ps (z, call, reply, now) = qs at *
  rintro e w5 ⟨A5, c5, rfl, hc5, hr5, hs5, hb5⟩
  have HB5 := Lib.hid (up HB4.out hb5)
  have HR5 := Lib.hid (hr5.wide (lo' := w.heap.size) (hi' := w5.heap.size) HB4.out.size (Nat.le_refl _))
  have HS5 := Lib.hid hs5
  clear hb5 hr5 hs5
  go_wp2
  exact bodyPost_ret (v := .tuple #[.slice A5 qs.length c5, .bool true]) (by simp [results, Try.results34, go_sem]) rfl (MayT.yes HX.out rfl hc5 HR5.out HS5.out HB5.out)
end Go.Proofs.Ytipoakimjhfhfab
