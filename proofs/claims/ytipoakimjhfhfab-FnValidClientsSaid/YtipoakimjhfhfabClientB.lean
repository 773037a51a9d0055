/- impl.byNumber at impl.Client. (Written by gen/bynum.py.) -/
import Derived.Test.YtipoakimjhfhfabNumKeys
import Derived.Test.YtipoakimjhfhfabQuadMem
import Derived.Test.YtipoakimjhfhfabClientV
import Derived.Deep.RegionLaw
import Derived.Deep.RegionHeld3
set_option linter.unusedSimpArgs false
set_option linter.unusedVariables false
namespace Go.Proofs.Ytipoakimjhfhfab
open Go.RowKit Go.Maps

theorem mthValidClient (x y z t : Int) (fuel : Nat) (w : World) : (method (fuel + 1) 45 (.agg #[.int .i64 x, .int .i64 y, .int .i64 z, .int .i64 t]) "loop.example/processengine/impl.isValid").run Try.prog w = .ok (123, .agg #[.int .i64 x, .int .i64 y, .int .i64 z, .int .i64 t]) w := by kernel_rfl
theorem nilValidClient (x y z t : Int) (fuel : Nat) (w : World) : (nilAhead (fuel + 1) 45 (.agg #[.int .i64 x, .int .i64 y, .int .i64 z, .int .i64 t]) "loop.example/processengine/impl.isValid").run Try.prog w = .ok (some false) w := by kernel_rfl
theorem calValidClient (a : Value) (w : World) : (callFunc 123 #[a]).run Try.prog w = .ok (.enter 123 #[a]) w := by kernel_rfl
theorem mthNumClient (x y z t : Int) (fuel : Nat) (w : World) : (method (fuel + 1) 45 (.agg #[.int .i64 x, .int .i64 y, .int .i64 z, .int .i64 t]) "loop.example/processengine/impl.number").run Try.prog w = .ok (124, .agg #[.int .i64 x, .int .i64 y, .int .i64 z, .int .i64 t]) w := by kernel_rfl
theorem nilNumClient (x y z t : Int) (fuel : Nat) (w : World) : (nilAhead (fuel + 1) 45 (.agg #[.int .i64 x, .int .i64 y, .int .i64 z, .int .i64 t]) "loop.example/processengine/impl.number").run Try.prog w = .ok (some false) w := by kernel_rfl
theorem calNumClient (a : Value) (w : World) : (callFunc 124 #[a]).run Try.prog w = .ok (.enter 124 #[a]) w := by kernel_rfl
set_option maxRecDepth 100000 in
set_option maxHeartbeats 3200000 in
theorem byNumClient_any (lo hi n c : Nat) (A : Option Addr) (ps : List Qd) (w : World) (hr : Rd w lo hi 4 A n (qvs ps)) (hB : hi ≤ w.heap.size) (hn : n ≤ 1048576) :
    Calls Try.prog 75 #[.slice A n c] w (BPost svQ Prod.fst okCl ps w) := by
  have HL := Lib.hid hr.len4
  have hmm := @run_makeMap Try.prog
  have hmv := mthValidClient
  have hnv := nilValidClient
  have hcv := calValidClient
  have hma := mthNumClient
  have hna := nilNumClient
  have hca := calNumClient
  go_enter Try.func75, Try.ntmps75
  go_wp2
  clear hmm
  go_loopw [10] (fun iv wr => ∃ (k : Nat), k ≤ n ∧ iv = .int .i64 k ∧ Hid (good Prod.fst okCl ps = goodFrom Prod.fst okCl (ahead Prod.fst ps k) (ps.drop k)) ∧ w.heap.size < wr.heap.size ∧ Hid (NMap Try.prog 3 wr w.heap.size k Prod.fst svQ (ps.take k)) ∧ Hid (Below w.heap.size w wr))
     (fun iv _ => n - (Go.RowKit.intOf iv).toNat)
  case atStart => exact ⟨0, by omega, rfl, rfl, by simp, by rw [List.take_zero]; exact NMap.made _ _ _ _ _, up_alloc (Below.refl _ _) _⟩
  case round =>
    obtain ⟨k, hk, rfl, hS, hws, HM, HB⟩ := hrel
    by_cases hlt : k < n
    · obtain ⟨b, off, x, y, z, t, hA, hbB, _, hg, hc0, hc1, hc2, hc3⟩ := (hr.keep HB.out hB).quad hlt
      subst hA
      have hkn : (k : Int) < (n : Int) := by omega
      have hk0 : (0 : Int) ≤ (k : Int) := by omega
      have hbw : b < wr.heap.size := by omega
      have HG := Lib.hid hg
      clear hg
      have hs1 : (wr.alloc (.cells #[.int .i64 x, .int .i64 y, .int .i64 z, .int .i64 t] 45)).heap.size = wr.heap.size + 1 := by simp
      have HE := Lib.hid (Blk.new wr 45 #[.int .i64 x, .int .i64 y, .int .i64 z, .int .i64 t])
      have HM1 := Lib.hid (HM.out.alloc (.cells #[.int .i64 x, .int .i64 y, .int .i64 z, .int .i64 t] 45))
      have HB1 := Lib.hid (up_alloc HB.out (.cells #[.int .i64 x, .int .i64 y, .int .i64 z, .int .i64 t] 45))
      have HR1 := Lib.hid (hr.keep HB1.out hB)
      go_wp2
      generalize hw1 : wr.alloc (.cells #[.int .i64 x, .int .i64 y, .int .i64 z, .int .i64 t] 45) = w1 at *
      clear hw1 HM HB hc0 hc1 hc2 hc3
      have d0 : w1.cell? ⟨wr.heap.size, 0, none⟩ = some (.int .i64 x) := HE.out.cell 0
      have d1 : w1.cell? ⟨wr.heap.size, 1, none⟩ = some (.int .i64 y) := HE.out.cell 1
      have d2 : w1.cell? ⟨wr.heap.size, 2, none⟩ = some (.int .i64 z) := HE.out.cell 2
      have d3 : w1.cell? ⟨wr.heap.size, 3, none⟩ = some (.int .i64 t) := HE.out.cell 3
      cases hv : okCl (x, y, z, t) with
      | false =>
        have HX := Lib.hid (show good Prod.fst okCl ps = false by rw [hS.out, good_bad HG.out (.inl hv)])
        refine wp_region_held_drew (S := fun w' => w'.cell? ⟨wr.heap.size, 0, none⟩ = some (.int .i64 x) ∧ w'.cell? ⟨wr.heap.size, 1, none⟩ = some (.int .i64 y) ∧ w'.cell? ⟨wr.heap.size, 2, none⟩ = some (.int .i64 z) ∧ w'.cell? ⟨wr.heap.size, 3, none⟩ = some (.int .i64 t)) (by kernel_rfl) (by (try dsimp only); exact ⟨d0, d1, d2, d3⟩) (fun hHeld => ?_)
        refine wpAnyH_take (i := 0) (oi := ⟨_, _, _, _, _, _⟩) (v := ?_) rfl (by kernel_rfl) (by kernel_rfl) (by kernel_rfl) (fun _ _ _ h => by exact h) (Or.inl ⟨by kernel_rfl, ?_⟩) (by assumption) ?_
        rotate_left
        focus
          intro w hSw
          (try dsimp only at hSw)
          go_simp
          try with_reducible rfl
        try simp only [Act.put, List.setIfInBounds_toArray, List.set_cons_zero, List.set_cons_succ]
        refine wpAnyH_take (i := 1) (oi := ⟨_, _, _, _, _, _⟩) (v := ?_) rfl (by kernel_rfl) (by kernel_rfl) (by kernel_rfl) (fun _ _ _ h => by exact h) (Or.inl ⟨by kernel_rfl, ?_⟩) (by assumption) ?_
        rotate_left
        focus
          intro w hSw
          (try dsimp only at hSw)
          go_simp
          try with_reducible rfl
        try simp only [Act.put, List.setIfInBounds_toArray, List.set_cons_zero, List.set_cons_succ]
        refine wpAnyH_ready (rs := [2]) (by kernel_rfl) (by simp) ?_
        refine AllReadyH.cons (o := ⟨_, _, _, _, _, _⟩) rfl (fun K hK => ?_) AllReadyH.nil
        go_simp
        (go_at_call 123; (with_reducible refine (clientValid_any x y z t _).mono ?_); rintro e w2 ⟨rfl, hb2⟩; rw [hv])
        refine hK.out _ _ (by (try dsimp only); exact ⟨(hb2.cell (by show wr.heap.size < w1.heap.size; omega)).trans (d0), (hb2.cell (by show wr.heap.size < w1.heap.size; omega)).trans (d1), (hb2.cell (by show wr.heap.size < w1.heap.size; omega)).trans (d2), (hb2.cell (by show wr.heap.size < w1.heap.size; omega)).trans (d3)⟩) (fun hHeld => ?_)
        clear hK K
        try simp only [Act.put, List.setIfInBounds_toArray, List.set_cons_zero, List.set_cons_succ]
        refine wpAnyH_take (i := 3) (oi := ⟨_, _, _, _, _, _⟩) (v := ?_) rfl (by kernel_rfl) (by kernel_rfl) (by kernel_rfl) (fun _ _ _ h => by exact h) (Or.inl ⟨by kernel_rfl, ?_⟩) (by assumption) ?_
        rotate_left
        focus
          intro w hSw
          (try dsimp only at hSw)
          go_simp
          try with_reducible rfl
        try simp only [Act.put, List.setIfInBounds_toArray, List.set_cons_zero, List.set_cons_succ]
        refine wpAnyH_take (i := 4) (oi := ⟨_, _, _, _, _, _⟩) (v := ?_) rfl (by kernel_rfl) (by kernel_rfl) (by kernel_rfl) (fun _ _ _ h => by exact h) (Or.inl ⟨by kernel_rfl, ?_⟩) (by assumption) ?_
        rotate_left
        focus
          intro w hSw
          (try dsimp only at hSw)
          go_simp
          try with_reducible rfl
        try simp only [Act.put, List.setIfInBounds_toArray, List.set_cons_zero, List.set_cons_succ]
        refine wpAnyH_take (i := 5) (oi := ⟨_, _, _, _, _, _⟩) (v := undef) rfl (by kernel_rfl) (by kernel_rfl) (by kernel_rfl) (fun _ _ _ h => by exact h) (Or.inr ⟨by kernel_rfl, rfl⟩) (by assumption) ?_
        try simp only [Act.put, List.setIfInBounds_toArray, List.set_cons_zero, List.set_cons_succ]
        refine wpAnyH_take (i := 6) (oi := ⟨_, _, _, _, _, _⟩) (v := undef) rfl (by kernel_rfl) (by kernel_rfl) (by kernel_rfl) (fun _ _ _ h => by exact h) (Or.inr ⟨by kernel_rfl, rfl⟩) (by assumption) ?_
        try simp only [Act.put, List.setIfInBounds_toArray, List.set_cons_zero, List.set_cons_succ]
        refine wpAnyH_take (i := 7) (oi := ⟨_, _, _, _, _, _⟩) (v := undef) rfl (by kernel_rfl) (by kernel_rfl) (by kernel_rfl) (fun _ _ _ h => by exact h) (Or.inr ⟨by kernel_rfl, rfl⟩) (by assumption) ?_
        try simp only [Act.put, List.setIfInBounds_toArray, List.set_cons_zero, List.set_cons_succ]
        refine wpAnyH_take (i := 8) (oi := ⟨_, _, _, _, _, _⟩) (v := undef) rfl (by kernel_rfl) (by kernel_rfl) (by kernel_rfl) (fun _ _ _ h => by exact h) (Or.inr ⟨by kernel_rfl, rfl⟩) (by assumption) ?_
        try simp only [Act.put, List.setIfInBounds_toArray, List.set_cons_zero, List.set_cons_succ]
        refine wpAnyH_take (i := 9) (oi := ⟨_, _, _, _, _, _⟩) (v := undef) rfl (by kernel_rfl) (by kernel_rfl) (by kernel_rfl) (fun _ _ _ h => by exact h) (Or.inr ⟨by kernel_rfl, rfl⟩) (by assumption) ?_
        try simp only [Act.put, List.setIfInBounds_toArray, List.set_cons_zero, List.set_cons_succ]
        refine wpAnyH_take (i := 10) (oi := ⟨_, _, _, _, _, _⟩) (v := undef) rfl (by kernel_rfl) (by kernel_rfl) (by kernel_rfl) (fun _ _ _ h => by exact h) (Or.inr ⟨by kernel_rfl, rfl⟩) (by assumption) ?_
        try simp only [Act.put, List.setIfInBounds_toArray, List.set_cons_zero, List.set_cons_succ]
        refine wpAnyH_take (i := 11) (oi := ⟨_, _, _, _, _, _⟩) (v := undef) rfl (by kernel_rfl) (by kernel_rfl) (by kernel_rfl) (fun _ _ _ h => by exact h) (Or.inr ⟨by kernel_rfl, rfl⟩) (by assumption) ?_
        try simp only [Act.put, List.setIfInBounds_toArray, List.set_cons_zero, List.set_cons_succ]
        refine wpAnyH_take (i := 12) (oi := ⟨_, _, _, _, _, _⟩) (v := undef) rfl (by kernel_rfl) (by kernel_rfl) (by kernel_rfl) (fun _ _ _ h => by exact h) (Or.inr ⟨by kernel_rfl, rfl⟩) (by assumption) ?_
        try simp only [Act.put, List.setIfInBounds_toArray, List.set_cons_zero, List.set_cons_succ]
        refine wpAnyH_take (i := 13) (oi := ⟨_, _, _, _, _, _⟩) (v := undef) rfl (by kernel_rfl) (by kernel_rfl) (by kernel_rfl) (fun _ _ _ h => by exact h) (Or.inr ⟨by kernel_rfl, rfl⟩) (by assumption) ?_
        try simp only [Act.put, List.setIfInBounds_toArray, List.set_cons_zero, List.set_cons_succ]
        refine wpAnyH_take (i := 14) (oi := ⟨_, _, _, _, _, _⟩) (v := undef) rfl (by kernel_rfl) (by kernel_rfl) (by kernel_rfl) (fun _ _ _ h => by exact h) (Or.inr ⟨by kernel_rfl, rfl⟩) (by assumption) ?_
        try simp only [Act.put, List.setIfInBounds_toArray, List.set_cons_zero, List.set_cons_succ]
        refine wpAnyH_take (i := 15) (oi := ⟨_, _, _, _, _, _⟩) (v := undef) rfl (by kernel_rfl) (by kernel_rfl) (by kernel_rfl) (fun _ _ _ h => by exact h) (Or.inr ⟨by kernel_rfl, rfl⟩) (by assumption) ?_
        try simp only [Act.put, List.setIfInBounds_toArray, List.set_cons_zero, List.set_cons_succ]
        refine wpAnyH_take (i := 16) (oi := ⟨_, _, _, _, _, _⟩) (v := undef) rfl (by kernel_rfl) (by kernel_rfl) (by kernel_rfl) (fun _ _ _ h => by exact h) (Or.inr ⟨by kernel_rfl, rfl⟩) (by assumption) ?_
        try simp only [Act.put, List.setIfInBounds_toArray, List.set_cons_zero, List.set_cons_succ]
        refine wpAnyH_take (i := 17) (oi := ⟨_, _, _, _, _, _⟩) (v := undef) rfl (by kernel_rfl) (by kernel_rfl) (by kernel_rfl) (fun _ _ _ h => by exact h) (Or.inr ⟨by kernel_rfl, rfl⟩) (by assumption) ?_
        try simp only [Act.put, List.setIfInBounds_toArray, List.set_cons_zero, List.set_cons_succ]
        refine wpAnyH_take (i := 18) (oi := ⟨_, _, _, _, _, _⟩) (v := undef) rfl (by kernel_rfl) (by kernel_rfl) (by kernel_rfl) (fun _ _ _ h => by exact h) (Or.inr ⟨by kernel_rfl, rfl⟩) (by assumption) ?_
        try simp only [Act.put, List.setIfInBounds_toArray, List.set_cons_zero, List.set_cons_succ]
        refine wpAnyH_take (i := 19) (oi := ⟨_, _, _, _, _, _⟩) (v := undef) rfl (by kernel_rfl) (by kernel_rfl) (by kernel_rfl) (fun _ _ _ h => by exact h) (Or.inr ⟨by kernel_rfl, rfl⟩) (by assumption) ?_
        try simp only [Act.put, List.setIfInBounds_toArray, List.set_cons_zero, List.set_cons_succ]
        refine wpAnyH_take (i := 20) (oi := ⟨_, _, _, _, _, _⟩) (v := ?_) rfl (by kernel_rfl) (by kernel_rfl) (by kernel_rfl) (fun _ _ _ h => by exact h) (Or.inl ⟨by kernel_rfl, ?_⟩) (by assumption) ?_
        rotate_left
        focus
          intro w hSw
          (try dsimp only at hSw)
          go_simp
          try with_reducible rfl
        try simp only [Act.put, List.setIfInBounds_toArray, List.set_cons_zero, List.set_cons_succ]
        refine wpAnyH_done (by kernel_rfl) ?_ _
        have HB2 := Lib.hid (up HB1.out (show Below w1.heap.size w1 w2 from by first | exact hb2 | exact up (up_drew (Below.refl _ _)) hb2))
        clear hv hb2 d0 d1 d2 d3
        go_wp2
        exact bodyPost_ret (v := .tuple #[.map none, .bool false]) (by simp [results, Try.results75, go_sem]) rfl (.inl ⟨HX.out, rfl, HB2.out⟩)
      | true =>
        have HV := Lib.hid hv
        have hx : 0 ≤ x ∧ x ≤ 999 := by
          simp only [okCl, Bool.and_eq_true, inR_iff] at hv
          omega
        rcases Nat.eq_zero_or_pos k with hz | hz
        · have HAH := Lib.hid (show ∀ y, ahead Prod.fst ps k = some y → y < x from fun y h => by subst hz; cases h)
          have hgt : decide (0 < k) = false := decide_eq_false (by omega)
          clear hz
          have HS := Lib.hid (hS.out.trans (good_step HG.out HV.out HAH.out))
          refine wp_region_held_drew (S := fun w' => w'.cell? ⟨wr.heap.size, 0, none⟩ = some (.int .i64 x) ∧ w'.cell? ⟨wr.heap.size, 1, none⟩ = some (.int .i64 y) ∧ w'.cell? ⟨wr.heap.size, 2, none⟩ = some (.int .i64 z) ∧ w'.cell? ⟨wr.heap.size, 3, none⟩ = some (.int .i64 t)) (by kernel_rfl) (by (try dsimp only); exact ⟨d0, d1, d2, d3⟩) (fun hHeld => ?_)
          refine wpAnyH_take (i := 0) (oi := ⟨_, _, _, _, _, _⟩) (v := ?_) rfl (by kernel_rfl) (by kernel_rfl) (by kernel_rfl) (fun _ _ _ h => by exact h) (Or.inl ⟨by kernel_rfl, ?_⟩) (by assumption) ?_
          rotate_left
          focus
            intro w hSw
            (try dsimp only at hSw)
            go_simp
            try with_reducible rfl
          try simp only [Act.put, List.setIfInBounds_toArray, List.set_cons_zero, List.set_cons_succ]
          refine wpAnyH_take (i := 1) (oi := ⟨_, _, _, _, _, _⟩) (v := ?_) rfl (by kernel_rfl) (by kernel_rfl) (by kernel_rfl) (fun _ _ _ h => by exact h) (Or.inl ⟨by kernel_rfl, ?_⟩) (by assumption) ?_
          rotate_left
          focus
            intro w hSw
            (try dsimp only at hSw)
            go_simp
            try with_reducible rfl
          try simp only [Act.put, List.setIfInBounds_toArray, List.set_cons_zero, List.set_cons_succ]
          refine wpAnyH_ready (rs := [2]) (by kernel_rfl) (by simp) ?_
          refine AllReadyH.cons (o := ⟨_, _, _, _, _, _⟩) rfl (fun K hK => ?_) AllReadyH.nil
          go_simp
          (go_at_call 123; (with_reducible refine (clientValid_any x y z t _).mono ?_); rintro e w2 ⟨rfl, hb2⟩; rw [hv])
          refine hK.out _ _ (by (try dsimp only); exact ⟨(hb2.cell (by show wr.heap.size < w1.heap.size; omega)).trans (d0), (hb2.cell (by show wr.heap.size < w1.heap.size; omega)).trans (d1), (hb2.cell (by show wr.heap.size < w1.heap.size; omega)).trans (d2), (hb2.cell (by show wr.heap.size < w1.heap.size; omega)).trans (d3)⟩) (fun hHeld => ?_)
          clear hK K
          try simp only [Act.put, List.setIfInBounds_toArray, List.set_cons_zero, List.set_cons_succ]
          refine wpAnyH_take (i := 3) (oi := ⟨_, _, _, _, _, _⟩) (v := ?_) rfl (by kernel_rfl) (by kernel_rfl) (by kernel_rfl) (fun _ _ _ h => by exact h) (Or.inl ⟨by kernel_rfl, ?_⟩) (by assumption) ?_
          rotate_left
          focus
            intro w hSw
            (try dsimp only at hSw)
            go_simp
            try with_reducible rfl
          try simp only [Act.put, List.setIfInBounds_toArray, List.set_cons_zero, List.set_cons_succ]
          refine wpAnyH_take (i := 4) (oi := ⟨_, _, _, _, _, _⟩) (v := ?_) rfl (by kernel_rfl) (by kernel_rfl) (by kernel_rfl) (fun _ _ _ h => by exact h) (Or.inl ⟨by kernel_rfl, ?_⟩) (by assumption) ?_
          rotate_left
          focus
            intro w hSw
            (try dsimp only at hSw)
            go_simp
            try with_reducible rfl
          try simp only [Act.put, List.setIfInBounds_toArray, List.set_cons_zero, List.set_cons_succ]
          refine wpAnyH_take (i := 5) (oi := ⟨_, _, _, _, _, _⟩) (v := ?_) rfl (by kernel_rfl) (by kernel_rfl) (by kernel_rfl) (fun _ _ _ h => by exact h) (Or.inl ⟨by kernel_rfl, ?_⟩) (by assumption) ?_
          rotate_left
          focus
            intro w hSw
            (try dsimp only at hSw)
            go_simp
            try with_reducible rfl
          try simp only [Act.put, List.setIfInBounds_toArray, List.set_cons_zero, List.set_cons_succ]
          refine wpAnyH_take (i := 6) (oi := ⟨_, _, _, _, _, _⟩) (v := ?_) rfl (by kernel_rfl) (by kernel_rfl) (by kernel_rfl) (fun _ _ _ h => by exact h) (Or.inl ⟨by kernel_rfl, ?_⟩) (by assumption) ?_
          rotate_left
          focus
            intro w hSw
            (try dsimp only at hSw)
            go_simp
            try with_reducible rfl
          try simp only [Act.put, List.setIfInBounds_toArray, List.set_cons_zero, List.set_cons_succ]
          refine wpAnyH_take (i := 7) (oi := ⟨_, _, _, _, _, _⟩) (v := ?_) rfl (by kernel_rfl) (by kernel_rfl) (by kernel_rfl) (fun _ _ _ h => by exact h) (Or.inl ⟨by kernel_rfl, ?_⟩) (by assumption) ?_
          rotate_left
          focus
            intro w hSw
            (try dsimp only at hSw)
            go_simp
            try with_reducible rfl
          try simp only [Act.put, List.setIfInBounds_toArray, List.set_cons_zero, List.set_cons_succ]
          refine wpAnyH_take (i := 8) (oi := ⟨_, _, _, _, _, _⟩) (v := undef) rfl (by kernel_rfl) (by kernel_rfl) (by kernel_rfl) (fun _ _ _ h => by exact h) (Or.inr ⟨by kernel_rfl, rfl⟩) (by assumption) ?_
          try simp only [Act.put, List.setIfInBounds_toArray, List.set_cons_zero, List.set_cons_succ]
          refine wpAnyH_take (i := 9) (oi := ⟨_, _, _, _, _, _⟩) (v := undef) rfl (by kernel_rfl) (by kernel_rfl) (by kernel_rfl) (fun _ _ _ h => by exact h) (Or.inr ⟨by kernel_rfl, rfl⟩) (by assumption) ?_
          try simp only [Act.put, List.setIfInBounds_toArray, List.set_cons_zero, List.set_cons_succ]
          refine wpAnyH_take (i := 10) (oi := ⟨_, _, _, _, _, _⟩) (v := undef) rfl (by kernel_rfl) (by kernel_rfl) (by kernel_rfl) (fun _ _ _ h => by exact h) (Or.inr ⟨by kernel_rfl, rfl⟩) (by assumption) ?_
          try simp only [Act.put, List.setIfInBounds_toArray, List.set_cons_zero, List.set_cons_succ]
          refine wpAnyH_take (i := 11) (oi := ⟨_, _, _, _, _, _⟩) (v := undef) rfl (by kernel_rfl) (by kernel_rfl) (by kernel_rfl) (fun _ _ _ h => by exact h) (Or.inr ⟨by kernel_rfl, rfl⟩) (by assumption) ?_
          try simp only [Act.put, List.setIfInBounds_toArray, List.set_cons_zero, List.set_cons_succ]
          refine wpAnyH_take (i := 12) (oi := ⟨_, _, _, _, _, _⟩) (v := undef) rfl (by kernel_rfl) (by kernel_rfl) (by kernel_rfl) (fun _ _ _ h => by exact h) (Or.inr ⟨by kernel_rfl, rfl⟩) (by assumption) ?_
          try simp only [Act.put, List.setIfInBounds_toArray, List.set_cons_zero, List.set_cons_succ]
          refine wpAnyH_take (i := 13) (oi := ⟨_, _, _, _, _, _⟩) (v := undef) rfl (by kernel_rfl) (by kernel_rfl) (by kernel_rfl) (fun _ _ _ h => by exact h) (Or.inr ⟨by kernel_rfl, rfl⟩) (by assumption) ?_
          try simp only [Act.put, List.setIfInBounds_toArray, List.set_cons_zero, List.set_cons_succ]
          refine wpAnyH_take (i := 14) (oi := ⟨_, _, _, _, _, _⟩) (v := undef) rfl (by kernel_rfl) (by kernel_rfl) (by kernel_rfl) (fun _ _ _ h => by exact h) (Or.inr ⟨by kernel_rfl, rfl⟩) (by assumption) ?_
          try simp only [Act.put, List.setIfInBounds_toArray, List.set_cons_zero, List.set_cons_succ]
          refine wpAnyH_take (i := 15) (oi := ⟨_, _, _, _, _, _⟩) (v := undef) rfl (by kernel_rfl) (by kernel_rfl) (by kernel_rfl) (fun _ _ _ h => by exact h) (Or.inr ⟨by kernel_rfl, rfl⟩) (by assumption) ?_
          try simp only [Act.put, List.setIfInBounds_toArray, List.set_cons_zero, List.set_cons_succ]
          refine wpAnyH_take (i := 16) (oi := ⟨_, _, _, _, _, _⟩) (v := undef) rfl (by kernel_rfl) (by kernel_rfl) (by kernel_rfl) (fun _ _ _ h => by exact h) (Or.inr ⟨by kernel_rfl, rfl⟩) (by assumption) ?_
          try simp only [Act.put, List.setIfInBounds_toArray, List.set_cons_zero, List.set_cons_succ]
          refine wpAnyH_take (i := 17) (oi := ⟨_, _, _, _, _, _⟩) (v := undef) rfl (by kernel_rfl) (by kernel_rfl) (by kernel_rfl) (fun _ _ _ h => by exact h) (Or.inr ⟨by kernel_rfl, rfl⟩) (by assumption) ?_
          try simp only [Act.put, List.setIfInBounds_toArray, List.set_cons_zero, List.set_cons_succ]
          refine wpAnyH_take (i := 18) (oi := ⟨_, _, _, _, _, _⟩) (v := undef) rfl (by kernel_rfl) (by kernel_rfl) (by kernel_rfl) (fun _ _ _ h => by exact h) (Or.inr ⟨by kernel_rfl, rfl⟩) (by assumption) ?_
          try simp only [Act.put, List.setIfInBounds_toArray, List.set_cons_zero, List.set_cons_succ]
          refine wpAnyH_take (i := 19) (oi := ⟨_, _, _, _, _, _⟩) (v := ?_) rfl (by kernel_rfl) (by kernel_rfl) (by kernel_rfl) (fun _ _ _ h => by exact h) (Or.inl ⟨by kernel_rfl, ?_⟩) (by assumption) ?_
          rotate_left
          focus
            intro w hSw
            (try dsimp only at hSw)
            go_simp
            try with_reducible rfl
          try simp only [Act.put, List.setIfInBounds_toArray, List.set_cons_zero, List.set_cons_succ]
          refine wpAnyH_take (i := 20) (oi := ⟨_, _, _, _, _, _⟩) (v := ?_) rfl (by kernel_rfl) (by kernel_rfl) (by kernel_rfl) (fun _ _ _ h => by exact h) (Or.inl ⟨by kernel_rfl, ?_⟩) (by assumption) ?_
          rotate_left
          focus
            intro w hSw
            (try dsimp only at hSw)
            go_simp
            try with_reducible rfl
          try simp only [Act.put, List.setIfInBounds_toArray, List.set_cons_zero, List.set_cons_succ]
          refine wpAnyH_done (by kernel_rfl) ?_ _
          focus
            have HB7 := Lib.hid (show Below w1.heap.size w1 w2 from by first | exact hb2 | exact up (up_drew (Below.refl _ _)) hb2)
            have hs7 := HB7.out.size
            have HE7 := Lib.hid (HE.out.below HB7.out (by omega))
            have HM7 := Lib.hid (HM1.out.keep HB7.out (by omega))
            have HBX := Lib.hid (up HB1.out HB7.out)
            clear hb2 hv d0 d1 d2 d3 HE HM1 HB1
            have d0 : w2.cell? ⟨wr.heap.size, 0, none⟩ = some (.int .i64 x) := HE7.out.cell 0
            have d1 : w2.cell? ⟨wr.heap.size, 1, none⟩ = some (.int .i64 y) := HE7.out.cell 1
            have d2 : w2.cell? ⟨wr.heap.size, 2, none⟩ = some (.int .i64 z) := HE7.out.cell 2
            have d3 : w2.cell? ⟨wr.heap.size, 3, none⟩ = some (.int .i64 t) := HE7.out.cell 3
            go_wp2
            go_region_law (first
              | (go_simp; go_at_call 124; (with_reducible refine (numClient_any x y z t _).mono ?_); rintro e w6 ⟨rfl, hb6⟩
                 have HB6 := Lib.hid (show Below w2.heap.size w2 w6 from by first | exact hb6 | exact up (up_drew (Below.refl _ _)) hb6)
                 have hs6 := HB6.out.size
                 have g0 : w6.cell? ⟨wr.heap.size, 0, none⟩ = some (.int .i64 x) := (HB6.out.cell (by show wr.heap.size < w2.heap.size; omega)).trans d0
                 have g1 : w6.cell? ⟨wr.heap.size, 1, none⟩ = some (.int .i64 y) := (HB6.out.cell (by show wr.heap.size < w2.heap.size; omega)).trans d1
                 have g2 : w6.cell? ⟨wr.heap.size, 2, none⟩ = some (.int .i64 z) := (HB6.out.cell (by show wr.heap.size < w2.heap.size; omega)).trans d2
                 have g3 : w6.cell? ⟨wr.heap.size, 3, none⟩ = some (.int .i64 t) := (HB6.out.cell (by show wr.heap.size < w2.heap.size; omega)).trans d3
                 have HM6 := Lib.hid (HM7.out.keep HB6.out (by omega))
                 have HB8 := Lib.hid (up HBX.out HB6.out)
                 obtain ⟨w8, hrun8, hm8, hg8⟩ := HM6.out.put keyedIntN Try.underlying3 Try.underlying75 (by unfold maxLen; omega) (x, y, z, t) (in64_small (by show -1000000 ≤ x; omega) (by show x ≤ 1000000; omega))
                 try simp only [svQ] at hrun8))
            all_goals
              have hs8 := hg8.size
              have HM8 := Lib.hid hm8
              have HB9 := Lib.hid (HB8.out.grown hg8 (by have := HB8.out.size; omega) (fun j hj => by injection hj with hj; omega))
              clear hm8 hg8 hb6 g0 g1 g2 g3
              go_wp2
              go_roundw
              case rel => exact ⟨_ + 1, by omega, by go_num, HS, by omega, by rw [← ins_take HM7.out.2 HG.out HAH.out]; exact HM8, HB9⟩
              case measure => simp [Go.RowKit.intOf]; omega
        · obtain ⟨j, rfl⟩ : ∃ j, k = j + 1 := ⟨k - 1, by omega⟩
          obtain ⟨b', off', x', y', z', t', hA', _, _, hg', p0, p1, p2, p3⟩ := HR1.out.quad (k := j) (by omega)
          injection hA' with hA'; injection hA' with h1' h2'
          subst h1'; subst h2'
          have HG' := Lib.hid (ahead_get (f := Prod.fst) hg')
          clear hg'
          have hj1 : ((j + 1 : Nat) : Int) - 1 = (j : Int) := by omega
          have hjn : (j : Int) < (n : Int) := by omega
          have hj0 : (0 : Int) ≤ (j : Int) := by omega
          have hwj : IntKind.i64.wrap (j : Int) = (j : Int) := IntWalk.i64_in _ (by omega)
          by_cases hle : x ≤ x'
          · have HX := Lib.hid (show good Prod.fst okCl ps = false by rw [hS.out, good_bad HG.out (.inr ⟨x', HG'.out, hle⟩)])
            have hlx : decide (x ≤ x') = true := decide_eq_true hle
            refine wp_region_held_drew (S := fun w' => w'.cell? ⟨wr.heap.size, 0, none⟩ = some (.int .i64 x) ∧ w'.cell? ⟨wr.heap.size, 1, none⟩ = some (.int .i64 y) ∧ w'.cell? ⟨wr.heap.size, 2, none⟩ = some (.int .i64 z) ∧ w'.cell? ⟨wr.heap.size, 3, none⟩ = some (.int .i64 t) ∧ w'.cell? ⟨b, off + j * 4, none⟩ = some (.int .i64 x') ∧ w'.cell? ⟨b, off + j * 4 + 1, none⟩ = some (.int .i64 y') ∧ w'.cell? ⟨b, off + j * 4 + 2, none⟩ = some (.int .i64 z') ∧ w'.cell? ⟨b, off + j * 4 + 3, none⟩ = some (.int .i64 t')) (by kernel_rfl) (by (try dsimp only); exact ⟨d0, d1, d2, d3, p0, p1, p2, p3⟩) (fun hHeld => ?_)
            refine wpAnyH_take (i := 0) (oi := ⟨_, _, _, _, _, _⟩) (v := ?_) rfl (by kernel_rfl) (by kernel_rfl) (by kernel_rfl) (fun _ _ _ h => by exact h) (Or.inl ⟨by kernel_rfl, ?_⟩) (by assumption) ?_
            rotate_left
            focus
              intro w hSw
              (try dsimp only at hSw)
              go_simp
              try with_reducible rfl
            try simp only [Act.put, List.setIfInBounds_toArray, List.set_cons_zero, List.set_cons_succ]
            refine wpAnyH_take (i := 1) (oi := ⟨_, _, _, _, _, _⟩) (v := ?_) rfl (by kernel_rfl) (by kernel_rfl) (by kernel_rfl) (fun _ _ _ h => by exact h) (Or.inl ⟨by kernel_rfl, ?_⟩) (by assumption) ?_
            rotate_left
            focus
              intro w hSw
              (try dsimp only at hSw)
              go_simp
              try with_reducible rfl
            try simp only [Act.put, List.setIfInBounds_toArray, List.set_cons_zero, List.set_cons_succ]
            refine wpAnyH_ready (rs := [2]) (by kernel_rfl) (by simp) ?_
            refine AllReadyH.cons (o := ⟨_, _, _, _, _, _⟩) rfl (fun K hK => ?_) AllReadyH.nil
            go_simp
            (go_at_call 123; (with_reducible refine (clientValid_any x y z t _).mono ?_); rintro e w2 ⟨rfl, hb2⟩; rw [hv])
            refine hK.out _ _ (by (try dsimp only); exact ⟨(hb2.cell (by show wr.heap.size < w1.heap.size; omega)).trans (d0), (hb2.cell (by show wr.heap.size < w1.heap.size; omega)).trans (d1), (hb2.cell (by show wr.heap.size < w1.heap.size; omega)).trans (d2), (hb2.cell (by show wr.heap.size < w1.heap.size; omega)).trans (d3), (hb2.cell (by show b < w1.heap.size; omega)).trans (p0), (hb2.cell (by show b < w1.heap.size; omega)).trans (p1), (hb2.cell (by show b < w1.heap.size; omega)).trans (p2), (hb2.cell (by show b < w1.heap.size; omega)).trans (p3)⟩) (fun hHeld => ?_)
            clear hK K
            try simp only [Act.put, List.setIfInBounds_toArray, List.set_cons_zero, List.set_cons_succ]
            have hsz2 : w1.heap.size ≤ w2.heap.size := hb2.size
            refine wpAnyH_take (i := 3) (oi := ⟨_, _, _, _, _, _⟩) (v := ?_) rfl (by kernel_rfl) (by kernel_rfl) (by kernel_rfl) (fun _ _ _ h => by exact h) (Or.inl ⟨by kernel_rfl, ?_⟩) (by assumption) ?_
            rotate_left
            focus
              intro w hSw
              (try dsimp only at hSw)
              go_simp
              try with_reducible rfl
            try simp only [Act.put, List.setIfInBounds_toArray, List.set_cons_zero, List.set_cons_succ]
            refine wpAnyH_take (i := 4) (oi := ⟨_, _, _, _, _, _⟩) (v := ?_) rfl (by kernel_rfl) (by kernel_rfl) (by kernel_rfl) (fun _ _ _ h => by exact h) (Or.inl ⟨by kernel_rfl, ?_⟩) (by assumption) ?_
            rotate_left
            focus
              intro w hSw
              (try dsimp only at hSw)
              go_simp
              try with_reducible rfl
            try simp only [Act.put, List.setIfInBounds_toArray, List.set_cons_zero, List.set_cons_succ]
            refine wpAnyH_take (i := 5) (oi := ⟨_, _, _, _, _, _⟩) (v := ?_) rfl (by kernel_rfl) (by kernel_rfl) (by kernel_rfl) (fun _ _ _ h => by exact h) (Or.inl ⟨by kernel_rfl, ?_⟩) (by assumption) ?_
            rotate_left
            focus
              intro w hSw
              (try dsimp only at hSw)
              go_simp
              try with_reducible rfl
            try simp only [Act.put, List.setIfInBounds_toArray, List.set_cons_zero, List.set_cons_succ]
            refine wpAnyH_take (i := 6) (oi := ⟨_, _, _, _, _, _⟩) (v := ?_) rfl (by kernel_rfl) (by kernel_rfl) (by kernel_rfl) (fun _ _ _ h => by exact h) (Or.inl ⟨by kernel_rfl, ?_⟩) (by assumption) ?_
            rotate_left
            focus
              intro w hSw
              (try dsimp only at hSw)
              go_simp
              try with_reducible rfl
            try simp only [Act.put, List.setIfInBounds_toArray, List.set_cons_zero, List.set_cons_succ]
            refine wpAnyH_take (i := 7) (oi := ⟨_, _, _, _, _, _⟩) (v := ?_) rfl (by kernel_rfl) (by kernel_rfl) (by kernel_rfl) (fun _ _ _ h => by exact h) (Or.inl ⟨by kernel_rfl, ?_⟩) (by assumption) ?_
            rotate_left
            focus
              intro w hSw
              (try dsimp only at hSw)
              go_simp
              try with_reducible rfl
            try simp only [Act.put, List.setIfInBounds_toArray, List.set_cons_zero, List.set_cons_succ]
            refine wpAnyH_take (i := 8) (oi := ⟨_, _, _, _, _, _⟩) (v := ?_) rfl (by kernel_rfl) (by kernel_rfl) (by kernel_rfl) (fun _ _ _ h => by exact h) (Or.inl ⟨by kernel_rfl, ?_⟩) (by assumption) ?_
            rotate_left
            focus
              intro w hSw
              (try dsimp only at hSw)
              go_simp
              try with_reducible rfl
            try simp only [Act.put, List.setIfInBounds_toArray, List.set_cons_zero, List.set_cons_succ]
            refine wpAnyH_take (i := 9) (oi := ⟨_, _, _, _, _, _⟩) (v := ?_) rfl (by kernel_rfl) (by kernel_rfl) (by kernel_rfl) (fun _ _ _ h => by exact h) (Or.inl ⟨by kernel_rfl, ?_⟩) (by assumption) ?_
            rotate_left
            focus
              intro w hSw
              (try dsimp only at hSw)
              go_simp
              try with_reducible rfl
            try simp only [Act.put, List.setIfInBounds_toArray, List.set_cons_zero, List.set_cons_succ]
            refine wpAnyH_take (i := 11) (oi := ⟨_, _, _, _, _, _⟩) (v := ?_) rfl (by kernel_rfl) (by kernel_rfl) (by kernel_rfl) (fun _ _ _ h => by exact h) (Or.inl ⟨by kernel_rfl, ?_⟩) (by assumption) ?_
            rotate_left
            focus
              intro w hSw
              (try dsimp only at hSw)
              go_simp
              try with_reducible rfl
            try simp only [Act.put, List.setIfInBounds_toArray, List.set_cons_zero, List.set_cons_succ]
            refine wpAnyH_take (i := 12) (oi := ⟨_, _, _, _, _, _⟩) (v := ?_) rfl (by kernel_rfl) (by kernel_rfl) (by kernel_rfl) (fun _ _ _ h => by exact h) (Or.inl ⟨by kernel_rfl, ?_⟩) (by assumption) ?_
            rotate_left
            focus
              intro w hSw
              (try dsimp only at hSw)
              go_simp
              try with_reducible rfl
            try simp only [Act.put, List.setIfInBounds_toArray, List.set_cons_zero, List.set_cons_succ]
            refine wpAnyH_take (i := 13) (oi := ⟨_, _, _, _, _, _⟩) (v := ?_) rfl (by kernel_rfl) (by kernel_rfl) (by kernel_rfl) (fun _ _ _ h => by exact h) (Or.inl ⟨by kernel_rfl, ?_⟩) (by assumption) ?_
            rotate_left
            focus
              intro w hSw
              (try dsimp only at hSw)
              go_simp
              try with_reducible rfl
            try simp only [Act.put, List.setIfInBounds_toArray, List.set_cons_zero, List.set_cons_succ]
            refine wpAnyH_take (i := 14) (oi := ⟨_, _, _, _, _, _⟩) (v := ?_) rfl (by kernel_rfl) (by kernel_rfl) (by kernel_rfl) (fun _ _ _ h => by exact h) (Or.inl ⟨by kernel_rfl, ?_⟩) (by assumption) ?_
            rotate_left
            focus
              intro w hSw
              (try dsimp only at hSw)
              go_simp
              try with_reducible rfl
            try simp only [Act.put, List.setIfInBounds_toArray, List.set_cons_zero, List.set_cons_succ]
            refine wpAnyH_take (i := 15) (oi := ⟨_, _, _, _, _, _⟩) (v := ?_) rfl (by kernel_rfl) (by kernel_rfl) (by kernel_rfl) (fun _ _ _ h => by exact h) (Or.inl ⟨by kernel_rfl, ?_⟩) (by assumption) ?_
            rotate_left
            focus
              intro w hSw
              (try dsimp only at hSw)
              go_simp
              try with_reducible rfl
            try simp only [Act.put, List.setIfInBounds_toArray, List.set_cons_zero, List.set_cons_succ]
            refine wpAnyH_take (i := 16) (oi := ⟨_, _, _, _, _, _⟩) (v := ?_) rfl (by kernel_rfl) (by kernel_rfl) (by kernel_rfl) (fun _ _ _ h => by exact h) (Or.inl ⟨by kernel_rfl, ?_⟩) (by assumption) ?_
            rotate_left
            focus
              intro w hSw
              (try dsimp only at hSw)
              go_simp
              try with_reducible rfl
            try simp only [Act.put, List.setIfInBounds_toArray, List.set_cons_zero, List.set_cons_succ]
            refine wpAnyH_ready (rs := [10]) (by kernel_rfl) (by simp) ?_
            refine AllReadyH.cons (o := ⟨_, _, _, _, _, _⟩) rfl (fun K hK => ?_) AllReadyH.nil
            go_simp
            (go_at_call 124; (with_reducible refine (numClient_any x y z t _).mono ?_); rintro e w5 ⟨rfl, hb5⟩)
            refine hK.out _ _ (by (try dsimp only); exact ⟨(hb5.cell (by show wr.heap.size < w2.heap.size; omega)).trans ((hb2.cell (by show wr.heap.size < w1.heap.size; omega)).trans (d0)), (hb5.cell (by show wr.heap.size < w2.heap.size; omega)).trans ((hb2.cell (by show wr.heap.size < w1.heap.size; omega)).trans (d1)), (hb5.cell (by show wr.heap.size < w2.heap.size; omega)).trans ((hb2.cell (by show wr.heap.size < w1.heap.size; omega)).trans (d2)), (hb5.cell (by show wr.heap.size < w2.heap.size; omega)).trans ((hb2.cell (by show wr.heap.size < w1.heap.size; omega)).trans (d3)), (hb5.cell (by show b < w2.heap.size; omega)).trans ((hb2.cell (by show b < w1.heap.size; omega)).trans (p0)), (hb5.cell (by show b < w2.heap.size; omega)).trans ((hb2.cell (by show b < w1.heap.size; omega)).trans (p1)), (hb5.cell (by show b < w2.heap.size; omega)).trans ((hb2.cell (by show b < w1.heap.size; omega)).trans (p2)), (hb5.cell (by show b < w2.heap.size; omega)).trans ((hb2.cell (by show b < w1.heap.size; omega)).trans (p3))⟩) (fun hHeld => ?_)
            clear hK K
            try simp only [Act.put, List.setIfInBounds_toArray, List.set_cons_zero, List.set_cons_succ]
            have hsz5 : w2.heap.size ≤ w5.heap.size := hb5.size
            refine wpAnyH_ready (rs := [17]) (by kernel_rfl) (by simp) ?_
            refine AllReadyH.cons (o := ⟨_, _, _, _, _, _⟩) rfl (fun K hK => ?_) AllReadyH.nil
            go_simp
            (go_at_call 124; (with_reducible refine (numClient_any x' y' z' t' _).mono ?_); rintro e w7 ⟨rfl, hb7⟩)
            refine hK.out _ _ (by (try dsimp only); exact ⟨(hb7.cell (by show wr.heap.size < w5.heap.size; omega)).trans ((hb5.cell (by show wr.heap.size < w2.heap.size; omega)).trans ((hb2.cell (by show wr.heap.size < w1.heap.size; omega)).trans (d0))), (hb7.cell (by show wr.heap.size < w5.heap.size; omega)).trans ((hb5.cell (by show wr.heap.size < w2.heap.size; omega)).trans ((hb2.cell (by show wr.heap.size < w1.heap.size; omega)).trans (d1))), (hb7.cell (by show wr.heap.size < w5.heap.size; omega)).trans ((hb5.cell (by show wr.heap.size < w2.heap.size; omega)).trans ((hb2.cell (by show wr.heap.size < w1.heap.size; omega)).trans (d2))), (hb7.cell (by show wr.heap.size < w5.heap.size; omega)).trans ((hb5.cell (by show wr.heap.size < w2.heap.size; omega)).trans ((hb2.cell (by show wr.heap.size < w1.heap.size; omega)).trans (d3))), (hb7.cell (by show b < w5.heap.size; omega)).trans ((hb5.cell (by show b < w2.heap.size; omega)).trans ((hb2.cell (by show b < w1.heap.size; omega)).trans (p0))), (hb7.cell (by show b < w5.heap.size; omega)).trans ((hb5.cell (by show b < w2.heap.size; omega)).trans ((hb2.cell (by show b < w1.heap.size; omega)).trans (p1))), (hb7.cell (by show b < w5.heap.size; omega)).trans ((hb5.cell (by show b < w2.heap.size; omega)).trans ((hb2.cell (by show b < w1.heap.size; omega)).trans (p2))), (hb7.cell (by show b < w5.heap.size; omega)).trans ((hb5.cell (by show b < w2.heap.size; omega)).trans ((hb2.cell (by show b < w1.heap.size; omega)).trans (p3)))⟩) (fun hHeld => ?_)
            clear hK K
            try simp only [Act.put, List.setIfInBounds_toArray, List.set_cons_zero, List.set_cons_succ]
            refine wpAnyH_take (i := 18) (oi := ⟨_, _, _, _, _, _⟩) (v := ?_) rfl (by kernel_rfl) (by kernel_rfl) (by kernel_rfl) (fun _ _ _ h => by exact h) (Or.inl ⟨by kernel_rfl, ?_⟩) (by assumption) ?_
            rotate_left
            focus
              intro w hSw
              (try dsimp only at hSw)
              go_simp
              try with_reducible rfl
            try simp only [Act.put, List.setIfInBounds_toArray, List.set_cons_zero, List.set_cons_succ]
            refine wpAnyH_take (i := 19) (oi := ⟨_, _, _, _, _, _⟩) (v := ?_) rfl (by kernel_rfl) (by kernel_rfl) (by kernel_rfl) (fun _ _ _ h => by exact h) (Or.inl ⟨by kernel_rfl, ?_⟩) (by assumption) ?_
            rotate_left
            focus
              intro w hSw
              (try dsimp only at hSw)
              go_simp
              try with_reducible rfl
            try simp only [Act.put, List.setIfInBounds_toArray, List.set_cons_zero, List.set_cons_succ]
            refine wpAnyH_take (i := 20) (oi := ⟨_, _, _, _, _, _⟩) (v := ?_) rfl (by kernel_rfl) (by kernel_rfl) (by kernel_rfl) (fun _ _ _ h => by exact h) (Or.inl ⟨by kernel_rfl, ?_⟩) (by assumption) ?_
            rotate_left
            focus
              intro w hSw
              (try dsimp only at hSw)
              go_simp
              try with_reducible rfl
            try simp only [Act.put, List.setIfInBounds_toArray, List.set_cons_zero, List.set_cons_succ]
            refine wpAnyH_done (by kernel_rfl) ?_ _
            focus
              have HBX := Lib.hid (up HB1.out (up (up (show Below w1.heap.size w1 w2 from by first | exact hb2 | exact up (up_drew (Below.refl _ _)) hb2) hb5) hb7))
              clear hb2 hb5 hb7 hv d0 d1 d2 d3 p0 p1 p2 p3 HE HM1 HB1
              go_wp2
              exact bodyPost_ret (v := .tuple #[.map none, .bool false]) (by simp [results, Try.results75, go_sem]) rfl (.inl ⟨HX.out, rfl, HBX.out⟩)
          · have HAH := Lib.hid (show ∀ y, ahead Prod.fst ps (j + 1) = some y → y < x from fun y h => by rw [HG'.out] at h; injection h with h; subst h; show x' < x; omega)
            have HS := Lib.hid (hS.out.trans (good_step HG.out HV.out HAH.out))
            have hlx : decide (x ≤ x') = false := decide_eq_false hle
            refine wp_region_held_drew (S := fun w' => w'.cell? ⟨wr.heap.size, 0, none⟩ = some (.int .i64 x) ∧ w'.cell? ⟨wr.heap.size, 1, none⟩ = some (.int .i64 y) ∧ w'.cell? ⟨wr.heap.size, 2, none⟩ = some (.int .i64 z) ∧ w'.cell? ⟨wr.heap.size, 3, none⟩ = some (.int .i64 t) ∧ w'.cell? ⟨b, off + j * 4, none⟩ = some (.int .i64 x') ∧ w'.cell? ⟨b, off + j * 4 + 1, none⟩ = some (.int .i64 y') ∧ w'.cell? ⟨b, off + j * 4 + 2, none⟩ = some (.int .i64 z') ∧ w'.cell? ⟨b, off + j * 4 + 3, none⟩ = some (.int .i64 t')) (by kernel_rfl) (by (try dsimp only); exact ⟨d0, d1, d2, d3, p0, p1, p2, p3⟩) (fun hHeld => ?_)
            refine wpAnyH_take (i := 0) (oi := ⟨_, _, _, _, _, _⟩) (v := ?_) rfl (by kernel_rfl) (by kernel_rfl) (by kernel_rfl) (fun _ _ _ h => by exact h) (Or.inl ⟨by kernel_rfl, ?_⟩) (by assumption) ?_
            rotate_left
            focus
              intro w hSw
              (try dsimp only at hSw)
              go_simp
              try with_reducible rfl
            try simp only [Act.put, List.setIfInBounds_toArray, List.set_cons_zero, List.set_cons_succ]
            refine wpAnyH_take (i := 1) (oi := ⟨_, _, _, _, _, _⟩) (v := ?_) rfl (by kernel_rfl) (by kernel_rfl) (by kernel_rfl) (fun _ _ _ h => by exact h) (Or.inl ⟨by kernel_rfl, ?_⟩) (by assumption) ?_
            rotate_left
            focus
              intro w hSw
              (try dsimp only at hSw)
              go_simp
              try with_reducible rfl
            try simp only [Act.put, List.setIfInBounds_toArray, List.set_cons_zero, List.set_cons_succ]
            refine wpAnyH_ready (rs := [2]) (by kernel_rfl) (by simp) ?_
            refine AllReadyH.cons (o := ⟨_, _, _, _, _, _⟩) rfl (fun K hK => ?_) AllReadyH.nil
            go_simp
            (go_at_call 123; (with_reducible refine (clientValid_any x y z t _).mono ?_); rintro e w2 ⟨rfl, hb2⟩; rw [hv])
            refine hK.out _ _ (by (try dsimp only); exact ⟨(hb2.cell (by show wr.heap.size < w1.heap.size; omega)).trans (d0), (hb2.cell (by show wr.heap.size < w1.heap.size; omega)).trans (d1), (hb2.cell (by show wr.heap.size < w1.heap.size; omega)).trans (d2), (hb2.cell (by show wr.heap.size < w1.heap.size; omega)).trans (d3), (hb2.cell (by show b < w1.heap.size; omega)).trans (p0), (hb2.cell (by show b < w1.heap.size; omega)).trans (p1), (hb2.cell (by show b < w1.heap.size; omega)).trans (p2), (hb2.cell (by show b < w1.heap.size; omega)).trans (p3)⟩) (fun hHeld => ?_)
            clear hK K
            try simp only [Act.put, List.setIfInBounds_toArray, List.set_cons_zero, List.set_cons_succ]
            have hsz2 : w1.heap.size ≤ w2.heap.size := hb2.size
            refine wpAnyH_take (i := 3) (oi := ⟨_, _, _, _, _, _⟩) (v := ?_) rfl (by kernel_rfl) (by kernel_rfl) (by kernel_rfl) (fun _ _ _ h => by exact h) (Or.inl ⟨by kernel_rfl, ?_⟩) (by assumption) ?_
            rotate_left
            focus
              intro w hSw
              (try dsimp only at hSw)
              go_simp
              try with_reducible rfl
            try simp only [Act.put, List.setIfInBounds_toArray, List.set_cons_zero, List.set_cons_succ]
            refine wpAnyH_take (i := 4) (oi := ⟨_, _, _, _, _, _⟩) (v := ?_) rfl (by kernel_rfl) (by kernel_rfl) (by kernel_rfl) (fun _ _ _ h => by exact h) (Or.inl ⟨by kernel_rfl, ?_⟩) (by assumption) ?_
            rotate_left
            focus
              intro w hSw
              (try dsimp only at hSw)
              go_simp
              try with_reducible rfl
            try simp only [Act.put, List.setIfInBounds_toArray, List.set_cons_zero, List.set_cons_succ]
            refine wpAnyH_take (i := 5) (oi := ⟨_, _, _, _, _, _⟩) (v := ?_) rfl (by kernel_rfl) (by kernel_rfl) (by kernel_rfl) (fun _ _ _ h => by exact h) (Or.inl ⟨by kernel_rfl, ?_⟩) (by assumption) ?_
            rotate_left
            focus
              intro w hSw
              (try dsimp only at hSw)
              go_simp
              try with_reducible rfl
            try simp only [Act.put, List.setIfInBounds_toArray, List.set_cons_zero, List.set_cons_succ]
            refine wpAnyH_take (i := 6) (oi := ⟨_, _, _, _, _, _⟩) (v := ?_) rfl (by kernel_rfl) (by kernel_rfl) (by kernel_rfl) (fun _ _ _ h => by exact h) (Or.inl ⟨by kernel_rfl, ?_⟩) (by assumption) ?_
            rotate_left
            focus
              intro w hSw
              (try dsimp only at hSw)
              go_simp
              try with_reducible rfl
            try simp only [Act.put, List.setIfInBounds_toArray, List.set_cons_zero, List.set_cons_succ]
            refine wpAnyH_take (i := 7) (oi := ⟨_, _, _, _, _, _⟩) (v := ?_) rfl (by kernel_rfl) (by kernel_rfl) (by kernel_rfl) (fun _ _ _ h => by exact h) (Or.inl ⟨by kernel_rfl, ?_⟩) (by assumption) ?_
            rotate_left
            focus
              intro w hSw
              (try dsimp only at hSw)
              go_simp
              try with_reducible rfl
            try simp only [Act.put, List.setIfInBounds_toArray, List.set_cons_zero, List.set_cons_succ]
            refine wpAnyH_take (i := 8) (oi := ⟨_, _, _, _, _, _⟩) (v := ?_) rfl (by kernel_rfl) (by kernel_rfl) (by kernel_rfl) (fun _ _ _ h => by exact h) (Or.inl ⟨by kernel_rfl, ?_⟩) (by assumption) ?_
            rotate_left
            focus
              intro w hSw
              (try dsimp only at hSw)
              go_simp
              try with_reducible rfl
            try simp only [Act.put, List.setIfInBounds_toArray, List.set_cons_zero, List.set_cons_succ]
            refine wpAnyH_take (i := 9) (oi := ⟨_, _, _, _, _, _⟩) (v := ?_) rfl (by kernel_rfl) (by kernel_rfl) (by kernel_rfl) (fun _ _ _ h => by exact h) (Or.inl ⟨by kernel_rfl, ?_⟩) (by assumption) ?_
            rotate_left
            focus
              intro w hSw
              (try dsimp only at hSw)
              go_simp
              try with_reducible rfl
            try simp only [Act.put, List.setIfInBounds_toArray, List.set_cons_zero, List.set_cons_succ]
            refine wpAnyH_take (i := 11) (oi := ⟨_, _, _, _, _, _⟩) (v := ?_) rfl (by kernel_rfl) (by kernel_rfl) (by kernel_rfl) (fun _ _ _ h => by exact h) (Or.inl ⟨by kernel_rfl, ?_⟩) (by assumption) ?_
            rotate_left
            focus
              intro w hSw
              (try dsimp only at hSw)
              go_simp
              try with_reducible rfl
            try simp only [Act.put, List.setIfInBounds_toArray, List.set_cons_zero, List.set_cons_succ]
            refine wpAnyH_take (i := 12) (oi := ⟨_, _, _, _, _, _⟩) (v := ?_) rfl (by kernel_rfl) (by kernel_rfl) (by kernel_rfl) (fun _ _ _ h => by exact h) (Or.inl ⟨by kernel_rfl, ?_⟩) (by assumption) ?_
            rotate_left
            focus
              intro w hSw
              (try dsimp only at hSw)
              go_simp
              try with_reducible rfl
            try simp only [Act.put, List.setIfInBounds_toArray, List.set_cons_zero, List.set_cons_succ]
            refine wpAnyH_take (i := 13) (oi := ⟨_, _, _, _, _, _⟩) (v := ?_) rfl (by kernel_rfl) (by kernel_rfl) (by kernel_rfl) (fun _ _ _ h => by exact h) (Or.inl ⟨by kernel_rfl, ?_⟩) (by assumption) ?_
            rotate_left
            focus
              intro w hSw
              (try dsimp only at hSw)
              go_simp
              try with_reducible rfl
            try simp only [Act.put, List.setIfInBounds_toArray, List.set_cons_zero, List.set_cons_succ]
            refine wpAnyH_take (i := 14) (oi := ⟨_, _, _, _, _, _⟩) (v := ?_) rfl (by kernel_rfl) (by kernel_rfl) (by kernel_rfl) (fun _ _ _ h => by exact h) (Or.inl ⟨by kernel_rfl, ?_⟩) (by assumption) ?_
            rotate_left
            focus
              intro w hSw
              (try dsimp only at hSw)
              go_simp
              try with_reducible rfl
            try simp only [Act.put, List.setIfInBounds_toArray, List.set_cons_zero, List.set_cons_succ]
            refine wpAnyH_take (i := 15) (oi := ⟨_, _, _, _, _, _⟩) (v := ?_) rfl (by kernel_rfl) (by kernel_rfl) (by kernel_rfl) (fun _ _ _ h => by exact h) (Or.inl ⟨by kernel_rfl, ?_⟩) (by assumption) ?_
            rotate_left
            focus
              intro w hSw
              (try dsimp only at hSw)
              go_simp
              try with_reducible rfl
            try simp only [Act.put, List.setIfInBounds_toArray, List.set_cons_zero, List.set_cons_succ]
            refine wpAnyH_take (i := 16) (oi := ⟨_, _, _, _, _, _⟩) (v := ?_) rfl (by kernel_rfl) (by kernel_rfl) (by kernel_rfl) (fun _ _ _ h => by exact h) (Or.inl ⟨by kernel_rfl, ?_⟩) (by assumption) ?_
            rotate_left
            focus
              intro w hSw
              (try dsimp only at hSw)
              go_simp
              try with_reducible rfl
            try simp only [Act.put, List.setIfInBounds_toArray, List.set_cons_zero, List.set_cons_succ]
            refine wpAnyH_ready (rs := [10]) (by kernel_rfl) (by simp) ?_
            refine AllReadyH.cons (o := ⟨_, _, _, _, _, _⟩) rfl (fun K hK => ?_) AllReadyH.nil
            go_simp
            (go_at_call 124; (with_reducible refine (numClient_any x y z t _).mono ?_); rintro e w5 ⟨rfl, hb5⟩)
            refine hK.out _ _ (by (try dsimp only); exact ⟨(hb5.cell (by show wr.heap.size < w2.heap.size; omega)).trans ((hb2.cell (by show wr.heap.size < w1.heap.size; omega)).trans (d0)), (hb5.cell (by show wr.heap.size < w2.heap.size; omega)).trans ((hb2.cell (by show wr.heap.size < w1.heap.size; omega)).trans (d1)), (hb5.cell (by show wr.heap.size < w2.heap.size; omega)).trans ((hb2.cell (by show wr.heap.size < w1.heap.size; omega)).trans (d2)), (hb5.cell (by show wr.heap.size < w2.heap.size; omega)).trans ((hb2.cell (by show wr.heap.size < w1.heap.size; omega)).trans (d3)), (hb5.cell (by show b < w2.heap.size; omega)).trans ((hb2.cell (by show b < w1.heap.size; omega)).trans (p0)), (hb5.cell (by show b < w2.heap.size; omega)).trans ((hb2.cell (by show b < w1.heap.size; omega)).trans (p1)), (hb5.cell (by show b < w2.heap.size; omega)).trans ((hb2.cell (by show b < w1.heap.size; omega)).trans (p2)), (hb5.cell (by show b < w2.heap.size; omega)).trans ((hb2.cell (by show b < w1.heap.size; omega)).trans (p3))⟩) (fun hHeld => ?_)
            clear hK K
            try simp only [Act.put, List.setIfInBounds_toArray, List.set_cons_zero, List.set_cons_succ]
            have hsz5 : w2.heap.size ≤ w5.heap.size := hb5.size
            refine wpAnyH_ready (rs := [17]) (by kernel_rfl) (by simp) ?_
            refine AllReadyH.cons (o := ⟨_, _, _, _, _, _⟩) rfl (fun K hK => ?_) AllReadyH.nil
            go_simp
            (go_at_call 124; (with_reducible refine (numClient_any x' y' z' t' _).mono ?_); rintro e w7 ⟨rfl, hb7⟩)
            refine hK.out _ _ (by (try dsimp only); exact ⟨(hb7.cell (by show wr.heap.size < w5.heap.size; omega)).trans ((hb5.cell (by show wr.heap.size < w2.heap.size; omega)).trans ((hb2.cell (by show wr.heap.size < w1.heap.size; omega)).trans (d0))), (hb7.cell (by show wr.heap.size < w5.heap.size; omega)).trans ((hb5.cell (by show wr.heap.size < w2.heap.size; omega)).trans ((hb2.cell (by show wr.heap.size < w1.heap.size; omega)).trans (d1))), (hb7.cell (by show wr.heap.size < w5.heap.size; omega)).trans ((hb5.cell (by show wr.heap.size < w2.heap.size; omega)).trans ((hb2.cell (by show wr.heap.size < w1.heap.size; omega)).trans (d2))), (hb7.cell (by show wr.heap.size < w5.heap.size; omega)).trans ((hb5.cell (by show wr.heap.size < w2.heap.size; omega)).trans ((hb2.cell (by show wr.heap.size < w1.heap.size; omega)).trans (d3))), (hb7.cell (by show b < w5.heap.size; omega)).trans ((hb5.cell (by show b < w2.heap.size; omega)).trans ((hb2.cell (by show b < w1.heap.size; omega)).trans (p0))), (hb7.cell (by show b < w5.heap.size; omega)).trans ((hb5.cell (by show b < w2.heap.size; omega)).trans ((hb2.cell (by show b < w1.heap.size; omega)).trans (p1))), (hb7.cell (by show b < w5.heap.size; omega)).trans ((hb5.cell (by show b < w2.heap.size; omega)).trans ((hb2.cell (by show b < w1.heap.size; omega)).trans (p2))), (hb7.cell (by show b < w5.heap.size; omega)).trans ((hb5.cell (by show b < w2.heap.size; omega)).trans ((hb2.cell (by show b < w1.heap.size; omega)).trans (p3)))⟩) (fun hHeld => ?_)
            clear hK K
            try simp only [Act.put, List.setIfInBounds_toArray, List.set_cons_zero, List.set_cons_succ]
            refine wpAnyH_take (i := 18) (oi := ⟨_, _, _, _, _, _⟩) (v := ?_) rfl (by kernel_rfl) (by kernel_rfl) (by kernel_rfl) (fun _ _ _ h => by exact h) (Or.inl ⟨by kernel_rfl, ?_⟩) (by assumption) ?_
            rotate_left
            focus
              intro w hSw
              (try dsimp only at hSw)
              go_simp
              try with_reducible rfl
            try simp only [Act.put, List.setIfInBounds_toArray, List.set_cons_zero, List.set_cons_succ]
            refine wpAnyH_take (i := 19) (oi := ⟨_, _, _, _, _, _⟩) (v := ?_) rfl (by kernel_rfl) (by kernel_rfl) (by kernel_rfl) (fun _ _ _ h => by exact h) (Or.inl ⟨by kernel_rfl, ?_⟩) (by assumption) ?_
            rotate_left
            focus
              intro w hSw
              (try dsimp only at hSw)
              go_simp
              try with_reducible rfl
            try simp only [Act.put, List.setIfInBounds_toArray, List.set_cons_zero, List.set_cons_succ]
            refine wpAnyH_take (i := 20) (oi := ⟨_, _, _, _, _, _⟩) (v := ?_) rfl (by kernel_rfl) (by kernel_rfl) (by kernel_rfl) (fun _ _ _ h => by exact h) (Or.inl ⟨by kernel_rfl, ?_⟩) (by assumption) ?_
            rotate_left
            focus
              intro w hSw
              (try dsimp only at hSw)
              go_simp
              try with_reducible rfl
            try simp only [Act.put, List.setIfInBounds_toArray, List.set_cons_zero, List.set_cons_succ]
            refine wpAnyH_done (by kernel_rfl) ?_ _
            focus
              have HB7 := Lib.hid (up (up (show Below w1.heap.size w1 w2 from by first | exact hb2 | exact up (up_drew (Below.refl _ _)) hb2) hb5) hb7)
              have hs7 := HB7.out.size
              have HE7 := Lib.hid (HE.out.below HB7.out (by omega))
              have HM7 := Lib.hid (HM1.out.keep HB7.out (by omega))
              have HBX := Lib.hid (up HB1.out HB7.out)
              clear hb2 hb5 hb7 hv d0 d1 d2 d3 p0 p1 p2 p3 HE HM1 HB1
              have d0 : w7.cell? ⟨wr.heap.size, 0, none⟩ = some (.int .i64 x) := HE7.out.cell 0
              have d1 : w7.cell? ⟨wr.heap.size, 1, none⟩ = some (.int .i64 y) := HE7.out.cell 1
              have d2 : w7.cell? ⟨wr.heap.size, 2, none⟩ = some (.int .i64 z) := HE7.out.cell 2
              have d3 : w7.cell? ⟨wr.heap.size, 3, none⟩ = some (.int .i64 t) := HE7.out.cell 3
              go_wp2
              go_region_law (first
                | (go_simp; go_at_call 124; (with_reducible refine (numClient_any x y z t _).mono ?_); rintro e w6 ⟨rfl, hb6⟩
                   have HB6 := Lib.hid (show Below w7.heap.size w7 w6 from by first | exact hb6 | exact up (up_drew (Below.refl _ _)) hb6)
                   have hs6 := HB6.out.size
                   have g0 : w6.cell? ⟨wr.heap.size, 0, none⟩ = some (.int .i64 x) := (HB6.out.cell (by show wr.heap.size < w7.heap.size; omega)).trans d0
                   have g1 : w6.cell? ⟨wr.heap.size, 1, none⟩ = some (.int .i64 y) := (HB6.out.cell (by show wr.heap.size < w7.heap.size; omega)).trans d1
                   have g2 : w6.cell? ⟨wr.heap.size, 2, none⟩ = some (.int .i64 z) := (HB6.out.cell (by show wr.heap.size < w7.heap.size; omega)).trans d2
                   have g3 : w6.cell? ⟨wr.heap.size, 3, none⟩ = some (.int .i64 t) := (HB6.out.cell (by show wr.heap.size < w7.heap.size; omega)).trans d3
                   have HM6 := Lib.hid (HM7.out.keep HB6.out (by omega))
                   have HB8 := Lib.hid (up HBX.out HB6.out)
                   obtain ⟨w8, hrun8, hm8, hg8⟩ := HM6.out.put keyedIntN Try.underlying3 Try.underlying75 (by unfold maxLen; omega) (x, y, z, t) (in64_small (by show -1000000 ≤ x; omega) (by show x ≤ 1000000; omega))
                   try simp only [svQ] at hrun8))
              all_goals
                have hs8 := hg8.size
                have HM8 := Lib.hid hm8
                have HB9 := Lib.hid (HB8.out.grown hg8 (by have := HB8.out.size; omega) (fun j hj => by injection hj with hj; omega))
                clear hm8 hg8 hb6 g0 g1 g2 g3
                go_wp2
                go_roundw
                case rel => exact ⟨_ + 1, by omega, by go_num, HS, by omega, by rw [← ins_take HM7.out.2 HG.out HAH.out]; exact HM8, HB9⟩
                case measure => simp [Go.RowKit.intOf]; omega
    · obtain rfl : k = n := by omega
      have HX := Lib.hid (show good Prod.fst okCl ps = true by rw [hS.out, List.drop_of_length_le (by rw [HL.out]; omega)]; rfl)
      have HM2 := Lib.hid (show NMap Try.prog 3 wr w.heap.size ps.length Prod.fst svQ ps from by
        have h := HM.out
        rw [List.take_of_length_le (by rw [HL.out]; omega)] at h
        rw [HL.out]
        exact h)
      go_wp2
      exact bodyPost_ret (v := .tuple #[.map (some w.heap.size), .bool true]) (by simp [results, Try.results75, go_sem]) rfl (.inr ⟨HX.out, _, rfl, HM2.out, Nat.le_refl _, HB.out⟩)
end Go.Proofs.Ytipoakimjhfhfab
