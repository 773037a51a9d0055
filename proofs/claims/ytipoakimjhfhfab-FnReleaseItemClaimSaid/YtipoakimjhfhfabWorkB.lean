/- impl.byNumber at impl.Item. (Written by gen/bynum.py.) -/
import Derived.Test.YtipoakimjhfhfabNumKeys
import Derived.Test.YtipoakimjhfhfabTripMem
import Derived.Deep.RegionLaw
import Derived.Deep.RegionHeld3
set_option linter.unusedSimpArgs false
set_option linter.unusedVariables false
namespace Go.Proofs.Ytipoakimjhfhfab
open Go.RowKit Go.Maps

theorem mthValidItem (x y z : Int) (fuel : Nat) (w : World) : (method (fuel + 1) 30 (.agg #[.int .i64 x, .int .i64 y, .int .i64 z]) "loop.example/processengine/impl.isValid").run Try.prog w = .ok (121, .agg #[.int .i64 x, .int .i64 y, .int .i64 z]) w := by kernel_rfl
theorem nilValidItem (x y z : Int) (fuel : Nat) (w : World) : (nilAhead (fuel + 1) 30 (.agg #[.int .i64 x, .int .i64 y, .int .i64 z]) "loop.example/processengine/impl.isValid").run Try.prog w = .ok (some false) w := by kernel_rfl
theorem calValidItem (a : Value) (w : World) : (callFunc 121 #[a]).run Try.prog w = .ok (.enter 121 #[a]) w := by kernel_rfl
theorem mthNumItem (x y z : Int) (fuel : Nat) (w : World) : (method (fuel + 1) 30 (.agg #[.int .i64 x, .int .i64 y, .int .i64 z]) "loop.example/processengine/impl.number").run Try.prog w = .ok (122, .agg #[.int .i64 x, .int .i64 y, .int .i64 z]) w := by kernel_rfl
theorem nilNumItem (x y z : Int) (fuel : Nat) (w : World) : (nilAhead (fuel + 1) 30 (.agg #[.int .i64 x, .int .i64 y, .int .i64 z]) "loop.example/processengine/impl.number").run Try.prog w = .ok (some false) w := by kernel_rfl
theorem calNumItem (a : Value) (w : World) : (callFunc 122 #[a]).run Try.prog w = .ok (.enter 122 #[a]) w := by kernel_rfl
set_option maxRecDepth 100000 in
set_option maxHeartbeats 3200000 in
theorem byNumItem_any (lo hi n c : Nat) (A : Option Addr) (ps : List Tri) (w : World) (hr : Rd w lo hi 3 A n (tvs ps)) (hB : hi ≤ w.heap.size) (hn : n ≤ 1048576) :
    Calls Try.prog 71 #[.slice A n c] w (BPost svT Prod.fst okItem ps w) := by
  have HL := Lib.hid hr.len3
  have hmm := @run_makeMap Try.prog
  have hmv := mthValidItem
  have hnv := nilValidItem
  have hcv := calValidItem
  have hma := mthNumItem
  have hna := nilNumItem
  have hca := calNumItem
  go_enter Try.func71, Try.ntmps71
  go_wp2
  clear hmm
  go_loopw [10] (fun iv wr => ∃ (k : Nat), k ≤ n ∧ iv = .int .i64 k ∧ Hid (good Prod.fst okItem ps = goodFrom Prod.fst okItem (ahead Prod.fst ps k) (ps.drop k)) ∧ w.heap.size < wr.heap.size ∧ Hid (NMap Try.prog 3 wr w.heap.size k Prod.fst svT (ps.take k)) ∧ Hid (Below w.heap.size w wr))
     (fun iv _ => n - (Go.RowKit.intOf iv).toNat)
  case atStart => exact ⟨0, by omega, rfl, rfl, by simp, by rw [List.take_zero]; exact NMap.made _ _ _ _ _, up_alloc (Below.refl _ _) _⟩
  case round =>
    obtain ⟨k, hk, rfl, hS, hws, HM, HB⟩ := hrel
    by_cases hlt : k < n
    · obtain ⟨b, off, x, y, z, hA, hbB, _, hg, hc0, hc1, hc2⟩ := (hr.keep HB.out hB).trip hlt
      subst hA
      have hkn : (k : Int) < (n : Int) := by omega
      have hk0 : (0 : Int) ≤ (k : Int) := by omega
      have hbw : b < wr.heap.size := by omega
      have HG := Lib.hid hg
      clear hg
      have hs1 : (wr.alloc (.cells #[.int .i64 x, .int .i64 y, .int .i64 z] 30)).heap.size = wr.heap.size + 1 := by simp
      have HE := Lib.hid (Blk.new wr 30 #[.int .i64 x, .int .i64 y, .int .i64 z])
      have HM1 := Lib.hid (HM.out.alloc (.cells #[.int .i64 x, .int .i64 y, .int .i64 z] 30))
      have HB1 := Lib.hid (up_alloc HB.out (.cells #[.int .i64 x, .int .i64 y, .int .i64 z] 30))
      have HR1 := Lib.hid (hr.keep HB1.out hB)
      go_wp2
      generalize hw1 : wr.alloc (.cells #[.int .i64 x, .int .i64 y, .int .i64 z] 30) = w1 at *
      clear hw1 HM HB hc0 hc1 hc2
      have d0 : w1.cell? ⟨wr.heap.size, 0, none⟩ = some (.int .i64 x) := HE.out.cell 0
      have d1 : w1.cell? ⟨wr.heap.size, 1, none⟩ = some (.int .i64 y) := HE.out.cell 1
      have d2 : w1.cell? ⟨wr.heap.size, 2, none⟩ = some (.int .i64 z) := HE.out.cell 2
      cases hv : okItem (x, y, z) with
      | false =>
        have HX := Lib.hid (show good Prod.fst okItem ps = false by rw [hS.out, good_bad HG.out (.inl hv)])
        refine wp_region_held_drew (S := fun w' => w'.cell? ⟨wr.heap.size, 0, none⟩ = some (.int .i64 x) ∧ w'.cell? ⟨wr.heap.size, 1, none⟩ = some (.int .i64 y) ∧ w'.cell? ⟨wr.heap.size, 2, none⟩ = some (.int .i64 z)) (by kernel_rfl) (by (try dsimp only); exact ⟨d0, d1, d2⟩) (fun hHeld => ?_)
        refine wpAnyH_take (i := 0) (oi := ⟨_, _, _, _, _, _⟩) (v := ?_) rfl (by kernel_rfl) (by kernel_rfl) (by kernel_rfl) (fun _ _ _ h => by exact h) (Or.inl ⟨by kernel_rfl, ?_⟩) (by assumption) ?_
        rotate_left
        focus
          intro w hSw
          (try dsimp only at hSw)
          go_simp
          try with_reducible rfl
        try simp only [Act.put, List.setIfInBounds_toArray, List.set_cons_zero, List.set_cons_succ]
        refine wpAnyH_take (i := 1) (oi := ⟨_, _, _, _, _, _⟩) (v := ?_) rfl (by kernel_rfl) (by kernel_rfl) (by kernel_rfl) (fun _ _ _ h => by exact h) (Or.inl ⟨by kernel_rfl, ?_⟩) (by assumption) ?_
        rotate_left
        focus
          intro w hSw
          (try dsimp only at hSw)
          go_simp
          try with_reducible rfl
        try simp only [Act.put, List.setIfInBounds_toArray, List.set_cons_zero, List.set_cons_succ]
        refine wpAnyH_ready (rs := [2]) (by kernel_rfl) (by simp) ?_
        refine AllReadyH.cons (o := ⟨_, _, _, _, _, _⟩) rfl (fun K hK => ?_) AllReadyH.nil
        go_simp
        (go_at_call 121; (with_reducible refine (itemValid_any x y z _).mono ?_); rintro e w2 ⟨rfl, hb2⟩; rw [hv])
        refine hK.out _ _ (by (try dsimp only); exact ⟨(hb2.cell (by show wr.heap.size < w1.heap.size; omega)).trans (d0), (hb2.cell (by show wr.heap.size < w1.heap.size; omega)).trans (d1), (hb2.cell (by show wr.heap.size < w1.heap.size; omega)).trans (d2)⟩) (fun hHeld => ?_)
        clear hK K
        try simp only [Act.put, List.setIfInBounds_toArray, List.set_cons_zero, List.set_cons_succ]
        refine wpAnyH_take (i := 3) (oi := ⟨_, _, _, _, _, _⟩) (v := ?_) rfl (by kernel_rfl) (by kernel_rfl) (by kernel_rfl) (fun _ _ _ h => by exact h) (Or.inl ⟨by kernel_rfl, ?_⟩) (by assumption) ?_
        rotate_left
        focus
          intro w hSw
          (try dsimp only at hSw)
          go_simp
          try with_reducible rfl
        try simp only [Act.put, List.setIfInBounds_toArray, List.set_cons_zero, List.set_cons_succ]
        refine wpAnyH_take (i := 4) (oi := ⟨_, _, _, _, _, _⟩) (v := ?_) rfl (by kernel_rfl) (by kernel_rfl) (by kernel_rfl) (fun _ _ _ h => by exact h) (Or.inl ⟨by kernel_rfl, ?_⟩) (by assumption) ?_
        rotate_left
        focus
          intro w hSw
          (try dsimp only at hSw)
          go_simp
          try with_reducible rfl
        try simp only [Act.put, List.setIfInBounds_toArray, List.set_cons_zero, List.set_cons_succ]
        refine wpAnyH_take (i := 5) (oi := ⟨_, _, _, _, _, _⟩) (v := undef) rfl (by kernel_rfl) (by kernel_rfl) (by kernel_rfl) (fun _ _ _ h => by exact h) (Or.inr ⟨by kernel_rfl, rfl⟩) (by assumption) ?_
        try simp only [Act.put, List.setIfInBounds_toArray, List.set_cons_zero, List.set_cons_succ]
        refine wpAnyH_take (i := 6) (oi := ⟨_, _, _, _, _, _⟩) (v := undef) rfl (by kernel_rfl) (by kernel_rfl) (by kernel_rfl) (fun _ _ _ h => by exact h) (Or.inr ⟨by kernel_rfl, rfl⟩) (by assumption) ?_
        try simp only [Act.put, List.setIfInBounds_toArray, List.set_cons_zero, List.set_cons_succ]
        refine wpAnyH_take (i := 7) (oi := ⟨_, _, _, _, _, _⟩) (v := undef) rfl (by kernel_rfl) (by kernel_rfl) (by kernel_rfl) (fun _ _ _ h => by exact h) (Or.inr ⟨by kernel_rfl, rfl⟩) (by assumption) ?_
        try simp only [Act.put, List.setIfInBounds_toArray, List.set_cons_zero, List.set_cons_succ]
        refine wpAnyH_take (i := 8) (oi := ⟨_, _, _, _, _, _⟩) (v := undef) rfl (by kernel_rfl) (by kernel_rfl) (by kernel_rfl) (fun _ _ _ h => by exact h) (Or.inr ⟨by kernel_rfl, rfl⟩) (by assumption) ?_
        try simp only [Act.put, List.setIfInBounds_toArray, List.set_cons_zero, List.set_cons_succ]
        refine wpAnyH_take (i := 9) (oi := ⟨_, _, _, _, _, _⟩) (v := undef) rfl (by kernel_rfl) (by kernel_rfl) (by kernel_rfl) (fun _ _ _ h => by exact h) (Or.inr ⟨by kernel_rfl, rfl⟩) (by assumption) ?_
        try simp only [Act.put, List.setIfInBounds_toArray, List.set_cons_zero, List.set_cons_succ]
        refine wpAnyH_take (i := 10) (oi := ⟨_, _, _, _, _, _⟩) (v := undef) rfl (by kernel_rfl) (by kernel_rfl) (by kernel_rfl) (fun _ _ _ h => by exact h) (Or.inr ⟨by kernel_rfl, rfl⟩) (by assumption) ?_
        try simp only [Act.put, List.setIfInBounds_toArray, List.set_cons_zero, List.set_cons_succ]
        refine wpAnyH_take (i := 11) (oi := ⟨_, _, _, _, _, _⟩) (v := undef) rfl (by kernel_rfl) (by kernel_rfl) (by kernel_rfl) (fun _ _ _ h => by exact h) (Or.inr ⟨by kernel_rfl, rfl⟩) (by assumption) ?_
        try simp only [Act.put, List.setIfInBounds_toArray, List.set_cons_zero, List.set_cons_succ]
        refine wpAnyH_take (i := 12) (oi := ⟨_, _, _, _, _, _⟩) (v := undef) rfl (by kernel_rfl) (by kernel_rfl) (by kernel_rfl) (fun _ _ _ h => by exact h) (Or.inr ⟨by kernel_rfl, rfl⟩) (by assumption) ?_
        try simp only [Act.put, List.setIfInBounds_toArray, List.set_cons_zero, List.set_cons_succ]
        refine wpAnyH_take (i := 13) (oi := ⟨_, _, _, _, _, _⟩) (v := undef) rfl (by kernel_rfl) (by kernel_rfl) (by kernel_rfl) (fun _ _ _ h => by exact h) (Or.inr ⟨by kernel_rfl, rfl⟩) (by assumption) ?_
        try simp only [Act.put, List.setIfInBounds_toArray, List.set_cons_zero, List.set_cons_succ]
        refine wpAnyH_take (i := 14) (oi := ⟨_, _, _, _, _, _⟩) (v := undef) rfl (by kernel_rfl) (by kernel_rfl) (by kernel_rfl) (fun _ _ _ h => by exact h) (Or.inr ⟨by kernel_rfl, rfl⟩) (by assumption) ?_
        try simp only [Act.put, List.setIfInBounds_toArray, List.set_cons_zero, List.set_cons_succ]
        refine wpAnyH_take (i := 15) (oi := ⟨_, _, _, _, _, _⟩) (v := undef) rfl (by kernel_rfl) (by kernel_rfl) (by kernel_rfl) (fun _ _ _ h => by exact h) (Or.inr ⟨by kernel_rfl, rfl⟩) (by assumption) ?_
        try simp only [Act.put, List.setIfInBounds_toArray, List.set_cons_zero, List.set_cons_succ]
        refine wpAnyH_take (i := 16) (oi := ⟨_, _, _, _, _, _⟩) (v := undef) rfl (by kernel_rfl) (by kernel_rfl) (by kernel_rfl) (fun _ _ _ h => by exact h) (Or.inr ⟨by kernel_rfl, rfl⟩) (by assumption) ?_
        try simp only [Act.put, List.setIfInBounds_toArray, List.set_cons_zero, List.set_cons_succ]
        refine wpAnyH_take (i := 17) (oi := ⟨_, _, _, _, _, _⟩) (v := undef) rfl (by kernel_rfl) (by kernel_rfl) (by kernel_rfl) (fun _ _ _ h => by exact h) (Or.inr ⟨by kernel_rfl, rfl⟩) (by assumption) ?_
        try simp only [Act.put, List.setIfInBounds_toArray, List.set_cons_zero, List.set_cons_succ]
        refine wpAnyH_take (i := 18) (oi := ⟨_, _, _, _, _, _⟩) (v := undef) rfl (by kernel_rfl) (by kernel_rfl) (by kernel_rfl) (fun _ _ _ h => by exact h) (Or.inr ⟨by kernel_rfl, rfl⟩) (by assumption) ?_
        try simp only [Act.put, List.setIfInBounds_toArray, List.set_cons_zero, List.set_cons_succ]
        refine wpAnyH_take (i := 19) (oi := ⟨_, _, _, _, _, _⟩) (v := undef) rfl (by kernel_rfl) (by kernel_rfl) (by kernel_rfl) (fun _ _ _ h => by exact h) (Or.inr ⟨by kernel_rfl, rfl⟩) (by assumption) ?_
        try simp only [Act.put, List.setIfInBounds_toArray, List.set_cons_zero, List.set_cons_succ]
        refine wpAnyH_take (i := 20) (oi := ⟨_, _, _, _, _, _⟩) (v := ?_) rfl (by kernel_rfl) (by kernel_rfl) (by kernel_rfl) (fun _ _ _ h => by exact h) (Or.inl ⟨by kernel_rfl, ?_⟩) (by assumption) ?_
        rotate_left
        focus
          intro w hSw
          (try dsimp only at hSw)
          go_simp
          try with_reducible rfl
        try simp only [Act.put, List.setIfInBounds_toArray, List.set_cons_zero, List.set_cons_succ]
        refine wpAnyH_done (by kernel_rfl) ?_ _
        have HB2 := Lib.hid (up HB1.out (show Below w1.heap.size w1 w2 from by first | exact hb2 | exact up (up_drew (Below.refl _ _)) hb2))
        clear hv hb2 d0 d1 d2
        go_wp2
        exact bodyPost_ret (v := .tuple #[.map none, .bool false]) (by simp [results, Try.results71, go_sem]) rfl (.inl ⟨HX.out, rfl, HB2.out⟩)
      | true =>
        have HV := Lib.hid hv
        have hx : 0 ≤ x ∧ x ≤ 999 := by
          simp only [okItem, Bool.and_eq_true, inR_iff] at hv
          omega
        rcases Nat.eq_zero_or_pos k with hz | hz
        · have HAH := Lib.hid (show ∀ y, ahead Prod.fst ps k = some y → y < x from fun y h => by subst hz; cases h)
          have hgt : decide (0 < k) = false := decide_eq_false (by omega)
          clear hz
          have HS := Lib.hid (hS.out.trans (good_step HG.out HV.out HAH.out))
          refine wp_region_held_drew (S := fun w' => w'.cell? ⟨wr.heap.size, 0, none⟩ = some (.int .i64 x) ∧ w'.cell? ⟨wr.heap.size, 1, none⟩ = some (.int .i64 y) ∧ w'.cell? ⟨wr.heap.size, 2, none⟩ = some (.int .i64 z)) (by kernel_rfl) (by (try dsimp only); exact ⟨d0, d1, d2⟩) (fun hHeld => ?_)
          refine wpAnyH_take (i := 0) (oi := ⟨_, _, _, _, _, _⟩) (v := ?_) rfl (by kernel_rfl) (by kernel_rfl) (by kernel_rfl) (fun _ _ _ h => by exact h) (Or.inl ⟨by kernel_rfl, ?_⟩) (by assumption) ?_
          rotate_left
          focus
            intro w hSw
            (try dsimp only at hSw)
            go_simp
            try with_reducible rfl
          try simp only [Act.put, List.setIfInBounds_toArray, List.set_cons_zero, List.set_cons_succ]
          refine wpAnyH_take (i := 1) (oi := ⟨_, _, _, _, _, _⟩) (v := ?_) rfl (by kernel_rfl) (by kernel_rfl) (by kernel_rfl) (fun _ _ _ h => by exact h) (Or.inl ⟨by kernel_rfl, ?_⟩) (by assumption) ?_
          rotate_left
          focus
            intro w hSw
            (try dsimp only at hSw)
            go_simp
            try with_reducible rfl
          try simp only [Act.put, List.setIfInBounds_toArray, List.set_cons_zero, List.set_cons_succ]
          refine wpAnyH_ready (rs := [2]) (by kernel_rfl) (by simp) ?_
          refine AllReadyH.cons (o := ⟨_, _, _, _, _, _⟩) rfl (fun K hK => ?_) AllReadyH.nil
          go_simp
          (go_at_call 121; (with_reducible refine (itemValid_any x y z _).mono ?_); rintro e w2 ⟨rfl, hb2⟩; rw [hv])
          refine hK.out _ _ (by (try dsimp only); exact ⟨(hb2.cell (by show wr.heap.size < w1.heap.size; omega)).trans (d0), (hb2.cell (by show wr.heap.size < w1.heap.size; omega)).trans (d1), (hb2.cell (by show wr.heap.size < w1.heap.size; omega)).trans (d2)⟩) (fun hHeld => ?_)
          clear hK K
          try simp only [Act.put, List.setIfInBounds_toArray, List.set_cons_zero, List.set_cons_succ]
          refine wpAnyH_take (i := 3) (oi := ⟨_, _, _, _, _, _⟩) (v := ?_) rfl (by kernel_rfl) (by kernel_rfl) (by kernel_rfl) (fun _ _ _ h => by exact h) (Or.inl ⟨by kernel_rfl, ?_⟩) (by assumption) ?_
          rotate_left
          focus
            intro w hSw
            (try dsimp only at hSw)
            go_simp
            try with_reducible rfl
          try simp only [Act.put, List.setIfInBounds_toArray, List.set_cons_zero, List.set_cons_succ]
          refine wpAnyH_take (i := 4) (oi := ⟨_, _, _, _, _, _⟩) (v := ?_) rfl (by kernel_rfl) (by kernel_rfl) (by kernel_rfl) (fun _ _ _ h => by exact h) (Or.inl ⟨by kernel_rfl, ?_⟩) (by assumption) ?_
          rotate_left
          focus
            intro w hSw
            (try dsimp only at hSw)
            go_simp
            try with_reducible rfl
          try simp only [Act.put, List.setIfInBounds_toArray, List.set_cons_zero, List.set_cons_succ]
          refine wpAnyH_take (i := 5) (oi := ⟨_, _, _, _, _, _⟩) (v := ?_) rfl (by kernel_rfl) (by kernel_rfl) (by kernel_rfl) (fun _ _ _ h => by exact h) (Or.inl ⟨by kernel_rfl, ?_⟩) (by assumption) ?_
          rotate_left
          focus
            intro w hSw
            (try dsimp only at hSw)
            go_simp
            try with_reducible rfl
          try simp only [Act.put, List.setIfInBounds_toArray, List.set_cons_zero, List.set_cons_succ]
          refine wpAnyH_take (i := 6) (oi := ⟨_, _, _, _, _, _⟩) (v := ?_) rfl (by kernel_rfl) (by kernel_rfl) (by kernel_rfl) (fun _ _ _ h => by exact h) (Or.inl ⟨by kernel_rfl, ?_⟩) (by assumption) ?_
          rotate_left
          focus
            intro w hSw
            (try dsimp only at hSw)
            go_simp
            try with_reducible rfl
          try simp only [Act.put, List.setIfInBounds_toArray, List.set_cons_zero, List.set_cons_succ]
          refine wpAnyH_take (i := 7) (oi := ⟨_, _, _, _, _, _⟩) (v := ?_) rfl (by kernel_rfl) (by kernel_rfl) (by kernel_rfl) (fun _ _ _ h => by exact h) (Or.inl ⟨by kernel_rfl, ?_⟩) (by assumption) ?_
          rotate_left
          focus
            intro w hSw
            (try dsimp only at hSw)
            go_simp
            try with_reducible rfl
          try simp only [Act.put, List.setIfInBounds_toArray, List.set_cons_zero, List.set_cons_succ]
          refine wpAnyH_take (i := 8) (oi := ⟨_, _, _, _, _, _⟩) (v := undef) rfl (by kernel_rfl) (by kernel_rfl) (by kernel_rfl) (fun _ _ _ h => by exact h) (Or.inr ⟨by kernel_rfl, rfl⟩) (by assumption) ?_
          try simp only [Act.put, List.setIfInBounds_toArray, List.set_cons_zero, List.set_cons_succ]
          refine wpAnyH_take (i := 9) (oi := ⟨_, _, _, _, _, _⟩) (v := undef) rfl (by kernel_rfl) (by kernel_rfl) (by kernel_rfl) (fun _ _ _ h => by exact h) (Or.inr ⟨by kernel_rfl, rfl⟩) (by assumption) ?_
          try simp only [Act.put, List.setIfInBounds_toArray, List.set_cons_zero, List.set_cons_succ]
          refine wpAnyH_take (i := 10) (oi := ⟨_, _, _, _, _, _⟩) (v := undef) rfl (by kernel_rfl) (by kernel_rfl) (by kernel_rfl) (fun _ _ _ h => by exact h) (Or.inr ⟨by kernel_rfl, rfl⟩) (by assumption) ?_
          try simp only [Act.put, List.setIfInBounds_toArray, List.set_cons_zero, List.set_cons_succ]
          refine wpAnyH_take (i := 11) (oi := ⟨_, _, _, _, _, _⟩) (v := undef) rfl (by kernel_rfl) (by kernel_rfl) (by kernel_rfl) (fun _ _ _ h => by exact h) (Or.inr ⟨by kernel_rfl, rfl⟩) (by assumption) ?_
          try simp only [Act.put, List.setIfInBounds_toArray, List.set_cons_zero, List.set_cons_succ]
          refine wpAnyH_take (i := 12) (oi := ⟨_, _, _, _, _, _⟩) (v := undef) rfl (by kernel_rfl) (by kernel_rfl) (by kernel_rfl) (fun _ _ _ h => by exact h) (Or.inr ⟨by kernel_rfl, rfl⟩) (by assumption) ?_
          try simp only [Act.put, List.setIfInBounds_toArray, List.set_cons_zero, List.set_cons_succ]
          refine wpAnyH_take (i := 13) (oi := ⟨_, _, _, _, _, _⟩) (v := undef) rfl (by kernel_rfl) (by kernel_rfl) (by kernel_rfl) (fun _ _ _ h => by exact h) (Or.inr ⟨by kernel_rfl, rfl⟩) (by assumption) ?_
          try simp only [Act.put, List.setIfInBounds_toArray, List.set_cons_zero, List.set_cons_succ]
          refine wpAnyH_take (i := 14) (oi := ⟨_, _, _, _, _, _⟩) (v := undef) rfl (by kernel_rfl) (by kernel_rfl) (by kernel_rfl) (fun _ _ _ h => by exact h) (Or.inr ⟨by kernel_rfl, rfl⟩) (by assumption) ?_
          try simp only [Act.put, List.setIfInBounds_toArray, List.set_cons_zero, List.set_cons_succ]
          refine wpAnyH_take (i := 15) (oi := ⟨_, _, _, _, _, _⟩) (v := undef) rfl (by kernel_rfl) (by kernel_rfl) (by kernel_rfl) (fun _ _ _ h => by exact h) (Or.inr ⟨by kernel_rfl, rfl⟩) (by assumption) ?_
          try simp only [Act.put, List.setIfInBounds_toArray, List.set_cons_zero, List.set_cons_succ]
          refine wpAnyH_take (i := 16) (oi := ⟨_, _, _, _, _, _⟩) (v := undef) rfl (by kernel_rfl) (by kernel_rfl) (by kernel_rfl) (fun _ _ _ h => by exact h) (Or.inr ⟨by kernel_rfl, rfl⟩) (by assumption) ?_
          try simp only [Act.put, List.setIfInBounds_toArray, List.set_cons_zero, List.set_cons_succ]
          refine wpAnyH_take (i := 17) (oi := ⟨_, _, _, _, _, _⟩) (v := undef) rfl (by kernel_rfl) (by kernel_rfl) (by kernel_rfl) (fun _ _ _ h => by exact h) (Or.inr ⟨by kernel_rfl, rfl⟩) (by assumption) ?_
          try simp only [Act.put, List.setIfInBounds_toArray, List.set_cons_zero, List.set_cons_succ]
          refine wpAnyH_take (i := 18) (oi := ⟨_, _, _, _, _, _⟩) (v := undef) rfl (by kernel_rfl) (by kernel_rfl) (by kernel_rfl) (fun _ _ _ h => by exact h) (Or.inr ⟨by kernel_rfl, rfl⟩) (by assumption) ?_
          try simp only [Act.put, List.setIfInBounds_toArray, List.set_cons_zero, List.set_cons_succ]
          refine wpAnyH_take (i := 19) (oi := ⟨_, _, _, _, _, _⟩) (v := ?_) rfl (by kernel_rfl) (by kernel_rfl) (by kernel_rfl) (fun _ _ _ h => by exact h) (Or.inl ⟨by kernel_rfl, ?_⟩) (by assumption) ?_
          rotate_left
          focus
            intro w hSw
            (try dsimp only at hSw)
            go_simp
            try with_reducible rfl
          try simp only [Act.put, List.setIfInBounds_toArray, List.set_cons_zero, List.set_cons_succ]
          refine wpAnyH_take (i := 20) (oi := ⟨_, _, _, _, _, _⟩) (v := ?_) rfl (by kernel_rfl) (by kernel_rfl) (by kernel_rfl) (fun _ _ _ h => by exact h) (Or.inl ⟨by kernel_rfl, ?_⟩) (by assumption) ?_
          rotate_left
          focus
            intro w hSw
            (try dsimp only at hSw)
            go_simp
            try with_reducible rfl
          try simp only [Act.put, List.setIfInBounds_toArray, List.set_cons_zero, List.set_cons_succ]
          refine wpAnyH_done (by kernel_rfl) ?_ _
          focus
            have HB7 := Lib.hid (show Below w1.heap.size w1 w2 from by first | exact hb2 | exact up (up_drew (Below.refl _ _)) hb2)
            have hs7 := HB7.out.size
            have HE7 := Lib.hid (HE.out.below HB7.out (by omega))
            have HM7 := Lib.hid (HM1.out.keep HB7.out (by omega))
            have HBX := Lib.hid (up HB1.out HB7.out)
            clear hb2 hv d0 d1 d2 HE HM1 HB1
            have d0 : w2.cell? ⟨wr.heap.size, 0, none⟩ = some (.int .i64 x) := HE7.out.cell 0
            have d1 : w2.cell? ⟨wr.heap.size, 1, none⟩ = some (.int .i64 y) := HE7.out.cell 1
            have d2 : w2.cell? ⟨wr.heap.size, 2, none⟩ = some (.int .i64 z) := HE7.out.cell 2
            go_wp2
            go_region_law (first
              | (go_simp; go_at_call 122; (with_reducible refine (numItem_any x y z _).mono ?_); rintro e w6 ⟨rfl, hb6⟩
                 have HB6 := Lib.hid (show Below w2.heap.size w2 w6 from by first | exact hb6 | exact up (up_drew (Below.refl _ _)) hb6)
                 have hs6 := HB6.out.size
                 have g0 : w6.cell? ⟨wr.heap.size, 0, none⟩ = some (.int .i64 x) := (HB6.out.cell (by show wr.heap.size < w2.heap.size; omega)).trans d0
                 have g1 : w6.cell? ⟨wr.heap.size, 1, none⟩ = some (.int .i64 y) := (HB6.out.cell (by show wr.heap.size < w2.heap.size; omega)).trans d1
                 have g2 : w6.cell? ⟨wr.heap.size, 2, none⟩ = some (.int .i64 z) := (HB6.out.cell (by show wr.heap.size < w2.heap.size; omega)).trans d2
                 have HM6 := Lib.hid (HM7.out.keep HB6.out (by omega))
                 have HB8 := Lib.hid (up HBX.out HB6.out)
                 obtain ⟨w8, hrun8, hm8, hg8⟩ := HM6.out.put keyedIntN Try.underlying3 Try.underlying56 (by unfold maxLen; omega) (x, y, z) (in64_small (by show -1000000 ≤ x; omega) (by show x ≤ 1000000; omega))
                 try simp only [svT] at hrun8))
            all_goals
              have hs8 := hg8.size
              have HM8 := Lib.hid hm8
              have HB9 := Lib.hid (HB8.out.grown hg8 (by have := HB8.out.size; omega) (fun j hj => by injection hj with hj; omega))
              clear hm8 hg8 hb6 g0 g1 g2
              go_wp2
              go_roundw
              case rel => exact ⟨_ + 1, by omega, by go_num, HS, by omega, by rw [← ins_take HM7.out.2 HG.out HAH.out]; exact HM8, HB9⟩
              case measure => simp [Go.RowKit.intOf]; omega
        · obtain ⟨j, rfl⟩ : ∃ j, k = j + 1 := ⟨k - 1, by omega⟩
          obtain ⟨b', off', x', y', z', hA', _, _, hg', p0, p1, p2⟩ := HR1.out.trip (k := j) (by omega)
          injection hA' with hA'; injection hA' with h1' h2'
          subst h1'; subst h2'
          have HG' := Lib.hid (ahead_get (f := Prod.fst) hg')
          clear hg'
          have hj1 : ((j + 1 : Nat) : Int) - 1 = (j : Int) := by omega
          have hjn : (j : Int) < (n : Int) := by omega
          have hj0 : (0 : Int) ≤ (j : Int) := by omega
          have hwj : IntKind.i64.wrap (j : Int) = (j : Int) := IntWalk.i64_in _ (by omega)
          by_cases hle : x ≤ x'
          · have HX := Lib.hid (show good Prod.fst okItem ps = false by rw [hS.out, good_bad HG.out (.inr ⟨x', HG'.out, hle⟩)])
            have hlx : decide (x ≤ x') = true := decide_eq_true hle
            refine wp_region_held_drew (S := fun w' => w'.cell? ⟨wr.heap.size, 0, none⟩ = some (.int .i64 x) ∧ w'.cell? ⟨wr.heap.size, 1, none⟩ = some (.int .i64 y) ∧ w'.cell? ⟨wr.heap.size, 2, none⟩ = some (.int .i64 z) ∧ w'.cell? ⟨b, off + j * 3, none⟩ = some (.int .i64 x') ∧ w'.cell? ⟨b, off + j * 3 + 1, none⟩ = some (.int .i64 y') ∧ w'.cell? ⟨b, off + j * 3 + 2, none⟩ = some (.int .i64 z')) (by kernel_rfl) (by (try dsimp only); exact ⟨d0, d1, d2, p0, p1, p2⟩) (fun hHeld => ?_)
            refine wpAnyH_take (i := 0) (oi := ⟨_, _, _, _, _, _⟩) (v := ?_) rfl (by kernel_rfl) (by kernel_rfl) (by kernel_rfl) (fun _ _ _ h => by exact h) (Or.inl ⟨by kernel_rfl, ?_⟩) (by assumption) ?_
            rotate_left
            focus
              intro w hSw
              (try dsimp only at hSw)
              go_simp
              try with_reducible rfl
            try simp only [Act.put, List.setIfInBounds_toArray, List.set_cons_zero, List.set_cons_succ]
            refine wpAnyH_take (i := 1) (oi := ⟨_, _, _, _, _, _⟩) (v := ?_) rfl (by kernel_rfl) (by kernel_rfl) (by kernel_rfl) (fun _ _ _ h => by exact h) (Or.inl ⟨by kernel_rfl, ?_⟩) (by assumption) ?_
            rotate_left
            focus
              intro w hSw
              (try dsimp only at hSw)
              go_simp
              try with_reducible rfl
            try simp only [Act.put, List.setIfInBounds_toArray, List.set_cons_zero, List.set_cons_succ]
            refine wpAnyH_ready (rs := [2]) (by kernel_rfl) (by simp) ?_
            refine AllReadyH.cons (o := ⟨_, _, _, _, _, _⟩) rfl (fun K hK => ?_) AllReadyH.nil
            go_simp
            (go_at_call 121; (with_reducible refine (itemValid_any x y z _).mono ?_); rintro e w2 ⟨rfl, hb2⟩; rw [hv])
            refine hK.out _ _ (by (try dsimp only); exact ⟨(hb2.cell (by show wr.heap.size < w1.heap.size; omega)).trans (d0), (hb2.cell (by show wr.heap.size < w1.heap.size; omega)).trans (d1), (hb2.cell (by show wr.heap.size < w1.heap.size; omega)).trans (d2), (hb2.cell (by show b < w1.heap.size; omega)).trans (p0), (hb2.cell (by show b < w1.heap.size; omega)).trans (p1), (hb2.cell (by show b < w1.heap.size; omega)).trans (p2)⟩) (fun hHeld => ?_)
            clear hK K
            try simp only [Act.put, List.setIfInBounds_toArray, List.set_cons_zero, List.set_cons_succ]
            have hsz2 : w1.heap.size ≤ w2.heap.size := hb2.size
            refine wpAnyH_take (i := 3) (oi := ⟨_, _, _, _, _, _⟩) (v := ?_) rfl (by kernel_rfl) (by kernel_rfl) (by kernel_rfl) (fun _ _ _ h => by exact h) (Or.inl ⟨by kernel_rfl, ?_⟩) (by assumption) ?_
            rotate_left
            focus
              intro w hSw
              (try dsimp only at hSw)
              go_simp
              try with_reducible rfl
            try simp only [Act.put, List.setIfInBounds_toArray, List.set_cons_zero, List.set_cons_succ]
            refine wpAnyH_take (i := 4) (oi := ⟨_, _, _, _, _, _⟩) (v := ?_) rfl (by kernel_rfl) (by kernel_rfl) (by kernel_rfl) (fun _ _ _ h => by exact h) (Or.inl ⟨by kernel_rfl, ?_⟩) (by assumption) ?_
            rotate_left
            focus
              intro w hSw
              (try dsimp only at hSw)
              go_simp
              try with_reducible rfl
            try simp only [Act.put, List.setIfInBounds_toArray, List.set_cons_zero, List.set_cons_succ]
            refine wpAnyH_take (i := 5) (oi := ⟨_, _, _, _, _, _⟩) (v := ?_) rfl (by kernel_rfl) (by kernel_rfl) (by kernel_rfl) (fun _ _ _ h => by exact h) (Or.inl ⟨by kernel_rfl, ?_⟩) (by assumption) ?_
            rotate_left
            focus
              intro w hSw
              (try dsimp only at hSw)
              go_simp
              try with_reducible rfl
            try simp only [Act.put, List.setIfInBounds_toArray, List.set_cons_zero, List.set_cons_succ]
            refine wpAnyH_take (i := 6) (oi := ⟨_, _, _, _, _, _⟩) (v := ?_) rfl (by kernel_rfl) (by kernel_rfl) (by kernel_rfl) (fun _ _ _ h => by exact h) (Or.inl ⟨by kernel_rfl, ?_⟩) (by assumption) ?_
            rotate_left
            focus
              intro w hSw
              (try dsimp only at hSw)
              go_simp
              try with_reducible rfl
            try simp only [Act.put, List.setIfInBounds_toArray, List.set_cons_zero, List.set_cons_succ]
            refine wpAnyH_take (i := 7) (oi := ⟨_, _, _, _, _, _⟩) (v := ?_) rfl (by kernel_rfl) (by kernel_rfl) (by kernel_rfl) (fun _ _ _ h => by exact h) (Or.inl ⟨by kernel_rfl, ?_⟩) (by assumption) ?_
            rotate_left
            focus
              intro w hSw
              (try dsimp only at hSw)
              go_simp
              try with_reducible rfl
            try simp only [Act.put, List.setIfInBounds_toArray, List.set_cons_zero, List.set_cons_succ]
            refine wpAnyH_take (i := 8) (oi := ⟨_, _, _, _, _, _⟩) (v := ?_) rfl (by kernel_rfl) (by kernel_rfl) (by kernel_rfl) (fun _ _ _ h => by exact h) (Or.inl ⟨by kernel_rfl, ?_⟩) (by assumption) ?_
            rotate_left
            focus
              intro w hSw
              (try dsimp only at hSw)
              go_simp
              try with_reducible rfl
            try simp only [Act.put, List.setIfInBounds_toArray, List.set_cons_zero, List.set_cons_succ]
            refine wpAnyH_take (i := 9) (oi := ⟨_, _, _, _, _, _⟩) (v := ?_) rfl (by kernel_rfl) (by kernel_rfl) (by kernel_rfl) (fun _ _ _ h => by exact h) (Or.inl ⟨by kernel_rfl, ?_⟩) (by assumption) ?_
            rotate_left
            focus
              intro w hSw
              (try dsimp only at hSw)
              go_simp
              try with_reducible rfl
            try simp only [Act.put, List.setIfInBounds_toArray, List.set_cons_zero, List.set_cons_succ]
            refine wpAnyH_take (i := 11) (oi := ⟨_, _, _, _, _, _⟩) (v := ?_) rfl (by kernel_rfl) (by kernel_rfl) (by kernel_rfl) (fun _ _ _ h => by exact h) (Or.inl ⟨by kernel_rfl, ?_⟩) (by assumption) ?_
            rotate_left
            focus
              intro w hSw
              (try dsimp only at hSw)
              go_simp
              try with_reducible rfl
            try simp only [Act.put, List.setIfInBounds_toArray, List.set_cons_zero, List.set_cons_succ]
            refine wpAnyH_take (i := 12) (oi := ⟨_, _, _, _, _, _⟩) (v := ?_) rfl (by kernel_rfl) (by kernel_rfl) (by kernel_rfl) (fun _ _ _ h => by exact h) (Or.inl ⟨by kernel_rfl, ?_⟩) (by assumption) ?_
            rotate_left
            focus
              intro w hSw
              (try dsimp only at hSw)
              go_simp
              try with_reducible rfl
            try simp only [Act.put, List.setIfInBounds_toArray, List.set_cons_zero, List.set_cons_succ]
            refine wpAnyH_take (i := 13) (oi := ⟨_, _, _, _, _, _⟩) (v := ?_) rfl (by kernel_rfl) (by kernel_rfl) (by kernel_rfl) (fun _ _ _ h => by exact h) (Or.inl ⟨by kernel_rfl, ?_⟩) (by assumption) ?_
            rotate_left
            focus
              intro w hSw
              (try dsimp only at hSw)
              go_simp
              try with_reducible rfl
            try simp only [Act.put, List.setIfInBounds_toArray, List.set_cons_zero, List.set_cons_succ]
            refine wpAnyH_take (i := 14) (oi := ⟨_, _, _, _, _, _⟩) (v := ?_) rfl (by kernel_rfl) (by kernel_rfl) (by kernel_rfl) (fun _ _ _ h => by exact h) (Or.inl ⟨by kernel_rfl, ?_⟩) (by assumption) ?_
            rotate_left
            focus
              intro w hSw
              (try dsimp only at hSw)
              go_simp
              try with_reducible rfl
            try simp only [Act.put, List.setIfInBounds_toArray, List.set_cons_zero, List.set_cons_succ]
            refine wpAnyH_take (i := 15) (oi := ⟨_, _, _, _, _, _⟩) (v := ?_) rfl (by kernel_rfl) (by kernel_rfl) (by kernel_rfl) (fun _ _ _ h => by exact h) (Or.inl ⟨by kernel_rfl, ?_⟩) (by assumption) ?_
            rotate_left
            focus
              intro w hSw
              (try dsimp only at hSw)
              go_simp
              try with_reducible rfl
            try simp only [Act.put, List.setIfInBounds_toArray, List.set_cons_zero, List.set_cons_succ]
            refine wpAnyH_take (i := 16) (oi := ⟨_, _, _, _, _, _⟩) (v := ?_) rfl (by kernel_rfl) (by kernel_rfl) (by kernel_rfl) (fun _ _ _ h => by exact h) (Or.inl ⟨by kernel_rfl, ?_⟩) (by assumption) ?_
            rotate_left
            focus
              intro w hSw
              (try dsimp only at hSw)
              go_simp
              try with_reducible rfl
            try simp only [Act.put, List.setIfInBounds_toArray, List.set_cons_zero, List.set_cons_succ]
            refine wpAnyH_ready (rs := [10]) (by kernel_rfl) (by simp) ?_
            refine AllReadyH.cons (o := ⟨_, _, _, _, _, _⟩) rfl (fun K hK => ?_) AllReadyH.nil
            go_simp
            (go_at_call 122; (with_reducible refine (numItem_any x y z _).mono ?_); rintro e w5 ⟨rfl, hb5⟩)
            refine hK.out _ _ (by (try dsimp only); exact ⟨(hb5.cell (by show wr.heap.size < w2.heap.size; omega)).trans ((hb2.cell (by show wr.heap.size < w1.heap.size; omega)).trans (d0)), (hb5.cell (by show wr.heap.size < w2.heap.size; omega)).trans ((hb2.cell (by show wr.heap.size < w1.heap.size; omega)).trans (d1)), (hb5.cell (by show wr.heap.size < w2.heap.size; omega)).trans ((hb2.cell (by show wr.heap.size < w1.heap.size; omega)).trans (d2)), (hb5.cell (by show b < w2.heap.size; omega)).trans ((hb2.cell (by show b < w1.heap.size; omega)).trans (p0)), (hb5.cell (by show b < w2.heap.size; omega)).trans ((hb2.cell (by show b < w1.heap.size; omega)).trans (p1)), (hb5.cell (by show b < w2.heap.size; omega)).trans ((hb2.cell (by show b < w1.heap.size; omega)).trans (p2))⟩) (fun hHeld => ?_)
            clear hK K
            try simp only [Act.put, List.setIfInBounds_toArray, List.set_cons_zero, List.set_cons_succ]
            have hsz5 : w2.heap.size ≤ w5.heap.size := hb5.size
            refine wpAnyH_ready (rs := [17]) (by kernel_rfl) (by simp) ?_
            refine AllReadyH.cons (o := ⟨_, _, _, _, _, _⟩) rfl (fun K hK => ?_) AllReadyH.nil
            go_simp
            (go_at_call 122; (with_reducible refine (numItem_any x' y' z' _).mono ?_); rintro e w7 ⟨rfl, hb7⟩)
            refine hK.out _ _ (by (try dsimp only); exact ⟨(hb7.cell (by show wr.heap.size < w5.heap.size; omega)).trans ((hb5.cell (by show wr.heap.size < w2.heap.size; omega)).trans ((hb2.cell (by show wr.heap.size < w1.heap.size; omega)).trans (d0))), (hb7.cell (by show wr.heap.size < w5.heap.size; omega)).trans ((hb5.cell (by show wr.heap.size < w2.heap.size; omega)).trans ((hb2.cell (by show wr.heap.size < w1.heap.size; omega)).trans (d1))), (hb7.cell (by show wr.heap.size < w5.heap.size; omega)).trans ((hb5.cell (by show wr.heap.size < w2.heap.size; omega)).trans ((hb2.cell (by show wr.heap.size < w1.heap.size; omega)).trans (d2))), (hb7.cell (by show b < w5.heap.size; omega)).trans ((hb5.cell (by show b < w2.heap.size; omega)).trans ((hb2.cell (by show b < w1.heap.size; omega)).trans (p0))), (hb7.cell (by show b < w5.heap.size; omega)).trans ((hb5.cell (by show b < w2.heap.size; omega)).trans ((hb2.cell (by show b < w1.heap.size; omega)).trans (p1))), (hb7.cell (by show b < w5.heap.size; omega)).trans ((hb5.cell (by show b < w2.heap.size; omega)).trans ((hb2.cell (by show b < w1.heap.size; omega)).trans (p2)))⟩) (fun hHeld => ?_)
            clear hK K
            try simp only [Act.put, List.setIfInBounds_toArray, List.set_cons_zero, List.set_cons_succ]
            refine wpAnyH_take (i := 18) (oi := ⟨_, _, _, _, _, _⟩) (v := ?_) rfl (by kernel_rfl) (by kernel_rfl) (by kernel_rfl) (fun _ _ _ h => by exact h) (Or.inl ⟨by kernel_rfl, ?_⟩) (by assumption) ?_
            rotate_left
            focus
              intro w hSw
              (try dsimp only at hSw)
              go_simp
              try with_reducible rfl
            try simp only [Act.put, List.setIfInBounds_toArray, List.set_cons_zero, List.set_cons_succ]
            refine wpAnyH_take (i := 19) (oi := ⟨_, _, _, _, _, _⟩) (v := ?_) rfl (by kernel_rfl) (by kernel_rfl) (by kernel_rfl) (fun _ _ _ h => by exact h) (Or.inl ⟨by kernel_rfl, ?_⟩) (by assumption) ?_
            rotate_left
            focus
              intro w hSw
              (try dsimp only at hSw)
              go_simp
              try with_reducible rfl
            try simp only [Act.put, List.setIfInBounds_toArray, List.set_cons_zero, List.set_cons_succ]
            refine wpAnyH_take (i := 20) (oi := ⟨_, _, _, _, _, _⟩) (v := ?_) rfl (by kernel_rfl) (by kernel_rfl) (by kernel_rfl) (fun _ _ _ h => by exact h) (Or.inl ⟨by kernel_rfl, ?_⟩) (by assumption) ?_
            rotate_left
            focus
              intro w hSw
              (try dsimp only at hSw)
              go_simp
              try with_reducible rfl
            try simp only [Act.put, List.setIfInBounds_toArray, List.set_cons_zero, List.set_cons_succ]
            refine wpAnyH_done (by kernel_rfl) ?_ _
            focus
              have HBX := Lib.hid (up HB1.out (up (up (show Below w1.heap.size w1 w2 from by first | exact hb2 | exact up (up_drew (Below.refl _ _)) hb2) hb5) hb7))
              clear hb2 hb5 hb7 hv d0 d1 d2 p0 p1 p2 HE HM1 HB1
              go_wp2
              exact bodyPost_ret (v := .tuple #[.map none, .bool false]) (by simp [results, Try.results71, go_sem]) rfl (.inl ⟨HX.out, rfl, HBX.out⟩)
          · have HAH := Lib.hid (show ∀ y, ahead Prod.fst ps (j + 1) = some y → y < x from fun y h => by rw [HG'.out] at h; injection h with h; subst h; show x' < x; omega)
            have HS := Lib.hid (hS.out.trans (good_step HG.out HV.out HAH.out))
            have hlx : decide (x ≤ x') = false := decide_eq_false hle
            refine wp_region_held_drew (S := fun w' => w'.cell? ⟨wr.heap.size, 0, none⟩ = some (.int .i64 x) ∧ w'.cell? ⟨wr.heap.size, 1, none⟩ = some (.int .i64 y) ∧ w'.cell? ⟨wr.heap.size, 2, none⟩ = some (.int .i64 z) ∧ w'.cell? ⟨b, off + j * 3, none⟩ = some (.int .i64 x') ∧ w'.cell? ⟨b, off + j * 3 + 1, none⟩ = some (.int .i64 y') ∧ w'.cell? ⟨b, off + j * 3 + 2, none⟩ = some (.int .i64 z')) (by kernel_rfl) (by (try dsimp only); exact ⟨d0, d1, d2, p0, p1, p2⟩) (fun hHeld => ?_)
            refine wpAnyH_take (i := 0) (oi := ⟨_, _, _, _, _, _⟩) (v := ?_) rfl (by kernel_rfl) (by kernel_rfl) (by kernel_rfl) (fun _ _ _ h => by exact h) (Or.inl ⟨by kernel_rfl, ?_⟩) (by assumption) ?_
            rotate_left
            focus
              intro w hSw
              (try dsimp only at hSw)
              go_simp
              try with_reducible rfl
            try simp only [Act.put, List.setIfInBounds_toArray, List.set_cons_zero, List.set_cons_succ]
            refine wpAnyH_take (i := 1) (oi := ⟨_, _, _, _, _, _⟩) (v := ?_) rfl (by kernel_rfl) (by kernel_rfl) (by kernel_rfl) (fun _ _ _ h => by exact h) (Or.inl ⟨by kernel_rfl, ?_⟩) (by assumption) ?_
            rotate_left
            focus
              intro w hSw
              (try dsimp only at hSw)
              go_simp
              try with_reducible rfl
            try simp only [Act.put, List.setIfInBounds_toArray, List.set_cons_zero, List.set_cons_succ]
            refine wpAnyH_ready (rs := [2]) (by kernel_rfl) (by simp) ?_
            refine AllReadyH.cons (o := ⟨_, _, _, _, _, _⟩) rfl (fun K hK => ?_) AllReadyH.nil
            go_simp
            (go_at_call 121; (with_reducible refine (itemValid_any x y z _).mono ?_); rintro e w2 ⟨rfl, hb2⟩; rw [hv])
            refine hK.out _ _ (by (try dsimp only); exact ⟨(hb2.cell (by show wr.heap.size < w1.heap.size; omega)).trans (d0), (hb2.cell (by show wr.heap.size < w1.heap.size; omega)).trans (d1), (hb2.cell (by show wr.heap.size < w1.heap.size; omega)).trans (d2), (hb2.cell (by show b < w1.heap.size; omega)).trans (p0), (hb2.cell (by show b < w1.heap.size; omega)).trans (p1), (hb2.cell (by show b < w1.heap.size; omega)).trans (p2)⟩) (fun hHeld => ?_)
            clear hK K
            try simp only [Act.put, List.setIfInBounds_toArray, List.set_cons_zero, List.set_cons_succ]
            have hsz2 : w1.heap.size ≤ w2.heap.size := hb2.size
            refine wpAnyH_take (i := 3) (oi := ⟨_, _, _, _, _, _⟩) (v := ?_) rfl (by kernel_rfl) (by kernel_rfl) (by kernel_rfl) (fun _ _ _ h => by exact h) (Or.inl ⟨by kernel_rfl, ?_⟩) (by assumption) ?_
            rotate_left
            focus
              intro w hSw
              (try dsimp only at hSw)
              go_simp
              try with_reducible rfl
            try simp only [Act.put, List.setIfInBounds_toArray, List.set_cons_zero, List.set_cons_succ]
            refine wpAnyH_take (i := 4) (oi := ⟨_, _, _, _, _, _⟩) (v := ?_) rfl (by kernel_rfl) (by kernel_rfl) (by kernel_rfl) (fun _ _ _ h => by exact h) (Or.inl ⟨by kernel_rfl, ?_⟩) (by assumption) ?_
            rotate_left
            focus
              intro w hSw
              (try dsimp only at hSw)
              go_simp
              try with_reducible rfl
            try simp only [Act.put, List.setIfInBounds_toArray, List.set_cons_zero, List.set_cons_succ]
            refine wpAnyH_take (i := 5) (oi := ⟨_, _, _, _, _, _⟩) (v := ?_) rfl (by kernel_rfl) (by kernel_rfl) (by kernel_rfl) (fun _ _ _ h => by exact h) (Or.inl ⟨by kernel_rfl, ?_⟩) (by assumption) ?_
            rotate_left
            focus
              intro w hSw
              (try dsimp only at hSw)
              go_simp
              try with_reducible rfl
            try simp only [Act.put, List.setIfInBounds_toArray, List.set_cons_zero, List.set_cons_succ]
            refine wpAnyH_take (i := 6) (oi := ⟨_, _, _, _, _, _⟩) (v := ?_) rfl (by kernel_rfl) (by kernel_rfl) (by kernel_rfl) (fun _ _ _ h => by exact h) (Or.inl ⟨by kernel_rfl, ?_⟩) (by assumption) ?_
            rotate_left
            focus
              intro w hSw
              (try dsimp only at hSw)
              go_simp
              try with_reducible rfl
            try simp only [Act.put, List.setIfInBounds_toArray, List.set_cons_zero, List.set_cons_succ]
            refine wpAnyH_take (i := 7) (oi := ⟨_, _, _, _, _, _⟩) (v := ?_) rfl (by kernel_rfl) (by kernel_rfl) (by kernel_rfl) (fun _ _ _ h => by exact h) (Or.inl ⟨by kernel_rfl, ?_⟩) (by assumption) ?_
            rotate_left
            focus
              intro w hSw
              (try dsimp only at hSw)
              go_simp
              try with_reducible rfl
            try simp only [Act.put, List.setIfInBounds_toArray, List.set_cons_zero, List.set_cons_succ]
            refine wpAnyH_take (i := 8) (oi := ⟨_, _, _, _, _, _⟩) (v := ?_) rfl (by kernel_rfl) (by kernel_rfl) (by kernel_rfl) (fun _ _ _ h => by exact h) (Or.inl ⟨by kernel_rfl, ?_⟩) (by assumption) ?_
            rotate_left
            focus
              intro w hSw
              (try dsimp only at hSw)
              go_simp
              try with_reducible rfl
            try simp only [Act.put, List.setIfInBounds_toArray, List.set_cons_zero, List.set_cons_succ]
            refine wpAnyH_take (i := 9) (oi := ⟨_, _, _, _, _, _⟩) (v := ?_) rfl (by kernel_rfl) (by kernel_rfl) (by kernel_rfl) (fun _ _ _ h => by exact h) (Or.inl ⟨by kernel_rfl, ?_⟩) (by assumption) ?_
            rotate_left
            focus
              intro w hSw
              (try dsimp only at hSw)
              go_simp
              try with_reducible rfl
            try simp only [Act.put, List.setIfInBounds_toArray, List.set_cons_zero, List.set_cons_succ]
            refine wpAnyH_take (i := 11) (oi := ⟨_, _, _, _, _, _⟩) (v := ?_) rfl (by kernel_rfl) (by kernel_rfl) (by kernel_rfl) (fun _ _ _ h => by exact h) (Or.inl ⟨by kernel_rfl, ?_⟩) (by assumption) ?_
            rotate_left
            focus
              intro w hSw
              (try dsimp only at hSw)
              go_simp
              try with_reducible rfl
            try simp only [Act.put, List.setIfInBounds_toArray, List.set_cons_zero, List.set_cons_succ]
            refine wpAnyH_take (i := 12) (oi := ⟨_, _, _, _, _, _⟩) (v := ?_) rfl (by kernel_rfl) (by kernel_rfl) (by kernel_rfl) (fun _ _ _ h => by exact h) (Or.inl ⟨by kernel_rfl, ?_⟩) (by assumption) ?_
            rotate_left
            focus
              intro w hSw
              (try dsimp only at hSw)
              go_simp
              try with_reducible rfl
            try simp only [Act.put, List.setIfInBounds_toArray, List.set_cons_zero, List.set_cons_succ]
            refine wpAnyH_take (i := 13) (oi := ⟨_, _, _, _, _, _⟩) (v := ?_) rfl (by kernel_rfl) (by kernel_rfl) (by kernel_rfl) (fun _ _ _ h => by exact h) (Or.inl ⟨by kernel_rfl, ?_⟩) (by assumption) ?_
            rotate_left
            focus
              intro w hSw
              (try dsimp only at hSw)
              go_simp
              try with_reducible rfl
            try simp only [Act.put, List.setIfInBounds_toArray, List.set_cons_zero, List.set_cons_succ]
            refine wpAnyH_take (i := 14) (oi := ⟨_, _, _, _, _, _⟩) (v := ?_) rfl (by kernel_rfl) (by kernel_rfl) (by kernel_rfl) (fun _ _ _ h => by exact h) (Or.inl ⟨by kernel_rfl, ?_⟩) (by assumption) ?_
            rotate_left
            focus
              intro w hSw
              (try dsimp only at hSw)
              go_simp
              try with_reducible rfl
            try simp only [Act.put, List.setIfInBounds_toArray, List.set_cons_zero, List.set_cons_succ]
            refine wpAnyH_take (i := 15) (oi := ⟨_, _, _, _, _, _⟩) (v := ?_) rfl (by kernel_rfl) (by kernel_rfl) (by kernel_rfl) (fun _ _ _ h => by exact h) (Or.inl ⟨by kernel_rfl, ?_⟩) (by assumption) ?_
            rotate_left
            focus
              intro w hSw
              (try dsimp only at hSw)
              go_simp
              try with_reducible rfl
            try simp only [Act.put, List.setIfInBounds_toArray, List.set_cons_zero, List.set_cons_succ]
            refine wpAnyH_take (i := 16) (oi := ⟨_, _, _, _, _, _⟩) (v := ?_) rfl (by kernel_rfl) (by kernel_rfl) (by kernel_rfl) (fun _ _ _ h => by exact h) (Or.inl ⟨by kernel_rfl, ?_⟩) (by assumption) ?_
            rotate_left
            focus
              intro w hSw
              (try dsimp only at hSw)
              go_simp
              try with_reducible rfl
            try simp only [Act.put, List.setIfInBounds_toArray, List.set_cons_zero, List.set_cons_succ]
            refine wpAnyH_ready (rs := [10]) (by kernel_rfl) (by simp) ?_
            refine AllReadyH.cons (o := ⟨_, _, _, _, _, _⟩) rfl (fun K hK => ?_) AllReadyH.nil
            go_simp
            (go_at_call 122; (with_reducible refine (numItem_any x y z _).mono ?_); rintro e w5 ⟨rfl, hb5⟩)
            refine hK.out _ _ (by (try dsimp only); exact ⟨(hb5.cell (by show wr.heap.size < w2.heap.size; omega)).trans ((hb2.cell (by show wr.heap.size < w1.heap.size; omega)).trans (d0)), (hb5.cell (by show wr.heap.size < w2.heap.size; omega)).trans ((hb2.cell (by show wr.heap.size < w1.heap.size; omega)).trans (d1)), (hb5.cell (by show wr.heap.size < w2.heap.size; omega)).trans ((hb2.cell (by show wr.heap.size < w1.heap.size; omega)).trans (d2)), (hb5.cell (by show b < w2.heap.size; omega)).trans ((hb2.cell (by show b < w1.heap.size; omega)).trans (p0)), (hb5.cell (by show b < w2.heap.size; omega)).trans ((hb2.cell (by show b < w1.heap.size; omega)).trans (p1)), (hb5.cell (by show b < w2.heap.size; omega)).trans ((hb2.cell (by show b < w1.heap.size; omega)).trans (p2))⟩) (fun hHeld => ?_)
            clear hK K
            try simp only [Act.put, List.setIfInBounds_toArray, List.set_cons_zero, List.set_cons_succ]
            have hsz5 : w2.heap.size ≤ w5.heap.size := hb5.size
            refine wpAnyH_ready (rs := [17]) (by kernel_rfl) (by simp) ?_
            refine AllReadyH.cons (o := ⟨_, _, _, _, _, _⟩) rfl (fun K hK => ?_) AllReadyH.nil
            go_simp
            (go_at_call 122; (with_reducible refine (numItem_any x' y' z' _).mono ?_); rintro e w7 ⟨rfl, hb7⟩)
            refine hK.out _ _ (by (try dsimp only); exact ⟨(hb7.cell (by show wr.heap.size < w5.heap.size; omega)).trans ((hb5.cell (by show wr.heap.size < w2.heap.size; omega)).trans ((hb2.cell (by show wr.heap.size < w1.heap.size; omega)).trans (d0))), (hb7.cell (by show wr.heap.size < w5.heap.size; omega)).trans ((hb5.cell (by show wr.heap.size < w2.heap.size; omega)).trans ((hb2.cell (by show wr.heap.size < w1.heap.size; omega)).trans (d1))), (hb7.cell (by show wr.heap.size < w5.heap.size; omega)).trans ((hb5.cell (by show wr.heap.size < w2.heap.size; omega)).trans ((hb2.cell (by show wr.heap.size < w1.heap.size; omega)).trans (d2))), (hb7.cell (by show b < w5.heap.size; omega)).trans ((hb5.cell (by show b < w2.heap.size; omega)).trans ((hb2.cell (by show b < w1.heap.size; omega)).trans (p0))), (hb7.cell (by show b < w5.heap.size; omega)).trans ((hb5.cell (by show b < w2.heap.size; omega)).trans ((hb2.cell (by show b < w1.heap.size; omega)).trans (p1))), (hb7.cell (by show b < w5.heap.size; omega)).trans ((hb5.cell (by show b < w2.heap.size; omega)).trans ((hb2.cell (by show b < w1.heap.size; omega)).trans (p2)))⟩) (fun hHeld => ?_)
            clear hK K
            try simp only [Act.put, List.setIfInBounds_toArray, List.set_cons_zero, List.set_cons_succ]
            refine wpAnyH_take (i := 18) (oi := ⟨_, _, _, _, _, _⟩) (v := ?_) rfl (by kernel_rfl) (by kernel_rfl) (by kernel_rfl) (fun _ _ _ h => by exact h) (Or.inl ⟨by kernel_rfl, ?_⟩) (by assumption) ?_
            rotate_left
            focus
              intro w hSw
              (try dsimp only at hSw)
              go_simp
              try with_reducible rfl
            try simp only [Act.put, List.setIfInBounds_toArray, List.set_cons_zero, List.set_cons_succ]
            refine wpAnyH_take (i := 19) (oi := ⟨_, _, _, _, _, _⟩) (v := ?_) rfl (by kernel_rfl) (by kernel_rfl) (by kernel_rfl) (fun _ _ _ h => by exact h) (Or.inl ⟨by kernel_rfl, ?_⟩) (by assumption) ?_
            rotate_left
            focus
              intro w hSw
              (try dsimp only at hSw)
              go_simp
              try with_reducible rfl
            try simp only [Act.put, List.setIfInBounds_toArray, List.set_cons_zero, List.set_cons_succ]
            refine wpAnyH_take (i := 20) (oi := ⟨_, _, _, _, _, _⟩) (v := ?_) rfl (by kernel_rfl) (by kernel_rfl) (by kernel_rfl) (fun _ _ _ h => by exact h) (Or.inl ⟨by kernel_rfl, ?_⟩) (by assumption) ?_
            rotate_left
            focus
              intro w hSw
              (try dsimp only at hSw)
              go_simp
              try with_reducible rfl
            try simp only [Act.put, List.setIfInBounds_toArray, List.set_cons_zero, List.set_cons_succ]
            refine wpAnyH_done (by kernel_rfl) ?_ _
            focus
              have HB7 := Lib.hid (up (up (show Below w1.heap.size w1 w2 from by first | exact hb2 | exact up (up_drew (Below.refl _ _)) hb2) hb5) hb7)
              have hs7 := HB7.out.size
              have HE7 := Lib.hid (HE.out.below HB7.out (by omega))
              have HM7 := Lib.hid (HM1.out.keep HB7.out (by omega))
              have HBX := Lib.hid (up HB1.out HB7.out)
              clear hb2 hb5 hb7 hv d0 d1 d2 p0 p1 p2 HE HM1 HB1
              have d0 : w7.cell? ⟨wr.heap.size, 0, none⟩ = some (.int .i64 x) := HE7.out.cell 0
              have d1 : w7.cell? ⟨wr.heap.size, 1, none⟩ = some (.int .i64 y) := HE7.out.cell 1
              have d2 : w7.cell? ⟨wr.heap.size, 2, none⟩ = some (.int .i64 z) := HE7.out.cell 2
              go_wp2
              go_region_law (first
                | (go_simp; go_at_call 122; (with_reducible refine (numItem_any x y z _).mono ?_); rintro e w6 ⟨rfl, hb6⟩
                   have HB6 := Lib.hid (show Below w7.heap.size w7 w6 from by first | exact hb6 | exact up (up_drew (Below.refl _ _)) hb6)
                   have hs6 := HB6.out.size
                   have g0 : w6.cell? ⟨wr.heap.size, 0, none⟩ = some (.int .i64 x) := (HB6.out.cell (by show wr.heap.size < w7.heap.size; omega)).trans d0
                   have g1 : w6.cell? ⟨wr.heap.size, 1, none⟩ = some (.int .i64 y) := (HB6.out.cell (by show wr.heap.size < w7.heap.size; omega)).trans d1
                   have g2 : w6.cell? ⟨wr.heap.size, 2, none⟩ = some (.int .i64 z) := (HB6.out.cell (by show wr.heap.size < w7.heap.size; omega)).trans d2
                   have HM6 := Lib.hid (HM7.out.keep HB6.out (by omega))
                   have HB8 := Lib.hid (up HBX.out HB6.out)
                   obtain ⟨w8, hrun8, hm8, hg8⟩ := HM6.out.put keyedIntN Try.underlying3 Try.underlying56 (by unfold maxLen; omega) (x, y, z) (in64_small (by show -1000000 ≤ x; omega) (by show x ≤ 1000000; omega))
                   try simp only [svT] at hrun8))
              all_goals
                have hs8 := hg8.size
                have HM8 := Lib.hid hm8
                have HB9 := Lib.hid (HB8.out.grown hg8 (by have := HB8.out.size; omega) (fun j hj => by injection hj with hj; omega))
                clear hm8 hg8 hb6 g0 g1 g2
                go_wp2
                go_roundw
                case rel => exact ⟨_ + 1, by omega, by go_num, HS, by omega, by rw [← ins_take HM7.out.2 HG.out HAH.out]; exact HM8, HB9⟩
                case measure => simp [Go.RowKit.intOf]; omega
    · obtain rfl : k = n := by omega
      have HX := Lib.hid (show good Prod.fst okItem ps = true by rw [hS.out, List.drop_of_length_le (by rw [HL.out]; omega)]; rfl)
      have HM2 := Lib.hid (show NMap Try.prog 3 wr w.heap.size ps.length Prod.fst svT ps from by
        have h := HM.out
        rw [List.take_of_length_le (by rw [HL.out]; omega)] at h
        rw [HL.out]
        exact h)
      go_wp2
      exact bodyPost_ret (v := .tuple #[.map (some w.heap.size), .bool true]) (by simp [results, Try.results71, go_sem]) rfl (.inr ⟨HX.out, _, rfl, HM2.out, Nat.le_refl _, HB.out⟩)
end Go.Proofs.Ytipoakimjhfhfab
