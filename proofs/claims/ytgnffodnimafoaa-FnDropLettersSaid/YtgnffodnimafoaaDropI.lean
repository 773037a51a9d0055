/- impl.DropLetters: a post office without old letters. -/
import Derived.Test.YtgnffodnimafoaaPostO
import Derived.Test.YtgnffodnimafoaaDropCopy
import Derived.Test.YtgnffodnimafoaaDropDel
set_option linter.unusedSimpArgs false
set_option linter.unusedVariables false
namespace Go.Proofs.Ytgnffodnimafoaa
open Go.RowKit

set_option maxRecDepth 100000 in
set_option maxHeartbeats 1600000 in
theorem DropLettersI_any (lo hi nn cn : Nat) (An : Option Addr) (ns : List Tri) (lo' hi' n c : Nat) (A : Option Addr) (fs : List Tri) (z : Int) (w : World) (hrn : Rd w lo hi 3 An nn (tvs ns)) (hB : hi ≤ w.heap.size) (hnn : nn ≤ 1048576)
    (hr : Rd w lo' hi' 3 A n (tvs fs)) (hB' : hi' ≤ w.heap.size) (hn : n ≤ 1048576) :
    Calls Try.prog 13 #[.agg #[.slice An nn cn, .slice A n c], .int .i64 z] w fun e w' => ∃ A1 n1 c1 A2 n2 c2, e = .returned (.agg #[.slice A1 n1 c1, .slice A2 n2 c2]) ∧
      CopyRows w.heap.size (dropOf ns fs z).1 (dropOf ns fs z).2 n1 n2 (.slice A1 n1 c1) (.slice A2 n2 c2) w' ∧ Below w.heap.size w w' := by
  have HLN := Lib.hid hrn.len3
  have HLF := Lib.hid hr.len3
  have hb0 := up_alloc (up_alloc (up_alloc (Below.refl _ w) (.cells #[.slice An nn cn, .slice A n c] 26)) (.cells #[.int .i64 z] 3)) (.cells #[.slice none 0 0, .slice none 0 0] 26)
  have hp0 := ((Blk.new w 26 #[.slice An nn cn, .slice A n c]).alloc (.cells #[.int .i64 z] 3)).alloc (.cells #[.slice none 0 0, .slice none 0 0] 26)
  have hz0 := (Blk.new (w.alloc (.cells #[.slice An nn cn, .slice A n c] 26)) 3 #[.int .i64 z]).alloc (.cells #[.slice none 0 0, .slice none 0 0] 26)
  have hq0 := Blk.new ((w.alloc (.cells #[.slice An nn cn, .slice A n c] 26)).alloc (.cells #[.int .i64 z] 3)) 26 #[.slice none 0 0, .slice none 0 0]
  have e1 : (w.alloc (.cells #[.slice An nn cn, .slice A n c] 26)).heap.size = w.heap.size + 1 := by simp
  have e2 : ((w.alloc (.cells #[.slice An nn cn, .slice A n c] 26)).alloc (.cells #[.int .i64 z] 3)).heap.size = w.heap.size + 1 + 1 := by simp
  have e3 : (((w.alloc (.cells #[.slice An nn cn, .slice A n c] 26)).alloc (.cells #[.int .i64 z] 3)).alloc (.cells #[.slice none 0 0, .slice none 0 0] 26)).heap.size = w.heap.size + 1 + 1 + 1 := by simp
  rw [e1] at hz0
  rw [e2] at hq0
  have HC := Lib.hid (ValidPostI_any lo hi nn cn An ns lo' hi' n c A fs _ (hrn.keep hb0 hB) (Nat.le_trans hB hb0.size) hnn (hr.keep hb0 hB') (Nat.le_trans hB' hb0.size) hn)
  have HB0 := Lib.hid hb0
  have HP0 := Lib.hid hp0
  have HZ0 := Lib.hid hz0
  have HQ0 := Lib.hid hq0
  have HE3 := Lib.hid e3
  clear hb0 hp0 hz0 hq0 e1 e2 e3
  go_enter Try.func13, Try.ntmps13
  go_wp2_with (fail)
  (with_reducible refine HC.out.mono ?_)
  clear HC
  rintro e w1 ⟨rfl, hb1⟩
  have hs1 := hb1.size
  rw [HE3.out] at hs1
  have HB1 := Lib.hid (up HB0.out hb1)
  have HP1 := Lib.hid (HP0.out.below hb1 (by rw [HE3.out]; omega))
  have HZ1 := Lib.hid (HZ0.out.below hb1 (by rw [HE3.out]; omega))
  have HQ1 := Lib.hid (HQ0.out.below hb1 (by rw [HE3.out]; omega))
  clear hb1 HB0 HP0 HZ0 HQ0 HE3
  cases hV : vPost ns fs with
  | false =>
    have HX := Lib.hid (show dropOf ns fs z = ([], []) by simp [dropOf, hV])
    have s0 := HQ1.out.soft 0
    have s1 := HQ1.out.soft 1
    have r0 : w1.cell? ⟨w.heap.size + 1 + 1, 0, none⟩ = some (.slice none 0 0) := HQ1.out.cell 0
    have r1 : w1.cell? ⟨w.heap.size + 1 + 1, 1, none⟩ = some (.slice none 0 0) := HQ1.out.cell 1
    have hz := (HQ1.out.put 0 (.slice none 0 0)).put 1 (.slice none 0 0)
    have z0 := hz.cell 0
    have z1 := hz.cell 1
    simp at z0 z1
    have HBZ := Lib.hid ((HB1.out.setCell (p := ⟨w.heap.size + 1 + 1, 0, none⟩) (by show w.heap.size ≤ w.heap.size + 1 + 1; omega) (.slice none 0 0)).setCell (p := ⟨w.heap.size + 1 + 1, 1, none⟩) (by show w.heap.size ≤ w.heap.size + 1 + 1; omega) (.slice none 0 0))
    clear hz hV
    go_wp2
    refine bodyPost_ret (v := .agg #[.slice none 0 0, .slice none 0 0]) (by simp [results, Try.results13, go_sem, z0, z1]) rfl ⟨none, 0, 0, none, 0, 0, rfl, ?_, HBZ.out⟩
    rw [HX.out]
    exact ⟨World.ownsRow_nil _ _ _ _, World.ownsRow_nil _ _ _ _, fun g h => by cases h⟩
  | true =>
    have HX := Lib.hid (show dropOf ns fs z = (ns, keptOf fs z) by simp [dropOf, hV])
    have HC := Lib.hid (copyPost_any lo hi nn cn An ns lo' hi' n c A fs w1 (hrn.keep HB1.out hB) (Nat.le_trans hB HB1.out.size) hnn (hr.keep HB1.out hB') (Nat.le_trans hB' HB1.out.size) hn)
    have t0 : w1.cell? ⟨w.heap.size, 0, none⟩ = some (.slice An nn cn) := HP1.out.cell 0
    have t1 : w1.cell? ⟨w.heap.size, 1, none⟩ = some (.slice A n c) := HP1.out.cell 1
    clear hV
    go_wp2_with (fail)
    (with_reducible refine HC.out.mono ?_)
    clear HC
    rintro e w2 ⟨A1, c1, A2, c2, rfl, ⟨x1, x2, x3⟩, hb2, hs22⟩
    have hs2 := hb2.size
    have hba := up_alloc (Below.refl _ w2) (.cells #[.slice A1 nn c1, .slice A2 n c2] 26)
    have HN2 := Lib.hid (Blk.new w2 26 #[.slice A1 nn c1, .slice A2 n c2])
    have HBA := Lib.hid (up (up HB1.out hb2) hba)
    have hz2 := (HZ1.out.below hb2 (by omega)).below hba (by omega)
    have HQ2 := Lib.hid ((HQ1.out.below hb2 (by omega)).below hba (by omega))
    have HX1 := Lib.hid (own_keep x1 hba)
    have HX2 := Lib.hid (own_keep x2 hba)
    have HX3 := Lib.hid x3
    have HO1 := Lib.hid (fun g (h : (Value.slice A1 nn c1).ownBlock = some g) => x1.lt g h)
    have HO2 := Lib.hid (fun g (h : (Value.slice A2 n c2).ownBlock = some g) => x2.lt g h)
    have HD := Lib.hid (deleteOld_all (w1.heap.size + 1 + 1) n c2 A2 fs z (w.heap.size + 1) _ HX2.out hn (hz2.cell 0) (by omega) (by have := hba.size; omega))
    clear hb2 hba x1 x2 x3 hz2
    go_wp2_with (fail)
    (with_reducible refine HD.out.mono ?_)
    clear HD
    rintro e w3 ⟨rfl, hO3, hg3⟩
    have hN3 := HN2.out.grown hg3 (fun e => by have := (HO2.out _ e.symm).2; omega)
    have hQ3 := HQ2.out.grown hg3 (fun e => by have := (HO2.out _ e.symm).1; omega)
    have hb3 := HBA.out.grown hg3 (by simp; omega) (fun k hk => by have := (HO2.out k hk).1; omega)
    have hx1 := HX1.out.kept hg3 (by
      cases hv : (Value.slice A1 nn c1).ownBlock with
      | none => exact .inl rfl
      | some k => exact .inr fun e => HX3.out k hv e.symm)
    have hl1 : ∀ g, (Value.slice A1 nn c1).ownBlock = some g → w1.heap.size + 1 + 1 ≤ g ∧ g < w2.heap.size := HO1.out
    have hl2 : ∀ g, (Value.slice A2 (keptOf fs z).length c2).ownBlock = some g → w1.heap.size + 1 + 1 ≤ g ∧ g < w2.heap.size := fun g h => HO2.out g (by cases A2 <;> exact h)
    have h3 : ∀ g, (Value.slice A1 nn c1).ownBlock = some g → (Value.slice A2 (keptOf fs z).length c2).ownBlock ≠ some g := fun g h1 h2 => HX3.out g h1 (by cases A2 <;> exact h2)
    have n0 : w3.cell? ⟨w2.heap.size, 0, none⟩ = some (.slice A1 nn c1) := hN3.cell 0
    have n1 : w3.cell? ⟨w2.heap.size, 1, none⟩ = some (.slice A2 n c2) := hN3.cell 1
    have m1 := hN3.soft 1
    have r0 : w3.cell? ⟨w.heap.size + 1 + 1, 0, none⟩ = some (.slice none 0 0) := hQ3.cell 0
    have r1 : w3.cell? ⟨w.heap.size + 1 + 1, 1, none⟩ = some (.slice none 0 0) := hQ3.cell 1
    have s0 := hQ3.soft 0
    have s1 := hQ3.soft 1
    have hz := ((hQ3.grown (grown_set w3 ⟨w2.heap.size, 1, none⟩ (.slice A2 (keptOf fs z).length c2)) (fun e => by injection e with e; have : w.heap.size + 1 + 1 = w2.heap.size := e; omega)).put 0 (.slice A1 nn c1)).put 1 (.slice A2 (keptOf fs z).length c2)
    have z0 := hz.cell 0
    have z1 := hz.cell 1
    simp at z0 z1
    have HBZ := Lib.hid (((hb3.setCell (p := ⟨w2.heap.size, 1, none⟩) (by show w.heap.size ≤ w2.heap.size; omega) (.slice A2 (keptOf fs z).length c2)).setCell (p := ⟨w.heap.size + 1 + 1, 0, none⟩) (by show w.heap.size ≤ w.heap.size + 1 + 1; omega) (.slice A1 nn c1)).setCell (p := ⟨w.heap.size + 1 + 1, 1, none⟩) (by show w.heap.size ≤ w.heap.size + 1 + 1; omega) (.slice A2 (keptOf fs z).length c2))
    have HF1 := Lib.hid (own_base (own_set (own_set (own_set hx1 (p := ⟨w2.heap.size, 1, none⟩) (.slice A2 (keptOf fs z).length c2) (fun g h e => by have := (hl1 g h).2; have e : g = w2.heap.size := e; omega)) (p := ⟨w.heap.size + 1 + 1, 0, none⟩) (.slice A1 nn c1) (fun g h e => by have := (hl1 g h).1; have e : g = w.heap.size + 1 + 1 := e; omega)) (p := ⟨w.heap.size + 1 + 1, 1, none⟩) (.slice A2 (keptOf fs z).length c2) (fun g h e => by have := (hl1 g h).1; have e : g = w.heap.size + 1 + 1 := e; omega)) (by omega : w.heap.size ≤ w1.heap.size + 1 + 1))
    have HF2 := Lib.hid (own_base (own_set (own_set (own_set hO3 (p := ⟨w2.heap.size, 1, none⟩) (.slice A2 (keptOf fs z).length c2) (fun g h e => by have := (hl2 g h).2; have e : g = w2.heap.size := e; omega)) (p := ⟨w.heap.size + 1 + 1, 0, none⟩) (.slice A1 nn c1) (fun g h e => by have := (hl2 g h).1; have e : g = w.heap.size + 1 + 1 := e; omega)) (p := ⟨w.heap.size + 1 + 1, 1, none⟩) (.slice A2 (keptOf fs z).length c2) (fun g h e => by have := (hl2 g h).1; have e : g = w.heap.size + 1 + 1 := e; omega)) (by omega : w.heap.size ≤ w1.heap.size + 1 + 1))
    have HF3 := Lib.hid h3
    clear hz hx1 hO3 hg3 hb3 hl1 hl2 h3 hN3 hQ3
    go_wp2
    refine bodyPost_ret (v := .agg #[.slice A1 nn c1, .slice A2 (keptOf fs z).length c2]) (by simp [results, Try.results13, go_sem, z0, z1]) rfl ⟨A1, nn, c1, A2, (keptOf fs z).length, c2, rfl, ?_, HBZ.out⟩
    rw [HX.out]
    exact ⟨HF1.out, HF2.out, HF3.out⟩
end Go.Proofs.Ytgnffodnimafoaa
