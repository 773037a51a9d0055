/- slices.Clone at subscriptions and letters; impl.copyPost. (Written by gen/clones.py.) -/
import Derived.Test.YtgnffodnimafoaaExSub
import Derived.Test.YtgnffodnimafoaaExLetter
import Derived.Deep.RegionLaw
set_option linter.unusedSimpArgs false
set_option linter.unusedVariables false
namespace Go.Proofs.Ytgnffodnimafoaa
open Go.RowKit

/-- A slice, copied: its cells in a row of the call's own. -/
def ClonePost (t : TypeId) (n : Nat) (ss : List Tri) (w : World) (e : Ending) (w' : World) : Prop :=
  ∃ A c, e = .returned (.slice A n c) ∧ w'.ownsRow w.heap.size t 3 (.slice A n c) n (tvs ss) ∧ Below w.heap.size w w'
set_option maxRecDepth 100000 in
set_option maxHeartbeats 800000 in
theorem cloneSub_any (lo hi n c : Nat) (A : Option Addr) (ss : List Tri) (w : World) (hr : Rd w lo hi 3 A n (tvs ss)) (hB : hi ≤ w.heap.size) (hn : n ≤ 1048576) :
    Calls Try.prog 48 #[.slice A n c] w (ClonePost 42 n ss w) := by
  have HL := Lib.hid hr.len3
  obtain ⟨i0, hi0, hz0, hz1, hz2⟩ := info_parts infoSub
  cases A with
  | none =>
    obtain rfl : n = 0 := by
      rcases Nat.eq_zero_or_pos n with h | h
      · exact h
      · obtain ⟨_, _, e, _⟩ := hr.form h; cases e
    obtain rfl : ss = [] := List.eq_nil_of_length_eq_zero HL.out
    clear hr
    have q22 : ∀ (w : World) (a : Option Addr) (n c n' c' : Nat), (binOp .eql 23 (.slice a n c) (.slice none n' c')).run Try.prog w = .ok (.bool a.isNone) w := fun w a n c n' c' => Lib.run_eql_slice_nil w _ _ a n c n' c' Try.underlying23
    go_enter Try.func48, Try.ntmps48
    go_wp2
    go_ret
    exact ⟨none, 0, rfl, World.ownsRow_nil _ _ _ _, Below.refl _ _⟩
  | some a =>
    have hown1 : (w.alloc (.cells #[] 42)).ownsRow w.heap.size 42 3 (.slice (some ⟨w.heap.size, 0, none⟩) 0 0) 0 [] := World.ownsRow_made w #[] 0 (Nat.le_refl _) (by unfold maxLen; omega) (by simp)
    have hbl := up_alloc (Below.refl _ w) (.cells #[] 42)
    have hr1 := hr.keep hbl hB
    have q22 : ∀ (w : World) (a : Option Addr) (n c n' c' : Nat), (binOp .eql 23 (.slice a n c) (.slice none n' c')).run Try.prog w = .ok (.bool a.isNone) w := fun w a n c n' c' => Lib.run_eql_slice_nil w _ _ a n c n' c' Try.underlying23
    go_enter Try.func48, Try.ntmps48
    go_wp2_with (at_builtin; refine wpList_append_rd _ rfl _ _ 23 rfl w.heap.size 42 i0 _ 3 24 Try.underlying23 hi0 hz0 hz1 hz2 rfl (by decide) _ _ _ rfl hown1 lo hi (some a) n c (tvs ss) rfl hr1 (tvs_one ss) ?c3 ?c4 ?c5 ?_)
    case c3 => unfold maxLen; omega
    case c4 => omega
    case c5 => simp
    intro v2 w2 hown2 hg2 _
    have hb2 := up_grown hbl hown1 hg2 (Nat.le_refl _)
    try simp only [Nat.zero_add, List.nil_append] at hown2
    have HO := Lib.hid hown2
    clear hown1 hown2 hg2 hr1 hbl
    obtain ⟨A2, c2, hv2, _⟩ := own_form HO.out
    subst hv2
    go_wp2
    go_ret
    exact ⟨A2, c2, rfl, HO.out, hb2⟩
set_option maxRecDepth 100000 in
set_option maxHeartbeats 800000 in
theorem cloneLetter_any (lo hi n c : Nat) (A : Option Addr) (ss : List Tri) (w : World) (hr : Rd w lo hi 3 A n (tvs ss)) (hB : hi ≤ w.heap.size) (hn : n ≤ 1048576) :
    Calls Try.prog 49 #[.slice A n c] w (ClonePost 33 n ss w) := by
  have HL := Lib.hid hr.len3
  obtain ⟨i0, hi0, hz0, hz1, hz2⟩ := info_parts infoLetter
  cases A with
  | none =>
    obtain rfl : n = 0 := by
      rcases Nat.eq_zero_or_pos n with h | h
      · exact h
      · obtain ⟨_, _, e, _⟩ := hr.form h; cases e
    obtain rfl : ss = [] := List.eq_nil_of_length_eq_zero HL.out
    clear hr
    have q22 : ∀ (w : World) (a : Option Addr) (n c n' c' : Nat), (binOp .eql 24 (.slice a n c) (.slice none n' c')).run Try.prog w = .ok (.bool a.isNone) w := fun w a n c n' c' => Lib.run_eql_slice_nil w _ _ a n c n' c' Try.underlying24
    go_enter Try.func49, Try.ntmps49
    go_wp2
    go_ret
    exact ⟨none, 0, rfl, World.ownsRow_nil _ _ _ _, Below.refl _ _⟩
  | some a =>
    have hown1 : (w.alloc (.cells #[] 33)).ownsRow w.heap.size 33 3 (.slice (some ⟨w.heap.size, 0, none⟩) 0 0) 0 [] := World.ownsRow_made w #[] 0 (Nat.le_refl _) (by unfold maxLen; omega) (by simp)
    have hbl := up_alloc (Below.refl _ w) (.cells #[] 33)
    have hr1 := hr.keep hbl hB
    have q22 : ∀ (w : World) (a : Option Addr) (n c n' c' : Nat), (binOp .eql 24 (.slice a n c) (.slice none n' c')).run Try.prog w = .ok (.bool a.isNone) w := fun w a n c n' c' => Lib.run_eql_slice_nil w _ _ a n c n' c' Try.underlying24
    go_enter Try.func49, Try.ntmps49
    go_wp2_with (at_builtin; refine wpList_append_rd _ rfl _ _ 24 rfl w.heap.size 33 i0 _ 3 24 Try.underlying24 hi0 hz0 hz1 hz2 rfl (by decide) _ _ _ rfl hown1 lo hi (some a) n c (tvs ss) rfl hr1 (tvs_one ss) ?c3 ?c4 ?c5 ?_)
    case c3 => unfold maxLen; omega
    case c4 => omega
    case c5 => simp
    intro v2 w2 hown2 hg2 _
    have hb2 := up_grown hbl hown1 hg2 (Nat.le_refl _)
    try simp only [Nat.zero_add, List.nil_append] at hown2
    have HO := Lib.hid hown2
    clear hown1 hown2 hg2 hr1 hbl
    obtain ⟨A2, c2, hv2, _⟩ := own_form HO.out
    subst hv2
    go_wp2
    go_ret
    exact ⟨A2, c2, rfl, HO.out, hb2⟩
/-- A post office, copied: two rows of the call's own, apart. -/
def CopyRows (base : Nat) (ns fs : List Tri) (nn n : Nat) (v1 v2 : Value) (w' : World) : Prop :=
  w'.ownsRow base 42 3 v1 nn (tvs ns) ∧ w'.ownsRow base 33 3 v2 n (tvs fs) ∧ ∀ g, v1.ownBlock = some g → v2.ownBlock ≠ some g
set_option maxRecDepth 100000 in
set_option maxHeartbeats 1600000 in
theorem copyPost_any (lo hi nn cn : Nat) (An : Option Addr) (ns : List Tri) (lo' hi' n c : Nat) (A : Option Addr) (fs : List Tri) (w : World) (hrn : Rd w lo hi 3 An nn (tvs ns)) (hB : hi ≤ w.heap.size) (hnn : nn ≤ 1048576)
    (hr : Rd w lo' hi' 3 A n (tvs fs)) (hB' : hi' ≤ w.heap.size) (hn : n ≤ 1048576) :
    Calls Try.prog 30 #[.agg #[.slice An nn cn, .slice A n c]] w fun e w' => ∃ A1 c1 A2 c2, e = .returned (.agg #[.slice A1 nn c1, .slice A2 n c2]) ∧ CopyRows (w.heap.size + 1 + 1) ns fs nn n (.slice A1 nn c1) (.slice A2 n c2) w' ∧ Below w.heap.size w w' ∧ w.heap.size + 1 + 1 ≤ w'.heap.size := by
  have hb0 := up_drew (up_alloc (up_alloc (Below.refl _ w) (.cells #[.slice An nn cn, .slice A n c] 26)) (.cells #[.slice none 0 0, .slice none 0 0] 26))
  have hp0 := (Blk.new w 26 #[.slice An nn cn, .slice A n c]).alloc (.cells #[.slice none 0 0, .slice none 0 0] 26)
  have hq0 := Blk.new (w.alloc (.cells #[.slice An nn cn, .slice A n c] 26)) 26 #[.slice none 0 0, .slice none 0 0]
  have e1 : (w.alloc (.cells #[.slice An nn cn, .slice A n c] 26)).heap.size = w.heap.size + 1 := by simp
  have e2 : ((w.alloc (.cells #[.slice An nn cn, .slice A n c] 26)).alloc (.cells #[.slice none 0 0, .slice none 0 0] 26)).drew.heap.size = w.heap.size + 1 + 1 := by simp
  rw [e1] at hq0
  have HCS := Lib.hid (show ∀ w0, Below w.heap.size w w0 → Calls Try.prog 48 #[.slice An nn cn] w0 (ClonePost 42 nn ns w0) from fun w0 hb => cloneSub_any lo hi nn cn An ns w0 (hrn.keep hb hB) (Nat.le_trans hB hb.size) hnn)
  have HCL := Lib.hid (show ∀ w0, Below w.heap.size w w0 → Calls Try.prog 49 #[.slice A n c] w0 (ClonePost 33 n fs w0) from fun w0 hb => cloneLetter_any lo' hi' n c A fs w0 (hr.keep hb hB') (Nat.le_trans hB' hb.size) hn)
  have HB0 := Lib.hid hb0
  have HP0 := Lib.hid (hp0.below (up_drew (Below.refl _ _)) hp0.lt)
  have HQ0 := Lib.hid (hq0.below (up_drew (Below.refl _ _)) hq0.lt)
  have HE2 := Lib.hid e2
  have p0 := HP0.out.cell 0
  have p1 := HP0.out.cell 1
  clear hb0 hp0 hq0 e1 e2
  go_enter Try.func30, Try.ntmps30
  go_wp2_with (fail)
  go_region_law (first
    | (go_simp; go_at_call 49; (with_reducible refine (HCL.out w3 HB3.out).mono ?_); rintro e w4 ⟨AL, cL, rfl, hoL, hbL⟩
       have HX := Lib.hid (show CopyRows (w.heap.size + 1 + 1) ns fs nn n (.slice AS nn cS) (.slice AL n cL) w4 from ⟨own_base (own_keep HOS.out hbL) (by rw [HE2.out]; omega), own_base hoL (by omega), fun g h1 h2 => by have := (HOS.out.lt g h1).2; have := (hoL.lt g h2).1; omega⟩)
       have HBX := Lib.hid (up HB3.out hbL)
       have hs4 := Nat.le_trans hs3 hbL.size
       have HQX := Lib.hid (HQ3.out.below hbL (by omega))
       have r0 := HQX.out.cell 0
       have r1 := HQX.out.cell 1
       have s0 := HQX.out.soft 0
       have s1 := HQX.out.soft 1
       clear hoL hbL)
    | (go_simp; go_at_call 48; (with_reducible refine (HCS.out w5 HB5.out).mono ?_); rintro e w4 ⟨AS, cS, rfl, hoS, hbS⟩
       have HX := Lib.hid (show CopyRows (w.heap.size + 1 + 1) ns fs nn n (.slice AS nn cS) (.slice AL n cL) w4 from ⟨own_base hoS (by omega), own_base (own_keep HOL.out hbS) (by rw [HE2.out]; omega), fun g h1 h2 => by have := (HOL.out.lt g h2).2; have := (hoS.lt g h1).1; omega⟩)
       have HBX := Lib.hid (up HB5.out hbS)
       have hs4 := Nat.le_trans hs5 hbS.size
       have HQX := Lib.hid (HQ5.out.below hbS (by omega))
       have r0 := HQX.out.cell 0
       have r1 := HQX.out.cell 1
       have s0 := HQX.out.soft 0
       have s1 := HQX.out.soft 1
       clear hoS hbS)
    | (go_simp; go_at_call 48; (with_reducible refine (HCS.out _ HB0.out).mono ?_); rintro e w3 ⟨AS, cS, rfl, hoS, hbS⟩
       have HB3 := Lib.hid (up HB0.out hbS)
       have HOS := Lib.hid hoS
       have hs3 := hbS.size
       rw [HE2.out] at hs3
       have HP3 := Lib.hid (HP0.out.below hbS (by rw [HE2.out]; omega))
       have HQ3 := Lib.hid (HQ0.out.below hbS (by rw [HE2.out]; omega))
       have t0 : w3.cell? ⟨w.heap.size, 0, none⟩ = some (.slice An nn cn) := HP3.out.cell 0
       have t1 : w3.cell? ⟨w.heap.size, 1, none⟩ = some (.slice A n c) := HP3.out.cell 1
       clear hoS hbS)
    | (go_simp; go_at_call 49; (with_reducible refine (HCL.out _ HB0.out).mono ?_); rintro e w5 ⟨AL, cL, rfl, hoL, hbL⟩
       have HB5 := Lib.hid (up HB0.out hbL)
       have HOL := Lib.hid hoL
       have hs5 := hbL.size
       rw [HE2.out] at hs5
       have HP5 := Lib.hid (HP0.out.below hbL (by rw [HE2.out]; omega))
       have HQ5 := Lib.hid (HQ0.out.below hbL (by rw [HE2.out]; omega))
       have t0 : w5.cell? ⟨w.heap.size, 0, none⟩ = some (.slice An nn cn) := HP5.out.cell 0
       have t1 : w5.cell? ⟨w.heap.size, 1, none⟩ = some (.slice A n c) := HP5.out.cell 1
       clear hoL hbL))
  all_goals
    have hz := (HQX.out.put 0 (.slice AS nn cS)).put 1 (.slice AL n cL)
    have z0 := hz.cell 0
    have z1 := hz.cell 1
    simp at z0 z1
    have HBZ := Lib.hid ((HBX.out.setCell (p := ⟨w.heap.size + 1, 0, none⟩) (by show w.heap.size ≤ w.heap.size + 1; omega) (.slice AS nn cS)).setCell (p := ⟨w.heap.size + 1, 1, none⟩) (by show w.heap.size ≤ w.heap.size + 1; omega) (.slice AL n cL))
    obtain ⟨x1, x2, x3⟩ := HX.out
    have hlt : ∀ j, some (w.heap.size + 1) = some j → j < w.heap.size + 1 + 1 := fun j hj => by cases hj; omega
    have HR := Lib.hid (show CopyRows (w.heap.size + 1 + 1) ns fs nn n (.slice AS nn cS) (.slice AL n cL) ((w4.setCell ⟨w.heap.size + 1, 0, none⟩ (.slice AS nn cS)).setCell ⟨w.heap.size + 1, 1, none⟩ (.slice AL n cL)) from
      ⟨own_grown (own_grown x1 (grown_set w4 ⟨w.heap.size + 1, 0, none⟩ _) hlt) (grown_set _ ⟨w.heap.size + 1, 1, none⟩ _) hlt, own_grown (own_grown x2 (grown_set w4 ⟨w.heap.size + 1, 0, none⟩ _) hlt) (grown_set _ ⟨w.heap.size + 1, 1, none⟩ _) hlt, x3⟩)
    clear hz x1 x2 x3 hlt
    go_wp2
    exact bodyPost_ret (v := .agg #[.slice AS nn cS, .slice AL n cL]) (by simp [results, Try.results30, go_sem, z0, z1]) rfl ⟨AS, cS, AL, cL, rfl, HR.out, HBZ.out, by simpa [World.setCell] using hs4⟩
end Go.Proofs.Ytgnffodnimafoaa
