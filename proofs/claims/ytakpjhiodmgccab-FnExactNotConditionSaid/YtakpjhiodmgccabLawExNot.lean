/- The law FnExactNotCondition, walked: it returns true. -/
import Derived.Test.YtakpjhiodmgccabExPart
import Derived.Test.YtakpjhiodmgccabExInt
import Derived.Test.YtakpjhiodmgccabCondNot
namespace Go.Proofs.Ytakpjhiodmgccab
open Go.RowKit

/-- NotCondition's results, both ways in one. -/
def notL (ps : List (Int × Int)) : List (Int × Int) := (notOf ps).getD []
def notB (ps : List (Int × Int)) : Bool := (notOf ps).isSome
def NotOne (ds : List (Int × Int)) (b : Bool) (w : World) (e : Ending) (w' : World) : Prop :=
  ∃ A c, e = .returned (.tuple #[.slice A ds.length c, .bool b]) ∧ Rd w' w.heap.size w'.heap.size 2 A ds.length (pvs ds) ∧ Soft w' 2 A ds.length ∧ Below w.heap.size w w'
theorem not_one {ps : List (Int × Int)} {w w' : World} {e : Ending} (h : NotPost ps w e w') : NotOne (notL ps) (notB ps) w e w' := by
  rcases h with ⟨hN, rfl, hb⟩ | ⟨A, c, hN, rfl, _, hr, hs, hb⟩
  · rw [notL, notB, hN]
    exact ⟨none, 0, rfl, Rd.nil _ _ _ _ _, (fun b off e => nomatch e), hb⟩
  · rw [notL, notB, hN]
    simp only [Option.getD_some, Option.isSome_some]
    refine ⟨A, c, ?_, ?_, ?_, hb⟩
    · rw [List.length_append]; rfl
    · rw [List.length_append]; exact hr
    · rw [List.length_append]; exact hs
theorem notL_len {ps : List (Int × Int)} : (notL ps).length ≤ 13 := by
  unfold notL notOf
  split
  · rename_i h
    have := vCond_len h.1
    simp; omega
  · simp

set_option maxHeartbeats 1600000 in
theorem exNot_any (n c : Nat) (A : Option Addr) (ps : List (Int × Int)) (w : World) (hn : n ≤ 9223372036854775807) (hr : Rd w 0 w.heap.size 2 A n (pvs ps)) :
    Calls Try.prog 10 #[.slice A n c] w fun e w' => e = .returned (.bool true) ∧ Below w.heap.size w w' := by
  by_cases hbig : (1048576 : Int) < n
  · go_enter Try.func10, Try.ntmps10
    go_wp2_with (fail)
    (with_reducible refine (szPartS_no n c A 1048576 w hn (by omega) (by omega) hbig).mono ?_)
    rintro e w' ⟨rfl, rfl⟩
    go_wp2
    go_ret
    exact ⟨rfl, Below.refl _ _⟩
  have hn1 : n ≤ 1048576 := by omega
  have hpl := hr.len2
  have HPL := Lib.hid hpl
  clear hbig hpl
  go_enter Try.func10, Try.ntmps10
  go_wp2_with (fail)
  (with_reducible refine (szPartS_yes n c A 1048576 w (by omega) (by omega) (by omega)).mono ?_)
  rintro e w' ⟨rfl, rfl⟩
  have hpos : (0 : Int) ≤ 1048576 - (n : Int) := by omega
  go_wp2_with (fail)
  (with_reducible refine (toPartS_any 0 _ n c A ps w hr (Nat.le_refl _) hn1).mono ?_)
  rintro e w1 ⟨A1, c1, rfl, _, hr1, _, hb1⟩
  have hul := notL_len (ps := ps)
  have HX : Hid (∀ w e w', NotPost ps w e w' → NotOne (notL ps) (notB ps) w e w') := fun w e w' h => not_one h
  generalize notL ps = us at hul HX
  generalize notB ps = bb at HX
  have hbb : (bb != bb) = false := by simp
  go_wp2_with (fail)
  (with_reducible refine (notS_any _ _ n c1 A1 ps w1 hr1 (Nat.le_refl _) hn1).mono ?_)
  intro e w2 hpost
  obtain ⟨A2, c2, rfl, hr2, _, hb2⟩ := HX.out _ _ _ hpost
  clear hpost
  have hb02 := up hb1 hb2
  clear hb1 hr1
  go_wp2_with (fail)
  (with_reducible refine (toPartS_any 0 _ n c A ps w2 (hr.keep hb02 (Nat.le_refl _)) hb02.size hn1).mono ?_)
  rintro e w3 ⟨A3, c3, rfl, _, hr3, hs3, hb3⟩
  have hr23 := hr2.keep hb3 (Nat.le_refl _)
  have hsz2 := hb2.size
  have hsz3 := hb3.size
  go_wp2_with (fail)
  (with_reducible refine (notI_any _ _ n c3 A3 ps w3 hr3 (Nat.le_refl _) hn1).mono ?_)
  intro e w4 hpost
  obtain ⟨A4, c4, rfl, hr4, hs4, hb4⟩ := HX.out _ _ _ hpost
  clear hpost
  have hr24 := hr23.keep hb4 (by omega)
  have hr34 := hr3.keep hb4 (Nat.le_refl _)
  have hs34 := hs3.kept hr3 hb4 (Nat.le_refl _)
  have hsz4 := hb4.size
  have hb04 := up (up hb02 hb3) hb4
  have hlo1 : w.heap.size ≤ w2.heap.size := hb02.size
  have hlo2 : w.heap.size ≤ w3.heap.size := Nat.le_trans hlo1 hsz3
  have hlo3 : w2.heap.size ≤ w3.heap.size := hsz3
  clear hb02 hb2 hb3 hb4 hr2 hr23 hr3 hs3
  go_wp2_with (fail)
  (with_reducible refine (eqPartS_any _ _ us.length c4 _ _ us.length c2 A4 A2 us us w4 hr4 (Nat.le_refl _) (by omega) hr24 (by omega) (by omega)).mono ?_)
  rintro e w5 ⟨rfl, hb5⟩
  rw [beq_self_eq_true]
  have hb05 := up hb04 hb5
  have hsz5 := hb5.size
  have hr25 := hr24.keep hb5 (by omega)
  have hr35 := hr34.keep hb5 (by omega)
  have hs35 := hs34.kept hr34 hb5 (by omega)
  have hr45 := hr4.keep hb5 (by omega)
  have hs45 := hs4.kept hr4 hb5 (by omega)
  clear hb04 hb5 hr24 hr34 hs34 hr4 hs4
  go_wp2_with (fail)
  (with_reducible refine (toPartS_any 0 _ n c A ps w5 (hr.keep hb05 (Nat.le_refl _)) hb05.size hn1).mono ?_)
  rintro e w6 ⟨A6, c6, rfl, _, hr6, _, hb6⟩
  have hsz6 := hb6.size
  go_wp2_with (fail)
  (with_reducible refine (eqPartS_any _ _ n c3 _ _ n c6 A3 A6 ps ps w6 (hr35.keep hb6 (by omega)) (by omega) hn1 hr6 (Nat.le_refl _) hn1).mono ?_)
  rintro e w7 ⟨rfl, hb7⟩
  rw [beq_self_eq_true]
  have hb57 := up hb6 hb7
  have hb07 := up hb05 hb57
  have hsz7 := hb57.size
  have hr27 := hr25.keep hb57 (by omega)
  have hr37 := hr35.keep hb57 (by omega)
  have hs37 := hs35.kept hr35 hb57 (by omega)
  have hr47 := hr45.keep hb57 (by omega)
  have hs47 := hs45.kept hr45 hb57 (by omega)
  clear hb05 hb57 hb6 hb7 hr25 hr35 hs35 hr45 hs45 hr6
  go_wp2_with (fail)
  (with_reducible refine (markPartS_any _ _ n c3 A3 _ 1 w7 hr37 hs37 hn1 (by omega) (by omega)).mono ?_)
  rintro e w8 ⟨rfl, hr38, _, hin8⟩
  have hb08 := in_below hb07 hin8 hr37 hlo1
  have hr28 := hr27.other (by omega) hin8 hr37 (.inl (Nat.le_refl _))
  have hr48 := hr47.other (by omega) hin8 hr37 (.inr (Nat.le_refl _))
  have hs48 := hs47.other hr47 (by omega) hin8 hr37 (.inr (Nat.le_refl _))
  have hsz8 := hin8.size
  clear hb07 hin8 hr37 hr27 hr47 hs47 hs37
  go_wp2_with (fail)
  (with_reducible refine (eqPartS_any _ _ us.length c4 _ _ us.length c2 A4 A2 us us w8 hr48 (by omega) (by omega) hr28 (by omega) (by omega)).mono ?_)
  rintro e w9 ⟨rfl, hb9⟩
  rw [beq_self_eq_true]
  have hb09 := up hb08 hb9
  have hsz9 := hb9.size
  have hr29 := hr28.keep hb9 (by omega)
  have hr49 := hr48.keep hb9 (by omega)
  have hs49 := hs48.kept hr48 hb9 (by omega)
  clear hb08 hb9 hr28 hr48 hs48
  go_wp2_with (fail)
  (with_reducible refine (markPartS_any _ _ us.length c4 A4 _ 1 w9 hr49 hs49 (by omega) (by omega) (by omega)).mono ?_)
  rintro e w10 ⟨rfl, hr410, _, hin10⟩
  have hb010 := in_below hb09 hin10 hr49 hlo2
  have hr210 := hr29.other (by omega) hin10 hr49 (.inl hlo3)
  have hsz10 := hin10.size
  clear hb09 hin10 hr49 hr29 hs49
  go_wp2_with (fail)
  (with_reducible refine (heldPartS_any _ _ us.length c4 A4 1 w10 hr410 (by omega) (by omega) (by omega)).mono ?_)
  rintro e w11 ⟨rfl, rfl⟩
  go_wp2_with (fail)
  (with_reducible refine (toPartS_any 0 _ n c A ps w10 (hr.keep hb010 (Nat.le_refl _)) hb010.size hn1).mono ?_)
  rintro e w12 ⟨A12, c12, rfl, _, hr12, _, hb12⟩
  have hsz12 := hb12.size
  go_wp2_with (fail)
  (with_reducible refine (notI_any _ _ n c12 A12 ps w12 hr12 (Nat.le_refl _) hn1).mono ?_)
  intro e w13 hpost
  obtain ⟨A13, c13, rfl, hr13, _, hb13⟩ := HX.out _ _ _ hpost
  clear hpost
  have hsz13 := hb13.size
  have hb1013 := up hb12 hb13
  go_wp2_with (fail)
  (with_reducible refine (eqPartS_any _ _ us.length c13 _ _ us.length c2 A13 A2 us us w13 hr13 (by omega) (by omega) (hr210.keep hb1013 (by omega)) (by omega) (by omega)).mono ?_)
  rintro e w14 ⟨rfl, hb14⟩
  rw [beq_self_eq_true]
  have hb1014 := up hb1013 hb14
  go_wp2_with (fail)
  (with_reducible refine (heldPartS_any _ _ us.length c4 A4 1 w14 (hr410.keep hb1014 (by omega)) (by omega) (by omega) (by omega)).mono ?_)
  rintro e w15 ⟨rfl, rfl⟩
  go_wp2
  go_ret
  exact ⟨rfl, up hb010 hb1014⟩
end Go.Proofs.Ytakpjhiodmgccab
