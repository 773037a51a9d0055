/- spec.ValidPost. -/
import Derived.Test.YtgnffodnimafoaaPostMath
import Derived.Test.YtgnffodnimafoaaCondS
import Derived.BigQuiet
set_option linter.unusedSimpArgs false
set_option linter.unusedVariables false
namespace Go.Proofs.Ytgnffodnimafoaa
open Go.RowKit

theorem all_hit {α : Type} {f : α → Bool} {l : List α} {k : Nat} {t : α} (hg : l[k]? = some t) (h : f t = true) : (l.drop k).all f = (l.drop (k + 1)).all f := by
  rw [drop_cons2 hg, List.all_cons, h, Bool.true_and]
theorem all_miss {α : Type} {f : α → Bool} {l : List α} {k : Nat} {t : α} (hg : l[k]? = some t) (h : f t = false) : (l.drop k).all f = false := by
  rw [drop_cons2 hg, List.all_cons, h, Bool.false_and]
set_option maxHeartbeats 800000 in
theorem validSubs_any (lo hi n c : Nat) (A : Option Addr) (ss : List Tri) (w : World) (hr : Rd w lo hi 3 A n (tvs ss)) (hn : n ≤ 1048576) :
    Calls Try.prog 47 #[.slice A n c] w fun e w' => e = .returned (.bool (vSubs ss)) ∧ w = w' := by
  have HL := Lib.hid hr.len3
  go_enter Try.func47, Try.ntmps47
  go_wp2
  go_loop [3] (fun iv => ∃ (k : Nat), k ≤ n ∧ iv = .int .i64 k ∧ Hid (ss.all vSub = (ss.drop k).all vSub))
     (fun iv => n - (intOf iv).toNat)
  case atStart => exact ⟨0, by omega, rfl, rfl⟩
  case round =>
    obtain ⟨k, hk, rfl, hS⟩ := hrel
    by_cases hlt : k < n
    · obtain ⟨b, off, x, y, z, rfl, _, _, hg, hc0, hc1, hc2⟩ := hr.trip hlt
      have hkn : (k : Int) < (n : Int) := by omega
      have hk0 : (0 : Int) ≤ (k : Int) := by omega
      have HG := Lib.hid hg
      clear hg
      cases h1 : inR x 0 9 with
      | false =>
        have HX := Lib.hid (show vSubs ss = false by rw [vSubs, hS.out, all_miss HG.out (by simp [vSub, h1])]; rfl)
        go_wp2_with (fail)
        (with_reducible refine (inRange_any x 0 9 _).mono ?_)
        rintro e w1 ⟨rfl, rfl⟩
        rw [h1]
        clear h1
        go_wp2
        go_ret
        exact ⟨ret_bool HX.out.symm, rfl⟩
      | true =>
      have H1 := Lib.hid h1
      go_wp2_with (fail)
      (with_reducible refine (inRange_any x 0 9 _).mono ?_)
      rintro e w1 ⟨rfl, rfl⟩
      rw [h1]
      clear h1
      cases h2 : inR y 0 9 with
      | false =>
        have HX := Lib.hid (show vSubs ss = false by rw [vSubs, hS.out, all_miss HG.out (by simp [vSub, h2])]; rfl)
        go_wp2_with (fail)
        (with_reducible refine (inRange_any y 0 9 _).mono ?_)
        rintro e w1 ⟨rfl, rfl⟩
        rw [h2]
        clear h2
        go_wp2
        go_ret
        exact ⟨ret_bool HX.out.symm, rfl⟩
      | true =>
      have H2 := Lib.hid h2
      go_wp2_with (fail)
      (with_reducible refine (inRange_any y 0 9 _).mono ?_)
      rintro e w1 ⟨rfl, rfl⟩
      rw [h2]
      clear h2
      go_wp2_with (fail)
      (with_reducible refine (inRange_any z 0 99 _).mono ?_)
      rintro e w1 ⟨rfl, rfl⟩
      cases h3 : inR z 0 99 with
      | false =>
        have HX := Lib.hid (show vSubs ss = false by rw [vSubs, hS.out, all_miss HG.out (by simp [vSub, h3])]; rfl)
        clear h3
        go_wp2
        go_ret
        exact ⟨ret_bool HX.out.symm, rfl⟩
      | true =>
        have HS := Lib.hid (hS.out.trans (all_hit HG.out (by simp [vSub, H1.out, H2.out, h3])))
        clear h3
        go_wp2
        go_round
        case rel => exact ⟨k + 1, by omega, by go_num, HS⟩
        case measure => simp [intOf]; omega
    · obtain rfl : k = n := by omega
      have HX := Lib.hid (show vSubs ss = decide (k ≤ 10) by rw [vSubs, hS.out, List.drop_of_length_le (by rw [HL.out]; omega), HL.out]; rfl)
      by_cases h10 : k ≤ 10
      · have hd : decide ((k : Int) ≤ 10) = true := decide_eq_true (by omega)
        go_wp2
        go_ret
        exact ⟨ret_bool (by rw [HX.out]; simp [h10]), rfl⟩
      · have hd : decide ((k : Int) ≤ 10) = false := decide_eq_false (by omega)
        go_wp2
        go_ret
        exact ⟨ret_bool (by rw [HX.out]; simp [h10]), rfl⟩
set_option maxHeartbeats 800000 in
theorem validLetters_any (lo hi n c : Nat) (A : Option Addr) (ss : List Tri) (w : World) (hr : Rd w lo hi 3 A n (tvs ss)) (hn : n ≤ 1048576) :
    Calls Try.prog 41 #[.slice A n c] w fun e w' => e = .returned (.bool (vLets ss)) ∧ w = w' := by
  have HL := Lib.hid hr.len3
  go_enter Try.func41, Try.ntmps41
  go_wp2
  go_loop [3] (fun iv => ∃ (k : Nat), k ≤ n ∧ iv = .int .i64 k ∧ Hid (ss.all vLet = (ss.drop k).all vLet))
     (fun iv => n - (intOf iv).toNat)
  case atStart => exact ⟨0, by omega, rfl, rfl⟩
  case round =>
    obtain ⟨k, hk, rfl, hS⟩ := hrel
    by_cases hlt : k < n
    · obtain ⟨b, off, x, y, z, rfl, _, _, hg, hc0, hc1, hc2⟩ := hr.trip hlt
      have hkn : (k : Int) < (n : Int) := by omega
      have hk0 : (0 : Int) ≤ (k : Int) := by omega
      have HG := Lib.hid hg
      clear hg
      cases h1 : inR x 0 9 with
      | false =>
        have HX := Lib.hid (show vLets ss = false by rw [vLets, hS.out, all_miss HG.out (by simp [vLet, h1])]; rfl)
        go_wp2_with (fail)
        (with_reducible refine (inRange_any x 0 9 _).mono ?_)
        rintro e w1 ⟨rfl, rfl⟩
        rw [h1]
        clear h1
        go_wp2
        go_ret
        exact ⟨ret_bool HX.out.symm, rfl⟩
      | true =>
      have H1 := Lib.hid h1
      go_wp2_with (fail)
      (with_reducible refine (inRange_any x 0 9 _).mono ?_)
      rintro e w1 ⟨rfl, rfl⟩
      rw [h1]
      clear h1
      cases h2 : inR y 0 99 with
      | false =>
        have HX := Lib.hid (show vLets ss = false by rw [vLets, hS.out, all_miss HG.out (by simp [vLet, h2])]; rfl)
        go_wp2_with (fail)
        (with_reducible refine (inRange_any y 0 99 _).mono ?_)
        rintro e w1 ⟨rfl, rfl⟩
        rw [h2]
        clear h2
        go_wp2
        go_ret
        exact ⟨ret_bool HX.out.symm, rfl⟩
      | true =>
      have H2 := Lib.hid h2
      go_wp2_with (fail)
      (with_reducible refine (inRange_any y 0 99 _).mono ?_)
      rintro e w1 ⟨rfl, rfl⟩
      rw [h2]
      clear h2
      go_wp2_with (fail)
      (with_reducible refine (inRange_any z 0 9999 _).mono ?_)
      rintro e w1 ⟨rfl, rfl⟩
      cases h3 : inR z 0 9999 with
      | false =>
        have HX := Lib.hid (show vLets ss = false by rw [vLets, hS.out, all_miss HG.out (by simp [vLet, h3])]; rfl)
        clear h3
        go_wp2
        go_ret
        exact ⟨ret_bool HX.out.symm, rfl⟩
      | true =>
        have HS := Lib.hid (hS.out.trans (all_hit HG.out (by simp [vLet, H1.out, H2.out, h3])))
        clear h3
        go_wp2
        go_round
        case rel => exact ⟨k + 1, by omega, by go_num, HS⟩
        case measure => simp [intOf]; omega
    · obtain rfl : k = n := by omega
      have HX := Lib.hid (show vLets ss = decide (k ≤ 10) by rw [vLets, hS.out, List.drop_of_length_le (by rw [HL.out]; omega), HL.out]; rfl)
      by_cases h10 : k ≤ 10
      · have hd : decide ((k : Int) ≤ 10) = true := decide_eq_true (by omega)
        go_wp2
        go_ret
        exact ⟨ret_bool (by rw [HX.out]; simp [h10]), rfl⟩
      · have hd : decide ((k : Int) ≤ 10) = false := decide_eq_false (by omega)
        go_wp2
        go_ret
        exact ⟨ret_bool (by rw [HX.out]; simp [h10]), rfl⟩
set_option maxRecDepth 100000 in
set_option maxHeartbeats 1600000 in
theorem validPostS_any (lo hi nn cn : Nat) (An : Option Addr) (ns : List Tri) (lo' hi' n c : Nat) (A : Option Addr) (fs : List Tri) (w : World) (hrn : Rd w lo hi 3 An nn (tvs ns)) (hB : hi ≤ w.heap.size) (hnn : nn ≤ 1048576)
    (hr : Rd w lo' hi' 3 A n (tvs fs)) (hB' : hi' ≤ w.heap.size) (hn : n ≤ 1048576) :
    Calls Try.prog 33 #[.agg #[.slice An nn cn, .slice A n c]] w fun e w' => e = .returned (.bool (vPost ns fs)) ∧ Below w.heap.size w w' := by
  have hb1 := up_alloc (Below.refl _ w) (.cells #[.slice An nn cn, .slice A n c] 26)
  have hp := Blk.new w 26 #[.slice An nn cn, .slice A n c]
  have HLN := Lib.hid hrn.len3
  have HLF := Lib.hid hr.len3
  have HP := Lib.hid hp
  have HB := Lib.hid hb1
  have hs1 : (w.alloc (.cells #[.slice An nn cn, .slice A n c] 26)).heap.size = w.heap.size + 1 := by simp
  clear hp hb1
  go_enter Try.func33, Try.ntmps33
  go_wp2
  go_loopw [3] (fun iv wr => ∃ (i : Nat), i ≤ nn ∧ iv = .int .i64 i ∧ Hid ((ns.all fun s => fs.all fun l => !meets s l) = ((ns.drop i).all fun s => fs.all fun l => !meets s l)) ∧ Hid (Blk wr w.heap.size 26 #[.slice An nn cn, .slice A n c] ∧ Below w.heap.size w wr))
     (fun iv _ => nn - (intOf iv).toNat)
  case atStart => exact ⟨0, by omega, rfl, rfl, HP.out, HB.out⟩
  case round =>
    clear HP HB hs1
    obtain ⟨i, hi_, rfl, hS, hW⟩ := hrel
    obtain ⟨hp, hb⟩ := hW.out
    have k0 : wr.cell? ⟨w.heap.size, 0, none⟩ = some (.slice An nn cn) := hp.cell 0
    have k1 : wr.cell? ⟨w.heap.size, 1, none⟩ = some (.slice A n c) := hp.cell 1
    have HB := Lib.hid hb
    have HP := Lib.hid hp
    clear hp hb hW
    by_cases hlt : i < nn
    · obtain ⟨b, off, x, y, z, rfl, _, _, hg, hc0, hc1, hc2⟩ := (hrn.keep HB.out hB).trip hlt
      have hi1 : (i : Int) < (nn : Int) := by omega
      have hi0 : (0 : Int) ≤ (i : Int) := by omega
      have HG := Lib.hid hg
      have HCA := Lib.hid hc1
      have HCB := Lib.hid hc2
      clear hg hc0 hc1 hc2
      go_wp2
      obtain ⟨wo, hwo⟩ : ∃ wo : World, wo = wr := ⟨_, rfl⟩
      subst hwo
      go_loopw [4] (fun kv ws => ∃ (k : Nat), k ≤ n ∧ kv = .int .i64 k ∧ Hid ((fs.all fun l => !meets (x, y, z) l) = ((fs.drop k).all fun l => !meets (x, y, z) l)) ∧ Below wo.heap.size wo ws)
         (fun kv _ => n - (intOf kv).toNat)
      case atStart => exact ⟨0, by omega, rfl, rfl, Below.refl _ _⟩
      case round =>
        clear k0 k1
        obtain ⟨k, hk, rfl, hT, hbw⟩ := hrel
        have HBW := Lib.hid hbw
        have HPW := Lib.hid (HP.out.below hbw HP.out.lt)
        have k0 : wr.cell? ⟨w.heap.size, 0, none⟩ = some (.slice (some ⟨b, off, none⟩) nn cn) := HPW.out.cell 0
        have k1 : wr.cell? ⟨w.heap.size, 1, none⟩ = some (.slice A n c) := HPW.out.cell 1
        obtain ⟨b0, off0, x0, y0, z0, hA0, _, _, hg0, _, hc1, hc2⟩ := (hrn.keep (up HB.out hbw) hB).trip hlt
        injection hA0 with hA0; injection hA0 with hA1 hA2; subst hA1; subst hA2
        obtain ⟨rfl, rfl, rfl⟩ : x = x0 ∧ y = y0 ∧ z = z0 := by have h := HG.out; rw [hg0] at h; injection h with h; injection h with h1 h2; injection h2 with h2 h3; exact ⟨h1.symm, h2.symm, h3.symm⟩
        clear hg0
        by_cases hlk : k < n
        · obtain ⟨b2, off2, x2, y2, z2, rfl, _, _, hg2, hd0, hd1, hd2⟩ := (hr.keep (up HB.out hbw) hB').trip hlk
          have hk1 : (k : Int) < (n : Int) := by omega
          have hk0 : (0 : Int) ≤ (k : Int) := by omega
          have HG2 := Lib.hid hg2
          clear hg2 hbw
          by_cases h1 : y = x2
          · have h1' : (y == x2) = true := by simpa using h1
            by_cases h2 : z = y2
            · have h2' : (z == y2) = true := by simpa using h2
              have HX := Lib.hid (show vPost ns fs = false by
                rw [vPost, hS.out, all_miss HG.out (by rw [hT.out, all_miss HG2.out (by simp [meets, h1, h2])])]; rfl)
              subst h1; subst h2
              go_wp2
              try (go_quiet (fail); go_wp2)
              go_ret
              exact ⟨ret_bool HX.out.symm, up HB.out (by first | exact HBW.out | exact up_drewN HBW.out _)⟩
            · have h2' : (z == y2) = false := by simpa using h2
              have HT := Lib.hid (hT.out.trans (all_hit HG2.out (by simp [meets, h2])))
              subst h1
              clear h2
              go_wp2
              try (go_quiet (fail); go_wp2)
              go_roundw
              case rel => exact ⟨k + 1, by omega, by go_num, HT, by first | exact HBW.out | exact up_drewN HBW.out _⟩
              case measure => simp [intOf]; omega
          · have h1' : (y == x2) = false := by simpa using h1
            have HT := Lib.hid (hT.out.trans (all_hit HG2.out (by simp [meets, h1])))
            clear h1
            go_wp2
            try (go_quiet (fail); go_wp2)
            go_roundw
            case rel => exact ⟨k + 1, by omega, by go_num, HT, by first | exact HBW.out | exact up_drewN HBW.out _⟩
            case measure => simp [intOf]; omega
        · obtain rfl : k = n := by omega
          have HS2 := Lib.hid (hS.out.trans (all_hit HG.out (by rw [hT.out, List.drop_of_length_le (by rw [HLF.out]; omega)]; rfl)))
          clear hbw
          go_wp2
          go_roundw
          case rel => exact ⟨i + 1, by omega, by go_num, HS2, HPW.out, up HB.out HBW.out⟩
          case measure => simp [intOf]; omega
    · obtain rfl : i = nn := by omega
      have HA := Lib.hid (show vPost ns fs = (vSubs ns && vLets fs) by
        rw [vPost, hS.out, List.drop_of_length_le (by rw [HLN.out]; omega), List.all_nil, Bool.true_and])
      have HV := Lib.hid (validSubs_any _ _ i cn An ns wr (hrn.keep HB.out hB) hnn)
      have HW := Lib.hid (validLetters_any _ _ n c A fs wr (hr.keep HB.out hB') hn)
      go_wp2_with (fail)
      (with_reducible refine HV.out.mono ?_)
      rintro e w2 ⟨rfl, rfl⟩
      cases hv : vSubs ns with
      | false =>
        have HX := Lib.hid (show vPost ns fs = false by rw [HA.out, hv]; rfl)
        clear hv HV
        go_wp2
        go_ret
        exact ⟨ret_bool HX.out.symm, HB.out⟩
      | true =>
        have HX := Lib.hid (show vPost ns fs = vLets fs by rw [HA.out, hv]; rfl)
        clear hv HV
        go_wp2_with (fail)
        (with_reducible refine HW.out.mono ?_)
        rintro e w3 ⟨rfl, rfl⟩
        go_wp2
        go_ret
        exact ⟨ret_bool HX.out.symm, HB.out⟩
theorem ValidPostS_any (lo hi nn cn : Nat) (An : Option Addr) (ns : List Tri) (lo' hi' n c : Nat) (A : Option Addr) (fs : List Tri) (w : World) (hrn : Rd w lo hi 3 An nn (tvs ns)) (hB : hi ≤ w.heap.size) (hnn : nn ≤ 1048576)
    (hr : Rd w lo' hi' 3 A n (tvs fs)) (hB' : hi' ≤ w.heap.size) (hn : n ≤ 1048576) :
    Calls Try.prog 24 #[.agg #[.slice An nn cn, .slice A n c]] w fun e w' => e = .returned (.bool (vPost ns fs)) ∧ Below w.heap.size w w' := by
  have hb1 := up_alloc (Below.refl _ w) (.cells #[.slice An nn cn, .slice A n c] 26)
  have HC := Lib.hid (validPostS_any lo hi nn cn An ns lo' hi' n c A fs _ (hrn.keep hb1 hB) (Nat.le_trans hB hb1.size) hnn (hr.keep hb1 hB') (Nat.le_trans hB' hb1.size) hn)
  have HB := Lib.hid hb1
  clear hb1
  go_enter Try.func24, Try.ntmps24
  go_wp2_with (fail)
  (with_reducible refine HC.out.mono ?_)
  rintro e w1 ⟨rfl, hb2⟩
  have HB2 := Lib.hid (up HB.out hb2)
  clear hb2
  go_wp2
  go_ret
  exact ⟨rfl, HB2.out⟩
end Go.Proofs.Ytgnffodnimafoaa
