/- The reference's CountVotes. (Written by gen/counts.py.) -/
import Derived.Test.YtobjcifoaejonacVotMem
import Derived.Test.YtobjcifoaejonacSmallS
set_option linter.unusedSimpArgs false
set_option linter.unusedVariables false
namespace Go.Proofs.Ytobjcifoaejonac
open Go.RowKit

set_option maxRecDepth 100000 in
set_option maxHeartbeats 6400000 in
theorem CountVotesS_any (lo hi n c : Nat) (A : Option Addr) (fs : List Flw) (cand term : Int) (lo2 hi2 n2 c2 : Nat) (A2 : Option Addr) (log : List En) (w : World) (hr : Vls w lo hi A n fs) (hB : hi ≤ w.heap.size) (hn : n ≤ 1048576) (hr2 : Rd w lo2 hi2 2 A2 n2 (pvs log)) (hB2 : hi2 ≤ w.heap.size) (hn2 : n2 ≤ 1048576) :
    Calls Try.prog 30 #[.slice A n c, .int .i64 cand, .int .i64 term, .slice A2 n2 c2] w (VsPost (countOf fs cand term log) w) := by
  have HL := Lib.hid hr.len
  obtain ⟨i0, hi0, hz0, hz1, hz2⟩ := info_parts infoVoter
  have hown0 : (w.alloc (.cells #[] 25)).ownsRow w.heap.size 25 3 (.slice (some ⟨w.heap.size, 0, none⟩) 0 0) 0 [] := World.ownsRow_made w #[] 0 (Nat.le_refl _) (by unfold maxLen; omega) (by simp)
  have HV0 := Lib.hid (VlsO.made hown0)
  have hb0 := up_alloc (Below.refl _ w) (.cells #[] 25)
  have HR := Lib.hid hr
  have HR2 := Lib.hid hr2
  have HB0 := Lib.hid hb0
  have hz0' := hb0.size
  clear hr hr2 hown0 hb0
  by_cases hbig : (7 : Int) < (n : Int)
  · have HX := Lib.hid (countOf_no (fs := fs) (c := cand) (term := term) (log := log) (.inl (by have := HL.out; omega)))
    go_enter Try.func30, Try.ntmps30
    go_wp2
    exact bodyPost_ret (v := .tuple #[.int .i64 (-1), .slice none 0 0]) (by simp [results, Try.results30, go_sem]) rfl (VsPost.no HX.out HB0.out)
  have hbd : decide ((7 : Int) < (n : Int)) = false := decide_eq_false hbig
  go_enter Try.func30, Try.ntmps30
  go_wp2_with (fail)
  generalize w.alloc (.cells #[] 25) = w0 at *
  (with_reducible refine (inRange_any _ _ _ _).mono ?_)
  rintro e w1 ⟨rfl, rfl⟩
  cases h1 : inR cand 0 6 with
  | false =>
    have HX := Lib.hid (countOf_no (fs := fs) (c := cand) (term := term) (log := log) (.inr (.inl (by rw [vAsk, h1]; simp))))
    clear h1
    go_wp2
    exact bodyPost_ret (v := .tuple #[.int .i64 (-1), .slice none 0 0]) (by simp [results, Try.results30, go_sem]) rfl (VsPost.no HX.out HB0.out)
  | true =>
  go_wp2_with (fail)
  (with_reducible refine (inRange_any _ _ _ _).mono ?_)
  rintro e w1 ⟨rfl, rfl⟩
  cases h2 : inR term 1 9 with
  | false =>
    have HX := Lib.hid (countOf_no (fs := fs) (c := cand) (term := term) (log := log) (.inr (.inl (by rw [vAsk, h2]; simp))))
    clear h2
    go_wp2
    exact bodyPost_ret (v := .tuple #[.int .i64 (-1), .slice none 0 0]) (by simp [results, Try.results30, go_sem]) rfl (VsPost.no HX.out HB0.out)
  | true =>
  go_wp2_with (fail)
  (with_reducible refine (validLogS_any lo2 hi2 n2 c2 A2 log _ (HR2.out.keep HB0.out hB2) (by omega) hn2).mono ?_)
  rintro e w1 ⟨rfl, hb1⟩
  have HB1 := Lib.hid (up HB0.out hb1)
  have HV1 := Lib.hid (HV0.out.keep hb1)
  have hz1' := hb1.size
  clear hb1
  cases h3 : vLog log with
  | false =>
    have HX := Lib.hid (countOf_no (fs := fs) (c := cand) (term := term) (log := log) (.inr (.inl (by rw [vAsk, h3]; simp))))
    clear h3
    go_wp2
    exact bodyPost_ret (v := .tuple #[.int .i64 (-1), .slice none 0 0]) (by simp [results, Try.results30, go_sem]) rfl (VsPost.no HX.out HB1.out)
  | true =>
  have HVA := Lib.hid (show vAsk cand term log = true by rw [vAsk, h1, h2, h3]; rfl)
  clear h1 h2 h3
  go_wp2
  go_loopw [10, 11, 12] (fun gv vv iv wr => ∃ (k g : Nat), k ≤ n ∧ iv = .int .i64 k ∧ gv = .int .i64 g ∧ g ≤ k ∧ Hid (gaveOf (fs.take k) cand term log = g) ∧ Hid (VlsO wr w.heap.size vv k (behindOf (fs.take k) cand term log)) ∧ Hid (vVs (fs.take k) = true) ∧ Hid (Below w.heap.size w wr))
     (fun _ _ iv _ => n - (intOf iv).toNat)
  case atStart => exact ⟨0, 0, by omega, rfl, rfl, by omega, by simp [Hid, gaveOf], HV1.out, by simp [Hid, vVs], HB1.out⟩
  case round =>
    clear HB1 hz1' HV1 HV0 HB0
    obtain ⟨k, g, hk, rfl, rfl, hgk, HG, HV, HT, HB⟩ := hrel
    have hsz := HB.out.size
    by_cases hlt : k < n
    case neg =>
      obtain rfl : n = k := by omega
      have HX := Lib.hid (show countOf fs cand term log = ((g : Int), behindOf (fs.take n) cand term log) by
        have h1 : fs.take n = fs := List.take_of_length_le (by rw [HL.out]; exact Nat.le_refl _)
        rw [countOf_yes (by rw [HL.out]; omega) HVA.out (by have := HT.out; rwa [h1] at this), ← HG.out, h1])
      go_wp2
      exact bodyPost_ret (v := .tuple #[.int .i64 (g : Int), u11]) (by simp [results, Try.results30, go_sem]) rfl (VsPost.yes HX.out HV.out (Nat.le_refl _) HB.out)
    case pos =>
      obtain ⟨b, off, x, y, ps, A', m, c', hA, hbl, _, hg, hc0, hc1, hc2, hrp, hm, hmc⟩ := (HR.out.keep HB.out hB).at hlt
      subst hA
      have HGG := Lib.hid hg
      have HVL := HV.out.lt
      have HVLT := Lib.hid HVL
      have HRP := Lib.hid hrp
      have HLOG := Lib.hid (HR2.out.keep HB.out hB2)
      have HCE := Lib.hid (And.intro hc0 (And.intro hc1 hc2))
      clear hg hrp HVL
      have hkn : (k : Int) < (n : Int) := by omega
      have hk0 : (0 : Int) ≤ (k : Int) := by omega
      go_wp2_with (fail)
      clear hc0 hc1 hc2
      (with_reducible refine (validVoterS_any x y lo hi m c' A' ps wr HRP.out (by omega) hm).mono ?_)
      rintro e wb ⟨rfl, hbb⟩
      have HBB := Lib.hid hbb
      have hzb := hbb.size
      have hc0 := (hbb.cell (show b < wr.heap.size by omega)).trans HCE.out.1
      have hc1 := (hbb.cell (show b < wr.heap.size by omega)).trans HCE.out.2.1
      have hc2 := (hbb.cell (show b < wr.heap.size by omega)).trans HCE.out.2.2
      clear hbb HCE
      cases hv : vVoter x y ps with
      | false =>
        have HX := Lib.hid (countOf_no (fs := fs) (c := cand) (term := term) (log := log) (.inr (.inr (vVs_bad HGG.out hv))))
        clear hv
        go_wp2
        exact bodyPost_ret (v := .tuple #[.int .i64 (-1), .slice none 0 0]) (by simp [results, Try.results30, go_sem]) rfl (VsPost.no HX.out (up HB.out HBB.out))
      | true =>
      have HTS := Lib.hid (vVs_step HGG.out HT.out hv)
      have HGS := Lib.hid (show gaveOf (fs.take (k + 1)) cand term log = gaveOf (fs.take k) cand term log + (if (askOf x y ps cand term log).2 then 1 else 0) from gaveOf_step HGG.out)
      have HBS := Lib.hid (show behindOf (fs.take (k + 1)) cand term log = behindOf (fs.take k) cand term log ++ [(askOf x y ps cand term log).1] from behindOf_step HGG.out)
      have hlen := askOf_len x y ps cand term log
      have hpl := HRP.out.len2
      clear hv HT
      go_wp2_with (fail)
      clear hc0 hc1 hc2
      (with_reducible refine (AskVoteS_any x y lo hi m c' A' ps cand term lo2 hi2 n2 c2 A2 log wb (HRP.out.keep HBB.out (by omega)) (by omega) hm (HLOG.out.keep HBB.out (by omega)) (by omega) hn2).mono ?_)
      generalize askOf x y ps cand term log = u at *
      obtain ⟨⟨T, V, S⟩, d⟩ := u
      dsimp only at hlen
      obtain ⟨m3, hm3⟩ : ∃ m3, S.length = m3 := ⟨_, rfl⟩
      rintro e wc hvt
      obtain ⟨A3, c3, rfl, hmc3, ho3, hbc⟩ : ∃ A c, e = .returned (.tuple #[.agg #[.int .i64 T, .int .i64 V, .slice A m3 c], .bool d]) ∧ m3 ≤ c ∧ Rd wc wb.heap.size wc.heap.size 2 A m3 (pvs S) ∧ Below wb.heap.size wb wc := by
        subst hm3
        obtain ⟨A, c, he, hc, hrr, _, hbb⟩ := hvt
        exact ⟨A, c, he, hc, hrr, hbb⟩
      clear hvt
      have hzc := hbc.size
      have hm3b : m3 ≤ 1048576 := by omega
      have HAP := Lib.hid (show ∀ b off, A3 = some ⟨b, off, none⟩ → 0 < m3 → u11.ownBlock ≠ some b from by
        intro b2 off2 e hp e3
        obtain ⟨g9, o9, e4, h4, _⟩ := ho3.form hp
        rw [e] at e4
        injection e4 with e4
        injection e4 with e5 _
        have := HVLT.out _ e3
        omega)
      have HED := Lib.hid (Blk.new wc 25 #[.int .i64 T, .int .i64 V, .slice A3 m3 c3])
      have HBCR := Lib.hid (up_alloc (up HBB.out hbc) (.cells #[.int .i64 T, .int .i64 V, .slice A3 m3 c3] 25))
      have HO3 := Lib.hid (ho3.keep (up_alloc (Below.refl _ wc) (.cells #[.int .i64 T, .int .i64 V, .slice A3 m3 c3] 25)) (Nat.le_refl _))
      have hsd : wc.heap.size ≤ (wc.alloc (.cells #[.int .i64 T, .int .i64 V, .slice A3 m3 c3] 25)).heap.size := by simp
      clear ho3 hbc HBB HVLT hlen hm3
      go_wp2_with (fail)
      generalize wc.alloc (.cells #[.int .i64 T, .int .i64 V, .slice A3 m3 c3] 25) = wd at *
      (with_reducible refine (toInt_any _ _).mono ?_)
      rintro e we ⟨rfl, rfl⟩
      cases d with
      | false =>
        have HVE := Lib.hid (show VlsO (wd.alloc (.cells #[.int .i64 T, .int .i64 V, .slice A3 m3 c3] 25)) w.heap.size u11 k (behindOf (fs.take k) cand term log) from ((HV.out.keep HBCR.out).keep (up_alloc (Below.refl _ _) _)))
        obtain ⟨hvl, hs, hvl', hown, hcc⟩ := HVE.out
        have HCC := Lib.hid hcc
        have HA3 := Lib.hid ((HO3.out.keep (up_alloc (Below.refl _ wd) (.cells #[.int .i64 T, .int .i64 V, .slice A3 m3 c3] 25)) (by omega)).wide (lo' := w.heap.size) (hi' := (wd.alloc (.cells #[.int .i64 T, .int .i64 V, .slice A3 m3 c3] 25)).heap.size) (by omega) (by simp; omega))
        have HBE := Lib.hid (up_alloc (up HB.out HBCR.out) (.cells #[.int .i64 T, .int .i64 V, .slice A3 m3 c3] 25))
        have e0 := HED.out.cell 0
        have e1 := HED.out.cell 1
        have e2 := HED.out.cell 2
        clear hcc HVE
        have hwg : IntKind.i64.wrap ((g : Int) + 0) = (g : Int) + 0 := IntWalk.i64_in _ (by omega)
        go_wp2_with (at_builtin; refine wpList_append_own_at _ rfl _ _ 38 rfl w.heap.size 25 i0 _ 3 40 Try.underlying38 hi0 hz0 hz1 hz2 rfl (by decide) _ _ _ rfl hown _ 1 1 [.int .i64 T, .int .i64 V, .slice A3 m3 c3] rfl rfl (World.news_of_block (heap_alloc_new _ _)) ?d2 ?d3 ?d4 ?d5 ?_)
        case d2 => first | exact ⟨rfl, rfl, rfl⟩ | (intro v hv; simp at hv; rcases hv with rfl | rfl | rfl <;> rfl)
        case d3 => unfold maxLen; omega
        case d4 => omega
        case d5 => first | omega | (simp; omega)
        intro v9 w9 hown9 hg9 _ hat9
        have HV9 := Lib.hid (VlsO.snoc (N := wd.heap.size + 1) (by simp) (x := T) (y := V) (ls := S) hvl hvl' HCC.out hg9 hat9 hown9 HA3.out hm3b hmc3 HAP.out)
        have HB9 := Lib.hid (up_grown HBE.out hown hg9 (Nat.le_refl _))
        clear hown9 hg9 hat9 hown HCC HA3 HBE hvl hvl' e0 e1 e2
        go_wp2
        go_roundw
        case rel => exact ⟨k + 1, g, by omega, by go_num, by first | exact congrArg (Value.int .i64) ((IntWalk.i64_in ((g : Int) + 0) (by omega)).trans (by omega)) | (rw [show tr false = 0 from rfl]; refine congrArg (Value.int .i64) ?_; first | exact (IntWalk.i64_in ((g : Int) + 0) (by omega)).trans (by omega) | (unfold wrap64; omega) | (rw [wrap64]; omega)), by omega, by rw [Hid, HGS.out, HG.out]; rfl, by rw [Hid, HBS.out]; exact HV9.out, HTS, HB9⟩
        case measure => simp [intOf]; omega
      | true =>
        have HVE := Lib.hid (show VlsO (wd.alloc (.cells #[.int .i64 T, .int .i64 V, .slice A3 m3 c3] 25)) w.heap.size u11 k (behindOf (fs.take k) cand term log) from ((HV.out.keep HBCR.out).keep (up_alloc (Below.refl _ _) _)))
        obtain ⟨hvl, hs, hvl', hown, hcc⟩ := HVE.out
        have HCC := Lib.hid hcc
        have HA3 := Lib.hid ((HO3.out.keep (up_alloc (Below.refl _ wd) (.cells #[.int .i64 T, .int .i64 V, .slice A3 m3 c3] 25)) (by omega)).wide (lo' := w.heap.size) (hi' := (wd.alloc (.cells #[.int .i64 T, .int .i64 V, .slice A3 m3 c3] 25)).heap.size) (by omega) (by simp; omega))
        have HBE := Lib.hid (up_alloc (up HB.out HBCR.out) (.cells #[.int .i64 T, .int .i64 V, .slice A3 m3 c3] 25))
        have e0 := HED.out.cell 0
        have e1 := HED.out.cell 1
        have e2 := HED.out.cell 2
        clear hcc HVE
        have hwg : IntKind.i64.wrap ((g : Int) + 1) = (g : Int) + 1 := IntWalk.i64_in _ (by omega)
        go_wp2_with (at_builtin; refine wpList_append_own_at _ rfl _ _ 38 rfl w.heap.size 25 i0 _ 3 40 Try.underlying38 hi0 hz0 hz1 hz2 rfl (by decide) _ _ _ rfl hown _ 1 1 [.int .i64 T, .int .i64 V, .slice A3 m3 c3] rfl rfl (World.news_of_block (heap_alloc_new _ _)) ?d2 ?d3 ?d4 ?d5 ?_)
        case d2 => first | exact ⟨rfl, rfl, rfl⟩ | (intro v hv; simp at hv; rcases hv with rfl | rfl | rfl <;> rfl)
        case d3 => unfold maxLen; omega
        case d4 => omega
        case d5 => first | omega | (simp; omega)
        intro v9 w9 hown9 hg9 _ hat9
        have HV9 := Lib.hid (VlsO.snoc (N := wd.heap.size + 1) (by simp) (x := T) (y := V) (ls := S) hvl hvl' HCC.out hg9 hat9 hown9 HA3.out hm3b hmc3 HAP.out)
        have HB9 := Lib.hid (up_grown HBE.out hown hg9 (Nat.le_refl _))
        clear hown9 hg9 hat9 hown HCC HA3 HBE hvl hvl' e0 e1 e2
        go_wp2
        go_roundw
        case rel => exact ⟨k + 1, g + 1, by omega, by go_num, by first | exact congrArg (Value.int .i64) ((IntWalk.i64_in ((g : Int) + 1) (by omega)).trans (by omega)) | (rw [show tr true = 1 from rfl]; refine congrArg (Value.int .i64) ?_; first | exact (IntWalk.i64_in ((g : Int) + 1) (by omega)).trans (by omega) | (unfold wrap64; omega) | (rw [wrap64]; omega)), by omega, by rw [Hid, HGS.out, HG.out]; rfl, by rw [Hid, HBS.out]; exact HV9.out, HTS, HB9⟩
        case measure => simp [intOf]; omega
end Go.Proofs.Ytobjcifoaejonac
