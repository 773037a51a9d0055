/- The program's CountVotes. -/
import Derived.Test.YtobjcifoaejonacVotMem
import Derived.Test.YtobjcifoaejonacAskI
set_option linter.unusedSimpArgs false
set_option linter.unusedVariables false
namespace Go.Proofs.Ytobjcifoaejonac
open Go.RowKit

theorem askOf_asked {t v : Int} {ls : List En} {c term : Int} {log : List En} (h1 : vVoter t v ls = true) (h2 : vAsk c term log = true) : askedOf t v ls c term log = askOf t v ls c term log := by
  simp only [vAsk, Bool.and_eq_true] at h2
  exact (askOf_yes h1 h2.1.1 h2.1.2 h2.2).symm
set_option maxRecDepth 100000 in
set_option maxHeartbeats 6400000 in
theorem CountVotesI_any (lo hi n c : Nat) (A : Option Addr) (fs : List Flw) (cand term : Int) (lo2 hi2 n2 c2 : Nat) (A2 : Option Addr) (log : List En) (w : World) (hr : Vls w lo hi A n fs) (hB : hi ≤ w.heap.size) (hn : n ≤ 1048576) (hr2 : Rd w lo2 hi2 2 A2 n2 (pvs log)) (hB2 : hi2 ≤ w.heap.size) (hn2 : n2 ≤ 1048576) (hcap2 : n2 ≤ c2) :
    Calls Try.prog 29 #[.slice A n c, .int .i64 cand, .int .i64 term, .slice A2 n2 c2] w (VsPost (countOf fs cand term log) w) := by
  have HL := Lib.hid hr.len
  obtain ⟨i0, hi0, hz0, hz1, hz2⟩ := info_parts infoVoter
  have HR := Lib.hid hr
  have HR2 := Lib.hid hr2
  clear hr hr2
  by_cases hbig : (7 : Int) < (n : Int)
  · have HX := Lib.hid (countOf_no (fs := fs) (c := cand) (term := term) (log := log) (.inl (by have := HL.out; omega)))
    go_enter Try.func29, Try.ntmps29
    go_wp2
    exact bodyPost_ret (v := .tuple #[.int .i64 (-1), .slice none 0 0]) (by simp [results, Try.results29, go_sem]) rfl (VsPost.no HX.out (Below.refl _ _))
  have hbd : decide ((7 : Int) < (n : Int)) = false := decide_eq_false hbig
  go_enter Try.func29, Try.ntmps29
  go_wp2_with (fail)
  (with_reducible refine (canAsk_any cand term lo2 hi2 n2 c2 A2 log _ HR2.out hB2 hn2 hcap2).mono ?_)
  rintro e w1 ⟨rfl, hb1⟩
  rw [show (inR cand 0 6 && inR term 1 9 && vLog log) = vAsk cand term log from rfl]
  have HB1 := Lib.hid hb1
  have hz1' := hb1.size
  clear hb1
  cases hva : vAsk cand term log with
  | false =>
    have HX := Lib.hid (countOf_no (fs := fs) (c := cand) (term := term) (log := log) (.inr (.inl hva)))
    clear hva
    go_wp2
    exact bodyPost_ret (v := .tuple #[.int .i64 (-1), .slice none 0 0]) (by simp [results, Try.results29, go_sem]) rfl (VsPost.no HX.out HB1.out)
  | true =>
  have HVA := Lib.hid hva
  clear hva
  go_wp2
  go_loopw [10, 11, 28] (fun gv vv iv wr => ∃ (k g : Nat), k ≤ n ∧ iv = .int .i64 k ∧ gv = .int .i64 g ∧ g ≤ k ∧ Hid (gaveOf (fs.take k) cand term log = g) ∧ Hid (VlsO wr w.heap.size vv k (behindOf (fs.take k) cand term log)) ∧ Hid (vVs (fs.take k) = true) ∧ Hid (Below w.heap.size w wr))
     (fun _ _ iv _ => n - (intOf iv).toNat)
  case atStart => exact ⟨0, 0, by omega, rfl, rfl, by omega, by simp [Hid, gaveOf], VlsO.nil _ _, by simp [Hid, vVs], HB1.out⟩
  case round =>
    clear HB1 hz1'
    obtain ⟨k, g, hk, rfl, rfl, hgk, HG, HV, HT, HB⟩ := hrel
    have hsz := HB.out.size
    by_cases hlt : k < n
    case neg =>
      obtain rfl : n = k := by omega
      have HX := Lib.hid (show countOf fs cand term log = ((g : Int), behindOf (fs.take n) cand term log) by
        have h1 : fs.take n = fs := List.take_of_length_le (by rw [HL.out]; exact Nat.le_refl _)
        rw [countOf_yes (by rw [HL.out]; omega) HVA.out (by have := HT.out; rwa [h1] at this), ← HG.out, h1])
      go_wp2
      exact bodyPost_ret (v := .tuple #[.int .i64 (g : Int), u11]) (by simp [results, Try.results29, go_sem]) rfl (VsPost.yes HX.out HV.out (Nat.le_refl _) HB.out)
    case pos =>
      obtain ⟨b, off, x, y, ps, A', m, c', hA, hbl, _, hg, hc0, hc1, hc2, hrp, hm, hmc⟩ := (HR.out.keep HB.out hB).at hlt
      subst hA
      have HGG := Lib.hid hg
      have HVL := HV.out.lt
      have HVLT := Lib.hid HVL
      have HRP := Lib.hid hrp
      have HLOG := Lib.hid (HR2.out.keep HB.out hB2)
      clear hg hrp HVL
      have hkn : (k : Int) < (n : Int) := by omega
      have hk0 : (0 : Int) ≤ (k : Int) := by omega
      have hba := up_alloc (Below.refl _ wr) (.cells #[.int .i64 x, .int .i64 y, .slice A' m c'] 25)
      have HBA := Lib.hid hba
      have HE := Lib.hid (Blk.new wr 25 #[.int .i64 x, .int .i64 y, .slice A' m c'])
      have hsa : (wr.alloc (.cells #[.int .i64 x, .int .i64 y, .slice A' m c'] 25)).heap.size = wr.heap.size + 1 := by simp
      clear hba
      go_wp2_with (fail)
      generalize wr.alloc (.cells #[.int .i64 x, .int .i64 y, .slice A' m c'] 25) = wa at *
      clear hc0 hc1 hc2
      (with_reducible refine (voterValidI_any x y lo hi m c' A' ps wa (HRP.out.keep HBA.out (by omega)) (by omega) hm hmc).mono ?_)
      rintro e wb ⟨rfl, hbb⟩
      have HBB := Lib.hid (up HBA.out hbb)
      have HEB := Lib.hid (HE.out.below hbb HE.out.lt)
      have hzb := hbb.size
      clear hbb HBA HE
      cases hv : vVoter x y ps with
      | false =>
        have HX := Lib.hid (countOf_no (fs := fs) (c := cand) (term := term) (log := log) (.inr (.inr (vVs_bad HGG.out hv))))
        clear hv
        go_wp2
        exact bodyPost_ret (v := .tuple #[.int .i64 (-1), .slice none 0 0]) (by simp [results, Try.results29, go_sem]) rfl (VsPost.no HX.out (up HB.out HBB.out))
      | true =>
      have HTS := Lib.hid (vVs_step HGG.out HT.out hv)
      have HAA := Lib.hid (askOf_asked hv HVA.out)
      have HGS := Lib.hid (show gaveOf (fs.take (k + 1)) cand term log = gaveOf (fs.take k) cand term log + (if (askOf x y ps cand term log).2 then 1 else 0) from gaveOf_step HGG.out)
      have HBS := Lib.hid (show behindOf (fs.take (k + 1)) cand term log = behindOf (fs.take k) cand term log ++ [(askOf x y ps cand term log).1] from behindOf_step HGG.out)
      have hlen := askOf_len x y ps cand term log
      have hpl := HRP.out.len2
      clear hv HT
      have e0 := HEB.out.cell 0
      have e1 := HEB.out.cell 1
      have e2 := HEB.out.cell 2
      go_wp2_with (fail)
      (with_reducible refine (asked_any x y lo hi m c' A' ps cand term lo2 hi2 n2 c2 A2 log wb (HRP.out.keep HBB.out (by omega)) (by omega) hm (HLOG.out.keep HBB.out (by omega)) (by omega) hn2 hcap2).mono ?_)
      rw [HAA.out]
      clear HAA
      generalize askOf x y ps cand term log = u at *
      obtain ⟨⟨T, V, S⟩, d⟩ := u
      rintro e wc ⟨A3, m3, c3, rfl, hm3, ho3, hbc⟩
      dsimp only at hm3 ho3 hlen ⊢
      have hzc := hbc.size
      have hm3b : m3 ≤ 1048576 := by omega
      obtain ⟨A9, c9, hv9, hmc3, _, _⟩ := own_form ho3
      cases hv9
      have HAP := Lib.hid (show ∀ b off, A3 = some ⟨b, off, none⟩ → 0 < m3 → u11.ownBlock ≠ some b from by
        intro b2 off2 e hp e3
        obtain ⟨g9, c9, e4, h4, _⟩ := own_first ho3 (by omega)
        injection e4 with e4
        rw [e] at e4
        injection e4 with e4
        injection e4 with e5 _
        have := HVLT.out _ e3
        omega)
      have HBCR := Lib.hid (up HBB.out hbc)
      have HO3 := Lib.hid ho3
      clear ho3 hbc HBB HEB e0 e1 e2 HVLT hlen hm3
      cases d with
      | false =>
        have HVE := Lib.hid (show VlsO ((wc.alloc (.cells #[.int .i64 T, .int .i64 V, .slice A3 m3 c3] 25)).alloc (.cells #[.int .i64 T, .int .i64 V, .slice A3 m3 c3] 25)) w.heap.size u11 k (behindOf (fs.take k) cand term log) from (((HV.out.keep HBCR.out).keep (up_alloc (Below.refl _ _) _)).keep (up_alloc (Below.refl _ _) _)))
        obtain ⟨hvl, hs, hvl', hown, hcc⟩ := HVE.out
        have HCC := Lib.hid hcc
        have HA3 := Lib.hid (((Rd.of_own HO3.out).keep (up_alloc (up_alloc (Below.refl _ wc) (.cells #[.int .i64 T, .int .i64 V, .slice A3 m3 c3] 25)) (.cells #[.int .i64 T, .int .i64 V, .slice A3 m3 c3] 25)) (Nat.le_refl _)).wide (lo' := w.heap.size) (hi' := ((wc.alloc (.cells #[.int .i64 T, .int .i64 V, .slice A3 m3 c3] 25)).alloc (.cells #[.int .i64 T, .int .i64 V, .slice A3 m3 c3] 25)).heap.size) (by omega) (by simp; omega))
        have HBE := Lib.hid (up_alloc (up_alloc (up HB.out HBCR.out) (.cells #[.int .i64 T, .int .i64 V, .slice A3 m3 c3] 25)) (.cells #[.int .i64 T, .int .i64 V, .slice A3 m3 c3] 25))
        have hnb : ((wc.alloc (.cells #[.int .i64 T, .int .i64 V, .slice A3 m3 c3] 25)).alloc (.cells #[.int .i64 T, .int .i64 V, .slice A3 m3 c3] 25)).heap[wc.heap.size + 1]? = some (.cells #[.int .i64 T, .int .i64 V, .slice A3 m3 c3] 25) := Blk.new2 (by simp)
        clear hcc HVE
        go_wp2_with (at_builtin; refine wpList_append_own_at _ rfl _ _ 38 rfl w.heap.size 25 i0 _ 3 40 Try.underlying38 hi0 hz0 hz1 hz2 rfl (by decide) _ _ _ rfl hown _ 1 1 [.int .i64 T, .int .i64 V, .slice A3 m3 c3] rfl rfl (World.news_of_block hnb) ?d2 ?d3 ?d4 ?d5 ?_)
        case d2 => first | exact ⟨rfl, rfl, rfl⟩ | (intro v hv; simp at hv; rcases hv with rfl | rfl | rfl <;> rfl)
        case d3 => unfold maxLen; omega
        case d4 => omega
        case d5 => first | omega | (simp; omega)
        intro v9 w9 hown9 hg9 _ hat9
        have HV9 := Lib.hid (VlsO.snoc (N := wc.heap.size + 1 + 1) (by simp) (x := T) (y := V) (ls := S) hvl hvl' HCC.out hg9 hat9 hown9 HA3.out hm3b hmc3 HAP.out)
        have HB9 := Lib.hid (up_grown HBE.out hown hg9 (Nat.le_refl _))
        clear hown9 hg9 hat9 hown HCC HA3 HBE hvl hvl'
        go_wp2
        go_roundw
        case rel => exact ⟨k + 1, g, by omega, by go_num, by first | rfl | go_num, by omega, by rw [Hid, HGS.out, HG.out]; rfl, by rw [Hid, HBS.out]; exact HV9.out, HTS, HB9⟩
        case measure => simp [intOf]; omega
      | true =>
        have HVE := Lib.hid (show VlsO ((wc.alloc (.cells #[.int .i64 T, .int .i64 V, .slice A3 m3 c3] 25)).alloc (.cells #[.int .i64 T, .int .i64 V, .slice A3 m3 c3] 25)) w.heap.size u11 k (behindOf (fs.take k) cand term log) from (((HV.out.keep HBCR.out).keep (up_alloc (Below.refl _ _) _)).keep (up_alloc (Below.refl _ _) _)))
        obtain ⟨hvl, hs, hvl', hown, hcc⟩ := HVE.out
        have HCC := Lib.hid hcc
        have HA3 := Lib.hid (((Rd.of_own HO3.out).keep (up_alloc (up_alloc (Below.refl _ wc) (.cells #[.int .i64 T, .int .i64 V, .slice A3 m3 c3] 25)) (.cells #[.int .i64 T, .int .i64 V, .slice A3 m3 c3] 25)) (Nat.le_refl _)).wide (lo' := w.heap.size) (hi' := ((wc.alloc (.cells #[.int .i64 T, .int .i64 V, .slice A3 m3 c3] 25)).alloc (.cells #[.int .i64 T, .int .i64 V, .slice A3 m3 c3] 25)).heap.size) (by omega) (by simp; omega))
        have HBE := Lib.hid (up_alloc (up_alloc (up HB.out HBCR.out) (.cells #[.int .i64 T, .int .i64 V, .slice A3 m3 c3] 25)) (.cells #[.int .i64 T, .int .i64 V, .slice A3 m3 c3] 25))
        have hnb : ((wc.alloc (.cells #[.int .i64 T, .int .i64 V, .slice A3 m3 c3] 25)).alloc (.cells #[.int .i64 T, .int .i64 V, .slice A3 m3 c3] 25)).heap[wc.heap.size + 1]? = some (.cells #[.int .i64 T, .int .i64 V, .slice A3 m3 c3] 25) := Blk.new2 (by simp)
        clear hcc HVE
        have hwg : IntKind.i64.wrap ((g : Int) + 1) = (g : Int) + 1 := IntWalk.i64_in _ (by omega)
        go_wp2_with (at_builtin; refine wpList_append_own_at _ rfl _ _ 38 rfl w.heap.size 25 i0 _ 3 40 Try.underlying38 hi0 hz0 hz1 hz2 rfl (by decide) _ _ _ rfl hown _ 1 1 [.int .i64 T, .int .i64 V, .slice A3 m3 c3] rfl rfl (World.news_of_block hnb) ?d2 ?d3 ?d4 ?d5 ?_)
        case d2 => first | exact ⟨rfl, rfl, rfl⟩ | (intro v hv; simp at hv; rcases hv with rfl | rfl | rfl <;> rfl)
        case d3 => unfold maxLen; omega
        case d4 => omega
        case d5 => first | omega | (simp; omega)
        intro v9 w9 hown9 hg9 _ hat9
        have HV9 := Lib.hid (VlsO.snoc (N := wc.heap.size + 1 + 1) (by simp) (x := T) (y := V) (ls := S) hvl hvl' HCC.out hg9 hat9 hown9 HA3.out hm3b hmc3 HAP.out)
        have HB9 := Lib.hid (up_grown HBE.out hown hg9 (Nat.le_refl _))
        clear hown9 hg9 hat9 hown HCC HA3 HBE hvl hvl'
        go_wp2
        go_roundw
        case rel => exact ⟨k + 1, g + 1, by omega, by go_num, by first | rfl | go_num, by omega, by rw [Hid, HGS.out, HG.out]; rfl, by rw [Hid, HBS.out]; exact HV9.out, HTS, HB9⟩
        case measure => simp [intOf]; omega
end Go.Proofs.Ytobjcifoaejonac
