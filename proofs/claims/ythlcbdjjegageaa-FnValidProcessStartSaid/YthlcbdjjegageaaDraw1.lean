/- The drawing of arguments: one of a list, values of variables. -/
import Derived.Test.YthlcbdjjegageaaDraw0
namespace Go.Proofs.Ythlcbdjjegageaa
open Go.RowKit

theorem infoIntD : (Try.prog.info? 3).map (fun i => (i.zero, i.size, i.bytes)) = some (some (.int .i64 0), 1, 8) := by kernel_rfl

theorem Rd.of_blk {w : World} {g size n : Nat} {t : TypeId} {cs : Array Value} (h : Blk w g t cs) (hn : cs.size = n * size) : Rd w g (g + 1) size (some ⟨g, 0, none⟩) n cs.toList :=
  ⟨by simpa using hn, fun _ => ⟨g, 0, rfl, Nat.le_refl _, Nat.lt_succ_self _, fun j u hu => by rw [Nat.zero_add, h.cell]; simpa using hu⟩⟩

def OnePost (r : Nat) (A : Option Addr) (n c : Nat) (xs : List Int) (p : Int) (ys : List Int) (w : World) (e : Ending) (w' : World) : Prop :=
  ∃ q : Int, e = .returned (.int .i64 q) ∧ q ∈ ys ∧ Rdr w' r A n c xs (p + 1) ∧ But r w w'

theorem one_any (r : Nat) (A : Option Addr) (n c : Nat) (xs : List Int) (p : Int) (lo hi n' c' : Nat) (A' : Option Addr) (ys : List Int) (w : World) (h : Rdr w r A n c xs p) (hp : p ≤ 1000000)
    (hr : Rd w lo hi 1 A' n' (ivs ys)) (hB : hi ≤ w.heap.size) (hn1 : 1 ≤ n') (hn2 : n' ≤ 1000000) (hfar : r < lo ∨ hi ≤ r) :
    Calls Try.prog 89 #[.pointer (some ⟨r, 0, none⟩), .slice A' n' c'] w (OnePost r A n c xs p ys w) := by
  go_enter Try.func89, Try.ntmps89
  go_wp2_with (fail)
  refine (pick_any r A n c xs p n' w h hp (by omega)).mono ?_
  rintro e w1 ⟨q, rfl, hq0, hq1, _, hR, hG⟩
  have hq := hq1 (by omega)
  obtain ⟨k, rfl⟩ := Int.eq_ofNat_of_zero_le hq0
  have hk : k < n' := by omega
  obtain ⟨b, off, x, rfl, _, _, hg, hc⟩ := (hr.far hG hB (by rintro g e; cases e; exact hfar)).one hk
  have HM := Lib.hid (List.mem_of_getElem? hg)
  clear hq1 hg
  go_wp2
  go_ret
  exact ⟨x, rfl, HM.out, hR, hG⟩

/-- A value of a variable. -/
def ValPost (r : Nat) (A : Option Addr) (n c : Nat) (xs : List Int) (p : Int) (w : World) (e : Ending) (w' : World) : Prop :=
  ∃ q : Int, e = .returned (.int .i64 q) ∧ -9999 ≤ q ∧ q ≤ 9999 ∧ Rdr w' r A n c xs (p + 1) ∧ But r w w'

theorem someValue_any (r : Nat) (A : Option Addr) (n c : Nat) (xs : List Int) (p : Int) (w : World) (h : Rdr w r A n c xs p) (hp : p ≤ 1000000) :
    Calls Try.prog 118 #[.pointer (some ⟨r, 0, none⟩)] w (ValPost r A n c xs p w) := by
  have hlt := h.lt
  go_enter Try.func118, Try.ntmps118
  go_wp2_with (fail)
  have hb := Blk.new w 3 #[.int .i64 0, .int .i64 1, .int .i64 2, .int .i64 5, .int .i64 (-3), .int .i64 9999, .int .i64 (-9999), .int .i64 10]
  refine (one_any r A n c xs p w.heap.size (w.heap.size + 1) 8 8 _ [0, 1, 2, 5, -3, 9999, -9999, 10] _ (h.below ((Below.refl _ _).alloc (Nat.le_refl _) _)) hp (Rd.of_blk hb rfl) (by simp) (by omega) (by omega) (.inl hlt)).mono ?_
  rintro e w1 ⟨q, rfl, hq, hR, hG⟩
  have hq' : -9999 ≤ q ∧ q ≤ 9999 := by simp at hq; omega
  obtain ⟨q0, q1⟩ := hq'
  clear hq
  go_wp2
  go_ret
  exact ⟨q, rfl, q0, q1, hR, but_trans (but_alloc (but_refl r w) _) hG⟩

/-- The reader of a code. -/
def ReaderPost (A : Option Addr) (w : World) (e : Ending) (w' : World) : Prop :=
  ∃ r n' c' xs', e = .returned (.pointer (some ⟨r, 0, none⟩)) ∧ w.heap.size ≤ r ∧ Rdr w' r A n' c' xs' 0 ∧ Below w.heap.size w w'
theorem newReader_any (n c : Nat) (A : Option Addr) (xs : List Int) (w : World) (hr : Rd w 0 w.heap.size 1 A n (bvs xs)) (hby : Bytes xs) (hn : n ≤ 1048576) (hc : n ≤ c) (hc2 : c ≤ 9223372036854775807) :
    Calls Try.prog 50 #[.slice A n c] w (ReaderPost A w) := by
  by_cases hbig : 2000 < (n : Int)
  · go_enter Try.func50, Try.ntmps50
    go_wp2
    go_ret
    have hx : (bvs xs).take (2000 * 1) = bvs (xs.take 2000) := by simp [bvs]
    refine ⟨w.heap.size, 2000, c, xs.take 2000, rfl, Nat.le_refl _, ⟨Blk.new _ _ _, ?_, fun z hz => hby z (List.mem_of_mem_take hz), Nat.le_refl _, Int.le_refl _⟩, up_alloc (Below.refl _ _) _⟩
    rw [← hx]
    exact (hr.keep (up_alloc (Below.refl _ _) _) (Nat.le_refl _)).cut (by omega)
  · go_enter Try.func50, Try.ntmps50
    go_wp2
    go_ret
    exact ⟨w.heap.size, n, c, xs, rfl, Nat.le_refl _, ⟨Blk.new _ _ _, hr.keep (up_alloc (Below.refl _ _) _) (Nat.le_refl _), hby, by omega, Int.le_refl _⟩, up_alloc (Below.refl _ _) _⟩
end Go.Proofs.Ythlcbdjjegageaa
