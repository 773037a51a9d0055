/- Merged: Draw0, Draw1, Draw2, Draw3. -/
import Derived.Test.YtcckmabdflhfmaaRows
import Derived.Test.YtcckmabdflhfmaaBase
import Derived.BigQuiet
import Derived.Deep.QuietTactic
import Derived.WalkLawsBesides
import Derived.Laws.BitsAllLaws
import Derived.Laws.BitsLemmas
/- The drawing of arguments: the reader, and a number out of it. -/
namespace Go.Proofs.Ytcckmabdflhfmaa
open Go.RowKit

theorem ofInt_i64 (a : Nat) (ha : a < 9223372036854775808) : (BitVec.ofInt 64 (a : Int)).toNat = a := by
  rw [BitVec.ofInt_natCast, BitVec.toNat_ofNat]; exact Nat.mod_eq_of_lt (by omega)
theorem i64_xor_nat (a b : Nat) (ha : a < 9223372036854775808) (hb : b < 9223372036854775808) : bits .xor .i64 (a : Int) (b : Int) = ((a ^^^ b : Nat) : Int) := by
  have hx : a ^^^ b < 2 ^ 63 := Nat.xor_lt_two_pow (by omega) (by omega)
  show IntKind.i64.wrap ((BitVec.ofInt 64 (a : Int) ^^^ BitVec.ofInt 64 (b : Int)).toNat : Int) = _
  rw [BitVec.toNat_xor, ofInt_i64 a ha, ofInt_i64 b hb, IntKind.wrap_i64]
  omega
theorem xor_nonneg (x y : Int) (h0 : 0 ≤ x) (h1 : x ≤ 1000000000000000000) (g0 : 0 ≤ y) (g1 : y ≤ 1000000000000000000) : 0 ≤ bits .xor .i64 x y := by
  obtain ⟨a, rfl⟩ := Int.eq_ofNat_of_zero_le h0
  obtain ⟨b, rfl⟩ := Int.eq_ofNat_of_zero_le g0
  rw [i64_xor_nat a b (by omega) (by omega)]
  omega

/-- The bytes of a slice. -/
def bvs (xs : List Int) : List Value := xs.map (.int .u8)
def Bytes (xs : List Int) : Prop := ∀ z ∈ xs, 0 ≤ z ∧ z ≤ 255
theorem bvs_length (xs : List Int) : (bvs xs).length = xs.length := by simp [bvs]
theorem Rd.byte {w : World} {lo hi : Nat} {A : Option Addr} {n : Nat} {xs : List Int} (h : Rd w lo hi 1 A n (bvs xs)) (hb : Bytes xs) {k : Nat} (hk : k < n) :
    ∃ b off x, A = some ⟨b, off, none⟩ ∧ b < hi ∧ 0 ≤ x ∧ x ≤ 255 ∧ w.cell? ⟨b, off + k, none⟩ = some (.int .u8 x) := by
  obtain ⟨b, off, e, hl, hlt, hc⟩ := h.2 (by omega)
  have hk' : k < xs.length := by have := h.1; rw [bvs_length] at this; omega
  have hx := hb xs[k] (List.getElem_mem _)
  exact ⟨b, off, xs[k], e, hlt, hx.1, hx.2, hc _ _ (by simp [bvs, hk'])⟩

/-- Block r is a reader that stands at place p of the bytes. -/
def Rdr (w : World) (r : Nat) (A : Option Addr) (n c : Nat) (xs : List Int) (p : Int) : Prop :=
  Blk w r 137 #[.slice A n c, .int .i64 p] ∧ Rd w 0 r 1 A n (bvs xs) ∧ Bytes xs ∧ n ≤ 2000 ∧ 0 ≤ p
theorem Rdr.lt {w : World} {r : Nat} {A : Option Addr} {n c : Nat} {xs : List Int} {p : Int} (h : Rdr w r A n c xs p) : r < w.heap.size := h.1.lt
theorem Rdr.below {w w' : World} {r : Nat} {A : Option Addr} {n c : Nat} {xs : List Int} {p : Int} (h : Rdr w r A n c xs p) (hb : Below w.heap.size w w') : Rdr w' r A n c xs p :=
  ⟨h.1.below hb h.1.lt, h.2.1.keep hb (Nat.le_of_lt h.1.lt), h.2.2⟩

/-- Of what was there only block r may have changed. -/
abbrev But (r : Nat) (w w' : World) : Prop := w.grownBy w' (some r)
theorem but_refl (r : Nat) (w : World) : But r w w := World.grownBy.refl w _
theorem but_trans {r : Nat} {a b c : World} (h : But r a b) (k : But r b c) : But r a c := World.grownBy.trans h k
theorem but_below {r : Nat} {a w w' : World} (h : But r a w) (hb : Below w.heap.size w w') : But r a w' :=
  but_trans h ⟨hb.os, hb.tape, hb.output, hb.size, fun i hi _ => hb.block i hi⟩
theorem but_drew {r : Nat} {a w : World} (h : But r a w) : But r a w.drew := ⟨h.os, h.tape, h.output, h.size, h.block⟩
theorem but_drewN {r : Nat} {a w : World} (h : But r a w) (n : Nat) : But r a (w.drewN n) := ⟨h.os, h.tape, h.output, h.size, h.block⟩
theorem but_alloc {r : Nat} {a w : World} (h : But r a w) (o : Obj) : But r a (w.alloc o) :=
  ⟨h.os, h.tape, h.output, Nat.le_trans h.size (by simp), fun i hi hne => (Below.heap_alloc w o i (Nat.lt_of_lt_of_le hi h.size)).trans (h.block i hi hne)⟩
theorem but_put {r : Nat} {a w : World} (h : But r a w) {p : Addr} (hp : p.block = r ∨ a.heap.size ≤ p.block) (u : Value) : But r a (w.setCell p u) :=
  ⟨h.os, h.tape, h.output, by simpa [World.setCell] using h.size, fun i hi hne => (Below.heap_setCell w p u i (by
    rintro rfl
    rcases hp with hp | hp
    · exact hne (by rw [hp])
    · omega)).trans (h.block i hi hne)⟩
theorem but_grown {r : Nat} {a w w' : World} {base : Nat} {e : TypeId} {size : Nat} {v : Value} {n : Nat} {xs : List Value} (h : But r a w) (ho : w.ownsRow base e size v n xs) (hg : w.grownBy w' v.ownBlock) (hb : a.heap.size ≤ base) : But r a w' :=
  ⟨hg.os.trans h.os, hg.tape.trans h.tape, hg.output.trans h.output, Nat.le_trans h.size hg.size, fun i hi hne => (hg.block i (Nat.lt_of_lt_of_le hi h.size) (fun e => by have := (ho.lt i e.symm).1; omega)).trans (h.block i hi hne)⟩

/-- A number out of the reader: at least 0, below m. -/
def PickPost (r : Nat) (A : Option Addr) (n c : Nat) (xs : List Int) (p m : Int) (w : World) (e : Ending) (w' : World) : Prop :=
  ∃ q : Int, e = .returned (.int .i64 q) ∧ 0 ≤ q ∧ (1 ≤ m → q < m) ∧ (m < 1 → q = 0) ∧ Rdr w' r A n c xs (p + 1) ∧ But r w w'

set_option maxRecDepth 100000 in
set_option maxHeartbeats 1600000 in
theorem pick_any (r : Nat) (A : Option Addr) (n c : Nat) (xs : List Int) (p m : Int) (w : World) (h : Rdr w r A n c xs p) (hp : p ≤ 1000000) (hm : m ≤ 1000000) :
    Calls Try.prog 74 #[.pointer (some ⟨r, 0, none⟩), .int .i64 m] w (PickPost r A n c xs p m w) := by
  obtain ⟨hb, hr, hby, hn, hp0⟩ := h
  have hc0 := hb.cell 0
  have hc1 := hb.cell 1
  have hs1 := hb.soft 1
  simp at hc0 hc1
  have hb2 : Blk (w.setCell ⟨r, 1, none⟩ (.int .i64 (p + 1))) r 137 #[.slice A n c, .int .i64 (p + 1)] := by simpa using hb.put 1 (.int .i64 (p + 1))
  have hR : Rdr (w.setCell ⟨r, 1, none⟩ (.int .i64 (p + 1))) r A n c xs (p + 1) := ⟨hb2, hr.setCell (.inr (Nat.le_refl _)) _, hby, hn, by omega⟩
  have hG : But r w (w.setCell ⟨r, 1, none⟩ (.int .i64 (p + 1))) := but_put (but_refl r w) (.inl rfl) _
  have HR := Lib.hid hR
  have HG := Lib.hid hG
  clear hR hG hb2 hb
  by_cases h1 : m < 1
  · go_enter Try.func74, Try.ntmps74
    go_wp2
    go_ret
    exact ⟨0, rfl, by omega, by omega, fun _ => rfl, HR.out, HG.out⟩
  by_cases hn0 : n = 0
  · subst hn0
    go_enter Try.func74, Try.ntmps74
    go_wp2
    go_ret
    exact ⟨0, rfl, by omega, by omega, by omega, HR.out, HG.out⟩
  have hn0' : ((n : Int) == 0) = false := by simp; omega
  by_cases hk : p < n
  · obtain ⟨k, rfl⟩ := Int.eq_ofNat_of_zero_le hp0
    obtain ⟨b, off, x, rfl, hbr, hx0, hx1, hcx⟩ := (HR.out).2.1.byte hby (k := k) (by omega)
    have hne : b ≠ r := by omega
    go_enter Try.func74, Try.ntmps74
    go_wp2
    go_ret
    refine ⟨x % m, rfl, Int.emod_nonneg _ (by omega), fun _ => Int.emod_lt_of_pos _ (by omega), fun h => by omega, HR.out, HG.out⟩
  · obtain ⟨k, rfl⟩ := Int.eq_ofNat_of_zero_le hp0
    obtain ⟨b, off, x, rfl, hbr, hx0, hx1, hcx⟩ := (HR.out).2.1.byte hby (k := k % n) (Nat.mod_lt _ (by omega))
    obtain ⟨b', off', y, he, _, hy0, hy1, hcy⟩ := (HR.out).2.1.byte hby (k := (k * 7 + 3) % n) (Nat.mod_lt _ (by omega))
    injection he with he; injection he with he1 he2; subst he1; subst he2
    have hne : b ≠ r := by omega
    have hnpos : (0 : Int) < (n : Int) := by omega
    have b1 : (k % n : Nat) < n := Nat.mod_lt _ (by omega)
    have b2 : ((k * 7 + 3) % n : Nat) < n := Nat.mod_lt _ (by omega)
    have b1' : ((k % n : Nat) : Int) < (n : Int) := by omega
    have b2' : (((k * 7 + 3) % n : Nat) : Int) < (n : Int) := by omega
    generalize hd : (k : Int) / (n : Int) = d
    have b3 : 0 ≤ d := by rw [← hd]; exact Int.ediv_nonneg (by omega) (by omega)
    have b4 : d ≤ (k : Int) := by rw [← hd]; exact Int.ediv_le_self _ (by omega)
    have t1 : 0 ≤ ((k : Int) * 7 + 3) % (n : Int) := Int.emod_nonneg _ (by omega)
    have t2 : ((k : Int) * 7 + 3) % (n : Int) < (n : Int) := Int.emod_lt_of_pos _ (by omega)
    have t3 : ((k : Int)).tdiv (n : Int) = d := by rw [Int.tdiv_eq_ediv_of_nonneg (by omega)]; exact hd
    have w1 : IntKind.i64.wrap ((k : Int) * 7) = (k : Int) * 7 := IntWalk.i64_in _ (by omega)
    have w2 : IntKind.i64.wrap ((k : Int) * 7 + 3) = (k : Int) * 7 + 3 := IntWalk.i64_in _ (by omega)
    have w3 : IntKind.i64.wrap (x * 131) = x * 131 := IntWalk.i64_in _ (by omega)
    have w4 : IntKind.i64.wrap (y * 1117) = y * 1117 := IntWalk.i64_in _ (by omega)
    have w5 : IntKind.i64.wrap (x * 131 + y * 1117) = x * 131 + y * 1117 := IntWalk.i64_in _ (by omega)
    have w6 : IntKind.i64.wrap ((k : Int) * 29) = (k : Int) * 29 := IntWalk.i64_in _ (by omega)
    have w7 : IntKind.i64.wrap (x * 131 + y * 1117 + (k : Int) * 29) = x * 131 + y * 1117 + (k : Int) * 29 := IntWalk.i64_in _ (by omega)
    have w8 : IntKind.i64.wrap (d * 53) = d * 53 := IntWalk.i64_in _ (by omega)
    have w9 : IntKind.i64.wrap (x * 131 + y * 1117 + (k : Int) * 29 + d * 53) = x * 131 + y * 1117 + (k : Int) * 29 + d * 53 := IntWalk.i64_in _ (by omega)
    clear hd
    go_enter Try.func74, Try.ntmps74
    go_wp2_with (fail)
    go_quiet (fail)
    go_wp2
    go_ret
    have hx : 0 ≤ bits BinOp.xor IntKind.i64 (x * 131 + y * 1117 + (k : Int) * 29 + d * 53) ((x * 131 + y * 1117 + (k : Int) * 29 + d * 53) / 64) := xor_nonneg _ _ (by omega) (by omega) (by omega) (by omega)
    exact ⟨_, rfl, Int.tmod_nonneg _ hx, fun _ => Int.tmod_lt_of_pos _ (by omega), fun h => by omega, HR.out, but_drewN HG.out _⟩
end Go.Proofs.Ytcckmabdflhfmaa


/- The drawing of arguments: one of a list, values of variables. -/
namespace Go.Proofs.Ytcckmabdflhfmaa
open Go.RowKit

theorem infoIntD : (Try.prog.info? 3).map (fun i => (i.zero, i.size, i.bytes)) = some (some (.int .i64 0), 1, 8) := by kernel_rfl

theorem Rd.of_blk {w : World} {g size n : Nat} {t : TypeId} {cs : Array Value} (h : Blk w g t cs) (hn : cs.size = n * size) : Rd w g (g + 1) size (some ⟨g, 0, none⟩) n cs.toList :=
  ⟨by simpa using hn, fun _ => ⟨g, 0, rfl, Nat.le_refl _, Nat.lt_succ_self _, fun j u hu => by rw [Nat.zero_add, h.cell]; simpa using hu⟩⟩

def OnePost (r : Nat) (A : Option Addr) (n c : Nat) (xs : List Int) (p : Int) (ys : List Int) (w : World) (e : Ending) (w' : World) : Prop :=
  ∃ q : Int, e = .returned (.int .i64 q) ∧ q ∈ ys ∧ Rdr w' r A n c xs (p + 1) ∧ But r w w'

theorem one_any (r : Nat) (A : Option Addr) (n c : Nat) (xs : List Int) (p : Int) (lo hi n' c' : Nat) (A' : Option Addr) (ys : List Int) (w : World) (h : Rdr w r A n c xs p) (hp : p ≤ 1000000)
    (hr : Rd w lo hi 1 A' n' (ivs ys)) (hB : hi ≤ w.heap.size) (hn1 : 1 ≤ n') (hn2 : n' ≤ 1000000) (hfar : r < lo ∨ hi ≤ r) :
    Calls Try.prog 103 #[.pointer (some ⟨r, 0, none⟩), .slice A' n' c'] w (OnePost r A n c xs p ys w) := by
  go_enter Try.func103, Try.ntmps103
  go_wp2_with (fail)
  refine (pick_any r A n c xs p n' w h hp (by omega)).mono ?_
  rintro e w1 ⟨q, rfl, hq0, hq1, _, hR, hG⟩
  have hq := hq1 (by omega)
  obtain ⟨k, rfl⟩ := Int.eq_ofNat_of_zero_le hq0
  have hk : k < n' := by omega
  obtain ⟨b, off, x, rfl, _, _, hg, hc⟩ := (hr.far hG hB (by rintro g e; cases e; exact hfar)).one hk
  have HM := Lib.hid (List.mem_of_getElem? hg)
  clear hq1 hg
  go_wp2
  go_ret
  exact ⟨x, rfl, HM.out, hR, hG⟩

/-- A value of a variable. -/
def ValPost (r : Nat) (A : Option Addr) (n c : Nat) (xs : List Int) (p : Int) (w : World) (e : Ending) (w' : World) : Prop :=
  ∃ q : Int, e = .returned (.int .i64 q) ∧ -9999 ≤ q ∧ q ≤ 9999 ∧ Rdr w' r A n c xs (p + 1) ∧ But r w w'

theorem someValue_any (r : Nat) (A : Option Addr) (n c : Nat) (xs : List Int) (p : Int) (w : World) (h : Rdr w r A n c xs p) (hp : p ≤ 1000000) :
    Calls Try.prog 124 #[.pointer (some ⟨r, 0, none⟩)] w (ValPost r A n c xs p w) := by
  have hlt := h.lt
  go_enter Try.func124, Try.ntmps124
  go_wp2_with (fail)
  have hb := Blk.new w 3 #[.int .i64 0, .int .i64 1, .int .i64 2, .int .i64 5, .int .i64 (-3), .int .i64 9999, .int .i64 (-9999), .int .i64 10]
  refine (one_any r A n c xs p w.heap.size (w.heap.size + 1) 8 8 _ [0, 1, 2, 5, -3, 9999, -9999, 10] _ (h.below ((Below.refl _ _).alloc (Nat.le_refl _) _)) hp (Rd.of_blk hb rfl) (by simp) (by omega) (by omega) (.inl hlt)).mono ?_
  rintro e w1 ⟨q, rfl, hq, hR, hG⟩
  have hq' : -9999 ≤ q ∧ q ≤ 9999 := by simp at hq; omega
  obtain ⟨q0, q1⟩ := hq'
  clear hq
  go_wp2
  go_ret
  exact ⟨q, rfl, q0, q1, hR, but_trans (but_alloc (but_refl r w) _) hG⟩

/-- The reader of a code. -/
def ReaderPost (A : Option Addr) (w : World) (e : Ending) (w' : World) : Prop :=
  ∃ r n' c' xs', e = .returned (.pointer (some ⟨r, 0, none⟩)) ∧ w.heap.size ≤ r ∧ Rdr w' r A n' c' xs' 0 ∧ Below w.heap.size w w'
theorem newReader_any (n c : Nat) (A : Option Addr) (xs : List Int) (w : World) (hr : Rd w 0 w.heap.size 1 A n (bvs xs)) (hby : Bytes xs) (hn : n ≤ 1048576) (hc : n ≤ c) (hc2 : c ≤ 9223372036854775807) :
    Calls Try.prog 64 #[.slice A n c] w (ReaderPost A w) := by
  by_cases hbig : 2000 < (n : Int)
  · go_enter Try.func64, Try.ntmps64
    go_wp2
    go_ret
    have hx : (bvs xs).take (2000 * 1) = bvs (xs.take 2000) := by simp [bvs]
    refine ⟨w.heap.size, 2000, c, xs.take 2000, rfl, Nat.le_refl _, ⟨Blk.new _ _ _, ?_, fun z hz => hby z (List.mem_of_mem_take hz), Nat.le_refl _, Int.le_refl _⟩, up_alloc (Below.refl _ _) _⟩
    rw [← hx]
    exact (hr.keep (up_alloc (Below.refl _ _) _) (Nat.le_refl _)).cut (by omega)
  · go_enter Try.func64, Try.ntmps64
    go_wp2
    go_ret
    exact ⟨w.heap.size, n, c, xs, rfl, Nat.le_refl _, ⟨Blk.new _ _ _, hr.keep (up_alloc (Below.refl _ _) _) (Nat.le_refl _), hby, by omega, Int.le_refl _⟩, up_alloc (Below.refl _ _) _⟩
end Go.Proofs.Ytcckmabdflhfmaa


/- The drawing of arguments: a random condition. -/
namespace Go.Proofs.Ytcckmabdflhfmaa
open Go.RowKit

theorem infoPartD : (Try.prog.info? 62).map (fun i => (i.zero, i.size, i.bytes)) = some (some (.agg #[.int .i64 0, .int .i64 0]), 2, 16) := by kernel_rfl

theorem own_but {w w' : World} {r base : Nat} {e : TypeId} {size : Nat} {v : Value} {n : Nat} {xs : List Value} (h : w.ownsRow base e size v n xs) (hG : But r w w') (hr : r < base) : w'.ownsRow base e size v n xs :=
  h.kept hG (by
    cases hv : v.ownBlock with
    | none => exact .inl rfl
    | some k => exact .inr (fun e => by have := (h.lt k hv).1; injection e with e; omega))
theorem rdr_alloc {w : World} {r : Nat} {A : Option Addr} {n c : Nat} {xs : List Int} {p : Int} (h : Rdr w r A n c xs p) (o : Obj) : Rdr (w.alloc o) r A n c xs p := h.below ((Below.refl _ _).alloc (Nat.le_refl _) _)
theorem rdr_grown {w w' : World} {r : Nat} {A : Option Addr} {n c : Nat} {xs : List Int} {p : Int} {base : Nat} {e : TypeId} {size : Nat} {v : Value} {m : Nat} {ys : List Value} (h : Rdr w r A n c xs p) (ho : w.ownsRow base e size v m ys) (hg : w.grownBy w' v.ownBlock) (hr : r < base) : Rdr w' r A n c xs p :=
  ⟨h.1.grown hg (fun e => by have := (ho.lt r e.symm).1; omega), h.2.1.far hg (Nat.le_of_lt h.lt) (fun g e => by have := (ho.lt g e).1; omega), h.2.2⟩
theorem own_pair {w : World} {base : Nat} {e : TypeId} {v : Value} {ps : List (Int × Int)} {a b : Int} (h : w.ownsRow base e 2 v (ps.length + 1) (pvs ps ++ [.int .i64 a, .int .i64 b])) : w.ownsRow base e 2 v (ps ++ [(a, b)]).length (pvs (ps ++ [(a, b)])) := by
  rw [pvs_append, List.length_append]; exact h

/-- How many rounds may follow, at most. -/
def mu (n d : Int) : Nat := 2 * n.toNat + if d = 1 then 0 else 1

/-- A drawn condition. -/
def CondPost (r : Nat) (A : Option Addr) (n c : Nat) (xs : List Int) (p : Int) (K L : Nat) (w : World) (e : Ending) (w' : World) : Prop :=
  ∃ A' n' c' ps p', e = .returned (.slice A' n' c') ∧ n' ≤ c' ∧ c' ≤ 9223372036854775807 ∧ 1 ≤ n' ∧ n' ≤ L ∧ w'.ownsRow w.heap.size 62 2 (.slice A' n' c') n' (pvs ps) ∧ Rdr w' r A n c xs p' ∧ p' ≤ p + K ∧ But r w w'
theorem own_cap {w : World} {base : Nat} {e : TypeId} {size : Nat} {v : Value} {n : Nat} {xs : List Value} (h : w.ownsRow base e size v n xs) : ∃ A c, v = .slice A n c ∧ n ≤ c ∧ c ≤ 9223372036854775807 := by
  rcases h.2 with ⟨rfl, rfl⟩ | ⟨g, cap, cur, rfl, _, _, hc, hm, _⟩
  · exact ⟨none, 0, rfl, Nat.le_refl _, by omega⟩
  · unfold maxLen at hm; exact ⟨_, cap, rfl, hc, by omega⟩

set_option maxRecDepth 100000 in
set_option maxHeartbeats 3200000 in
theorem randomCondition_any (r : Nat) (A : Option Addr) (n c : Nat) (xs : List Int) (p : Int) (w : World) (h : Rdr w r A n c xs p) (hp : p ≤ 900000) :
    Calls Try.prog 123 #[.pointer (some ⟨r, 0, none⟩)] w (CondPost r A n c xs p 100 15 w) := by
  obtain ⟨i0, hi0, hz0, hz1, hz2⟩ := info_parts infoPartD
  have hrb := h.lt
  go_enter Try.func123, Try.ntmps123
  go_wp2_with (fail)
  have hb : Blk ((w.alloc (.cells #[] 62)).alloc (.cells #[.int .i64 1, .int .i64 3, .int .i64 2, .int .i64 5, .int .i64 7] 3)) (w.heap.size + 1) 3 #[.int .i64 1, .int .i64 3, .int .i64 2, .int .i64 5, .int .i64 7] := by
    have := Blk.new (w.alloc (.cells #[] 62)) 3 #[.int .i64 1, .int .i64 3, .int .i64 2, .int .i64 5, .int .i64 7]
    simpa using this
  (with_reducible refine (one_any r A n c xs p (w.heap.size + 1) (w.heap.size + 1 + 1) 5 5 _ [1, 3, 2, 5, 7] _ (rdr_alloc (rdr_alloc h _) _) (by omega) (Rd.of_blk hb rfl) (by simp) (by omega) (by omega) (.inl (by omega))).mono ?_)
  rintro e w1 ⟨q, rfl, hq, hR1, hG1⟩
  have hq' : 1 ≤ q ∧ q ≤ 7 := by simp at hq; omega
  obtain ⟨q0, q1⟩ := hq'
  clear hq hb
  have hown1 : w1.ownsRow w.heap.size 62 2 (.slice (some ⟨w.heap.size, 0, none⟩) 0 0) ([] : List (Int × Int)).length (pvs []) := own_but ((World.ownsRow_made w #[] 0 (Nat.le_refl _) (by unfold maxLen; omega) (by simp)).alloc _) hG1 hrb
  have hG1' := but_trans (but_alloc (but_alloc (but_refl r w) _) _) hG1
  clear hG1
  have hp0 := h.2.2.2.2
  clear h
  go_wp2
  go_loopw [3, 4, 5] (fun ov dv nv wr => ∃ (nn dd pp : Int) (ps : List (Int × Int)), nv = .int .i64 nn ∧ dv = .int .i64 dd ∧ wr.ownsRow w.heap.size 62 2 ov ps.length (pvs ps) ∧ Rdr wr r A n c xs pp ∧ But r w wr ∧
       0 ≤ dd ∧ dd ≤ 2 ∧ dd ≤ (ps.length : Int) ∧ nn ≤ 7 ∧ (0 ≤ nn ∨ (dd = 1 ∧ nn = -1)) ∧ pp + 3 * (mu nn dd : Int) ≤ p + 46 ∧ ps.length + mu nn dd ≤ 15)
     (fun _ dv nv _ => mu (intOf nv) (intOf dv))
  case atStart => exact ⟨q, 0, p + 1, [], rfl, rfl, hown1, hR1, hG1', by omega, by omega, by simp, by omega, by omega, by simp [mu]; omega, by simp [mu]; omega⟩
  case round =>
    clear hown1 hR1 hG1'
    obtain ⟨nn, dd, pp, ps, rfl, rfl, hown, hR, hG, hd0, hd2, hdl, hn7, hnd, hpp, hll⟩ := hrel
    have hpp0 := hR.2.2.2.2
    have hmu : mu nn dd = 2 * nn.toNat + (if dd = 1 then 0 else 1) := rfl
    rcases (show dd = 0 ∨ dd = 1 ∨ dd = 2 by omega) with rfl | rfl | rfl
    · simp at hmu
      by_cases hn : 0 < nn
      · go_wp2_with (fail)
        (with_reducible refine (pick_any r A n c xs pp 2 wr hR (by omega) (by omega)).mono ?_)
        rintro e w2 ⟨q, rfl, q0, q1, _, hR2, hG2⟩
        have q1' := q1 (by omega)
        have hown2 := own_but hown hG2 hrb
        have hG2' := but_trans hG hG2
        clear hG2 hown hG hR q1
        by_cases hq : q = 0
        · subst hq
          go_wp2_with (fail)
          (with_reducible refine (someValue_any r A n c xs (pp + 1) w2 hR2 (by omega)).mono ?_)
          rintro e w3 ⟨v, rfl, v0, v1, hRX, hG3⟩
          have hownX := own_but hown2 hG3 hrb
          have hGX := but_trans hG2' hG3
          clear hG3 hown2 hG2' hR2
          go_wp2_with (at_builtin; refine wpList_append_own _ rfl _ _ 46 rfl w.heap.size 62 i0 _ 2 16 Try.underlying46 hi0 hz0 hz1 hz2 rfl (by decide) _ _ _ rfl (hownX.alloc _) _ 1 1 [.int .i64 0, .int .i64 v] rfl rfl (World.news_of_block (heap_alloc_new _ _)) ?c2 ?c3 ?c4 ?c5 ?_)
          case c2 => intro u hu; simp at hu; rcases hu with rfl | rfl <;> rfl
          case c3 => unfold maxLen; omega
          case c4 => omega
          case c5 => have := hGX.size; simp; omega
          intro v' w4 hown4 hg4 _
          have hG4 := but_grown (but_alloc hGX _) (hownX.alloc _) hg4 (Nat.le_refl _)
          have hR4 := rdr_grown (rdr_alloc hRX _) (hownX.alloc _) hg4 hrb
          have hown5 := own_pair hown4
          clear hown4 hg4 hownX hGX hRX
          go_wp2
          go_roundw
          case rel =>
            refine ⟨nn - 1, 1, _, ps ++ [(0, v)], by first | rfl | go_num, by first | rfl | go_num, by simpa using hown5, hR4, hG4, by omega, by omega, by simp; omega, by omega, by omega, ?_, ?_⟩
            · simp [mu] at *; omega
            · simp [mu] at *; omega
          case measure => (simp [intOf, mu] at *) <;> omega
        · have hq' : (q == 0) = false := by simpa using hq
          go_wp2_with (fail)
          (with_reducible refine (pick_any r A n c xs (pp + 1) 4 w2 hR2 (by omega) (by omega)).mono ?_)
          rintro e w3 ⟨v, rfl, v0, v1, _, hRX, hG3⟩
          have hownX := own_but hown2 hG3 hrb
          have hGX := but_trans hG2' hG3
          clear hG3 hown2 hG2' hR2 v1
          go_wp2_with (at_builtin; refine wpList_append_own _ rfl _ _ 46 rfl w.heap.size 62 i0 _ 2 16 Try.underlying46 hi0 hz0 hz1 hz2 rfl (by decide) _ _ _ rfl (hownX.alloc _) _ 1 1 [.int .i64 1, .int .i64 v] rfl rfl (World.news_of_block (heap_alloc_new _ _)) ?c2 ?c3 ?c4 ?c5 ?_)
          case c2 => intro u hu; simp at hu; rcases hu with rfl | rfl <;> rfl
          case c3 => unfold maxLen; omega
          case c4 => omega
          case c5 => have := hGX.size; simp; omega
          intro v' w4 hown4 hg4 _
          have hG4 := but_grown (but_alloc hGX _) (hownX.alloc _) hg4 (Nat.le_refl _)
          have hR4 := rdr_grown (rdr_alloc hRX _) (hownX.alloc _) hg4 hrb
          have hown5 := own_pair hown4
          clear hown4 hg4 hownX hGX hRX
          go_wp2
          go_roundw
          case rel =>
            refine ⟨nn - 1, 1, _, ps ++ [(1, v)], by first | rfl | go_num, by first | rfl | go_num, by simpa using hown5, hR4, hG4, by omega, by omega, by simp; omega, by omega, by omega, ?_, ?_⟩
            · simp [mu] at *; omega
            · simp [mu] at *; omega
          case measure => (simp [intOf, mu] at *) <;> omega
      · obtain rfl : nn = 0 := by omega
        go_wp2_with (fail)
        (with_reducible refine (pick_any r A n c xs pp 2 wr hR (by omega) (by omega)).mono ?_)
        rintro e w2 ⟨q, rfl, q0, q1, _, hR2, hG2⟩
        have q1' := q1 (by omega)
        have hown2 := own_but hown hG2 hrb
        have hG2' := but_trans hG hG2
        clear hG2 hown hG hR q1
        by_cases hq : q = 0
        · subst hq
          go_wp2_with (fail)
          (with_reducible refine (someValue_any r A n c xs (pp + 1) w2 hR2 (by omega)).mono ?_)
          rintro e w3 ⟨v, rfl, v0, v1, hRX, hG3⟩
          have hownX := own_but hown2 hG3 hrb
          have hGX := but_trans hG2' hG3
          clear hG3 hown2 hG2' hR2
          go_wp2_with (at_builtin; refine wpList_append_own _ rfl _ _ 46 rfl w.heap.size 62 i0 _ 2 16 Try.underlying46 hi0 hz0 hz1 hz2 rfl (by decide) _ _ _ rfl (hownX.alloc _) _ 1 1 [.int .i64 0, .int .i64 v] rfl rfl (World.news_of_block (heap_alloc_new _ _)) ?c2 ?c3 ?c4 ?c5 ?_)
          case c2 => intro u hu; simp at hu; rcases hu with rfl | rfl <;> rfl
          case c3 => unfold maxLen; omega
          case c4 => omega
          case c5 => have := hGX.size; simp; omega
          intro v' w4 hown4 hg4 _
          have hG4 := but_grown (but_alloc hGX _) (hownX.alloc _) hg4 (Nat.le_refl _)
          have hR4 := rdr_grown (rdr_alloc hRX _) (hownX.alloc _) hg4 hrb
          have hown5 := own_pair hown4
          clear hown4 hg4 hownX hGX hRX
          go_wp2
          go_roundw
          case rel =>
            refine ⟨0 - 1, 1, _, ps ++ [(0, v)], by first | rfl | go_num, by first | rfl | go_num, by simpa using hown5, hR4, hG4, by omega, by omega, by simp; omega, by omega, by omega, ?_, ?_⟩
            · simp [mu] at *; omega
            · simp [mu] at *; omega
          case measure => (simp [intOf, mu] at *) <;> omega
        · have hq' : (q == 0) = false := by simpa using hq
          go_wp2_with (fail)
          (with_reducible refine (pick_any r A n c xs (pp + 1) 4 w2 hR2 (by omega) (by omega)).mono ?_)
          rintro e w3 ⟨v, rfl, v0, v1, _, hRX, hG3⟩
          have hownX := own_but hown2 hG3 hrb
          have hGX := but_trans hG2' hG3
          clear hG3 hown2 hG2' hR2 v1
          go_wp2_with (at_builtin; refine wpList_append_own _ rfl _ _ 46 rfl w.heap.size 62 i0 _ 2 16 Try.underlying46 hi0 hz0 hz1 hz2 rfl (by decide) _ _ _ rfl (hownX.alloc _) _ 1 1 [.int .i64 1, .int .i64 v] rfl rfl (World.news_of_block (heap_alloc_new _ _)) ?c2 ?c3 ?c4 ?c5 ?_)
          case c2 => intro u hu; simp at hu; rcases hu with rfl | rfl <;> rfl
          case c3 => unfold maxLen; omega
          case c4 => omega
          case c5 => have := hGX.size; simp; omega
          intro v' w4 hown4 hg4 _
          have hG4 := but_grown (but_alloc hGX _) (hownX.alloc _) hg4 (Nat.le_refl _)
          have hR4 := rdr_grown (rdr_alloc hRX _) (hownX.alloc _) hg4 hrb
          have hown5 := own_pair hown4
          clear hown4 hg4 hownX hGX hRX
          go_wp2
          go_roundw
          case rel =>
            refine ⟨0 - 1, 1, _, ps ++ [(1, v)], by first | rfl | go_num, by first | rfl | go_num, by simpa using hown5, hR4, hG4, by omega, by omega, by simp; omega, by omega, by omega, ?_, ?_⟩
            · simp [mu] at *; omega
            · simp [mu] at *; omega
          case measure => (simp [intOf, mu] at *) <;> omega
    · simp at hmu
      by_cases hn : 0 < nn
      · go_wp2_with (fail)
        (with_reducible refine (pick_any r A n c xs pp 2 wr hR (by omega) (by omega)).mono ?_)
        rintro e w2 ⟨q, rfl, q0, q1, _, hR2, hG2⟩
        have q1' := q1 (by omega)
        have hown2 := own_but hown hG2 hrb
        have hG2' := but_trans hG hG2
        clear hG2 hown hG hR q1
        by_cases hq : q = 0
        · subst hq
          go_wp2_with (fail)
          (with_reducible refine (someValue_any r A n c xs (pp + 1) w2 hR2 (by omega)).mono ?_)
          rintro e w3 ⟨v, rfl, v0, v1, hRX, hG3⟩
          have hownX := own_but hown2 hG3 hrb
          have hGX := but_trans hG2' hG3
          clear hG3 hown2 hG2' hR2
          go_wp2_with (at_builtin; refine wpList_append_own _ rfl _ _ 46 rfl w.heap.size 62 i0 _ 2 16 Try.underlying46 hi0 hz0 hz1 hz2 rfl (by decide) _ _ _ rfl (hownX.alloc _) _ 1 1 [.int .i64 0, .int .i64 v] rfl rfl (World.news_of_block (heap_alloc_new _ _)) ?c2 ?c3 ?c4 ?c5 ?_)
          case c2 => intro u hu; simp at hu; rcases hu with rfl | rfl <;> rfl
          case c3 => unfold maxLen; omega
          case c4 => omega
          case c5 => have := hGX.size; simp; omega
          intro v' w4 hown4 hg4 _
          have hG4 := but_grown (but_alloc hGX _) (hownX.alloc _) hg4 (Nat.le_refl _)
          have hR4 := rdr_grown (rdr_alloc hRX _) (hownX.alloc _) hg4 hrb
          have hown5 := own_pair hown4
          clear hown4 hg4 hownX hGX hRX
          go_wp2
          go_roundw
          case rel =>
            refine ⟨nn - 1, 2, _, ps ++ [(0, v)], by first | rfl | go_num, by first | rfl | go_num, by simpa using hown5, hR4, hG4, by omega, by omega, by simp; omega, by omega, by omega, ?_, ?_⟩
            · simp [mu] at *; omega
            · simp [mu] at *; omega
          case measure => (simp [intOf, mu] at *) <;> omega
        · have hq' : (q == 0) = false := by simpa using hq
          go_wp2_with (fail)
          (with_reducible refine (pick_any r A n c xs (pp + 1) 4 w2 hR2 (by omega) (by omega)).mono ?_)
          rintro e w3 ⟨v, rfl, v0, v1, _, hRX, hG3⟩
          have hownX := own_but hown2 hG3 hrb
          have hGX := but_trans hG2' hG3
          clear hG3 hown2 hG2' hR2 v1
          go_wp2_with (at_builtin; refine wpList_append_own _ rfl _ _ 46 rfl w.heap.size 62 i0 _ 2 16 Try.underlying46 hi0 hz0 hz1 hz2 rfl (by decide) _ _ _ rfl (hownX.alloc _) _ 1 1 [.int .i64 1, .int .i64 v] rfl rfl (World.news_of_block (heap_alloc_new _ _)) ?c2 ?c3 ?c4 ?c5 ?_)
          case c2 => intro u hu; simp at hu; rcases hu with rfl | rfl <;> rfl
          case c3 => unfold maxLen; omega
          case c4 => omega
          case c5 => have := hGX.size; simp; omega
          intro v' w4 hown4 hg4 _
          have hG4 := but_grown (but_alloc hGX _) (hownX.alloc _) hg4 (Nat.le_refl _)
          have hR4 := rdr_grown (rdr_alloc hRX _) (hownX.alloc _) hg4 hrb
          have hown5 := own_pair hown4
          clear hown4 hg4 hownX hGX hRX
          go_wp2
          go_roundw
          case rel =>
            refine ⟨nn - 1, 2, _, ps ++ [(1, v)], by first | rfl | go_num, by first | rfl | go_num, by simpa using hown5, hR4, hG4, by omega, by omega, by simp; omega, by omega, by omega, ?_, ?_⟩
            · simp [mu] at *; omega
            · simp [mu] at *; omega
          case measure => (simp [intOf, mu] at *) <;> omega
      · have Ho := Lib.hid hown
        clear hown
        go_wp2
        go_ret
        obtain ⟨A', c', hv, hc1, hc2⟩ := own_cap Ho.out
        refine ⟨A', ps.length, c', ps, pp, ?_, hc1, hc2, by omega, by omega, ?_, hR, by omega, hG⟩
        · rw [← hv]; rfl
        · rw [← hv]; exact Ho.out
    · simp at hmu
      by_cases hn : 0 < nn
      · go_wp2_with (fail)
        (with_reducible refine (pick_any r A n c xs pp 6 wr hR (by omega) (by omega)).mono ?_)
        rintro e w2 ⟨q, rfl, q0, q1, _, hR2, hG2⟩
        have q1' := q1 (by omega)
        have hown2 := own_but hown hG2 hrb
        have hG2' := but_trans hG hG2
        clear hG2 hown hG hR q1
        by_cases hq : q = 0
        · subst hq
          have hownX := hown2
          have hGX := hG2'
          have hRX := hR2
          clear hown2 hG2' hR2
          go_wp2_with (at_builtin; refine wpList_append_own _ rfl _ _ 46 rfl w.heap.size 62 i0 _ 2 16 Try.underlying46 hi0 hz0 hz1 hz2 rfl (by decide) _ _ _ rfl (hownX.alloc _) _ 1 1 [.int .i64 2, .int .i64 0] rfl rfl (World.news_of_block (heap_alloc_new _ _)) ?c2 ?c3 ?c4 ?c5 ?_)
          case c2 => intro u hu; simp at hu; rcases hu with rfl | rfl <;> rfl
          case c3 => unfold maxLen; omega
          case c4 => omega
          case c5 => have := hGX.size; simp; omega
          intro v' w4 hown4 hg4 _
          have hG4 := but_grown (but_alloc hGX _) (hownX.alloc _) hg4 (Nat.le_refl _)
          have hR4 := rdr_grown (rdr_alloc hRX _) (hownX.alloc _) hg4 hrb
          have hown5 := own_pair hown4
          clear hown4 hg4 hownX hGX hRX
          go_wp2
          go_roundw
          case rel =>
            refine ⟨nn - 1, 2, _, ps ++ [(2, 0)], by first | rfl | go_num, by first | rfl | go_num, by simpa using hown5, hR4, hG4, by omega, by omega, by simp; omega, by omega, by omega, ?_, ?_⟩
            · simp [mu] at *; omega
            · simp [mu] at *; omega
          case measure => (simp [intOf, mu] at *) <;> omega
        · have hq' : (q == 0) = false := by simpa using hq
          go_wp2_with (fail)
          (with_reducible refine (pick_any r A n c xs (pp + 1) 6 w2 hR2 (by omega) (by omega)).mono ?_)
          rintro e w3 ⟨v, rfl, v0, v1, _, hRX, hG3⟩
          have v1' := v1 (by omega)
          have hownX := own_but hown2 hG3 hrb
          have hGX := but_trans hG2' hG3
          clear hG3 hown2 hG2' hR2 v1
          go_wp2_with (at_builtin; refine wpList_append_own _ rfl _ _ 46 rfl w.heap.size 62 i0 _ 2 16 Try.underlying46 hi0 hz0 hz1 hz2 rfl (by decide) _ _ _ rfl (hownX.alloc _) _ 1 1 [.int .i64 (3 + v), .int .i64 0] rfl rfl (World.news_of_block (heap_alloc_new _ _)) ?c2 ?c3 ?c4 ?c5 ?_)
          case c2 => intro u hu; simp at hu; rcases hu with rfl | rfl <;> rfl
          case c3 => unfold maxLen; omega
          case c4 => omega
          case c5 => have := hGX.size; simp; omega
          intro v' w4 hown4 hg4 _
          have hG4 := but_grown (but_alloc hGX _) (hownX.alloc _) hg4 (Nat.le_refl _)
          have hR4 := rdr_grown (rdr_alloc hRX _) (hownX.alloc _) hg4 hrb
          have hown5 := own_pair hown4
          clear hown4 hg4 hownX hGX hRX
          go_wp2
          go_roundw
          case rel =>
            refine ⟨nn - 1, 1, _, ps ++ [((3 + v), 0)], by first | rfl | go_num, by first | rfl | go_num, by simpa using hown5, hR4, hG4, by omega, by omega, by simp; omega, by omega, by omega, ?_, ?_⟩
            · simp [mu] at *; omega
            · simp [mu] at *; omega
          case measure => (simp [intOf, mu] at *) <;> omega
      · obtain rfl : nn = 0 := by omega
        go_wp2_with (fail)
        (with_reducible refine (pick_any r A n c xs pp 6 wr hR (by omega) (by omega)).mono ?_)
        rintro e w2 ⟨q, rfl, q0, q1, _, hR2, hG2⟩
        have q1' := q1 (by omega)
        have hown2 := own_but hown hG2 hrb
        have hG2' := but_trans hG hG2
        clear hG2 hown hG hR q1
        by_cases hq : q = 0
        · subst hq
          go_wp2_with (fail)
          (with_reducible refine (pick_any r A n c xs (pp + 1) 6 w2 hR2 (by omega) (by omega)).mono ?_)
          rintro e w3 ⟨v, rfl, v0, v1, _, hRX, hG3⟩
          have v1' := v1 (by omega)
          have hownX := own_but hown2 hG3 hrb
          have hGX := but_trans hG2' hG3
          clear hG3 hown2 hG2' hR2 v1
          go_wp2_with (at_builtin; refine wpList_append_own _ rfl _ _ 46 rfl w.heap.size 62 i0 _ 2 16 Try.underlying46 hi0 hz0 hz1 hz2 rfl (by decide) _ _ _ rfl (hownX.alloc _) _ 1 1 [.int .i64 (3 + v), .int .i64 0] rfl rfl (World.news_of_block (heap_alloc_new _ _)) ?c2 ?c3 ?c4 ?c5 ?_)
          case c2 => intro u hu; simp at hu; rcases hu with rfl | rfl <;> rfl
          case c3 => unfold maxLen; omega
          case c4 => omega
          case c5 => have := hGX.size; simp; omega
          intro v' w4 hown4 hg4 _
          have hG4 := but_grown (but_alloc hGX _) (hownX.alloc _) hg4 (Nat.le_refl _)
          have hR4 := rdr_grown (rdr_alloc hRX _) (hownX.alloc _) hg4 hrb
          have hown5 := own_pair hown4
          clear hown4 hg4 hownX hGX hRX
          go_wp2
          go_roundw
          case rel =>
            refine ⟨0 - 1, 1, _, ps ++ [((3 + v), 0)], by first | rfl | go_num, by first | rfl | go_num, by simpa using hown5, hR4, hG4, by omega, by omega, by simp; omega, by omega, by omega, ?_, ?_⟩
            · simp [mu] at *; omega
            · simp [mu] at *; omega
          case measure => (simp [intOf, mu] at *) <;> omega
        · have hq' : (q == 0) = false := by simpa using hq
          go_wp2_with (fail)
          (with_reducible refine (pick_any r A n c xs (pp + 1) 6 w2 hR2 (by omega) (by omega)).mono ?_)
          rintro e w3 ⟨v, rfl, v0, v1, _, hRX, hG3⟩
          have v1' := v1 (by omega)
          have hownX := own_but hown2 hG3 hrb
          have hGX := but_trans hG2' hG3
          clear hG3 hown2 hG2' hR2 v1
          go_wp2_with (at_builtin; refine wpList_append_own _ rfl _ _ 46 rfl w.heap.size 62 i0 _ 2 16 Try.underlying46 hi0 hz0 hz1 hz2 rfl (by decide) _ _ _ rfl (hownX.alloc _) _ 1 1 [.int .i64 (3 + v), .int .i64 0] rfl rfl (World.news_of_block (heap_alloc_new _ _)) ?c2 ?c3 ?c4 ?c5 ?_)
          case c2 => intro u hu; simp at hu; rcases hu with rfl | rfl <;> rfl
          case c3 => unfold maxLen; omega
          case c4 => omega
          case c5 => have := hGX.size; simp; omega
          intro v' w4 hown4 hg4 _
          have hG4 := but_grown (but_alloc hGX _) (hownX.alloc _) hg4 (Nat.le_refl _)
          have hR4 := rdr_grown (rdr_alloc hRX _) (hownX.alloc _) hg4 hrb
          have hown5 := own_pair hown4
          clear hown4 hg4 hownX hGX hRX
          go_wp2
          go_roundw
          case rel =>
            refine ⟨0 - 1, 1, _, ps ++ [((3 + v), 0)], by first | rfl | go_num, by first | rfl | go_num, by simpa using hown5, hR4, hG4, by omega, by omega, by simp; omega, by omega, by omega, ?_, ?_⟩
            · simp [mu] at *; omega
            · simp [mu] at *; omega
          case measure => (simp [intOf, mu] at *) <;> omega
end Go.Proofs.Ytcckmabdflhfmaa


/- The drawing of arguments: a condition that may be invalid. -/
namespace Go.Proofs.Ytcckmabdflhfmaa
open Go.RowKit

/-- A drawn condition, valid or not. -/
def DrawnCond (r : Nat) (A : Option Addr) (n c : Nat) (xs : List Int) (p : Int) (w : World) (e : Ending) (w' : World) : Prop :=
  ∃ A' n' c' ps p', e = .returned (.slice A' n' c') ∧ n' ≤ 16 ∧ n' ≤ c' ∧ c' ≤ 9223372036854775807 ∧ Rd w' w.heap.size w'.heap.size 2 A' n' (pvs ps) ∧ Rdr w' r A n c xs p' ∧ p' ≤ p + 200 ∧ But r w w'
def lenOf : Value → Nat | .slice _ n _ => n | _ => 0

theorem Rd.tail {w : World} {lo hi : Nat} {size n : Nat} {b off : Nat} {xs : List Value} (h : Rd w lo hi size (some ⟨b, off, none⟩) (n + 1) xs) : Rd w lo hi size (some ⟨b, off + size, none⟩) n (xs.drop size) :=
  ⟨by rw [List.length_drop, h.1, Nat.add_mul]; omega, fun _ => by
    obtain ⟨b', off', e, h1, h2, hc⟩ := h.2 (by omega)
    injection e with e; injection e with e1 e2
    subst e1; subst e2
    refine ⟨b, off + size, rfl, h1, h2, fun j u hu => ?_⟩
    rw [List.getElem?_drop] at hu
    have := hc _ u hu
    rwa [← Nat.add_assoc] at this⟩
theorem pvs_tail (ps : List (Int × Int)) : (pvs ps).drop 2 = pvs ps.tail := by
  cases ps <;> simp [pvs, pv]
theorem own_long {w : World} {base : Nat} {e : TypeId} {size : Nat} {A : Option Addr} {n c : Nat} {xs : List Value} (h : w.ownsRow base e size (.slice A n c) n xs) (hn : 1 ≤ n) : ∃ g, A = some ⟨g, 0, none⟩ ∧ base ≤ g ∧ g < w.heap.size := by
  obtain ⟨g, cap, hv, h1, h2⟩ := h.form (by omega)
  injection hv with hv
  exact ⟨g, hv, h1, h2⟩
theorem pvs_some {ps : List (Int × Int)} {k : Nat} (hk : k < ps.length) : ∃ z0 z1, (pvs ps)[k * 2]? = some z0 ∧ (pvs ps)[k * 2 + 1]? = some z1 := ⟨_, _, (pvs_get ps k hk).1, (pvs_get ps k hk).2⟩
theorem set_pair (ps : List (Int × Int)) (k : Nat) (x y : Int) (hk : k < ps.length) : ((pvs ps).set (k * 2) (.int .i64 x)).set (k * 2 + 1) (.int .i64 y) = pvs (ps.set k (x, y)) := by
  induction ps generalizing k with
  | nil => simp at hk
  | cons p ps ih =>
    cases k with
    | zero => simp [pvs, pv]
    | succ k =>
      have := ih k (by simpa using hk)
      have e : (k + 1) * 2 = k * 2 + 2 := by omega
      rw [e]
      simpa [pvs, pv] using this

set_option maxRecDepth 100000 in
set_option maxHeartbeats 3200000 in
theorem anyCondition_any (r : Nat) (A : Option Addr) (n c : Nat) (xs : List Int) (p : Int) (w : World) (h : Rdr w r A n c xs p) (hp : p ≤ 800000) :
    Calls Try.prog 104 #[.pointer (some ⟨r, 0, none⟩)] w (DrawnCond r A n c xs p w) := by
  obtain ⟨i0, hi0, hz0, hz1, hz2⟩ := info_parts infoPartD
  have hrb := h.lt
  go_enter Try.func104, Try.ntmps104
  go_wp2_with (fail)
  (with_reducible refine (randomCondition_any r A n c xs p w h (by omega)).mono ?_)
  rintro e w1 ⟨A1, n1, c1, ps, p1, rfl, hc1, hc2, hn1, hn15, hown1, hR1, hp1, hG1⟩
  have hp10 := hR1.2.2.2.2
  have hp0 := h.2.2.2.2
  clear h
  have hlen : ps.length = n1 := by have := hown1.1; rw [pvs_length] at this; omega
  have HL := Lib.hid hlen; clear hlen
  go_wp2_with (fail)
  (with_reducible refine (pick_any r A n c xs p1 20 w1 hR1 (by omega) (by omega)).mono ?_)
  rintro e w2 ⟨q, rfl, q0, q1, _, hR2, hG2⟩
  have q1' := q1 (by omega)
  have hown2 := own_but hown1 hG2 hrb
  have hG2' := but_trans hG1 hG2
  clear hG2 hown1 hG1 hR1 q1
  rcases (show q = 0 ∨ q = 1 ∨ q = 2 ∨ q = 3 ∨ 4 ≤ q by omega) with rfl | rfl | rfl | rfl | hq4
  · go_wp2_with (fail)
    have hb := Blk.new w2 3 #[.int .i64 3, .int .i64 0, .int .i64 9, .int .i64 (-1)]
    (with_reducible refine (one_any r A n c xs (p1 + 1) w2.heap.size (w2.heap.size + 1) 4 4 _ [3, 0, 9, -1] _ (rdr_alloc hR2 _) (by omega) (Rd.of_blk hb rfl) (by simp) (by omega) (by omega) (.inl hR2.lt)).mono ?_)
    rintro e w3 ⟨v, rfl, _, hRX, hG3⟩
    have hownX := own_but (hown2.alloc _) hG3 hrb
    have hGX := but_trans (but_alloc hG2' _) hG3
    clear hb hG3 hown2 hG2' hR2
    go_wp2_with (at_builtin; refine wpList_append_own _ rfl _ _ 46 rfl w.heap.size 62 i0 _ 2 16 Try.underlying46 hi0 hz0 hz1 hz2 rfl (by decide) _ _ _ rfl (hownX.alloc _) _ 1 1 [.int .i64 v, .int .i64 0] rfl rfl (World.news_of_block (heap_alloc_new _ _)) ?c2 ?c3 ?c4 ?c5 ?_)
    case c2 => intro u hu; simp at hu; rcases hu with rfl | rfl <;> rfl
    case c3 => unfold maxLen; omega
    case c4 => omega
    case c5 => have := hGX.size; simp; omega
    intro v' w4 hown4 hg4 _
    have hG4 := but_grown (but_alloc hGX _) (hownX.alloc _) hg4 (Nat.le_refl _)
    have hR4 := rdr_grown (rdr_alloc hRX _) (hownX.alloc _) hg4 hrb
    clear hg4 hownX hGX hRX
    have HO := Lib.hid hown4
    clear hown4
    go_wp2
    go_ret
    obtain ⟨A', c', hv, hcc, hcm⟩ := own_cap HO.out
    have ho := HO.out
    rw [hv] at ho
    refine ⟨A', n1 + 1, c', ps ++ [(v, 0)], p1 + 1 + 1, ?_, by omega, hcc, hcm, ?_, hR4, by omega, hG4⟩
    · rw [← hv]; rfl
    · rw [pvs_append]; exact Rd.of_own ho
  · go_wp2_with (fail)
    (with_reducible refine (pick_any r A n c xs (p1 + 1) n1 w2 hR2 (by omega) (by omega)).mono ?_)
    rintro e w3 ⟨k, rfl, k0, k1, _, hR3, hG3⟩
    have k1' := k1 (by omega)
    obtain ⟨k, rfl⟩ := Int.eq_ofNat_of_zero_le k0
    have hown3 := own_but hown2 hG3 hrb
    have hG3' := but_trans hG2' hG3
    clear hG3 hown2 hG2' hR2 k1
    go_wp2_with (fail)
    have hb := Blk.new w3 3 #[.int .i64 0, .int .i64 1, .int .i64 2]
    (with_reducible refine (one_any r A n c xs (p1 + 1 + 1) w3.heap.size (w3.heap.size + 1) 3 3 _ [0, 1, 2] _ (rdr_alloc hR3 _) (by omega) (Rd.of_blk hb rfl) (by simp) (by omega) (by omega) (.inl hR3.lt)).mono ?_)
    rintro e w4 ⟨x, rfl, _, hR4, hG4⟩
    have hown4 := own_but (hown3.alloc _) hG4 hrb
    have hG4' := but_trans (but_alloc hG3' _) hG4
    clear hb hG4 hown3 hG3' hR3
    go_wp2_with (fail)
    have hb := Blk.new w4 3 #[.int .i64 10000, .int .i64 4, .int .i64 1, .int .i64 (-1)]
    (with_reducible refine (one_any r A n c xs (p1 + 1 + 1 + 1) w4.heap.size (w4.heap.size + 1) 4 4 _ [10000, 4, 1, -1] _ (rdr_alloc hR4 _) (by omega) (Rd.of_blk hb rfl) (by simp) (by omega) (by omega) (.inl hR4.lt)).mono ?_)
    rintro e w5 ⟨y, rfl, _, hR5, hG5⟩
    have hown5 := own_but (hown4.alloc _) hG5 hrb
    have hG5' := but_trans (but_alloc hG4' _) hG5
    clear hb hG5 hown4 hG4' hR4
    obtain ⟨g, rfl, hg1, hg2⟩ := own_long hown5 hn1
    have hkn : k < n1 := by omega
    have hd0 := hown5.cellAt (k * 2) (by omega)
    have hd1 := hown5.cellAt (k * 2 + 1) (by omega)
    obtain ⟨z0, z1, e0, e1⟩ := pvs_some (k := k) (ps := ps) (by rw [HL.out]; exact hkn)
    rw [e0] at hd0
    rw [e1] at hd1
    clear e0 e1
    have hf0 := hown5.frozenAt (k * 2)
    have hf1 := hown5.frozenAt (k * 2 + 1)
    have hst := ((hown5.stored (k * 2) (.int .i64 x)).1.stored (k * 2 + 1) (.int .i64 y)).1
    rw [set_pair ps k x y (by rw [HL.out]; exact hkn)] at hst
    have HST := Lib.hid hst
    have hne : r ≠ g := by omega
    have HRR := Lib.hid (show Rdr ((w5.setCell ⟨g, k * 2, none⟩ (.int .i64 x)).setCell ⟨g, k * 2 + 1, none⟩ (.int .i64 y)) r A n c xs (p1 + 1 + 1 + 1 + 1) from
      ⟨(hR5.1.far hne _).far hne _, (hR5.2.1.setCell (p := ⟨g, _, none⟩) (.inr (by show r ≤ g; omega)) _).setCell (p := ⟨g, _, none⟩) (.inr (by show r ≤ g; omega)) _, hR5.2.2⟩)
    clear hst hown5
    go_wp2
    go_ret
    refine ⟨_, n1, c1, _, _, rfl, by omega, hc1, hc2, Rd.of_own HST.out, HRR.out, by omega, ?_⟩
    exact but_put (but_put hG5' (p := ⟨g, _, none⟩) (.inr hg1) _) (p := ⟨g, _, none⟩) (.inr hg1) _
  · obtain ⟨g, rfl, hg1, hg2⟩ := own_long hown2 hn1
    obtain ⟨m, rfl⟩ : ∃ m, n1 = m + 1 := ⟨n1 - 1, by omega⟩
    have HO := Lib.hid (Rd.of_own hown2)
    clear hown2
    by_cases hcap : c1 = 1
    · subst hcap
      obtain rfl : m = 0 := by omega
      go_wp2
      go_ret
      exact ⟨_, 0, 0, [], p1 + 1, rfl, by omega, Nat.le_refl _, by omega, Rd.nil _ _ _ _ _, hR2, by omega, hG2'⟩
    · go_wp2
      go_ret
      refine ⟨_, m, c1 - 1, ps.tail, p1 + 1, rfl, by omega, by omega, by omega, ?_, hR2, by omega, hG2'⟩
      have ht := HO.out.tail
      rw [pvs_tail] at ht
      simpa using ht
  · have hG2'' := hG2'
    have Hq := Lib.hid hown2
    clear hown2
    go_wp2
    go_loopw [3] (fun ov wr => ∃ (pp : Int) (qs : List (Int × Int)) (A' : Option Addr) (c' : Nat), ov = .slice A' qs.length c' ∧ wr.ownsRow w.heap.size 62 2 (.slice A' qs.length c') qs.length (pvs qs) ∧ Rdr wr r A n c xs pp ∧ But r w wr ∧
         1 ≤ qs.length ∧ qs.length ≤ 15 ∧ pp + ((16 - qs.length : Nat) : Int) ≤ p1 + 30 ∧ qs.length ≤ c' ∧ c' ≤ 9223372036854775807)
       (fun ov _ => 15 - lenOf ov)
    case atStart => exact ⟨p1 + 1, ps, A1, c1, by rw [HL.out], by rw [HL.out]; exact Hq.out, hR2, hG2', by rw [HL.out]; omega, by rw [HL.out]; omega, by rw [HL.out]; omega, by rw [HL.out]; omega, hc2⟩
    case round =>
      clear hR2 hG2' hG2''
      obtain ⟨pp, qs, A', c', rfl, hown, hR, hG, hl1, hl15, hpp, hcc, hcm⟩ := hrel
      have hpp0 := hR.2.2.2.2
      go_wp2_with (fail)
      (with_reducible refine (pick_any r A n c xs pp 2 _ hR (by omega) (by omega)).mono ?_)
      rintro e w3 ⟨u, rfl, u0, u1, _, hRX, hG3⟩
      have u1' := u1 (by omega)
      have hownX := own_but hown hG3 hrb
      have hGX := but_trans hG hG3
      clear hG3 hown hG hR u1
      by_cases hlt : (qs.length : Int) < 12 + u
      · go_wp2_with (at_builtin; refine wpList_append_own _ rfl _ _ 46 rfl w.heap.size 62 i0 _ 2 16 Try.underlying46 hi0 hz0 hz1 hz2 rfl (by decide) _ _ _ rfl (hownX.alloc _) _ 1 1 [.int .i64 2, .int .i64 0] rfl rfl (World.news_of_block (heap_alloc_new _ _)) ?c2 ?c3 ?c4 ?c5 ?_)
        case c2 => intro u hu; simp at hu; rcases hu with rfl | rfl <;> rfl
        case c3 => unfold maxLen; omega
        case c4 => omega
        case c5 => have := hGX.size; simp; omega
        intro v' w4 hown4 hg4 _
        have hG4 := but_grown (but_alloc hGX _) (hownX.alloc _) hg4 (Nat.le_refl _)
        have hR4 := rdr_grown (rdr_alloc hRX _) (hownX.alloc _) hg4 hrb
        clear hg4 hownX hGX hRX
        have hown5 := own_pair hown4
        obtain ⟨A5, c5, hv, hcc5, hcm5⟩ := own_cap hown5
        subst hv
        have HO := Lib.hid hown5
        clear hown4 hown5
        go_wp2
        go_roundw
        case rel => exact ⟨pp + 1, qs ++ [(2, 0)], A5, c5, by simp, by simpa using HO.out, hR4, hG4, by simp, by simp; omega, by simp; omega, by simpa using hcc5, hcm5⟩
        case measure => simp [lenOf]; omega
      · have HO := Lib.hid (Rd.of_own hownX)
        clear hownX
        go_wp2
        go_ret
        exact ⟨A', qs.length, c', qs, pp + 1, rfl, by omega, hcc, hcm, HO.out, hRX, by omega, hGX⟩
  · have g0 : (q == 0) = false := by simp; omega
    have g1 : (q == 1) = false := by simp; omega
    have g2 : (q == 2) = false := by simp; omega
    have g3 : (q == 3) = false := by simp; omega
    have HO := Lib.hid (Rd.of_own hown2)
    clear hown2
    go_wp2
    go_ret
    exact ⟨A1, n1, c1, ps, p1 + 1, rfl, by omega, hc1, hc2, HO.out, hR2, by omega, hG2'⟩
end Go.Proofs.Ytcckmabdflhfmaa

