/- The drawing of arguments: the reader, numbers out of it. (Merged: Draw0, Draw1.) -/
import Derived.Test.YtfpiejcfhdnjiaaRows
import Derived.Test.YtfpiejcfhdnjiaaBase
import Derived.BigQuiet
import Derived.Deep.QuietTactic
import Derived.WalkLawsBesides
import Derived.Laws.BitsAllLaws
import Derived.Laws.BitsLemmas
/- The drawing of arguments: the reader, and a number out of it. -/
set_option linter.unusedSimpArgs false
set_option linter.unusedVariables false
namespace Go.Proofs.Ytfpiejcfhdnjiaa
open Go.RowKit

theorem ofInt_i64 (a : Nat) (ha : a < 9223372036854775808) : (BitVec.ofInt 64 (a : Int)).toNat = a := by
  rw [BitVec.ofInt_natCast, BitVec.toNat_ofNat]; exact Nat.mod_eq_of_lt (by omega)
theorem i64_xor_nat (a b : Nat) (ha : a < 9223372036854775808) (hb : b < 9223372036854775808) : bits .xor .i64 (a : Int) (b : Int) = ((a ^^^ b : Nat) : Int) := by
  have hx : a ^^^ b < 2 ^ 63 := Nat.xor_lt_two_pow (by omega) (by omega)
  show IntKind.i64.wrap ((BitVec.ofInt 64 (a : Int) ^^^ BitVec.ofInt 64 (b : Int)).toNat : Int) = _
  rw [BitVec.toNat_xor, ofInt_i64 a ha, ofInt_i64 b hb, IntKind.wrap_i64]
  omega
theorem xor_nonneg (x y : Int) (h0 : 0 ≤ x) (h1 : x ≤ 1000000000000000000) (g0 : 0 ≤ y) (g1 : y ≤ 1000000000000000000) : 0 ≤ bits .xor .i64 x y := by
  obtain ⟨a, rfl⟩ := Int.eq_ofNat_of_zero_le h0
  obtain ⟨b, rfl⟩ := Int.eq_ofNat_of_zero_le g0
  rw [i64_xor_nat a b (by omega) (by omega)]
  omega

/-- The bytes of a slice. -/
def bvs (xs : List Int) : List Value := xs.map (.int .u8)
def Bytes (xs : List Int) : Prop := ∀ z ∈ xs, 0 ≤ z ∧ z ≤ 255
theorem bvs_length (xs : List Int) : (bvs xs).length = xs.length := by simp [bvs]
theorem Rd.byte {w : World} {lo hi : Nat} {A : Option Addr} {n : Nat} {xs : List Int} (h : Rd w lo hi 1 A n (bvs xs)) (hb : Bytes xs) {k : Nat} (hk : k < n) :
    ∃ b off x, A = some ⟨b, off, none⟩ ∧ b < hi ∧ 0 ≤ x ∧ x ≤ 255 ∧ w.cell? ⟨b, off + k, none⟩ = some (.int .u8 x) := by
  obtain ⟨b, off, e, hl, hlt, hc⟩ := h.2 (by omega)
  have hk' : k < xs.length := by have := h.1; rw [bvs_length] at this; omega
  have hx := hb xs[k] (List.getElem_mem _)
  exact ⟨b, off, xs[k], e, hlt, hx.1, hx.2, hc _ _ (by simp [bvs, hk'])⟩

/-- Block r is a reader that stands at place p of the bytes. -/
def Rdr (w : World) (r : Nat) (A : Option Addr) (n c : Nat) (xs : List Int) (p : Int) : Prop :=
  Blk w r 95 #[.slice A n c, .int .i64 p] ∧ Rd w 0 r 1 A n (bvs xs) ∧ Bytes xs ∧ n ≤ 2000 ∧ 0 ≤ p
theorem Rdr.lt {w : World} {r : Nat} {A : Option Addr} {n c : Nat} {xs : List Int} {p : Int} (h : Rdr w r A n c xs p) : r < w.heap.size := h.1.lt
theorem Rdr.below {w w' : World} {r : Nat} {A : Option Addr} {n c : Nat} {xs : List Int} {p : Int} (h : Rdr w r A n c xs p) (hb : Below w.heap.size w w') : Rdr w' r A n c xs p :=
  ⟨h.1.below hb h.1.lt, h.2.1.keep hb (Nat.le_of_lt h.1.lt), h.2.2⟩

/-- Of what was there only block r may have changed. -/
abbrev But (r : Nat) (w w' : World) : Prop := w.grownBy w' (some r)
theorem but_refl (r : Nat) (w : World) : But r w w := World.grownBy.refl w _
theorem but_trans {r : Nat} {a b c : World} (h : But r a b) (k : But r b c) : But r a c := World.grownBy.trans h k
theorem but_below {r : Nat} {a w w' : World} (h : But r a w) (hb : Below w.heap.size w w') : But r a w' :=
  but_trans h ⟨hb.os, hb.tape, hb.output, hb.size, fun i hi _ => hb.block i hi⟩
theorem but_drew {r : Nat} {a w : World} (h : But r a w) : But r a w.drew := ⟨h.os, h.tape, h.output, h.size, h.block⟩
theorem but_drewN {r : Nat} {a w : World} (h : But r a w) (n : Nat) : But r a (w.drewN n) := ⟨h.os, h.tape, h.output, h.size, h.block⟩
theorem but_alloc {r : Nat} {a w : World} (h : But r a w) (o : Obj) : But r a (w.alloc o) :=
  ⟨h.os, h.tape, h.output, Nat.le_trans h.size (by simp), fun i hi hne => (Below.heap_alloc w o i (Nat.lt_of_lt_of_le hi h.size)).trans (h.block i hi hne)⟩
theorem but_put {r : Nat} {a w : World} (h : But r a w) {p : Addr} (hp : p.block = r ∨ a.heap.size ≤ p.block) (u : Value) : But r a (w.setCell p u) :=
  ⟨h.os, h.tape, h.output, by simpa [World.setCell] using h.size, fun i hi hne => (Below.heap_setCell w p u i (by
    rintro rfl
    rcases hp with hp | hp
    · exact hne (by rw [hp])
    · omega)).trans (h.block i hi hne)⟩
theorem but_grown {r : Nat} {a w w' : World} {base : Nat} {e : TypeId} {size : Nat} {v : Value} {n : Nat} {xs : List Value} (h : But r a w) (ho : w.ownsRow base e size v n xs) (hg : w.grownBy w' v.ownBlock) (hb : a.heap.size ≤ base) : But r a w' :=
  ⟨hg.os.trans h.os, hg.tape.trans h.tape, hg.output.trans h.output, Nat.le_trans h.size hg.size, fun i hi hne => (hg.block i (Nat.lt_of_lt_of_le hi h.size) (fun e => by have := (ho.lt i e.symm).1; omega)).trans (h.block i hi hne)⟩

/-- A number out of the reader: at least 0, below m. -/
def PickPost (r : Nat) (A : Option Addr) (n c : Nat) (xs : List Int) (p m : Int) (w : World) (e : Ending) (w' : World) : Prop :=
  ∃ q : Int, e = .returned (.int .i64 q) ∧ 0 ≤ q ∧ (1 ≤ m → q < m) ∧ (m < 1 → q = 0) ∧ Rdr w' r A n c xs (p + 1) ∧ But r w w'

set_option maxRecDepth 100000 in
set_option maxHeartbeats 1600000 in
theorem pick_any (r : Nat) (A : Option Addr) (n c : Nat) (xs : List Int) (p m : Int) (w : World) (h : Rdr w r A n c xs p) (hp : p ≤ 1000000) (hm : m ≤ 1000000) :
    Calls Try.prog 35 #[.pointer (some ⟨r, 0, none⟩), .int .i64 m] w (PickPost r A n c xs p m w) := by
  obtain ⟨hb, hr, hby, hn, hp0⟩ := h
  have hc0 := hb.cell 0
  have hc1 := hb.cell 1
  have hs1 := hb.soft 1
  simp at hc0 hc1
  have hb2 : Blk (w.setCell ⟨r, 1, none⟩ (.int .i64 (p + 1))) r 95 #[.slice A n c, .int .i64 (p + 1)] := by simpa using hb.put 1 (.int .i64 (p + 1))
  have hR : Rdr (w.setCell ⟨r, 1, none⟩ (.int .i64 (p + 1))) r A n c xs (p + 1) := ⟨hb2, hr.setCell (.inr (Nat.le_refl _)) _, hby, hn, by omega⟩
  have hG : But r w (w.setCell ⟨r, 1, none⟩ (.int .i64 (p + 1))) := but_put (but_refl r w) (.inl rfl) _
  have HR := Lib.hid hR
  have HG := Lib.hid hG
  clear hR hG hb2 hb
  by_cases h1 : m < 1
  · go_enter Try.func35, Try.ntmps35
    go_wp2
    go_ret
    exact ⟨0, rfl, by omega, by omega, fun _ => rfl, HR.out, HG.out⟩
  by_cases hn0 : n = 0
  · subst hn0
    go_enter Try.func35, Try.ntmps35
    go_wp2
    go_ret
    exact ⟨0, rfl, by omega, by omega, by omega, HR.out, HG.out⟩
  have hn0' : ((n : Int) == 0) = false := by simp; omega
  by_cases hk : p < n
  · obtain ⟨k, rfl⟩ := Int.eq_ofNat_of_zero_le hp0
    obtain ⟨b, off, x, rfl, hbr, hx0, hx1, hcx⟩ := (HR.out).2.1.byte hby (k := k) (by omega)
    have hne : b ≠ r := by omega
    go_enter Try.func35, Try.ntmps35
    go_wp2
    go_ret
    refine ⟨x % m, rfl, Int.emod_nonneg _ (by omega), fun _ => Int.emod_lt_of_pos _ (by omega), fun h => by omega, HR.out, HG.out⟩
  · obtain ⟨k, rfl⟩ := Int.eq_ofNat_of_zero_le hp0
    obtain ⟨b, off, x, rfl, hbr, hx0, hx1, hcx⟩ := (HR.out).2.1.byte hby (k := k % n) (Nat.mod_lt _ (by omega))
    obtain ⟨b', off', y, he, _, hy0, hy1, hcy⟩ := (HR.out).2.1.byte hby (k := (k * 7 + 3) % n) (Nat.mod_lt _ (by omega))
    injection he with he; injection he with he1 he2; subst he1; subst he2
    have hne : b ≠ r := by omega
    have hnpos : (0 : Int) < (n : Int) := by omega
    have b1 : (k % n : Nat) < n := Nat.mod_lt _ (by omega)
    have b2 : ((k * 7 + 3) % n : Nat) < n := Nat.mod_lt _ (by omega)
    have b1' : ((k % n : Nat) : Int) < (n : Int) := by omega
    have b2' : (((k * 7 + 3) % n : Nat) : Int) < (n : Int) := by omega
    generalize hd : (k : Int) / (n : Int) = d
    have b3 : 0 ≤ d := by rw [← hd]; exact Int.ediv_nonneg (by omega) (by omega)
    have b4 : d ≤ (k : Int) := by rw [← hd]; exact Int.ediv_le_self _ (by omega)
    have t1 : 0 ≤ ((k : Int) * 7 + 3) % (n : Int) := Int.emod_nonneg _ (by omega)
    have t2 : ((k : Int) * 7 + 3) % (n : Int) < (n : Int) := Int.emod_lt_of_pos _ (by omega)
    have t3 : ((k : Int)).tdiv (n : Int) = d := by rw [Int.tdiv_eq_ediv_of_nonneg (by omega)]; exact hd
    have w1 : IntKind.i64.wrap ((k : Int) * 7) = (k : Int) * 7 := IntWalk.i64_in _ (by omega)
    have w2 : IntKind.i64.wrap ((k : Int) * 7 + 3) = (k : Int) * 7 + 3 := IntWalk.i64_in _ (by omega)
    have w3 : IntKind.i64.wrap (x * 131) = x * 131 := IntWalk.i64_in _ (by omega)
    have w4 : IntKind.i64.wrap (y * 1117) = y * 1117 := IntWalk.i64_in _ (by omega)
    have w5 : IntKind.i64.wrap (x * 131 + y * 1117) = x * 131 + y * 1117 := IntWalk.i64_in _ (by omega)
    have w6 : IntKind.i64.wrap ((k : Int) * 29) = (k : Int) * 29 := IntWalk.i64_in _ (by omega)
    have w7 : IntKind.i64.wrap (x * 131 + y * 1117 + (k : Int) * 29) = x * 131 + y * 1117 + (k : Int) * 29 := IntWalk.i64_in _ (by omega)
    have w8 : IntKind.i64.wrap (d * 53) = d * 53 := IntWalk.i64_in _ (by omega)
    have w9 : IntKind.i64.wrap (x * 131 + y * 1117 + (k : Int) * 29 + d * 53) = x * 131 + y * 1117 + (k : Int) * 29 + d * 53 := IntWalk.i64_in _ (by omega)
    clear hd
    go_enter Try.func35, Try.ntmps35
    go_wp2_with (fail)
    go_quiet (fail)
    go_wp2
    go_ret
    have hx : 0 ≤ bits BinOp.xor IntKind.i64 (x * 131 + y * 1117 + (k : Int) * 29 + d * 53) ((x * 131 + y * 1117 + (k : Int) * 29 + d * 53) / 64) := xor_nonneg _ _ (by omega) (by omega) (by omega) (by omega)
    exact ⟨_, rfl, Int.tmod_nonneg _ hx, fun _ => Int.tmod_lt_of_pos _ (by omega), fun h => by omega, HR.out, but_drewN HG.out _⟩
end Go.Proofs.Ytfpiejcfhdnjiaa


/- The drawing of arguments: one of a list, values of variables. -/
namespace Go.Proofs.Ytfpiejcfhdnjiaa
open Go.RowKit

theorem infoIntD : (Try.prog.info? 3).map (fun i => (i.zero, i.size, i.bytes)) = some (some (.int .i64 0), 1, 8) := by kernel_rfl

theorem Rd.of_blk {w : World} {g size n : Nat} {t : TypeId} {cs : Array Value} (h : Blk w g t cs) (hn : cs.size = n * size) : Rd w g (g + 1) size (some ⟨g, 0, none⟩) n cs.toList :=
  ⟨by simpa using hn, fun _ => ⟨g, 0, rfl, Nat.le_refl _, Nat.lt_succ_self _, fun j u hu => by rw [Nat.zero_add, h.cell]; simpa using hu⟩⟩

def OnePost (r : Nat) (A : Option Addr) (n c : Nat) (xs : List Int) (p : Int) (ys : List Int) (w : World) (e : Ending) (w' : World) : Prop :=
  ∃ q : Int, e = .returned (.int .i64 q) ∧ q ∈ ys ∧ Rdr w' r A n c xs (p + 1) ∧ But r w w'

theorem one_any (r : Nat) (A : Option Addr) (n c : Nat) (xs : List Int) (p : Int) (lo hi n' c' : Nat) (A' : Option Addr) (ys : List Int) (w : World) (h : Rdr w r A n c xs p) (hp : p ≤ 1000000)
    (hr : Rd w lo hi 1 A' n' (ivs ys)) (hB : hi ≤ w.heap.size) (hn1 : 1 ≤ n') (hn2 : n' ≤ 1000000) (hfar : r < lo ∨ hi ≤ r) :
    Calls Try.prog 34 #[.pointer (some ⟨r, 0, none⟩), .slice A' n' c'] w (OnePost r A n c xs p ys w) := by
  go_enter Try.func34, Try.ntmps34
  go_wp2_with (fail)
  refine (pick_any r A n c xs p n' w h hp (by omega)).mono ?_
  rintro e w1 ⟨q, rfl, hq0, hq1, _, hR, hG⟩
  have hq := hq1 (by omega)
  obtain ⟨k, rfl⟩ := Int.eq_ofNat_of_zero_le hq0
  have hk : k < n' := by omega
  obtain ⟨b, off, x, rfl, _, _, hg, hc⟩ := (hr.far hG hB (by rintro g e; cases e; exact hfar)).one hk
  have HM := Lib.hid (List.mem_of_getElem? hg)
  clear hq1 hg
  go_wp2
  go_ret
  exact ⟨x, rfl, HM.out, hR, hG⟩

/-- A value of a variable. -/
def ValPost (r : Nat) (A : Option Addr) (n c : Nat) (xs : List Int) (p : Int) (w : World) (e : Ending) (w' : World) : Prop :=
  ∃ q : Int, e = .returned (.int .i64 q) ∧ -9999 ≤ q ∧ q ≤ 9999 ∧ Rdr w' r A n c xs (p + 1) ∧ But r w w'

/-- The reader of a code. -/
def ReaderPost (A : Option Addr) (w : World) (e : Ending) (w' : World) : Prop :=
  ∃ r n' c' xs', e = .returned (.pointer (some ⟨r, 0, none⟩)) ∧ w.heap.size ≤ r ∧ Rdr w' r A n' c' xs' 0 ∧ Below w.heap.size w w'
theorem newReader_any (n c : Nat) (A : Option Addr) (xs : List Int) (w : World) (hr : Rd w 0 w.heap.size 1 A n (bvs xs)) (hby : Bytes xs) (hn : n ≤ 1048576) (hc : n ≤ c) (hc2 : c ≤ 9223372036854775807) :
    Calls Try.prog 32 #[.slice A n c] w (ReaderPost A w) := by
  by_cases hbig : 2000 < (n : Int)
  · go_enter Try.func32, Try.ntmps32
    go_wp2
    go_ret
    have hx : (bvs xs).take (2000 * 1) = bvs (xs.take 2000) := by simp [bvs]
    refine ⟨w.heap.size, 2000, c, xs.take 2000, rfl, Nat.le_refl _, ⟨Blk.new _ _ _, ?_, fun z hz => hby z (List.mem_of_mem_take hz), Nat.le_refl _, Int.le_refl _⟩, up_alloc (Below.refl _ _) _⟩
    rw [← hx]
    exact (hr.keep (up_alloc (Below.refl _ _) _) (Nat.le_refl _)).cut (by omega)
  · go_enter Try.func32, Try.ntmps32
    go_wp2
    go_ret
    exact ⟨w.heap.size, n, c, xs, rfl, Nat.le_refl _, ⟨Blk.new _ _ _, hr.keep (up_alloc (Below.refl _ _) _) (Nat.le_refl _), hby, by omega, Int.le_refl _⟩, up_alloc (Below.refl _ _) _⟩
theorem own_but {w w' : World} {r base : Nat} {e : TypeId} {size : Nat} {v : Value} {n : Nat} {xs : List Value} (h : w.ownsRow base e size v n xs) (hG : But r w w') (hr : r < base) : w'.ownsRow base e size v n xs :=
  h.kept hG (by
    cases hv : v.ownBlock with
    | none => exact .inl rfl
    | some k => exact .inr (fun e => by have := (h.lt k hv).1; injection e with e; omega))
theorem rdr_alloc {w : World} {r : Nat} {A : Option Addr} {n c : Nat} {xs : List Int} {p : Int} (h : Rdr w r A n c xs p) (o : Obj) : Rdr (w.alloc o) r A n c xs p := h.below ((Below.refl _ _).alloc (Nat.le_refl _) _)
theorem rdr_grown {w w' : World} {r : Nat} {A : Option Addr} {n c : Nat} {xs : List Int} {p : Int} {base : Nat} {e : TypeId} {size : Nat} {v : Value} {m : Nat} {ys : List Value} (h : Rdr w r A n c xs p) (ho : w.ownsRow base e size v m ys) (hg : w.grownBy w' v.ownBlock) (hr : r < base) : Rdr w' r A n c xs p :=
  ⟨h.1.grown hg (fun e => by have := (ho.lt r e.symm).1; omega), h.2.1.far hg (Nat.le_of_lt h.lt) (fun g e => by have := (ho.lt g e).1; omega), h.2.2⟩
theorem own_cap {w : World} {base : Nat} {e : TypeId} {size : Nat} {v : Value} {n : Nat} {xs : List Value} (h : w.ownsRow base e size v n xs) : ∃ A c, v = .slice A n c ∧ n ≤ c ∧ c ≤ 9223372036854775807 := by
  rcases h.2 with ⟨rfl, rfl⟩ | ⟨g, cap, cur, rfl, _, _, hc, hm, _⟩
  · exact ⟨none, 0, rfl, Nat.le_refl _, by omega⟩
  · unfold maxLen at hm; exact ⟨_, cap, rfl, hc, by omega⟩

theorem Rd.tail {w : World} {lo hi : Nat} {size n : Nat} {b off : Nat} {xs : List Value} (h : Rd w lo hi size (some ⟨b, off, none⟩) (n + 1) xs) : Rd w lo hi size (some ⟨b, off + size, none⟩) n (xs.drop size) :=
  ⟨by rw [List.length_drop, h.1, Nat.add_mul]; omega, fun _ => by
    obtain ⟨b', off', e, h1, h2, hc⟩ := h.2 (by omega)
    injection e with e; injection e with e1 e2
    subst e1; subst e2
    refine ⟨b, off + size, rfl, h1, h2, fun j u hu => ?_⟩
    rw [List.getElem?_drop] at hu
    have := hc _ u hu
    rwa [← Nat.add_assoc] at this⟩
theorem own_long {w : World} {base : Nat} {e : TypeId} {size : Nat} {A : Option Addr} {n c : Nat} {xs : List Value} (h : w.ownsRow base e size (.slice A n c) n xs) (hn : 1 ≤ n) : ∃ g, A = some ⟨g, 0, none⟩ ∧ base ≤ g ∧ g < w.heap.size := by
  obtain ⟨g, cap, hv, h1, h2⟩ := h.form (by omega)
  injection hv with hv
  exact ⟨g, hv, h1, h2⟩
end Go.Proofs.Ytfpiejcfhdnjiaa
