/- What the laws on a node that goes on need. -/
import Derived.Test.YtcckmabdflhfmaaFireMath
import Derived.Test.YtcckmabdflhfmaaDrawP15
namespace Go.Proofs.Ytcckmabdflhfmaa
open Go.RowKit

section
variable {w w' : World} {lo hi g : Nat} {An : Option Addr} {nn cn : Nat} {Af : Option Addr} {lf cf : Nat} {ns : List (Int × Int)} {fs : List Flw}
theorem Pc.fireI (h : Pc w g An nn cn Af lf cf ns fs) (lo' hi' n' c' : Nat) (A' : Option Addr) (ms : List Int) (node : Int) (lo5 hi5 n5 c5 : Nat) (A5 : Option Addr) (vs : List Int) (hv : Rd w lo' hi' 1 A' n' (ivs ms)) (hB' : hi' ≤ w.heap.size) (hn' : n' ≤ 1048576) (hw : Rd w lo5 hi5 1 A5 n5 (ivs vs)) (hB5 : hi5 ≤ w.heap.size) (hn5 : n5 ≤ 1048576) :
    Calls Try.prog 20 #[.agg #[.slice An nn cn, .slice Af lf cf], .slice A' n' c', .int .i64 node, .slice A5 n5 c5] w (FreshB ((fireOf ns fs ms node vs).getD []) (fireOf ns fs ms node vs).isSome w) :=
  FireNodeI_ex 0 g nn cn An ns 0 g lf cf Af fs lo' hi' n' c' A' ms node lo5 hi5 n5 c5 A5 vs w h.prs.nodes (Nat.le_of_lt h.lt) (Nat.le_trans h.prs.n21 (by omega)) h.prs.flows (Nat.le_of_lt h.lt) (Nat.le_trans h.prs.f21 (by omega)) hv hB' hn' hw hB5 hn5
theorem Pc.fireS (h : Pc w g An nn cn Af lf cf ns fs) (lo' hi' n' c' : Nat) (A' : Option Addr) (ms : List Int) (node : Int) (lo5 hi5 n5 c5 : Nat) (A5 : Option Addr) (vs : List Int) (hv : Rd w lo' hi' 1 A' n' (ivs ms)) (hB' : hi' ≤ w.heap.size) (hn' : n' ≤ 1048576) (hw : Rd w lo5 hi5 1 A5 n5 (ivs vs)) (hB5 : hi5 ≤ w.heap.size) (hn5 : n5 ≤ 1048576) :
    Calls Try.prog 17 #[.agg #[.slice An nn cn, .slice Af lf cf], .slice A' n' c', .int .i64 node, .slice A5 n5 c5] w (FreshB ((fireOf ns fs ms node vs).getD []) (fireOf ns fs ms node vs).isSome w) :=
  FireNodeS_ex 0 g nn cn An ns 0 g lf cf Af fs lo' hi' n' c' A' ms node lo5 hi5 n5 c5 A5 vs w h.prs.nodes (Nat.le_of_lt h.lt) (Nat.le_trans h.prs.n21 (by omega)) h.prs.flows (Nat.le_of_lt h.lt) (Nat.le_trans h.prs.f21 (by omega)) hv hB' hn' hw hB5 hn5
end
/-- A law stands so: a process in its cell, its tokens, values, and a list. -/
structure Lf (w0 w : World) (g : Nat) (An : Option Addr) (nn cn : Nat) (Af : Option Addr) (lf cf : Nat) (ns : List (Int × Int)) (fs : List Flw) (h1 : Nat) (A1 : Option Addr) (n1 : Nat) (ms : List Int) (h3 : Nat) (A3 : Option Addr) (n3 : Nat) (vs : List Int) (h2 : Nat) (A2 : Option Addr) (n2 : Nat) (M : List Int) : Prop where
  pc : Pc w g An nn cn Af lf cf ns fs
  tok : Rd w 0 h1 1 A1 n1 (ivs ms)
  mh : h1 ≤ w.heap.size
  va : Rd w 0 h3 1 A3 n3 (ivs vs)
  vh : h3 ≤ w.heap.size
  out : Rd w 0 h2 1 A2 n2 (ivs M)
  hh : h2 ≤ w.heap.size
  bel : Below w0.heap.size w0 w
section
variable {w0 w w' : World} {g : Nat} {An : Option Addr} {nn cn : Nat} {Af : Option Addr} {lf cf : Nat} {ns : List (Int × Int)} {fs : List Flw} {h1 : Nat} {A1 : Option Addr} {n1 : Nat} {ms : List Int} {h3 : Nat} {A3 : Option Addr} {n3 : Nat} {vs : List Int} {h2 : Nat} {A2 : Option Addr} {n2 : Nat} {M : List Int}
theorem Lf.below (h : Lf w0 w g An nn cn Af lf cf ns fs h1 A1 n1 ms h3 A3 n3 vs h2 A2 n2 M) (hb : Below w.heap.size w w') : Lf w0 w' g An nn cn Af lf cf ns fs h1 A1 n1 ms h3 A3 n3 vs h2 A2 n2 M :=
  ⟨h.pc.below hb, h.tok.keep hb h.mh, Nat.le_trans h.mh hb.size, h.va.keep hb h.vh, Nat.le_trans h.vh hb.size, h.out.keep hb h.hh, Nat.le_trans h.hh hb.size, up h.bel hb⟩
theorem Lf.drew (h : Lf w0 w g An nn cn Af lf cf ns fs h1 A1 n1 ms h3 A3 n3 vs h2 A2 n2 M) : Lf w0 w.drew g An nn cn Af lf cf ns fs h1 A1 n1 ms h3 A3 n3 vs h2 A2 n2 M := h.below (up_drew (Below.refl _ _))
end
end Go.Proofs.Ytcckmabdflhfmaa
