/- The reference's addTimer. (Written by gen/insts2.py.) -/
import Derived.Test.YtknphikoikdcjaaInstS
import Derived.Deep.RegionHeld3
import Derived.Deep.Onto
set_option linter.unusedSimpArgs false
set_option linter.unusedVariables false
namespace Go.Proofs.Ytknphikoikdcjaa
open Go.RowKit

theorem infoTimerS : (Try.prog.info? 74).map (fun i => (i.zero, i.size, i.bytes)) = some (some (.agg #[.int .i64 0, .int .i64 0]), 2, 16) := by kernel_rfl
theorem filt_yes {p : Tm → Bool} {ts : List Tm} {k : Nat} {t : Tm} (h : ts[k]? = some t) (hp : p t = true) : (ts.take (k + 1)).filter p = (ts.take k).filter p ++ [t] := by
  rw [take_snoc h, List.filter_append]; simp [hp]
theorem filt_no {p : Tm → Bool} {ts : List Tm} {k : Nat} {t : Tm} (h : ts[k]? = some t) (hp : p t = false) : (ts.take (k + 1)).filter p = (ts.take k).filter p := by
  rw [take_snoc h, List.filter_append]; simp [hp]
theorem filt_le (p : Tm → Bool) (ts : List Tm) : (ts.filter p).length ≤ ts.length := List.length_filter_le _ _
theorem pvs_snoc (ys : List Tm) (x y : Int) : pvs (ys ++ [(x, y)]) = pvs ys ++ [.int .i64 x, .int .i64 y] := by simp [pvs, pv]
theorem own_pair {w : World} {base : Nat} {e : TypeId} {v : Value} {ys : List Tm} {x y : Int} (h : w.ownsRow base e 2 v (ys.length + 1) (pvs ys ++ [.int .i64 x, .int .i64 y])) : w.ownsRow base e 2 v (ys ++ [(x, y)]).length (pvs (ys ++ [(x, y)])) := by
  rw [pvs_snoc, List.length_append]; exact h
def addUp1 (ts : List Tm) (t : Tm) (k : Nat) : List Tm := (ts.take k).filter fun u => !tlt t u
def addUp2 (ts : List Tm) (t : Tm) (k : Nat) : List Tm := (ts.filter (fun u => !tlt t u) ++ [t]) ++ (ts.take k).filter fun u => tlt t u
theorem addUp1_le (ts : List Tm) (t : Tm) (k : Nat) : (addUp1 ts t k).length ≤ ts.length := Nat.le_trans (filt_le _ _) (by rw [List.length_take]; omega)
theorem addUp2_le (ts : List Tm) (t : Tm) (k : Nat) : (addUp2 ts t k).length ≤ ts.length + 1 + ts.length := by
  unfold addUp2
  rw [List.length_append, List.length_append]
  have h1 := filt_le (fun u => !tlt t u) ts
  have h2 : ((ts.take k).filter fun u => tlt t u).length ≤ ts.length := Nat.le_trans (filt_le _ _) (by rw [List.length_take]; omega)
  simp only [List.length_cons, List.length_nil]
  omega
theorem addUp1_yes {ts : List Tm} {t u : Tm} {k : Nat} (h : ts[k]? = some u) (hp : tlt t u = false) : addUp1 ts t (k + 1) = addUp1 ts t k ++ [u] := filt_yes h (by rw [hp]; rfl)
theorem addUp1_no {ts : List Tm} {t u : Tm} {k : Nat} (h : ts[k]? = some u) (hp : tlt t u = true) : addUp1 ts t (k + 1) = addUp1 ts t k := filt_no h (by rw [hp]; rfl)
theorem addUp2_yes {ts : List Tm} {t u : Tm} {k : Nat} (h : ts[k]? = some u) (hp : tlt t u = true) : addUp2 ts t (k + 1) = addUp2 ts t k ++ [u] := by
  unfold addUp2; rw [filt_yes h hp, List.append_assoc, List.append_assoc, List.append_assoc]
theorem addUp2_no {ts : List Tm} {t u : Tm} {k : Nat} (h : ts[k]? = some u) (hp : tlt t u = false) : addUp2 ts t (k + 1) = addUp2 ts t k := by
  unfold addUp2; rw [filt_no h hp]
theorem addUp2_zero {ts : List Tm} {t : Tm} {n : Nat} (h : ts.length = n) : addUp2 ts t 0 = addUp1 ts t n ++ [t] := by
  unfold addUp2 addUp1; rw [show ts.take n = ts from List.take_of_length_le (by omega)]; simp
theorem addUp2_end {ts : List Tm} {t : Tm} {n : Nat} (h : ts.length = n) : addUp2 ts t n = addT ts t := by
  unfold addUp2 addT; rw [List.take_of_length_le (by omega)]; simp
end Go.Proofs.Ytknphikoikdcjaa
