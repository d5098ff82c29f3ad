/- slices.Equal over slices of Step. slices.Equal over slices of Stamp. Renewals compared; in the program and in the reference. -/
import Derived.Test.YtjickcnjnebpcaaEd
import Derived.Test.YtjickcnjnebpcaaDz
import Derived.Test.YtjickcnjnebpcaaSlStep
import Derived.LoopTactic
import Derived.Laws.StructEq
import Derived.Deep.QuietTactic
import Derived.BigQuiet
import Derived.Outline
import Derived.Test.YtjickcnjnebpcaaSlStamp
import Derived.Test.YtjickcnjnebpcaaDpRenewal
namespace Go.Proofs.Ytjickcnjnebpcaa.EqStep
open Go.ChangeShapes Go.WideShapes Go.ChangeAt Go.RowKit Sl St Ed Dz
theorem first_ne {α : Type} {xs ys : List α} {k : Nat} {x y : α} (hx : xs[k]? = some x) (hy : ys[k]? = some y) (h : x ≠ y) : xs ≠ ys := fun e => h (by rw [e, hy] at hx; exact (Option.some.inj hx).symm)
theorem all_eq {α : Type} {xs ys : List α} {n : Nat} (h : xs.length = n) (h' : ys.length = n) (ha : ∀ j, j < n → xs[j]? = ys[j]?) : xs = ys := by
  apply List.ext_getElem?
  intro i
  by_cases hi : i < n
  · exact ha i hi
  · rw [List.getElem?_eq_none (by omega), List.getElem?_eq_none (by omega)]
def eqL (xs ys : List (Int × Bool)) : Bool := decide (xs = ys)
end Go.Proofs.Ytjickcnjnebpcaa.EqStep

namespace Go.Proofs.Ytjickcnjnebpcaa.EqStamp
open Go.ChangeShapes Go.WideShapes Go.ChangeAt Go.RowKit Sl St Ed Dz
theorem first_ne {α : Type} {xs ys : List α} {k : Nat} {x y : α} (hx : xs[k]? = some x) (hy : ys[k]? = some y) (h : x ≠ y) : xs ≠ ys := fun e => h (by rw [e, hy] at hx; exact (Option.some.inj hx).symm)
theorem all_eq {α : Type} {xs ys : List α} {n : Nat} (h : xs.length = n) (h' : ys.length = n) (ha : ∀ j, j < n → xs[j]? = ys[j]?) : xs = ys := by
  apply List.ext_getElem?
  intro i
  by_cases hi : i < n
  · exact ha i hi
  · rw [List.getElem?_eq_none (by omega), List.getElem?_eq_none (by omega)]
def eqL (xs ys : List (Int × Int × Int × Int × Int)) : Bool := decide (xs = ys)
end Go.Proofs.Ytjickcnjnebpcaa.EqStamp

namespace Go.Proofs.Ytjickcnjnebpcaa.Er
open Go.ChangeShapes Go.WideShapes Go.ChangeAt Go.RowKit Sl St Ed Dz
noncomputable def eqR (a b : DpRenewal.A) : Bool := @decide (a = b) (Classical.propDecidable _)
theorem eqR_no {a b : DpRenewal.A} (h : a ≠ b) : eqR a b = false := @decide_eq_false _ (Classical.propDecidable _) h
theorem eqR_yes {a b : DpRenewal.A} (h : a = b) : eqR a b = true := @decide_eq_true _ (Classical.propDecidable _) h
theorem eqR_ints {x0 x1 x2 y0 y1 y2 : Int} {l3 m3 : List (Int × Bool)} {l4 m4 : List (Int × Int × Int × Int × Int)} (h0 : x0 = y0) (h1 : x1 = y1) (h2 : x2 = y2) : eqR (x0, x1, x2, l3, l4) (y0, y1, y2, m3, m4) = (EqStep.eqL l3 m3 && EqStamp.eqL l4 m4) := by
  subst h0 h1 h2
  unfold eqR EqStep.eqL EqStamp.eqL
  rw [Bool.eq_iff_iff]
  simp
end Go.Proofs.Ytjickcnjnebpcaa.Er
