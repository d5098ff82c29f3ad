/- Contracts of slices.Grow and slices.Concat over two slices of ints. -/
import Derived.Test.YtmfnpgeifkcjkaaSlI
import Derived.Test.YtmfnpgeifkcjkaaSr
import Derived.Test.YtmfnpgeifkcjkaaBx
import Derived.Lib.AppendZeros
import Derived.LoopTactic
import Derived.Outline
namespace Go.Proofs.Ytmfnpgeifkcjkaa.Cc
open Go.ChangeShapes Go.WideShapes Go.ChangeAt Go.RowKit Sl SlI

/-- what is new: a slice without elements, and room behind it -/
def Room (w : World) (e : Ending) (w' : World) : Prop := ∃ p c, e = .returned (.slice p 0 c) ∧ Ow .i64 3 w' w.heap.size w'.heap.size p 0 c [] ∧ Below w.heap.size w w'
theorem zeros_size (z : Value) (n : Nat) (h : z.cells.size = 1) : (Builtin.zeroCells z.cells n).size = n := by
  simp [Builtin.zeroCells, h]
/-- the sum of what has been counted -/
def sumN (n1 n2 k : Nat) : Nat := if k = 0 then 0 else if k = 1 then n1 else n1 + n2
def catL (zs1 zs2 : List Int) (k : Nat) : List Int := if k = 0 then [] else if k = 1 then zs1 else zs1 ++ zs2
end Go.Proofs.Ytmfnpgeifkcjkaa.Cc
