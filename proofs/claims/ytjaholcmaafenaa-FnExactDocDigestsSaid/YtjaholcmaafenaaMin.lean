/- Contracts of Min and Max (they share a variadic helper that takes a function value): the smaller and the larger number; the world keeps all that it held. -/
import Derived.Test.YtjaholcmaafenaaInt
import Derived.Below
import Derived.LoopTactic
namespace Go.Proofs.Ytjaholcmaafenaa.Ints
open Go.ChangeShapes Go.WideShapes Go.ChangeAt Go.RowKit
def minI (a b : Int) : Int := if b < a then b else a
def maxI (a b : Int) : Int := if a < b then b else a
theorem minI_lt {a b : Int} (h : b < a) : minI a b = b := if_pos h
theorem minI_ge {a b : Int} (h : ¬ b < a) : minI a b = a := if_neg h
theorem maxI_lt {a b : Int} (h : a < b) : maxI a b = b := if_pos h
theorem maxI_ge {a b : Int} (h : ¬ a < b) : maxI a b = a := if_neg h
end Go.Proofs.Ytjaholcmaafenaa.Ints
