/- Contracts of mandates: valid or not, what is marked (the reference), their span; in the program and in the reference. -/
import Derived.Test.YtgmoldianhkifaaSlMandate
import Derived.Test.YtgmoldianhkifaaKi
import Derived.Test.YtgmoldianhkifaaSp
import Derived.Test.YtgmoldianhkifaaSr
import Derived.LoopTactic
import Derived.Outline
namespace Go.Proofs.Ytgmoldianhkifaa.Mi
open Go.ChangeShapes Go.WideShapes Go.ChangeAt Go.RowKit Sl St Fnd SlMandate Ki Jn Sps
theorem says {b b' : Bool} {w w' : World} (h : b' = b) (hb : Below w.heap.size w w') : SlMandate.Val (.bool b) w (.returned (.bool b')) w' := ⟨by rw [h], hb⟩
def okD (x : I6) : Bool := inB x.1 1 99 && (inB x.2.1 0 99 && (inB x.2.2.2.2.1 1 99 && okB (x.2.2.1, x.2.2.2.1)))
end Go.Proofs.Ytgmoldianhkifaa.Mi
