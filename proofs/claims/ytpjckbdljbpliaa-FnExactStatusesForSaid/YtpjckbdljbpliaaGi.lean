/- Contracts of signatures: valid or not, what is marked (the reference); in the program and in the reference. -/
import Derived.Test.YtpjckbdljbpliaaSlSignature
import Derived.Test.YtpjckbdljbpliaaKi
import Derived.Test.YtpjckbdljbpliaaSr
import Derived.LoopTactic
import Derived.Outline
namespace Go.Proofs.Ytpjckbdljbpliaa.Gi
open Go.ChangeShapes Go.WideShapes Go.ChangeAt Go.RowKit Sl St Fnd SlSignature Ki
theorem says {b b' : Bool} {w w' : World} (h : b' = b) (hb : Below w.heap.size w w') : SlSignature.Val (.bool b) w (.returned (.bool b')) w' := ⟨by rw [h], hb⟩
def okG (x : I9) : Bool := inB x.1 1 99 && (inB x.2.1 1 999 && (inB x.2.2.1 0 99 && (inB x.2.2.2.2.2.1 0 99 && (inB x.2.2.2.2.1 1 3 && (inB x.2.2.2.1 0 1000000000000 && (inB x.2.2.2.2.2.2.1 0 1000000000000 && inB x.2.2.2.2.2.2.2.1 0 1000000000000))))))
end Go.Proofs.Ytpjckbdljbpliaa.Gi
