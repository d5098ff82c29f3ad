/- Contracts of single keys: numbers of keys, owners, methods and times in their ranges; valid keys or not, in the program (rules in a list) and in the reference. -/
import Derived.Test.YtmfnpgeifkcjkaaSlKey
import Derived.Test.YtmfnpgeifkcjkaaKn
import Derived.Test.YtmfnpgeifkcjkaaInt
import Derived.Test.YtmfnpgeifkcjkaaMin
import Derived.LoopTactic
import Derived.Outline
namespace Go.Proofs.Ytmfnpgeifkcjkaa.Ki
open Go.ChangeShapes Go.WideShapes Go.ChangeAt Go.RowKit Sl St Fnd Kn SlKey Ints

theorem box1 (w : World) (o : Obj) : Below w.heap.size w (w.alloc o) := (Below.refl _ _).alloc (Nat.le_refl _) _
theorem says {b b' : Bool} {w w' : World} (h : b' = b) (hb : Below w.heap.size w w') : Val (.bool b) w (.returned (.bool b')) w' := ⟨by rw [h], hb⟩
/-- a range asked -/
def Asks (b : Bool) (w : World) (e : Ending) (w' : World) : Prop := e = .returned (.bool b) ∧ w = w'
end Go.Proofs.Ytmfnpgeifkcjkaa.Ki
