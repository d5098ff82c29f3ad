/- Contracts of what is marked with a key, made and checked: Signature; in the program (the ring of keys) and in the reference. -/
import Derived.Test.YtbjocgnogcnedaaGs
import Derived.Test.YtbjocgnogcnedaaKo
import Derived.Test.YtbjocgnogcnedaaQt
import Derived.Deep.RegionHeld3
namespace Go.Proofs.Ytbjocgnogcnedaa.MSignature
open Go.ChangeShapes Go.WideShapes Go.ChangeAt Go.RowKit Go.Shelf Sl St Fnd Kn Kr Ki Km Ko SlSignature Gi Ge Gs
theorem says {b b' : Bool} {w w' : World} (h : b' = b) (hb : Below w.heap.size w w') : SlSignature.Val (.bool b) w (.returned (.bool b')) w' := ⟨by rw [h], hb⟩
theorem drewOn {V w1 : World} (hb : Below V.drew.heap.size V.drew w1) : Below V.heap.size V w1 := below_on (below_drewN (Below.refl _ _) 1) hb
end Go.Proofs.Ytbjocgnogcnedaa.MSignature
