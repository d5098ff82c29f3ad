/- Contracts: the first Authority with a number; in the program (slices.IndexFunc with a closure) and in the reference. -/
import Derived.Test.YtlipcnaimpplpaaSlAuthority
import Derived.Test.YtlipcnaimpplpaaFnd
import Derived.Test.YtlipcnaimpplpaaShelfG
import Derived.Shelf.SlicesQ.IndexFunc
import Derived.LoopTactic
import Derived.Deep.QuietTactic
import Derived.BigQuiet
import Derived.Outline
namespace Go.Proofs.Ytlipcnaimpplpaa.FAuthority
open Go.ChangeShapes Go.WideShapes Go.ChangeAt Go.RowKit Go.Shelf Sl St Fnd SlAuthority

theorem nth_at {xs : List I3} {j : Nat} (h : j < xs.length) : xs[j]? = some xs[j]! := by
  rw [List.getElem?_eq_getElem h]
  simp [h]
end Go.Proofs.Ytlipcnaimpplpaa.FAuthority
