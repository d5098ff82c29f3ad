/- A slice of the call's own whose capacity was cut off: marks are written into it. -/
import Derived.Test.YtkmgnicngcandaaGreatSlI
import Derived.LoopTactic
namespace Go.Proofs.YtkmgnicngcandaaGreat.SlC
open Go.ChangeShapes Go.WideShapes Go.ChangeAt Go.RowKit Sl Sl SlI
end Go.Proofs.YtkmgnicngcandaaGreat.SlC
