/- Contracts of single keys: numbers of keys, owners, methods and times in their ranges; valid keys or not, in the program (rules in a list) and in the reference. -/
import Derived.Test.YtpjckbdljbpliaaSlKey
import Derived.Test.YtpjckbdljbpliaaKn
import Derived.Test.YtpjckbdljbpliaaInt
import Derived.Test.YtpjckbdljbpliaaMin
import Derived.LoopTactic
import Derived.Outline
namespace Go.Proofs.Ytpjckbdljbpliaa.Ki
open Go.ChangeShapes Go.WideShapes Go.ChangeAt Go.RowKit Sl St Fnd Kn SlKey Ints

theorem box1 (w : World) (o : Obj) : Below w.heap.size w (w.alloc o) := (Below.refl _ _).alloc (Nat.le_refl _) _
theorem says {b b' : Bool} {w w' : World} (h : b' = b) (hb : Below w.heap.size w w') : Val (.bool b) w (.returned (.bool b')) w' := ⟨by rw [h], hb⟩
/-- a range asked -/
def Asks (b : Bool) (w : World) (e : Ending) (w' : World) : Prop := e = .returned (.bool b) ∧ w = w'
theorem in_any (x lo hi : Int) (w : World) : Calls Try.prog 69 #[.int .i64 x, .int .i64 lo, .int .i64 hi] w (Asks (inB x lo hi) w) := l1In_any _ _ _ _ (inB_def _ _ _) _
theorem rng_any (x lo hi : Int) (w : World) : Calls Try.prog 107 #[.int .i64 x, .int .i64 lo, .int .i64 hi] w (Asks (inB x lo hi) w) := inRange_any _ _ _ _ (inB_def _ _ _) _
end Go.Proofs.Ytpjckbdljbpliaa.Ki
