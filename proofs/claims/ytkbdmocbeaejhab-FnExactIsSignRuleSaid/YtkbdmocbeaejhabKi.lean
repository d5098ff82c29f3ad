/- Contracts of single keys: numbers of keys, owners, methods and times in their ranges; valid keys or not, in the program (rules in a list) and in the reference. -/
import Derived.Test.YtkbdmocbeaejhabSlKey
import Derived.Test.YtkbdmocbeaejhabKn
import Derived.Test.YtkbdmocbeaejhabInt
import Derived.Test.YtkbdmocbeaejhabMin
import Derived.LoopTactic
import Derived.Outline
namespace Go.Proofs.Ytkbdmocbeaejhab.Ki
open Go.ChangeShapes Go.WideShapes Go.ChangeAt Go.RowKit Sl St Fnd Kn SlKey Ints

theorem box1 (w : World) (o : Obj) : Below w.heap.size w (w.alloc o) := (Below.refl _ _).alloc (Nat.le_refl _) _
theorem says {b b' : Bool} {w w' : World} (h : b' = b) (hb : Below w.heap.size w w') : Val (.bool b) w (.returned (.bool b')) w' := ⟨by rw [h], hb⟩
/-- a range asked -/
def Asks (b : Bool) (w : World) (e : Ending) (w' : World) : Prop := e = .returned (.bool b) ∧ w = w'
theorem keyNo_any (x : Int) (w : World) : Calls Try.prog 62 #[.int .i64 x] w (Asks (inB x 1 99) w) := by
  go_enter Try.func62, Try.ntmps62
  go_wp2_with fail
  refine (inRange_any _ _ _ _ (inB_def _ _ _) _).mono ?_
  rintro e w1 ⟨rfl, rfl⟩
  go_wp2_with fail
  go_ret
  exact ⟨rfl, rfl⟩
theorem isOwner_any (x : Int) (w : World) : Calls Try.prog 35 #[.int .i64 x] w (Asks (inB x 0 99) w) := by
  go_enter Try.func35, Try.ntmps35
  go_wp2_with fail
  refine (inRange_any _ _ _ _ (inB_def _ _ _) _).mono ?_
  rintro e w1 ⟨rfl, rfl⟩
  go_wp2_with fail
  go_ret
  exact ⟨rfl, rfl⟩
theorem methodId_any (x : Int) (w : World) : Calls Try.prog 64 #[.int .i64 x] w (Asks (inB x 0 99) w) := by
  go_enter Try.func64, Try.ntmps64
  go_wp2_with fail
  refine (inRange_any _ _ _ _ (inB_def _ _ _) _).mono ?_
  rintro e w1 ⟨rfl, rfl⟩
  go_wp2_with fail
  go_ret
  exact ⟨rfl, rfl⟩
theorem serial_any (x : Int) (w : World) : Calls Try.prog 63 #[.int .i64 x] w (Asks (inB x 1 999) w) := by
  go_enter Try.func63, Try.ntmps63
  go_wp2_with fail
  refine (inRange_any _ _ _ _ (inB_def _ _ _) _).mono ?_
  rintro e w1 ⟨rfl, rfl⟩
  go_wp2_with fail
  go_ret
  exact ⟨rfl, rfl⟩
theorem in_any (x lo hi : Int) (w : World) : Calls Try.prog 31 #[.int .i64 x, .int .i64 lo, .int .i64 hi] w (Asks (inB x lo hi) w) := l1In_any _ _ _ _ (inB_def _ _ _) _
theorem rng_any (x lo hi : Int) (w : World) : Calls Try.prog 34 #[.int .i64 x, .int .i64 lo, .int .i64 hi] w (Asks (inB x lo hi) w) := inRange_any _ _ _ _ (inB_def _ _ _) _
end Go.Proofs.Ytkbdmocbeaejhab.Ki
