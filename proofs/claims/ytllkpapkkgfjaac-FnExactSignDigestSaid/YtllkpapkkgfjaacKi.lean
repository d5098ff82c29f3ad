/- Contracts of single keys: numbers of keys, owners, methods and times in their ranges; valid keys or not, in the program (rules in a list) and in the reference. -/
import Derived.Test.YtllkpapkkgfjaacSlKey
import Derived.Test.YtllkpapkkgfjaacKn
import Derived.Test.YtllkpapkkgfjaacInt
import Derived.Test.YtllkpapkkgfjaacMin
import Derived.LoopTactic
import Derived.Outline
namespace Go.Proofs.Ytllkpapkkgfjaac.Ki
open Go.ChangeShapes Go.WideShapes Go.ChangeAt Go.RowKit Sl St Fnd Kn SlKey Ints

theorem box1 (w : World) (o : Obj) : Below w.heap.size w (w.alloc o) := (Below.refl _ _).alloc (Nat.le_refl _) _
theorem says {b b' : Bool} {w w' : World} (h : b' = b) (hb : Below w.heap.size w w') : Val (.bool b) w (.returned (.bool b')) w' := ⟨by rw [h], hb⟩
/-- a range asked -/
def Asks (b : Bool) (w : World) (e : Ending) (w' : World) : Prop := e = .returned (.bool b) ∧ w = w'
theorem keyNo_any (x : Int) (w : World) : Calls Try.prog 99 #[.int .i64 x] w (Asks (inB x 1 99) w) := by
  go_enter Try.func99, Try.ntmps99
  go_wp2_with fail
  refine (inRange_any _ _ _ _ (inB_def _ _ _) _).mono ?_
  rintro e w1 ⟨rfl, rfl⟩
  go_wp2_with fail
  go_ret
  exact ⟨rfl, rfl⟩
theorem isOwner_any (x : Int) (w : World) : Calls Try.prog 126 #[.int .i64 x] w (Asks (inB x 0 99) w) := by
  go_enter Try.func126, Try.ntmps126
  go_wp2_with fail
  refine (inRange_any _ _ _ _ (inB_def _ _ _) _).mono ?_
  rintro e w1 ⟨rfl, rfl⟩
  go_wp2_with fail
  go_ret
  exact ⟨rfl, rfl⟩
theorem methodId_any (x : Int) (w : World) : Calls Try.prog 101 #[.int .i64 x] w (Asks (inB x 0 99) w) := by
  go_enter Try.func101, Try.ntmps101
  go_wp2_with fail
  refine (inRange_any _ _ _ _ (inB_def _ _ _) _).mono ?_
  rintro e w1 ⟨rfl, rfl⟩
  go_wp2_with fail
  go_ret
  exact ⟨rfl, rfl⟩
theorem serial_any (x : Int) (w : World) : Calls Try.prog 100 #[.int .i64 x] w (Asks (inB x 1 999) w) := by
  go_enter Try.func100, Try.ntmps100
  go_wp2_with fail
  refine (inRange_any _ _ _ _ (inB_def _ _ _) _).mono ?_
  rintro e w1 ⟨rfl, rfl⟩
  go_wp2_with fail
  go_ret
  exact ⟨rfl, rfl⟩
theorem spec_secret_any (x : Int) (w : World) : Calls Try.prog 181 #[.int .i64 x] w (Asks (inB x 1 2147483646) w) := by
  go_enter Try.func181, Try.ntmps181
  go_wp2_with fail
  refine (l1In_any _ _ _ _ (inB_def _ _ _) _).mono ?_
  rintro e w1 ⟨rfl, rfl⟩
  go_wp2_with fail
  go_ret
  exact ⟨rfl, rfl⟩
theorem in_any (x lo hi : Int) (w : World) : Calls Try.prog 98 #[.int .i64 x, .int .i64 lo, .int .i64 hi] w (Asks (inB x lo hi) w) := l1In_any _ _ _ _ (inB_def _ _ _) _
theorem rng_any (x lo hi : Int) (w : World) : Calls Try.prog 102 #[.int .i64 x, .int .i64 lo, .int .i64 hi] w (Asks (inB x lo hi) w) := inRange_any _ _ _ _ (inB_def _ _ _) _
theorem time_any (t : Int) (w : World) : Calls Try.prog 164 #[.int .i64 t] w (Asks (inB t 0 10000) w) := by
  go_enter Try.func164, Try.ntmps164
  go_wp2_with fail
  refine (l1In_any _ _ _ _ (inB_def _ _ _) _).mono ?_
  rintro e w1 ⟨rfl, rfl⟩
  go_wp2_with fail
  go_ret
  exact ⟨rfl, rfl⟩
end Go.Proofs.Ytllkpapkkgfjaac.Ki
