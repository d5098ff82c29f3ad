/- Contracts of methods: one valid or not, lists of them valid or not; in the program and in the reference. -/
import Derived.Test.YtlipcnaimpplpaaSlMethod
import Derived.Test.YtlipcnaimpplpaaMin
import Derived.Deep.RegionHeld3
import Derived.Deep.QuietTactic
import Derived.BigQuiet
import Derived.Outline
namespace Go.Proofs.Ytlipcnaimpplpaa.Mm
open Go.ChangeShapes Go.WideShapes Go.ChangeAt Go.RowKit Sl St Mn SlMethod Ints

/-- The call answers b; what lay before is as it was. -/
def Tells (b : Bool) (w : World) (e : Ending) (w' : World) : Prop := e = .returned (.bool b) ∧ Below w.heap.size w w'
theorem tells {b b' : Bool} {w w' : World} (h : b' = b) (hb : Below w.heap.size w w') : Tells b w (.returned (.bool b')) w' := ⟨by rw [h], hb⟩
theorem l4Time_b (t : Int) (w : World) : Calls Try.prog 74 #[.int .i64 t] w fun e w' => e = .returned (.bool (inB t 0 10000)) ∧ w = w' := by
  go_enter Try.func74, Try.ntmps74
  go_wp2_with fail
  refine (l1In_any _ _ _ _ (inB_def _ _ _) _).mono ?_
  rintro e w1 ⟨rfl, rfl⟩
  go_wp2_with fail
  go_ret
  exact ⟨rfl, rfl⟩
theorem box1 (w : World) (o : Obj) : Below w.heap.size w (w.alloc o) := (Below.refl _ _).alloc (Nat.le_refl _) _

/-! ### one method -/
theorem q_inRange (x lo hi : Int) (β : Bool) (h : decide (lo ≤ x ∧ x ≤ hi) = β) (w : World) (n : Nat) : Calls Try.prog 85 #[.int .i64 x, .int .i64 lo, .int .i64 hi] (w.drewN n) fun e w'' => e = .returned (.bool β) ∧ ∃ m, w'' = w.drewN m :=
  Calls.quiet_of_same ((inRange_any x lo hi β h _).mono fun _ _ h => ⟨h.1, h.2.symm⟩)
theorem bx4 {w : World} {g : Nat} {T : TypeId} {x y z u : Value} (h : Bx w g T #[x, y, z, u]) : w.cell? ⟨g, 0, none⟩ = some x ∧ w.cell? ⟨g, 1, none⟩ = some y ∧ w.cell? ⟨g, 2, none⟩ = some z ∧ w.cell? ⟨g, 3, none⟩ = some u := ⟨h.cell rfl, h.cell rfl, h.cell rfl, h.cell rfl⟩
-- isMethod
end Go.Proofs.Ytlipcnaimpplpaa.Mm
