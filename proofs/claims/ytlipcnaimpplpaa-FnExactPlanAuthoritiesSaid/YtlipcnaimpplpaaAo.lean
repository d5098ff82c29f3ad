/- Contracts: the authority of a stamp, its key; in the program and in the reference. -/
import Derived.Test.YtlipcnaimpplpaaFAuthority
import Derived.Test.YtlipcnaimpplpaaSlStamp
import Derived.Test.YtlipcnaimpplpaaKi
namespace Go.Proofs.Ytlipcnaimpplpaa.Ao
open Go.ChangeShapes Go.WideShapes Go.ChangeAt Go.RowKit Sl St Fnd SlAuthority Ki
abbrev z3 : I3 := SlAuthority.zero
def aut (xs : List I3) (id : Int) : I3 × Bool := match Fnd.look z3 xs id with | some a => (a, true) | none => ((0, 0, 0), false)
theorem aut_some {xs : List I3} {id : Int} {a : I3} (h : Fnd.look z3 xs id = some a) : aut xs id = (a, true) := by simp [aut, h]
theorem aut_none {xs : List I3} {id : Int} (h : Fnd.look z3 xs id = none) : aut xs id = ((0, 0, 0), false) := by simp [aut, h]
theorem aut_cases (xs : List I3) (id : Int) {a0 a1 a2 : Int} {b : Bool} (h : aut xs id = ((a0, a1, a2), b)) : (∃ k : Nat, k < xs.length ∧ find xs id = k ∧ xs.getD k z3 = (a0, a1, a2) ∧ b = true) ∨ (find xs id = -1 ∧ a0 = 0 ∧ a1 = 0 ∧ a2 = 0 ∧ b = false) := by
  rcases look_cases z3 xs id with ⟨k, h1, h2, h3, _, _⟩ | ⟨h2, h3, _⟩
  · rw [aut_some h3] at h
    exact Or.inl ⟨k, h1, h2, (Prod.mk.inj h).1, (Prod.mk.inj h).2.symm⟩
  · rw [aut_none h3] at h
    cases h
    exact Or.inr ⟨h2, rfl, rfl, rfl, rfl⟩
def Auts (a : Value) (b : Bool) (w : World) (e : Ending) (w' : World) : Prop := e = .returned (.tuple #[a, .bool b]) ∧ Below w.heap.size w w'
end Go.Proofs.Ytlipcnaimpplpaa.Ao
