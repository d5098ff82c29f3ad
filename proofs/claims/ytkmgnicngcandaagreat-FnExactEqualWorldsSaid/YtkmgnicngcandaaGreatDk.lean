/- Contracts of documents: valid or not; in the program and in the reference. -/
import Derived.Test.YtkmgnicngcandaaGreatDm
import Derived.Test.YtkmgnicngcandaaGreatInt
import Derived.Test.YtkmgnicngcandaaGreatBx
import Derived.LoopTactic
import Derived.Outline
namespace Go.Proofs.YtkmgnicngcandaaGreat.Dk
open Go.ChangeShapes Go.WideShapes Go.ChangeAt Go.RowKit Sl St Dm Ints

/-- The call answers b; what lay before is as it was. -/
def Tells (b : Bool) (w : World) (e : Ending) (w' : World) : Prop := e = .returned (.bool b) ∧ Below w.heap.size w w'
theorem tells {b b' : Bool} {w w' : World} (h : b' = b) (hb : Below w.heap.size w w') : Tells b w (.returned (.bool b')) w' := ⟨by rw [h], hb⟩
theorem box1 (w : World) (o : Obj) : Below w.heap.size w (w.alloc o) := (Below.refl _ _).alloc (Nat.le_refl _) _
theorem bx3 {w : World} {g : Nat} {T : TypeId} {x y z : Value} (h : Bx w g T #[x, y, z]) : w.cell? ⟨g, 0, none⟩ = some x ∧ w.cell? ⟨g, 1, none⟩ = some y ∧ w.cell? ⟨g, 2, none⟩ = some z := ⟨h.cell rfl, h.cell rfl, h.cell rfl⟩
/-- a document's reading: its parts and its salts -/
def RdD (w : World) (p : Option Addr) (n : Nat) (q : Option Addr) (m : Nat) (D : Dc) : Prop := RdS SlStr.E w p n D.2.1 ∧ Rd .i64 w q m D.2.2
theorem RdD.below {w w' : World} {p q : Option Addr} {n m : Nat} {D : Dc} (h : RdD w p n q m D) (hb : Below w.heap.size w w') : RdD w' p n q m D := ⟨h.1.below hb, h.2.below hb⟩
/-- a document's value -/
def dv (t : Int) (p : Option Addr) (n c : Nat) (q : Option Addr) (m d : Nat) : Value := .agg #[.int .i64 t, .slice p n c, .slice q m d]
end Go.Proofs.YtkmgnicngcandaaGreat.Dk
