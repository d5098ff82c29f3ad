/- Contracts of the laws' helpers over Step, by value and in slices: copies, equality, marks written and found. -/
import Derived.Test.YtlipcnaimpplpaaStI
import Derived.Test.YtlipcnaimpplpaaStM
import Derived.Test.YtlipcnaimpplpaaBx
import Derived.Test.YtlipcnaimpplpaaInt
import Derived.Deep.Grids
import Derived.LoopTactic
import Derived.Outline
namespace Go.Proofs.Ytlipcnaimpplpaa.SlStep
open Go.ChangeShapes Go.WideShapes Go.ChangeAt Go.RowKit Sl St

def E : En (Int × Bool) := ⟨fun x => [.int .i64 x.1, .bool x.2], 2, fun _ => rfl, fun x v h => by simp only [List.mem_cons, List.not_mem_nil, or_false] at h; rcases h with rfl | rfl <;> rfl, by decide⟩
theorem C_eq : E.C = 2 := rfl
theorem of_eq (x : (Int × Bool)) : E.of x = [.int .i64 x.1, .bool x.2] := rfl
def zero : (Int × Bool) := (0, false)
/-- every number is an int of 64 bits -/
def InR (x : Int × Bool) : Prop := -9223372036854775808 ≤ x.1 ∧ x.1 ≤ 9223372036854775807
/-- The call answers a value; what lay before is as it was. -/
def Val (v : Value) (w : World) (e : Ending) (w' : World) : Prop := e = .returned v ∧ Below w.heap.size w w'
/-- The call answers true; what lay before is as it was. -/
def Yes (w : World) (e : Ending) (w' : World) : Prop := e = .returned (.bool true) ∧ Below w.heap.size w w'
theorem bxc {w : World} {g : Nat} {T : TypeId} {x0 x1 : Value} (h : Bx w g T #[x0, x1]) : w.cell? ⟨g, 0, none⟩ = some x0 ∧ w.cell? ⟨g, 1, none⟩ = some x1 := ⟨h.cell rfl, h.cell rfl⟩
/-! ### slices -/
/-- an element's cells at an address -/
def At (w : World) (b q : Nat) (x : (Int × Bool)) : Prop := w.cell? ⟨b, q, none⟩ = some (.int .i64 x.1) ∧ w.cell? ⟨b, q + 1, none⟩ = some (.bool x.2)
theorem rd_at {w : World} {p : Option Addr} {n k : Nat} {xs : List (Int × Bool)} (h : RdS E w p n xs) (hk : k < n) : ∃ b o, p = some ⟨b, o, none⟩ ∧ b < w.heap.size ∧ At w b (o + k * 2) (xs.getD k zero) := by
  obtain ⟨b, o, x, e, hb, hx, hc⟩ := h.at_ hk
  have hd : xs.getD k zero = x := by rw [List.getD_eq_getElem?_getD, hx]; rfl
  rw [hd]
  exact ⟨b, o, e, hb, hc 0 _ rfl, hc 1 _ rfl⟩
theorem At.below {w w' : World} {b q : Nat} {x : (Int × Bool)} (h : At w b q x) (hb : Below w.heap.size w w') (hlt : b < w.heap.size) : At w' b q x :=
  ⟨(hb.cell (p := ⟨b, q, none⟩) hlt).trans h.1, (hb.cell (p := ⟨b, q + 1, none⟩) hlt).trans h.2⟩
/-- all cells of two elements -/
def At2 (w : World) (b q b' q' : Nat) (z0 : Int) (z1 : Bool) : Prop := w.cell? ⟨b, q, none⟩ = some (.int .i64 z0) ∧ w.cell? ⟨b', q', none⟩ = some (.int .i64 z0) ∧ w.cell? ⟨b, q + 1, none⟩ = some (.bool z1) ∧ w.cell? ⟨b', q' + 1, none⟩ = some (.bool z1)
theorem At2.mk {w : World} {b q b' q' : Nat} {x : (Int × Bool)} (h : At w b q x) (h' : At w b' q' x) : At2 w b q b' q' x.1 x.2 := by
  obtain ⟨h0, h1⟩ := h
  obtain ⟨g0, g1⟩ := h'
  exact ⟨h0, g0, h1, g1⟩
theorem At2.below {w w' : World} {b q b' q' : Nat} {z0 : Int} {z1 : Bool} (h : At2 w b q b' q' z0 z1) (hb : Below w.heap.size w w') (l1 : b < w.heap.size) (l2 : b' < w.heap.size) : At2 w' b q b' q' z0 z1 := by
  obtain ⟨h0, g0, h1, g1⟩ := h
  exact ⟨(hb.cell (p := ⟨b, q, none⟩) l1).trans h0, (hb.cell (p := ⟨b', q', none⟩) l2).trans g0, (hb.cell (p := ⟨b, q + 1, none⟩) l1).trans h1, (hb.cell (p := ⟨b', q' + 1, none⟩) l2).trans g1⟩
/-! ### sizes -/
end Go.Proofs.Ytlipcnaimpplpaa.SlStep
