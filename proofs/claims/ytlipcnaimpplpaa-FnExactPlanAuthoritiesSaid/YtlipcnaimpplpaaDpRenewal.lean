/- Contracts of the laws' helpers over Renewal: opened, measured, copied, compared; by value and in slices. -/
import Derived.Test.YtlipcnaimpplpaaEd
import Derived.Test.YtlipcnaimpplpaaDz
import Derived.Test.YtlipcnaimpplpaaSlI
import Derived.Test.YtlipcnaimpplpaaSlI
import Derived.Test.YtlipcnaimpplpaaSlStep
import Derived.Test.YtlipcnaimpplpaaSlStamp
import Derived.OpenShut
import Derived.Deep.Fields
import Derived.Deep.RegionHeld3
import Derived.LoopTactic
import Derived.Outline
namespace Go.Proofs.Ytlipcnaimpplpaa.DpRenewal
open Go.ChangeShapes Go.WideShapes Go.ChangeAt Go.RowKit Sl St Ed Dz
abbrev A := Int × Int × Int × (List (Int × Bool)) × (List (Int × Int × Int × Int × Int))
def E : Ent A := pair int (pair int (pair int (pair (sl (flat SlStep.E SlStep.InR)) (sl (flat SlStamp.E SlStamp.InR)))))
theorem C_eq : E.C = 5 := rfl
theorem exk {S : Nat → Prop} {w : World} {cs : List Value} {x0 : Int} {x1 : Int} {x2 : Int} {l3 : List (Int × Bool)} {l4 : List (Int × Int × Int × Int × Int)} (h : E.rd S w cs (x0, x1, x2, l3, l4)) : ∃ (p3 : Option Addr) (n3 c3 : Nat) (p4 : Option Addr) (n4 c4 : Nat), cs = [.int .i64 x0, .int .i64 x1, .int .i64 x2, .slice p3 n3 c3, .slice p4 n4 c4] ∧ InI x0 ∧ InI x1 ∧ InI x2 ∧ RdD (flat SlStep.E SlStep.InR) S w p3 n3 l3 ∧ RdD (flat SlStamp.E SlStamp.InR) S w p4 n4 l4 ∧ n3 ≤ c3 ∧ n4 ≤ c4 := by
  obtain ⟨d0, e0, rfl, ⟨rfl, b0⟩, d1, e1, rfl, ⟨rfl, b1⟩, d2, e2, rfl, ⟨rfl, b2⟩, d3, e3, rfl, ⟨p3, n3, c3, rfl, k3, h3⟩, p4, n4, c4, rfl, k4, h4⟩ := h
  exact ⟨p3, n3, c3, p4, n4, c4, rfl, b0, b1, b2, h3, h4, k3, k4⟩
theorem ex {S : Nat → Prop} {w : World} {cs : List Value} {x0 : Int} {x1 : Int} {x2 : Int} {l3 : List (Int × Bool)} {l4 : List (Int × Int × Int × Int × Int)} (h : E.rd S w cs (x0, x1, x2, l3, l4)) : ∃ (p3 : Option Addr) (n3 c3 : Nat) (p4 : Option Addr) (n4 c4 : Nat), cs = [.int .i64 x0, .int .i64 x1, .int .i64 x2, .slice p3 n3 c3, .slice p4 n4 c4] ∧ InI x0 ∧ InI x1 ∧ InI x2 ∧ RdD (flat SlStep.E SlStep.InR) S w p3 n3 l3 ∧ RdD (flat SlStamp.E SlStamp.InR) S w p4 n4 l4 := by
  obtain ⟨p3, n3, c3, p4, n4, c4, e, b0, b1, b2, h3, h4, _⟩ := exk h
  exact ⟨p3, n3, c3, p4, n4, c4, e, b0, b1, b2, h3, h4⟩
theorem mk {S : Nat → Prop} {w : World} {x0 : Int} {x1 : Int} {x2 : Int} {l3 : List (Int × Bool)} {l4 : List (Int × Int × Int × Int × Int)} {p3 : Option Addr} {n3 c3 : Nat} {p4 : Option Addr} {n4 c4 : Nat} (b0 : InI x0) (b1 : InI x1) (b2 : InI x2) (h3 : RdD (flat SlStep.E SlStep.InR) S w p3 n3 l3) (h4 : RdD (flat SlStamp.E SlStamp.InR) S w p4 n4 l4) (k3 : n3 ≤ c3) (k4 : n4 ≤ c4) : E.rd S w [.int .i64 x0, .int .i64 x1, .int .i64 x2, .slice p3 n3 c3, .slice p4 n4 c4] (x0, x1, x2, l3, l4) :=
  ⟨[.int .i64 x0], [.int .i64 x1, .int .i64 x2, .slice p3 n3 c3, .slice p4 n4 c4], rfl, ⟨rfl, b0⟩, [.int .i64 x1], [.int .i64 x2, .slice p3 n3 c3, .slice p4 n4 c4], rfl, ⟨rfl, b1⟩, [.int .i64 x2], [.slice p3 n3 c3, .slice p4 n4 c4], rfl, ⟨rfl, b2⟩, [.slice p3 n3 c3], [.slice p4 n4 c4], rfl, ⟨p3, n3, c3, rfl, k3, h3⟩, ⟨p4, n4, c4, rfl, k4, h4⟩⟩
theorem bxc {w : World} {g : Nat} {T : TypeId} {y0 : Value} {y1 : Value} {y2 : Value} {y3 : Value} {y4 : Value} (h : Bx w g T #[y0, y1, y2, y3, y4]) : w.cell? ⟨g, 0, none⟩ = some y0 ∧ w.cell? ⟨g, 1, none⟩ = some y1 ∧ w.cell? ⟨g, 2, none⟩ = some y2 ∧ w.cell? ⟨g, 3, none⟩ = some y3 ∧ w.cell? ⟨g, 4, none⟩ = some y4 := ⟨h.cell rfl, h.cell rfl, h.cell rfl, h.cell rfl, h.cell rfl⟩
theorem wt_eq (x0 : Int) (x1 : Int) (x2 : Int) (l3 : List (Int × Bool)) (l4 : List (Int × Int × Int × Int × Int)) : E.wt (x0, x1, x2, l3, l4) = (l3.length + wts (flat SlStep.E SlStep.InR) l3) + (l4.length + wts (flat SlStamp.E SlStamp.InR) l4) := by
  show 0 + (0 + (0 + ((l3.length + wts (flat SlStep.E SlStep.InR) l3) + ((l4.length + wts (flat SlStamp.E SlStamp.InR) l4))))) = _
  omega
section
variable {H : Type} {enc : TypeId × Value → H} {W : World}
end
theorem at_cells {w : World} {b q : Nat} {v0 : Value} {v1 : Value} {v2 : Value} {v3 : Value} {v4 : Value} (h : ∀ j v, [v0, v1, v2, v3, v4][j]? = some v → w.cell? ⟨b, q + j, none⟩ = some v) : w.cell? ⟨b, q, none⟩ = some v0 ∧ w.cell? ⟨b, q + 1, none⟩ = some v1 ∧ w.cell? ⟨b, q + 2, none⟩ = some v2 ∧ w.cell? ⟨b, q + 3, none⟩ = some v3 ∧ w.cell? ⟨b, q + 4, none⟩ = some v4 := ⟨h 0 _ rfl, h 1 _ rfl, h 2 _ rfl, h 3 _ rfl, h 4 _ rfl⟩
end Go.Proofs.Ytlipcnaimpplpaa.DpRenewal
