/- Contracts of the mark of a key over ints; in the program (slices.Concat) and in the reference (append). -/
import Derived.Test.YtmfnpgeifkcjkaaKi
import Derived.Test.YtmfnpgeifkcjkaaCc
import Derived.Test.YtmfnpgeifkcjkaaHs
import Derived.Deep.RegionHeld3
namespace Go.Proofs.Ytmfnpgeifkcjkaa.Km
open Go.ChangeShapes Go.WideShapes Go.ChangeAt Go.RowKit Sl St Fnd Kn SlKey Ki

theorem ks {w : World} {g : Nat} {T : TypeId} {x0 x1 x2 x3 x4 : Value} (h : Bx w g T #[x0, x1, x2, x3, x4]) : w.cell? ⟨g, 4, none⟩ = some x4 ∧ w.cell? ⟨g, 2, none⟩ = some x2 := ⟨h.cell rfl, h.cell rfl⟩
theorem lit1_in (V : World) (T : TypeId) (x : Int) (hx : inK .i64 x) : Rd .i64 (V.alloc (.cells #[.int .i64 x] T)) (some ⟨V.heap.size, 0, none⟩) 1 [x] :=
  (litN_own T V V.heap.size [x] (allK_cons hx (allK_nil _)) (Nat.le_refl _) (by simp)).rd
end Go.Proofs.Ytmfnpgeifkcjkaa.Km
