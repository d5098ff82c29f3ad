/- What the contracts of pieces share. -/
import Derived.Test.YtpjckbdljbpliaaSlPiece
import Derived.Outline
namespace Go.Proofs.Ytpjckbdljbpliaa.Pm
open Go.ChangeShapes Go.WideShapes Go.ChangeAt Go.RowKit Sl St
theorem drewB {W w : World} {B : Nat} (h : Below B W w) : Below B W w.drew := below_drewN h 1
theorem kept3 {w : World} {g : Nat} {T : TypeId} {lo hi n c : Nat} {p : Option Addr} {zs : List Int} (h : Ow .i64 T w lo hi p n c zs) (hg : g < lo) (u v x : Value) : Ow .i64 T (((w.setCell ⟨g, 0, none⟩ u).setCell ⟨g, 1, none⟩ v).setCell ⟨g, 2, none⟩ x) lo hi p n c zs :=
  ((h.kept (SlPiece.grown_set _ _ _) (fun k e => by cases e; omega)).kept (SlPiece.grown_set _ _ _) (fun k e => by cases e; omega)).kept (SlPiece.grown_set _ _ _) (fun k e => by cases e; omega)
theorem shut {w w2 : World} {lo n c d : Nat} {p : Option Addr} {zs : List Int} {k m : Int} (ho : Ow .i64 3 w2 lo w2.heap.size p n d zs) (hb : Below w.heap.size w w2) (hlo : w.heap.size + 1 < lo) (u v x : Value) : SlPiece.Makes k zs m w (.returned (.agg #[.int .i64 k, .slice p n c, .int .i64 m])) (((w2.setCell ⟨w.heap.size + 1, 0, none⟩ u).setCell ⟨w.heap.size + 1, 1, none⟩ v).setCell ⟨w.heap.size + 1, 2, none⟩ x) :=
  ⟨p, n, c, d, rfl, (kept3 ho hlo u v x).wide (by omega) (by simp [World.setCell]) (Nat.le_refl _), ((hb.setCell (p := ⟨w.heap.size + 1, 0, none⟩) (by simp) _).setCell (p := ⟨w.heap.size + 1, 1, none⟩) (by simp) _).setCell (p := ⟨w.heap.size + 1, 2, none⟩) (by simp) _⟩
end Go.Proofs.Ytpjckbdljbpliaa.Pm
