/- The block of a captured variable: one cell. -/
import Derived.Test.YtamlmpigllidoaaSl
import Derived.Test.YtamlmpigllidoaaSlI
import Derived.OpenShut
import Derived.OneCell
namespace Go.Proofs.Ytamlmpigllidoaa.Var
open Go.ChangeShapes Go.WideShapes Go.ChangeAt Go.RowKit Sl

/-- the block of a captured variable -/
def One (w : World) (g : Nat) (T : TypeId) (v : Value) : Prop := w.heap[g]? = some (.cells #[v] T (0, 0))
theorem One.lt {w : World} {g : Nat} {T : TypeId} {v : Value} (h : One w g T v) : g < w.heap.size := by
  rcases Nat.lt_or_ge g w.heap.size with hlt | hge
  · exact hlt
  · unfold One at h; rw [Array.getElem?_eq_none hge] at h; cases h
theorem One.cell {w : World} {g : Nat} {T : TypeId} {v : Value} (h : One w g T v) : w.cell? ⟨g, 0, none⟩ = some v := by
  unfold One at h
  simp [World.cell?, h]
theorem One.free {w : World} {g : Nat} {T : TypeId} {v : Value} (h : One w g T v) : w.frozen? ⟨g, 0, none⟩ = false := by
  unfold One at h
  simp [World.frozen?, h]
theorem One.below {w w' : World} {g : Nat} {T : TypeId} {v : Value} (h : One w g T v) (hb : Below w.heap.size w w') : One w' g T v := (hb.block g h.lt).trans h
theorem One.set_ {w : World} {g : Nat} {T : TypeId} {v : Value} (h : One w g T v) (u : Value) : One (w.setCell ⟨g, 0, none⟩ u) g T u := by
  unfold One at h ⊢
  simp [World.setCell, Array.getElem?_modify, h]
theorem One.far {w : World} {g : Nat} {T : TypeId} {v : Value} (h : One w g T v) {q : Addr} (hq : g ≠ q.block) (u : Value) : One (w.setCell q u) g T v := (Below.heap_setCell w q u g hq).trans h
theorem One.new (w : World) (T : TypeId) (v : Value) : One (w.alloc (.cells #[v] T)) w.heap.size T v := heap_alloc_new w _
theorem One.alloc {w : World} {g : Nat} {T : TypeId} {v : Value} (h : One w g T v) (o : Obj) : One (w.alloc o) g T v := (Below.heap_alloc w o g h.lt).trans h
theorem One.grown {w w' : World} {g : Nat} {T : TypeId} {v : Value} {row : Option Nat} (h : One w g T v) (hg : w.grownBy w' row) (hne : some g ≠ row) : One w' g T v := (hg.block g h.lt hne).trans h
theorem grown_set {w w1 : World} (hb : Below w.heap.size w w1) (g : Nat) (v : Value) : w.grownBy (w1.setCell ⟨g, 0, none⟩ v) (some g) :=
  ⟨hb.os, hb.tape, hb.output, by simpa [World.setCell] using hb.size, fun i hi hne => (Below.heap_setCell w1 ⟨g, 0, none⟩ v i (by rintro rfl; exact hne rfl)).trans (hb.block i hi)⟩
end Go.Proofs.Ytamlmpigllidoaa.Var
