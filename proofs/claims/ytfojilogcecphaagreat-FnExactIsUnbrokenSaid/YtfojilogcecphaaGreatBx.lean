/- What is of no program: a block that is known whole. -/
import Derived.Test.YtfojilogcecphaaGreatSl
namespace Go.Proofs.YtfojilogcecphaaGreat.Sl
open Go.RowKit Go.WideShapes

/-- The block g holds these cells, none frozen. -/
def Bx (w : World) (g : Nat) (T : TypeId) (cs : Array Value) : Prop := w.heap[g]? = some (.cells cs T (0, 0))
section
variable {w w' : World} {g : Nat} {T : TypeId} {cs : Array Value}
theorem Bx.lt (h : Bx w g T cs) : g < w.heap.size := by
  rcases Nat.lt_or_ge g w.heap.size with hlt | hge
  · exact hlt
  · unfold Bx at h; rw [Array.getElem?_eq_none hge] at h; cases h
theorem Bx.cell (h : Bx w g T cs) {j : Nat} {v : Value} (hv : cs[j]? = some v) : w.cell? ⟨g, j, none⟩ = some v := by
  unfold Bx at h
  rw [cell_of_row w g j cs T (0, 0) h]
  exact hv
theorem Bx.free (h : Bx w g T cs) (j : Nat) : w.frozen? ⟨g, j, none⟩ = false := by
  unfold Bx at h
  simp [World.frozen?, h]
theorem Bx.keep (h : Bx w g T cs) (he : w'.heap[g]? = w.heap[g]?) : Bx w' g T cs := he.trans h
theorem Bx.below (h : Bx w g T cs) (hb : Below w.heap.size w w') : Bx w' g T cs := (hb.block g h.lt).trans h
theorem Bx.drewN (h : Bx w g T cs) (q : Nat) : Bx (w.drewN q) g T cs := h
theorem Bx.drew1 (h : Bx w g T cs) : Bx w.drew g T cs := h
theorem Bx.new (w : World) (T : TypeId) (cs : Array Value) : Bx (w.alloc (.cells cs T)) w.heap.size T cs := heap_alloc_new w _
theorem Bx.alloc (h : Bx w g T cs) (o : Obj) : Bx (w.alloc o) g T cs := (Below.heap_alloc w o g h.lt).trans h
theorem Bx.grown {row : Option Nat} (h : Bx w g T cs) (hg : w.grownBy w' row) (hne : some g ≠ row) : Bx w' g T cs := (hg.block g h.lt hne).trans h
theorem Bx.far (h : Bx w g T cs) {q : Addr} (hq : g ≠ q.block) (u : Value) : Bx (w.setCell q u) g T cs := (Below.heap_setCell w q u g hq).trans h
theorem Bx.set_ (h : Bx w g T cs) (j : Nat) (u : Value) : Bx (w.setCell ⟨g, j, none⟩ u) g T (cs.setIfInBounds j u) := by
  unfold Bx at h ⊢
  exact heap_setCell_same w g j cs T u h
theorem grown_set2 {w w1 : World} (hb : Below w.heap.size w w1) (g j j' : Nat) (v v' : Value) : w.grownBy ((w1.setCell ⟨g, j, none⟩ v).setCell ⟨g, j', none⟩ v') (some g) :=
  ⟨hb.os, hb.tape, hb.output, by simpa [World.setCell] using hb.size, fun i hi hne => ((Below.heap_setCell (w1.setCell ⟨g, j, none⟩ v) ⟨g, j', none⟩ v' i (by rintro rfl; exact hne rfl)).trans (Below.heap_setCell w1 ⟨g, j, none⟩ v i (by rintro rfl; exact hne rfl))).trans (hb.block i hi)⟩
theorem grown_alloc {a w : World} {row : Option Nat} (h : a.grownBy w row) (o : Obj) : a.grownBy (w.alloc o) row :=
  ⟨h.os, h.tape, h.output, Nat.le_trans h.size (by simp), fun i hi hne => (Below.heap_alloc w o i (Nat.lt_of_lt_of_le hi h.size)).trans (h.block i hi hne)⟩
/-- a block of two cells -/
theorem Bx.two {x y : Value} (h : Bx w g T #[x, y]) : w.cell? ⟨g, 0, none⟩ = some x ∧ w.cell? ⟨g, 1, none⟩ = some y ∧ w.frozen? ⟨g, 0, none⟩ = false ∧ w.frozen? ⟨g, 1, none⟩ = false :=
  ⟨h.cell rfl, h.cell rfl, h.free 0, h.free 1⟩
theorem Bx.two_far {x y : Value} {r : Nat} (h : Bx w g T #[x, y]) (hne : g ≠ r) (u v : Value) : ((w.setCell ⟨r, 0, none⟩ u).setCell ⟨r, 1, none⟩ v).cell? ⟨g, 0, none⟩ = some x ∧ ((w.setCell ⟨r, 0, none⟩ u).setCell ⟨r, 1, none⟩ v).cell? ⟨g, 1, none⟩ = some y := by
  have h2 := (h.far (q := ⟨r, 0, none⟩) hne u).far (q := ⟨r, 1, none⟩) hne v
  exact ⟨h2.cell rfl, h2.cell rfl⟩
end
end Go.Proofs.YtfojilogcecphaaGreat.Sl
